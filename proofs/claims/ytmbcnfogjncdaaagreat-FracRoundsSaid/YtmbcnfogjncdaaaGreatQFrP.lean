/- 'FracRounds' returns true for every two fractions, valid or not, and every mode: Round returns what the reference returns (at most 8 limbs in each part). No condition. -/
import Derived.ProofKit
import Derived.Test.YtmbcnfogjncdaaaGreatRows
import Derived.WalkKit
import Derived.Test.YtmbcnfogjncdaaaGreatQFr14
import Derived.Test.YtmbcnfogjncdaaaGreatQFr21
import Derived.Test.YtmbcnfogjncdaaaGreatQFr29
import Derived.Test.YtmbcnfogjncdaaaGreatQFr31
set_option maxRecDepth 100000
set_option maxHeartbeats 4000000
namespace Go.Proofs.YtmbcnfogjncdaaaGreat
open Go.RowKit Wh
theorem ref2Same_zero (w : World) : Calls Tryz.prog 29 #[.agg #[.bool false, .slice none 0 0, .bool false, .slice none 0 0], .agg #[.bool false, .slice none 0 0, .bool false, .slice none 0 0]] w fun e w' => e = .returned (.bool true) ∧ Below w.heap.size w w' :=
 ref2Same_raw false none 0 0 false none 0 0 false none 0 0 false none 0 0 [] [] [] [] w (Lim.nil w) (Lim.nil w) (Lim.nil w) (Lim.nil w)
def AnsF (W : World) (t : Option Rat) (cd : Int) (v : Value) (c : Int) : Prop := (∃ z, t = some z ∧ c = 0 ∧ Fra W v z) ∨ (t = none ∧ c = cd ∧ v = .agg #[.bool false, .slice none 0 0, .bool false, .slice none 0 0])
theorem AnsF.below {W W' : World} {t : Option Rat} {cd c : Int} {v : Value} {n : Nat} (h : AnsF W t cd v c) (hb : Below n W W') (hn : W.heap.size ≤ n) : AnsF W' t cd v c := by
 rcases h with ⟨z, h1, h2, h3⟩ | h
 · exact .inl ⟨z, h1, h2, h3.below hb hn⟩
 · exact .inr h
theorem AnsF.on {W W' : World} {t : Option Rat} {cd c : Int} {v : Value} (h : AnsF W t cd v c) (hb : Below W.heap.size W W') : AnsF W' t cd v c := h.below hb (Nat.le_refl _)
theorem AnsF.opened {W : World} {t : Option Rat} {cd c : Int} {v : Value} (h : AnsF W t cd v c) : ∃ b a k e b' a' k' e', v = .agg #[.bool b, .slice a k e, .bool b', .slice a' k' e'] := by
 rcases h with ⟨z, -, -, h3⟩ | ⟨-, -, h⟩
 · exact h3.opened
 · exact ⟨_, _, _, _, _, _, _, _, h⟩
theorem rnd_fz {q u : Rat} (sq : Fz 8 8 q) (su : Fz 8 8 u) (hu : 0 < u.num) (m : Nat) : Fz 256 256 (rnd q u m) := by
 have hD : 0 < (q.den : Int) * u.num := Int.mul_pos (Fq.den_pos q) hu
 have s1 : Sz 16 (q.num * u.den) := Sz.mul sq.1 su.2
 have h1 := rfac_le (decide (q.num < 0)) (q.num * u.den) ((q.den : Int) * u.num) m hD
 have s2 : Sz 17 (((q.num * u.den).natAbs : Int) + 1) := Sz.add (s1.le (by omega)) (Sz.small (z := 1) (by decide))
 have s3 : Sz 17 (rfac (decide (q.num < 0)) (q.num * u.den) ((q.den : Int) * u.num) m) := s2.le (by omega)
 have s4 : Sz 25 (rfac (decide (q.num < 0)) (q.num * u.den) ((q.den : Int) * u.num) m * u.num) := Sz.mul s3 su.1
 exact (Fz.made s4 su.2 (by have := Fq.den_pos u; omega)).mono (by decide) (by decide)
theorem law2same_true (bx : Bool) (ax : Option Addr) (kx cx : Nat) (dx : Bool) (ex : Option Addr) (lx mx : Nat) (bv : Bool) (av : Option Addr) (kv cv : Nat) (dv : Bool) (ev : Option Addr) (lv mv : Nat) (c : Int) (w : World) (hs : ∀ W, Below w.heap.size w W → Calls Tryz.prog 29 #[.agg #[.bool bx, .slice ax kx cx, .bool dx, .slice ex lx mx], .agg #[.bool bv, .slice av kv cv, .bool dv, .slice ev lv mv]] W fun e w' => e = .returned (.bool true) ∧ Below W.heap.size W w') :
  Calls Tryz.prog 28 #[.agg #[.bool bx, .slice ax kx cx, .bool dx, .slice ex lx mx], .int .i64 c, .agg #[.bool bv, .slice av kv cv, .bool dv, .slice ev lv mv], .int .i64 c] w fun e w' => e = .returned (.bool true) ∧ Below w.heap.size w w' := by
 have HS := Lib.hid hs
 clear hs
 have hB := Below.refl w.heap.size w
 obtain ⟨al, xx, hN⟩ := mk hB #[.bool bx, .slice ax kx cx, .bool dx, .slice ex lx mx] 39
 replace hB := hN; clear al hN
 try simp only [World.size_alloc] at xx
 obtain ⟨al, xv, hN⟩ := mk hB #[.bool bv, .slice av kv cv, .bool dv, .slice ev lv mv] 39
 replace xx := xx.on al; replace hB := hN; clear al hN
 try simp only [World.size_alloc] at xv
 go_enter Tryz.func28, Tryz.ntmps28
 have px := xx.all4
 have pv := xv.all4
 have ltx := xx.lt
 have ltv := xv.lt
 go_wp2_with fail
 clear ltx ltv px pv
 refine (HS.out _ hB).mono ?_
 rintro e w1 ⟨rfl, hb⟩
 replace xx := xx.on hb; replace xv := xv.on hb
 have hz1 := hb.size
 try simp at hz1
 replace hB := hB.trans (hb.mono hB.size); clear hb
 go_wp2
 go_ret
 exact ⟨rfl, hB⟩
theorem same_ans (va vb : Value) (t : Option Rat) (cd c d : Int) (w : World) (h : AnsF w t cd va c) (g : AnsF w t cd vb d) : Calls Tryz.prog 28 #[va, .int .i64 c, vb, .int .i64 d] w fun e w' => e = .returned (.bool true) ∧ Below w.heap.size w w' := by
  obtain ⟨b1, x1, k1, c1, d1, e1, l1, m1, rfl⟩ := h.opened
  obtain ⟨b2, x2, k2, c2, d2, e2, l2, m2, rfl⟩ := g.opened
  rcases h with ⟨z, rfl, rfl, h⟩ | ⟨rfl, rfl, h⟩ <;> rcases g with ⟨y, gt, rfl, g⟩ | ⟨gt, rfl, g⟩
  · cases gt
    exact law2same_true b1 x1 k1 c1 d1 e1 l1 m1 b2 x2 k2 c2 d2 e2 l2 m2 0 w (fun W hW => ref2Same_lit _ _ z z true (decide_eq_true rfl) W (h.below hW (Nat.le_refl _)) (g.below hW (Nat.le_refl _)))
  · cases gt
  · cases gt
  · rw [h, g]
    exact law2same_true _ _ _ _ _ _ _ _ _ _ _ _ _ _ _ _ _ w (fun W _ => ref2Same_zero W)
def FrRel (a b : Nat) (X V : Array Value) (w : World) (i : Value) (wr : World) : Prop := ∃ n : Nat, n ≤ 8 ∧ i = .int .i64 (n : Int) ∧ Bk wr a X 39 ∧ Bk wr b V 39 ∧ Below w.heap.size w wr
theorem FracRounds_any (bia : Bool) (aia : Option Addr) (kia cia : Nat) (dia : Bool) (eia : Option Addr) (lia mia : Nat) (bib : Bool) (aib : Option Addr) (kib cib : Nat) (dib : Bool) (eib : Option Addr) (lib mib : Nat) (d : Nat) (hd : d < 256) (T : Nat → Option Rat) (C : Nat → Int) (w : World) (hsh : ((decide (kia ≤ 8) && decide (lia ≤ 8)) && (decide (kib ≤ 8) && decide (lib ≤ 8))) = true)
  (ha : ∀ m : Nat, m < 256 → ∀ W, Below w.heap.size w W → Calls Tryz.prog 34 #[.agg #[.bool bia, .slice aia kia cia, .bool dia, .slice eia lia mia], .agg #[.bool bib, .slice aib kib cib, .bool dib, .slice eib lib mib], .int .u8 (m : Int)] W fun e w' => (∃ v c, e = .returned (.tuple #[v, .int .i64 c]) ∧ AnsF w' (T m) (C m) v c) ∧ Below W.heap.size W w')
  (hr : ∀ m : Nat, m < 256 → ∀ W, Below w.heap.size w W → Calls Tryz.prog 35 #[.agg #[.bool bia, .slice aia kia cia, .bool dia, .slice eia lia mia], .agg #[.bool bib, .slice aib kib cib, .bool dib, .slice eib lib mib], .int .u8 (m : Int)] W fun e w' => (∃ v c, e = .returned (.tuple #[v, .int .i64 c]) ∧ AnsF w' (T m) (C m) v c) ∧ Below W.heap.size W w') :
  Calls Tryz.prog 5 #[.agg #[.bool bia, .slice aia kia cia, .bool dia, .slice eia lia mia], .agg #[.bool bib, .slice aib kib cib, .bool dib, .slice eib lib mib], .int .u8 (d : Int)] w fun e w' => e = .returned (.bool true) ∧ Below w.heap.size w w' := by
 have HA := Lib.hid ha
 have HR := Lib.hid hr
 clear ha hr
 have HS := Lib.hid (fun va vb t cd c d W h g => same_ans va vb t cd c d W h g)
 have hB := Below.refl w.heap.size w
 obtain ⟨al, xia, hN⟩ := mk hB #[.bool bia, .slice aia kia cia, .bool dia, .slice eia lia mia] 39
 replace hB := hN; clear al hN
 try simp only [World.size_alloc] at xia
 obtain ⟨al, xib, hN⟩ := mk hB #[.bool bib, .slice aib kib cib, .bool dib, .slice eib lib mib] 39
 replace xia := xia.on al; replace hB := hN; clear al hN
 try simp only [World.size_alloc] at xib
 go_enter Tryz.func5, Tryz.ntmps5
 have pia := xia.all4
 have pib := xib.all4
 have ltia := xia.lt
 have ltib := xib.lt
 go_wp2_with fail
 clear ltia ltib pia pib
 obtain ⟨wr0, hwr0⟩ : ∃ W, W = ((w.alloc (.cells #[.bool bia, .slice aia kia cia, .bool dia, .slice eia lia mia] 39)).alloc (.cells #[.bool bib, .slice aib kib cib, .bool dib, .slice eib lib mib] 39)) := ⟨_, rfl⟩
 have hs0 : wr0.heap.size = w.heap.size + 1 + 1 := by rw [hwr0]; simp
 rw [← hwr0] at hB xia xib ⊢
 clear hwr0
 have hb := ((Below.refl wr0.heap.size wr0).alloc (Nat.le_refl _) (.cells #[.bool bia, .slice aia kia cia, .bool dia, .slice eia lia mia, .bool bib, .slice aib kib cib, .bool dib, .slice eib lib mib] 39))
 have xrow : Bk _ wr0.heap.size #[.bool bia, .slice aia kia cia, .bool dia, .slice eia lia mia, .bool bib, .slice aib kib cib, .bool dib, .slice eib lib mib] 39 := (Bk.new wr0 #[.bool bia, .slice aia kia cia, .bool dia, .slice eia lia mia, .bool bib, .slice aib kib cib, .bool dib, .slice eib lib mib] 39)
 replace xia := xia.on hb; replace xib := xib.on hb; replace hB := hB.trans (hb.mono hB.size); clear hb
 have rw0 := xrow.cell 0
 have rw1 := xrow.cell 1
 have rw2 := xrow.cell 2
 have rw3 := xrow.cell 3
 have rw4 := xrow.cell 4
 have rw5 := xrow.cell 5
 have rw6 := xrow.cell 6
 have rw7 := xrow.cell 7
 simp only [List.getElem?_toArray, List.getElem?_cons_zero, List.getElem?_cons_succ] at rw0 rw1 rw2 rw3 rw4 rw5 rw6 rw7
 rw [hs0] at rw0 rw1 rw2 rw3 rw4 rw5 rw6 rw7
 clear hs0
 refine (short2_any 8 (w.heap.size + 1 + 1) bia aia kia cia dia eia lia mia bib aib kib cib dib eib lib mib _ rw0 rw1 rw2 rw3 rw4 rw5 rw6 rw7).mono ?_
 rintro e w1 ⟨rfl, hb⟩
 clear xrow rw0 rw1 rw2 rw3 rw4 rw5 rw6 rw7; replace xia := xia.on hb; replace xib := xib.on hb; replace hB := hB.trans (hb.mono hB.size); clear hb
 rw [hsh]
 clear hsh
 have pia := xia.all4
 have pib := xib.all4
 have ltia := xia.lt
 have ltib := xib.lt
 go_wp2_with fail
 clear ltia ltib pia pib
 go_loopw [7] (fun n wr => FrRel w.heap.size (w.heap.size + 1) #[.bool bia, .slice aia kia cia, .bool dia, .slice eia lia mia] #[.bool bib, .slice aib kib cib, .bool dib, .slice eib lib mib] w n wr) (fun n _ => (8 - intOf n).toNat)
 case atStart => exact ⟨0, by omega, rfl, xia, xib, hB⟩
 case round =>
  clear xia xib hB
  obtain ⟨n, hn, rfl, xia, xib, hB⟩ := hrel
  rcases Nat.lt_or_ge n 8 with hn8 | hn8
  ·
   obtain ⟨m, hm⟩ : ∃ m : Nat, m = (d + n) % 256 := ⟨_, rfl⟩
   have hm2 : m < 256 := by omega
   have hni : (n : Int) < 8 := by omega
   have hdi : (d : Int) < 256 := by omega
   have wq1 : IntKind.u8.wrap ((d : Int) + (n : Int)) = (m : Int) := by rw [IntKind.wrap_u8]; omega
   have wq2 : ((d : Int) + (n : Int)) % 256 = (m : Int) := by omega
   have HA1 := Lib.hid (HA.out m hm2)
   have HR1 := Lib.hid (HR.out m hm2)
   have HN := Lib.hid (And.intro hn hn8)
   clear hm hm2 hn hn8
   have pia := xia.all4
   have pib := xib.all4
   have ltia := xia.lt
   have ltib := xib.lt
   go_wp2_with fail
   clear ltia ltib pia pib
   refine (HA1.out _ hB).mono ?_
   rintro e w2 ⟨⟨v, c, rfl, ga⟩, hb⟩
   obtain ⟨bs, a1, ks, cs, ds, es, ls, ms, rfl⟩ := ga.opened
   replace xia := xia.on hb; replace xib := xib.on hb
   have hz2 := hb.size
   try simp at hz2
   replace hB := hB.trans (hb.mono hB.size); clear hb
   have pia := xia.all4
   have pib := xib.all4
   have ltia := xia.lt
   have ltib := xib.lt
   go_wp2_with fail
   clear ltia ltib pia pib
   have hb := ((Below.refl w2.heap.size w2).alloc (Nat.le_refl _) (.cells #[.bool bs, .slice a1 ks cs, .bool ds, .slice es ls ms] 39))
   have xs : Bk _ w2.heap.size #[.bool bs, .slice a1 ks cs, .bool ds, .slice es ls ms] 39 := (Bk.new w2 #[.bool bs, .slice a1 ks cs, .bool ds, .slice es ls ms] 39)
   replace xia := xia.on hb; replace xib := xib.on hb; replace ga := ga.on hb; replace hB := hB.trans (hb.mono hB.size); clear hb
   obtain ⟨ws, hws⟩ : ∃ W, W = (w2.alloc (.cells #[.bool bs, .slice a1 ks cs, .bool ds, .slice es ls ms] 39)) := ⟨_, rfl⟩
   rw [← hws] at hB xia xib xs ga ⊢
   clear hws
   refine (HR1.out _ hB).mono ?_
   rintro e w3 ⟨⟨v2, c2, rfl, gr⟩, hb⟩
   obtain ⟨bt, a2, kt, ct, dt, et, lt, mt, rfl⟩ := gr.opened
   replace xia := xia.on hb; replace xib := xib.on hb; replace xs := xs.on hb; replace ga := ga.on hb
   have hz3 := hb.size
   try simp at hz3
   replace hB := hB.trans (hb.mono hB.size); clear hb
   have pia := xia.all4
   have pib := xib.all4
   have ps := xs.all4
   have ltia := xia.lt
   have ltib := xib.lt
   have lts := xs.lt
   go_wp2_with fail
   clear ltia ltib lts pia pib ps
   have hb := ((Below.refl w3.heap.size w3).alloc (Nat.le_refl _) (.cells #[.bool bt, .slice a2 kt ct, .bool dt, .slice et lt mt] 39))
   have xt : Bk _ w3.heap.size #[.bool bt, .slice a2 kt ct, .bool dt, .slice et lt mt] 39 := (Bk.new w3 #[.bool bt, .slice a2 kt ct, .bool dt, .slice et lt mt] 39)
   replace xia := xia.on hb; replace xib := xib.on hb; replace xs := xs.on hb; replace ga := ga.on hb; replace gr := gr.on hb; replace hB := hB.trans (hb.mono hB.size); clear hb
   obtain ⟨wt, hwt⟩ : ∃ W, W = (w3.alloc (.cells #[.bool bt, .slice a2 kt ct, .bool dt, .slice et lt mt] 39)) := ⟨_, rfl⟩
   rw [← hwt] at hB xia xib xs xt ga gr ⊢
   clear hwt
   refine (HS.out _ _ _ _ _ _ _ ga gr).mono ?_
   rintro e w4 ⟨rfl, hb⟩
   replace xia := xia.on hb; replace xib := xib.on hb; replace xs := xs.on hb; replace xt := xt.on hb; replace ga := ga.on hb; replace gr := gr.on hb
   have hz4 := hb.size
   try simp at hz4
   replace hB := hB.trans (hb.mono hB.size); clear hb ga gr xs xt wq1 wq2
   go_wp2
   exact ⟨⟨n + 1, by have := HN.out; omega, by go_num, xia, xib, hB⟩, by have := HN.out; simp [intOf]; omega⟩
  ·
   obtain rfl : n = 8 := by omega
   clear hn hn8
   go_wp2_with fail
   refine (law2_awake_any _).mono ?_
   rintro e w9 ⟨rfl, hb⟩
   go_wp2
   go_ret
   exact ⟨rfl, hB.trans (hb.mono hB.size)⟩
theorem FracRounds_long (bia : Bool) (aia : Option Addr) (kia cia : Nat) (dia : Bool) (eia : Option Addr) (lia mia : Nat) (bib : Bool) (aib : Option Addr) (kib cib : Nat) (dib : Bool) (eib : Option Addr) (lib mib : Nat) (d : Nat) (w : World) (hsh : ((decide (kia ≤ 8) && decide (lia ≤ 8)) && (decide (kib ≤ 8) && decide (lib ≤ 8))) = false) :
  Calls Tryz.prog 5 #[.agg #[.bool bia, .slice aia kia cia, .bool dia, .slice eia lia mia], .agg #[.bool bib, .slice aib kib cib, .bool dib, .slice eib lib mib], .int .u8 (d : Int)] w fun e w' => e = .returned (.bool true) ∧ Below w.heap.size w w' := by
 have hB := Below.refl w.heap.size w
 obtain ⟨al, xia, hN⟩ := mk hB #[.bool bia, .slice aia kia cia, .bool dia, .slice eia lia mia] 39
 replace hB := hN; clear al hN
 try simp only [World.size_alloc] at xia
 obtain ⟨al, xib, hN⟩ := mk hB #[.bool bib, .slice aib kib cib, .bool dib, .slice eib lib mib] 39
 replace xia := xia.on al; replace hB := hN; clear al hN
 try simp only [World.size_alloc] at xib
 go_enter Tryz.func5, Tryz.ntmps5
 have pia := xia.all4
 have pib := xib.all4
 have ltia := xia.lt
 have ltib := xib.lt
 go_wp2_with fail
 clear ltia ltib pia pib
 obtain ⟨wr0, hwr0⟩ : ∃ W, W = ((w.alloc (.cells #[.bool bia, .slice aia kia cia, .bool dia, .slice eia lia mia] 39)).alloc (.cells #[.bool bib, .slice aib kib cib, .bool dib, .slice eib lib mib] 39)) := ⟨_, rfl⟩
 have hs0 : wr0.heap.size = w.heap.size + 1 + 1 := by rw [hwr0]; simp
 rw [← hwr0] at hB xia xib ⊢
 clear hwr0
 have hb := ((Below.refl wr0.heap.size wr0).alloc (Nat.le_refl _) (.cells #[.bool bia, .slice aia kia cia, .bool dia, .slice eia lia mia, .bool bib, .slice aib kib cib, .bool dib, .slice eib lib mib] 39))
 have xrow : Bk _ wr0.heap.size #[.bool bia, .slice aia kia cia, .bool dia, .slice eia lia mia, .bool bib, .slice aib kib cib, .bool dib, .slice eib lib mib] 39 := (Bk.new wr0 #[.bool bia, .slice aia kia cia, .bool dia, .slice eia lia mia, .bool bib, .slice aib kib cib, .bool dib, .slice eib lib mib] 39)
 replace xia := xia.on hb; replace xib := xib.on hb; replace hB := hB.trans (hb.mono hB.size); clear hb
 have rw0 := xrow.cell 0
 have rw1 := xrow.cell 1
 have rw2 := xrow.cell 2
 have rw3 := xrow.cell 3
 have rw4 := xrow.cell 4
 have rw5 := xrow.cell 5
 have rw6 := xrow.cell 6
 have rw7 := xrow.cell 7
 simp only [List.getElem?_toArray, List.getElem?_cons_zero, List.getElem?_cons_succ] at rw0 rw1 rw2 rw3 rw4 rw5 rw6 rw7
 rw [hs0] at rw0 rw1 rw2 rw3 rw4 rw5 rw6 rw7
 clear hs0
 refine (short2_any 8 (w.heap.size + 1 + 1) bia aia kia cia dia eia lia mia bib aib kib cib dib eib lib mib _ rw0 rw1 rw2 rw3 rw4 rw5 rw6 rw7).mono ?_
 rintro e w1 ⟨rfl, hb⟩
 clear xrow rw0 rw1 rw2 rw3 rw4 rw5 rw6 rw7; replace xia := xia.on hb; replace xib := xib.on hb; replace hB := hB.trans (hb.mono hB.size); clear hb
 rw [hsh]
 clear hsh
 go_wp2_with fail
 refine (law2_awake_any _).mono ?_
 rintro e w9 ⟨rfl, hb⟩
 go_wp2
 go_ret
 exact ⟨rfl, hB.trans (hb.mono hB.size)⟩
end Go.Proofs.YtmbcnfogjncdaaaGreat
namespace Go.Proofs.YtmbcnfogjncdaaaGreat
open Go.ChangeShapes Go.WideShapes Go.ChangeAt Go.RowKit
theorem fracRounds_named : Tryz.pinned.checked.prog.funcNamed Rows.fracRoundsRow.func = some 5 := by kernel_rfl
theorem fracRounds_closed : joinedFacts Tryz.pinned.checked.prog 5 Tryz.f5 Rows.fracRoundsSpec Rows.fracRoundsRow = true := by kernel_rfl
theorem fracRounds_inst : Tryz.f5.isInstance Tryz.pinned.checked.prog Rows.fracRoundsRow.origin Rows.fracRoundsRow.targs := of_decide_eq_true (by kernel_rfl)
theorem fracRounds_wrap : Tryz.f5.isWrapper Tryz.pinned.checked.prog Rows.fracRoundsRow.wrapper Rows.fracRoundsRow.mainSum := by unfold Func.isWrapper; first | (rw [if_pos (by decide +kernel)]; kernel_rfl) | (rw [if_neg (by decide +kernel)]; exact ⟨rfl, rfl⟩)
end Go.Proofs.YtmbcnfogjncdaaaGreat
namespace Go.Proofs.YtmbcnfogjncdaaaGreat
open Go.ChangeShapes Go.WideShapes Go.ChangeAt Go.RowKit Wh
theorem Tryz.cellsF : Tryz.prog.cellsOf 39 = 4 := by kernel_rfl
theorem read_whole {H : Type} {enc : TypeId × Value → H} {W : World} {fuel : Nat} {c0 c1 : Value} {y : DataW H × List MemPlace}
    (h : DataW.trod enc Tryz.prog W 0 (fun _ => true) true fuel 24 [c0, c1] = some y) (hwt : Within 24 y.1) :
    ∃ (b : Bool) (l : List Nat), c0 = .bool b ∧ Lim W c1 l ∧ Lm l ∧
      ∀ (W' : World) (sp : Nat → Bool), Below W.heap.size W W' → (∀ q ∈ y.2, sp q.block = true) → ∃ n, DataW.trod enc Tryz.prog W' 0 sp true n 24 [c0, c1] = some y := by
  obtain ⟨y0, y1, n, rfl, _, t0, t1⟩ := trod_struct2 Tryz.underlying24 h
  have t0 : DataW.trod enc Tryz.prog W 0 (fun _ => true) true n 4 [c0] = some y0 := t0
  have t1 : DataW.trod enc Tryz.prog W 0 (fun _ => true) true n 22 [c1] = some y1 := t1
  obtain ⟨b, e, rfl⟩ := DataW.trod_bool (cs := [c0]) Tryz.underlying4 t0
  simp only [List.cons.injEq, and_true] at e
  subst e
  rcases open_ints (cs := [c1]) Tryz.underlying22 Tryz.underlying59 Tryz.cellsU t1 with ⟨hcs, rfl⟩ | ⟨a, len, cap, zs, hcs, _, hl, hm, hz, rfl, hc, hw⟩
  · simp only [List.cons.injEq, and_true] at hcs
    subst hcs
    refine ⟨b, [], rfl, Lim.nil W, .nil, fun W' sp _ _ => ?_⟩
    exact Joins.shut_agg2 (y0 := (.lit (.bool b), [])) (y1 := (.nil, [])) Tryz.underlying24 (by kernel_rfl) Tryz.cellsW ⟨1, by simp [DataW.trod, Tryz.underlying4]⟩ ⟨1, by simp [DataW.trod, Tryz.underlying22]⟩
  · simp only [List.cons.injEq, and_true] at hcs
    subst hcs
    simp only [if_true] at hz
    have hr : cap ≤ 70368744175616 := by
      have := hwt ((zs.take len).length * 2 + (zs.drop len).length * 2) (by
        simp [DataW.weights, DataW.weightsEach, Tryz.underlying24, Tryz.underlying22, Tryz.bytesU, lits, Nat.add_mul])
      simp only [List.length_take, List.length_drop, reachBytes] at this
      omega
    obtain ⟨hlim, hlm⟩ := lim_of_ints hl hm hz hr hc hw
    refine ⟨b, _, rfl, hlim, hlm, fun W' sp hb hsp => ?_⟩
    have hz' : zs.length = if sp a.block then cap else len := by
      rcases Nat.eq_zero_or_pos zs.length with h0 | h0
      · split <;> omega
      · have : sp a.block = true := hsp (.cell a.block a.off) (by simp only [List.nil_append]; exact MemPlace.mem_row.2 ⟨0, h0, by simp⟩)
        rw [this]; simpa using hz
    have hc' : ∀ i, i < zs.length → W'.cell? (a.add i) = some (.int .u16 (zs.getD i 0)) := fun i hi => by
      have := hc i hi
      rw [← this]
      exact hb.cell (lt_of_cell this)
    exact Joins.shut_agg2 (y0 := (.lit (.bool b), [])) (y1 := (.slice (lits .u16 (zs.take len)) (lits .u16 (zs.drop len)), MemPlace.row a zs.length)) Tryz.underlying24 (by kernel_rfl) Tryz.cellsW ⟨1, by simp [DataW.trod, Tryz.underlying4]⟩
      ⟨2, shut_ints 0 Tryz.underlying22 Tryz.underlying59 Tryz.cellsU (Nat.zero_le _) hl hm hz' hc' hw⟩
theorem open_frac {H : Type} {enc : TypeId × Value → H} {W : World} {b0 : Nat} {v : Value} {d : DataW H} {p : List MemPlace} (hv : Value.okWide Tryz.prog W .any b0 39 v)
    (h : DataW.Trod enc Tryz.prog W 0 (fun _ => true) true 39 v d p) (hwt : Within 39 d) :
    ∃ (b : Bool) (s : Value) (l : List Nat) (b' : Bool) (s' : Value) (l' : List Nat), v = .agg #[.bool b, s, .bool b', s'] ∧ Lim W s l ∧ Lm l ∧ Lim W s' l' ∧ Lm l' ∧
      ∀ (W' : World) (sp : Nat → Bool), Below W.heap.size W W' → (∀ q ∈ p, sp q.block = true) → DataW.Trod enc Tryz.prog W' 0 sp true 39 v d p := by
  obtain ⟨cs, rfl, hsz⟩ := okWide_struct Tryz.underlying39 hv
  obtain ⟨c0, c1, c2, c3, rfl⟩ := Joins.array4 (hsz.trans Tryz.cellsF)
  obtain ⟨fuel, hf⟩ := h
  obtain ⟨y0, y1, n, hx, _, t0, t1⟩ := trod_struct2 Tryz.underlying39 hf
  simp only [Prod.mk.injEq] at hx
  obtain ⟨rfl, rfl⟩ := hx
  simp only [Value.cells, Tryz.cellsW, List.drop_zero, List.drop_succ_cons, List.take_succ_cons, List.take_zero] at t0 t1
  obtain ⟨b, l, rfl, hl, hm, ag⟩ := read_whole t0 (fun k hk => hwt k (by simp only [DataW.weights, Tryz.underlying39]; exact DataW.weights_mem_each (j := 0) rfl rfl k hk))
  obtain ⟨b', l', rfl, hl', hm', ag'⟩ := read_whole t1 (fun k hk => hwt k (by simp only [DataW.weights, Tryz.underlying39]; exact DataW.weights_mem_each (j := 1) rfl rfl k hk))
  refine ⟨b, c1, l, b', c3, l', rfl, hl, hm, hl', hm', fun W' sp hb hsp => ?_⟩
  obtain ⟨n0, e0⟩ := ag W' sp hb (fun q hq => hsp q (List.mem_append_left _ hq))
  obtain ⟨n1, e1⟩ := ag' W' sp hb (fun q hq => hsp q (List.mem_append_right _ hq))
  have ts := trod_struct2_mk (enc := enc) (w := W') (base := 0) (spare := sp) (held := true) (n := max n0 n1) (cs := [.bool b, c1, .bool b', c3]) Tryz.underlying39 (by simp [Tryz.cellsF])
    (by simpa [Tryz.cellsW] using DataW.trod_le (Nat.le_max_left n0 n1) e0) (by simpa [Tryz.cellsW] using DataW.trod_le (Nat.le_max_right n0 n1) e1)
  exact ⟨_, by simpa [Value.cells] using ts⟩
end Go.Proofs.YtmbcnfogjncdaaaGreat
namespace Go.Proofs.YtmbcnfogjncdaaaGreat
open Go.ChangeShapes Go.WideShapes Go.ChangeAt Go.RowKit Wh
theorem u8_bd5 {n : Int} (h : (Lit.int .u8 n).wf = true) : 0 ≤ n ∧ n < 256 := by
 have e1 : IntKind.min .u8 = 0 := by decide
 have e2 : IntKind.max .u8 = 255 := by decide
 simp only [Lit.wf, Bool.and_eq_true, decide_eq_true_eq, e1, e2] at h
 omega
theorem FracRounds_walk (bia : Bool) (sia : Value) (lia : List Nat) (dia : Bool) (tia : Value) (mia : List Nat) (bib : Bool) (sib : Value) (lib : List Nat) (dib : Bool) (tib : Value) (mib : List Nat) (md : Int) (hmd : 0 ≤ md ∧ md < 256) (w : World) (hia : Lim w sia lia) (iia : Lm lia) (gia : Lim w tia mia) (jia : Lm mia) (hib : Lim w sib lib) (iib : Lm lib) (gib : Lim w tib mib) (jib : Lm mib) :
    Calls Tryz.prog 5 #[.agg #[.bool bia, sia, .bool dia, tia], .agg #[.bool bib, sib, .bool dib, tib], .int .u8 md] w fun e w' => e = .returned (.bool true) ∧ Below w.heap.size w w' := by
  obtain ⟨d, rfl⟩ := Int.eq_ofNat_of_zero_le hmd.1
  obtain ⟨aia, cia, rfl⟩ := lim_slice hia
  obtain ⟨eia, fia, rfl⟩ := lim_slice gia
  obtain ⟨aib, cib, rfl⟩ := lim_slice hib
  obtain ⟨eib, fib, rfl⟩ := lim_slice gib
  have hd : d < 256 := by omega
  cases hsh : ((decide (lia.length ≤ 8) && decide (mia.length ≤ 8)) && (decide (lib.length ≤ 8) && decide (mib.length ≤ 8))) with
  | false => exact FracRounds_long bia aia _ cia dia eia _ fia bib aib _ cib dib eib _ fib d w hsh
  | true =>
    cases hvia : fvld bia lia dia mia with
    | false =>
      exact FracRounds_any bia aia _ cia dia eia _ fia bib aib _ cib dib eib _ fib d hd (fun _ => none) (fun _ => 2) w hsh
        (fun m _ W hW => (frRound_bad1 bia aia _ cia dia eia _ fia bib aib _ cib dib eib _ fib m lia mia hvia W (hia.below hW (Nat.le_refl _)) iia (gia.below hW (Nat.le_refl _)) jia).mono (fun _ _ ⟨he, hb⟩ => ⟨⟨_, _, he, .inr ⟨rfl, rfl, rfl⟩⟩, hb⟩))
        (fun m _ W hW => (ref2Round_bad1 bia aia _ cia dia eia _ fia bib aib _ cib dib eib _ fib m W (fun V hV => by have := ref2Valid_any bia aia _ cia dia eia _ fia lia mia V (hia.below (hW.trans (hV.mono hW.size)) (Nat.le_refl _)) iia (gia.below (hW.trans (hV.mono hW.size)) (Nat.le_refl _)) jia; rw [hvia] at this; exact this)).mono (fun _ _ ⟨he, hb⟩ => ⟨⟨_, _, he, .inr ⟨rfl, rfl, rfl⟩⟩, hb⟩))
    | true =>
      cases hvib : fvld bib lib dib mib with
      | false =>
        obtain ⟨q, nq, fq, -, -, -, -⟩ := fra_of_fvld hvia hia iia gia jia
        exact FracRounds_any bia aia _ cia dia eia _ fia bib aib _ cib dib eib _ fib d hd (fun _ => none) (fun _ => 2) w hsh
          (fun m _ W hW => (frRound_bad2 q bia aia _ cia dia eia _ fia bib aib _ cib dib eib _ fib fq m lib mib hvib W (nq.below hW (Nat.le_refl _)) (hib.below hW (Nat.le_refl _)) iib (gib.below hW (Nat.le_refl _)) jib).mono (fun _ _ ⟨he, hb⟩ => ⟨⟨_, _, he, .inr ⟨rfl, rfl, rfl⟩⟩, hb⟩))
          (fun m _ W hW => (ref2Round_bad2 bia aia _ cia dia eia _ fia bib aib _ cib dib eib _ fib m W (fun V hV => by have := ref2Valid_any bia aia _ cia dia eia _ fia lia mia V (hia.below (hW.trans (hV.mono hW.size)) (Nat.le_refl _)) iia (gia.below (hW.trans (hV.mono hW.size)) (Nat.le_refl _)) jia; rw [hvia] at this; exact this) (fun V hV => by have := ref2Valid_any bib aib _ cib dib eib _ fib lib mib V (hib.below (hW.trans (hV.mono hW.size)) (Nat.le_refl _)) iib (gib.below (hW.trans (hV.mono hW.size)) (Nat.le_refl _)) jib; rw [hvib] at this; exact this)).mono (fun _ _ ⟨he, hb⟩ => ⟨⟨_, _, he, .inr ⟨rfl, rfl, rfl⟩⟩, hb⟩))
      | true =>
        simp only [Bool.and_eq_true, decide_eq_true_eq] at hsh
        obtain ⟨q, nq, fq, -, q1, -, q2⟩ := fra_of_fvld hvia hia iia gia jia
        obtain ⟨u, nu, fu, ub, u1, -, u2⟩ := fra_of_fvld hvib hib iib gib jib
        have s8q : Fz 8 8 q := ⟨by unfold Sz; rw [← q1]; exact hsh.1.1, by unfold Sz; rw [Int.natAbs_natCast, ← q2]; exact hsh.1.2⟩
        have s8u : Fz 8 8 u := ⟨by unfold Sz; rw [← u1]; exact hsh.2.1, by unfold Sz; rw [Int.natAbs_natCast, ← u2]; exact hsh.2.2⟩
        have hsh2 : ((decide (lia.length ≤ 8) && decide (mia.length ≤ 8)) && (decide (lib.length ≤ 8) && decide (mib.length ≤ 8))) = true := by simp only [Bool.and_eq_true, decide_eq_true_eq]; exact hsh
        rcases Int.lt_trichotomy u.num 0 with hu | hu | hu
        · refine FracRounds_any bia aia _ cia dia eia _ fia bib aib _ cib dib eib _ fib d hd (fun _ => none) (fun m => if 1 ≤ m ∧ m ≤ 6 then 20 else 2) w hsh2 (fun m _ W hW => ?_) (fun m _ W hW => ?_)
          · by_cases hm : 1 ≤ m ∧ m ≤ 6
            · exact (frRound_neg q u bia aia _ cia dia eia _ fia bib aib _ cib dib eib _ fib fq fu hu m hm.1 hm.2 W (nq.below hW (Nat.le_refl _)) (nu.below hW (Nat.le_refl _))).mono (fun _ _ ⟨he, hb⟩ => ⟨⟨_, _, he, .inr ⟨rfl, (if_pos hm).symm, rfl⟩⟩, hb⟩)
            · by_cases h0 : m = 0
              · subst h0; exact (frRound_mode0 q u bia aia _ cia dia eia _ fia bib aib _ cib dib eib _ fib fq fu W (nq.below hW (Nat.le_refl _)) (nu.below hW (Nat.le_refl _))).mono (fun _ _ ⟨he, hb⟩ => ⟨⟨_, _, he, .inr ⟨rfl, (if_neg (by omega)).symm, rfl⟩⟩, hb⟩)
              · exact (frRound_mode7 q u bia aia _ cia dia eia _ fia bib aib _ cib dib eib _ fib fq fu m (by omega) W (nq.below hW (Nat.le_refl _)) (nu.below hW (Nat.le_refl _))).mono (fun _ _ ⟨he, hb⟩ => ⟨⟨_, _, he, .inr ⟨rfl, (if_neg (by omega)).symm, rfl⟩⟩, hb⟩)
          · by_cases hm : 1 ≤ m ∧ m ≤ 6
            · exact (ref2Round_neg bia aia _ cia dia eia _ fia bib aib _ cib dib eib _ fib m hm.1 hm.2 (ub.trans (decide_eq_true hu)) W (fun V hV => by have := ref2Valid_any bia aia _ cia dia eia _ fia lia mia V (hia.below (hW.trans (hV.mono hW.size)) (Nat.le_refl _)) iia (gia.below (hW.trans (hV.mono hW.size)) (Nat.le_refl _)) jia; rw [hvia] at this; exact this) (fun V hV => by have := ref2Valid_any bib aib _ cib dib eib _ fib lib mib V (hib.below (hW.trans (hV.mono hW.size)) (Nat.le_refl _)) iib (gib.below (hW.trans (hV.mono hW.size)) (Nat.le_refl _)) jib; rw [hvib] at this; exact this)).mono (fun _ _ ⟨he, hb⟩ => ⟨⟨_, _, he, .inr ⟨rfl, (if_pos hm).symm, rfl⟩⟩, hb⟩)
            · by_cases h0 : m = 0
              · subst h0; exact (ref2Round_m0 bia aia _ cia dia eia _ fia bib aib _ cib dib eib _ fib W (fun V hV => by have := ref2Valid_any bia aia _ cia dia eia _ fia lia mia V (hia.below (hW.trans (hV.mono hW.size)) (Nat.le_refl _)) iia (gia.below (hW.trans (hV.mono hW.size)) (Nat.le_refl _)) jia; rw [hvia] at this; exact this) (fun V hV => by have := ref2Valid_any bib aib _ cib dib eib _ fib lib mib V (hib.below (hW.trans (hV.mono hW.size)) (Nat.le_refl _)) iib (gib.below (hW.trans (hV.mono hW.size)) (Nat.le_refl _)) jib; rw [hvib] at this; exact this)).mono (fun _ _ ⟨he, hb⟩ => ⟨⟨_, _, he, .inr ⟨rfl, (if_neg (by omega)).symm, rfl⟩⟩, hb⟩)
              · exact (ref2Round_m7 bia aia _ cia dia eia _ fia bib aib _ cib dib eib _ fib m (by omega) W (fun V hV => by have := ref2Valid_any bia aia _ cia dia eia _ fia lia mia V (hia.below (hW.trans (hV.mono hW.size)) (Nat.le_refl _)) iia (gia.below (hW.trans (hV.mono hW.size)) (Nat.le_refl _)) jia; rw [hvia] at this; exact this) (fun V hV => by have := ref2Valid_any bib aib _ cib dib eib _ fib lib mib V (hib.below (hW.trans (hV.mono hW.size)) (Nat.le_refl _)) iib (gib.below (hW.trans (hV.mono hW.size)) (Nat.le_refl _)) jib; rw [hvib] at this; exact this)).mono (fun _ _ ⟨he, hb⟩ => ⟨⟨_, _, he, .inr ⟨rfl, (if_neg (by omega)).symm, rfl⟩⟩, hb⟩)
        · refine FracRounds_any bia aia _ cia dia eia _ fia bib aib _ cib dib eib _ fib d hd (fun _ => none) (fun m => if 1 ≤ m ∧ m ≤ 6 then 20 else 2) w hsh2 (fun m _ W hW => ?_) (fun m _ W hW => ?_)
          · by_cases hm : 1 ≤ m ∧ m ≤ 6
            · exact (frRound_zero q u bia aia _ cia dia eia _ fia bib aib _ cib dib eib _ fib fq fu hu m hm.1 hm.2 W (nq.below hW (Nat.le_refl _)) (nu.below hW (Nat.le_refl _))).mono (fun _ _ ⟨he, hb⟩ => ⟨⟨_, _, he, .inr ⟨rfl, (if_pos hm).symm, rfl⟩⟩, hb⟩)
            · by_cases h0 : m = 0
              · subst h0; exact (frRound_mode0 q u bia aia _ cia dia eia _ fia bib aib _ cib dib eib _ fib fq fu W (nq.below hW (Nat.le_refl _)) (nu.below hW (Nat.le_refl _))).mono (fun _ _ ⟨he, hb⟩ => ⟨⟨_, _, he, .inr ⟨rfl, (if_neg (by omega)).symm, rfl⟩⟩, hb⟩)
              · exact (frRound_mode7 q u bia aia _ cia dia eia _ fia bib aib _ cib dib eib _ fib fq fu m (by omega) W (nq.below hW (Nat.le_refl _)) (nu.below hW (Nat.le_refl _))).mono (fun _ _ ⟨he, hb⟩ => ⟨⟨_, _, he, .inr ⟨rfl, (if_neg (by omega)).symm, rfl⟩⟩, hb⟩)
          · by_cases hm : 1 ≤ m ∧ m ≤ 6
            · exact (ref2Round_zero bia aia _ cia dia eia _ fia bib aib _ cib dib eib _ fib m hm.1 hm.2 (ub.trans (decide_eq_false (by omega))) (by rw [u1, hu, show (0 : Int).natAbs = 0 from rfl, dig_zero]; rfl) W (fun V hV => by have := ref2Valid_any bia aia _ cia dia eia _ fia lia mia V (hia.below (hW.trans (hV.mono hW.size)) (Nat.le_refl _)) iia (gia.below (hW.trans (hV.mono hW.size)) (Nat.le_refl _)) jia; rw [hvia] at this; exact this) (fun V hV => by have := ref2Valid_any bib aib _ cib dib eib _ fib lib mib V (hib.below (hW.trans (hV.mono hW.size)) (Nat.le_refl _)) iib (gib.below (hW.trans (hV.mono hW.size)) (Nat.le_refl _)) jib; rw [hvib] at this; exact this)).mono (fun _ _ ⟨he, hb⟩ => ⟨⟨_, _, he, .inr ⟨rfl, (if_pos hm).symm, rfl⟩⟩, hb⟩)
            · by_cases h0 : m = 0
              · subst h0; exact (ref2Round_m0 bia aia _ cia dia eia _ fia bib aib _ cib dib eib _ fib W (fun V hV => by have := ref2Valid_any bia aia _ cia dia eia _ fia lia mia V (hia.below (hW.trans (hV.mono hW.size)) (Nat.le_refl _)) iia (gia.below (hW.trans (hV.mono hW.size)) (Nat.le_refl _)) jia; rw [hvia] at this; exact this) (fun V hV => by have := ref2Valid_any bib aib _ cib dib eib _ fib lib mib V (hib.below (hW.trans (hV.mono hW.size)) (Nat.le_refl _)) iib (gib.below (hW.trans (hV.mono hW.size)) (Nat.le_refl _)) jib; rw [hvib] at this; exact this)).mono (fun _ _ ⟨he, hb⟩ => ⟨⟨_, _, he, .inr ⟨rfl, (if_neg (by omega)).symm, rfl⟩⟩, hb⟩)
              · exact (ref2Round_m7 bia aia _ cia dia eia _ fia bib aib _ cib dib eib _ fib m (by omega) W (fun V hV => by have := ref2Valid_any bia aia _ cia dia eia _ fia lia mia V (hia.below (hW.trans (hV.mono hW.size)) (Nat.le_refl _)) iia (gia.below (hW.trans (hV.mono hW.size)) (Nat.le_refl _)) jia; rw [hvia] at this; exact this) (fun V hV => by have := ref2Valid_any bib aib _ cib dib eib _ fib lib mib V (hib.below (hW.trans (hV.mono hW.size)) (Nat.le_refl _)) iib (gib.below (hW.trans (hV.mono hW.size)) (Nat.le_refl _)) jib; rw [hvib] at this; exact this)).mono (fun _ _ ⟨he, hb⟩ => ⟨⟨_, _, he, .inr ⟨rfl, (if_neg (by omega)).symm, rfl⟩⟩, hb⟩)
        · refine FracRounds_any bia aia _ cia dia eia _ fia bib aib _ cib dib eib _ fib d hd (fun m => if 1 ≤ m ∧ m ≤ 6 then some (rnd q u m) else none) (fun _ => 2) w hsh2 (fun m _ W hW => ?_) (fun m _ W hW => ?_)
          · by_cases hm : 1 ≤ m ∧ m ≤ 6
            · exact (frRound_ok q u bia aia _ cia dia eia _ fia bib aib _ cib dib eib _ fib fq fu hu m hm.1 hm.2 (rnd_fz s8q s8u hu m) W (nq.below hW (Nat.le_refl _)) (nu.below hW (Nat.le_refl _))).mono fun _ _ ⟨⟨v, he, g⟩, hb⟩ => ⟨⟨v, 0, he, .inl ⟨_, if_pos hm, rfl, g⟩⟩, hb⟩
            · by_cases h0 : m = 0
              · subst h0; exact (frRound_mode0 q u bia aia _ cia dia eia _ fia bib aib _ cib dib eib _ fib fq fu W (nq.below hW (Nat.le_refl _)) (nu.below hW (Nat.le_refl _))).mono (fun _ _ ⟨he, hb⟩ => ⟨⟨_, _, he, .inr ⟨if_neg (by omega), rfl, rfl⟩⟩, hb⟩)
              · exact (frRound_mode7 q u bia aia _ cia dia eia _ fia bib aib _ cib dib eib _ fib fq fu m (by omega) W (nq.below hW (Nat.le_refl _)) (nu.below hW (Nat.le_refl _))).mono (fun _ _ ⟨he, hb⟩ => ⟨⟨_, _, he, .inr ⟨if_neg (by omega), rfl, rfl⟩⟩, hb⟩)
          · by_cases hm : 1 ≤ m ∧ m ≤ 6
            · exact (ref2Round_ok bia aia _ cia dia eia _ fia bib aib _ cib dib eib _ fib q u fq fu hu m hm.1 hm.2 (rnd_fz s8q s8u hu m) W (fun V hV => by have := ref2Valid_any bia aia _ cia dia eia _ fia lia mia V (hia.below (hW.trans (hV.mono hW.size)) (Nat.le_refl _)) iia (gia.below (hW.trans (hV.mono hW.size)) (Nat.le_refl _)) jia; rw [hvia] at this; exact this) (fun V hV => by have := ref2Valid_any bib aib _ cib dib eib _ fib lib mib V (hib.below (hW.trans (hV.mono hW.size)) (Nat.le_refl _)) iib (gib.below (hW.trans (hV.mono hW.size)) (Nat.le_refl _)) jib; rw [hvib] at this; exact this) (nq.below hW (Nat.le_refl _)) (nu.below hW (Nat.le_refl _))).mono fun _ _ ⟨⟨v, he, g⟩, hb⟩ => ⟨⟨v, 0, he, .inl ⟨_, if_pos hm, rfl, g⟩⟩, hb⟩
            · by_cases h0 : m = 0
              · subst h0; exact (ref2Round_m0 bia aia _ cia dia eia _ fia bib aib _ cib dib eib _ fib W (fun V hV => by have := ref2Valid_any bia aia _ cia dia eia _ fia lia mia V (hia.below (hW.trans (hV.mono hW.size)) (Nat.le_refl _)) iia (gia.below (hW.trans (hV.mono hW.size)) (Nat.le_refl _)) jia; rw [hvia] at this; exact this) (fun V hV => by have := ref2Valid_any bib aib _ cib dib eib _ fib lib mib V (hib.below (hW.trans (hV.mono hW.size)) (Nat.le_refl _)) iib (gib.below (hW.trans (hV.mono hW.size)) (Nat.le_refl _)) jib; rw [hvib] at this; exact this)).mono (fun _ _ ⟨he, hb⟩ => ⟨⟨_, _, he, .inr ⟨if_neg (by omega), rfl, rfl⟩⟩, hb⟩)
              · exact (ref2Round_m7 bia aia _ cia dia eia _ fia bib aib _ cib dib eib _ fib m (by omega) W (fun V hV => by have := ref2Valid_any bia aia _ cia dia eia _ fia lia mia V (hia.below (hW.trans (hV.mono hW.size)) (Nat.le_refl _)) iia (gia.below (hW.trans (hV.mono hW.size)) (Nat.le_refl _)) jia; rw [hvia] at this; exact this) (fun V hV => by have := ref2Valid_any bib aib _ cib dib eib _ fib lib mib V (hib.below (hW.trans (hV.mono hW.size)) (Nat.le_refl _)) iib (gib.below (hW.trans (hV.mono hW.size)) (Nat.le_refl _)) jib; rw [hvib] at this; exact this)).mono (fun _ _ ⟨he, hb⟩ => ⟨⟨_, _, he, .inr ⟨if_neg (by omega), rfl, rfl⟩⟩, hb⟩)
theorem fracRounds_lifted (os : Os) (started : os.Started) (H : Type) (enc : TypeId × Value → H) :
    ReturnsInHanded {} Tryz.checked os 5 .any (Rows.fracRoundsSpec.pre6 enc Tryz.prog Tryz.f5 Rows.fracRoundsRow.domain false) (Rows.fracRoundsSpec.post enc Tryz.prog Tryz.f5 false true false false) := by
  refine returnsInHanded_of_change_sized (C := Tryz.checked) Tryz.ownKnob started (by kernel_rfl) Tryz.func5
    (ChangeSpec.witness6 (enc := enc) (C := Tryz.checked) false ⟨#[], #[.agg #[.bool false, .slice none 0 0, .bool false, .slice none 0 0], .agg #[.bool false, .slice none 0 0, .bool false, .slice none 0 0], .int .u8 0], []⟩ 8 (by kernel_rfl) (by kernel_rfl) (by kernel_rfl) (by kernel_rfl)) ?_
  intro W base args ds gs before hval0 hW hcnd hsz0 _
  have hval : ∀ (j : Nat) t v, Tryz.f5.params[j]? = some t → args[j]? = some v → Value.okWide Tryz.prog W .any base t v := hval0
  have hsz : (DataW.weightsEach Tryz.prog (Tryz.f5.params.toList ++ Rows.fracRoundsSpec.plain.varTypes Tryz.prog) (ds ++ gs)).all (· ≤ reachBytes) = true := hsz0
  have hW' := hW
  obtain ⟨p, q, hA0, hV, rfl, hfz, hnd⟩ := hW
  have hA : DataW.TrodAll enc Tryz.prog W 0 (fun _ => true) true Tryz.f5.params.toList args.toList ds p := hA0
  rw [Tryz.params5] at hA hval hsz
  obtain ⟨v0, vs0, d0, ds0, p0, q0, hargs, rfl, rfl, h0, r0⟩ := trodAll_cons hA
  obtain ⟨v1, vs1, d1, ds1, p1, q1, rfl, rfl, rfl, h1, r1⟩ := trodAll_cons r0
  obtain ⟨v2, vs2, d2, ds2, p2, q2, rfl, rfl, rfl, h2, r2⟩ := trodAll_cons r1
  obtain ⟨rfl, rfl, rfl⟩ := trodAll_nil r2
  obtain rfl : args = #[v0, v1, v2] := by cases args; simp_all
  obtain ⟨rfl, rfl⟩ := trodVars_none hV
  obtain ⟨b0, s0, l0, b0', s0', l0', rfl, lim0, lm0, lim0', lm0', again0⟩ := open_frac (hval 0 39 _ rfl rfl) h0 (within_of hsz (j := 0) rfl rfl)
  obtain ⟨b1, s1, l1, b1', s1', l1', rfl, lim1, lm1, lim1', lm1', again1⟩ := open_frac (hval 1 39 _ rfl rfl) h1 (within_of hsz (j := 1) rfl rfl)
  obtain ⟨x2, rfl, rfl, rfl, wf2⟩ := open_int Tryz.underlying5 (hval 2 5 v2 rfl rfl) h2
  clear hA0 hval0
  simp only [List.append_nil] at hW'
  refine (FracRounds_walk b0 s0 l0 b0' s0' l0' b1 s1 l1 b1' s1' l1' x2 (u8_bd5 wf2) W lim0 lm0 lim0' lm0' lim1 lm1 lim1' lm1').mono fun e W' ⟨he, hb⟩ => ?_
  subst he
  exact ⟨_, rfl, lawPost (pa := _) (pv := []) hW' hb (by simp) (ok_one (by kernel_rfl) rfl (okWide_bool_mk Tryz.underlying4 _)) (fun _ _ _ => (trodAll_cons_mk (shut_bool Tryz.underlying4 _) trodAll_mk0)) (fun sp hsp => (trodAll_cons_mk (again0 W' sp hb (fun q hq => hsp q (by simp only [List.mem_append] at hq ⊢; simp [hq]))) (trodAll_cons_mk (again1 W' sp hb (fun q hq => hsp q (by simp only [List.mem_append] at hq ⊢; simp [hq]))) (trodAll_cons_mk (shut_int Tryz.underlying5 wf2) trodAll_mk0)))) (fun _ _ => rfl)⟩
theorem fracRounds_proved : Rows.FracRoundsSaid :=
 OpenClaim.holds_of_wide 5 Tryz.f5 rfl rfl rfl rfl rfl rfl rfl ⟨rfl, rfl, rfl, rfl, rfl⟩ rfl rfl rfl rfl rfl fracRounds_named Tryz.func5 fracRounds_closed fracRounds_inst fracRounds_wrap
  (fun os started H enc _ => fracRounds_lifted os started H enc)
end Go.Proofs.YtmbcnfogjncdaaaGreat
