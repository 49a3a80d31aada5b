/-
'WholeDivides'.
-/
import Derived.Test.YtodmbklednehbaaSz
import Derived.Test.YtodmbklednehbaaCutEnd
import Derived.Outline
import Derived.Tactics2
import Derived.WalkKit
import Derived.Deep.RegionHeld3
import Derived.Deep.DeepCutAuto
import Derived.KernelRfl
namespace Go.Proofs.Ytodmbklednehbaa
open Go.RowKit Wh

theorem below_then {W W' W'' : World} (h : Below W.heap.size W W') (hb : Below W'.heap.size W' W'') : Below W.heap.size W W'' := h.trans (hb.mono h.size)
theorem Sz.le {n : Nat} {z z' : Int} (h : Sz n z) (hz : z'.natAbs ≤ z.natAbs) : Sz n z' := Sz.of_lt (Nat.lt_of_le_of_lt hz h.lt)
theorem num_abs {W : World} {s : Value} {z : Int} (h : Lim W s (dig z.natAbs)) : Num W (.agg #[.bool false, s]) (z.natAbs : Int) :=
  ⟨s, by rw [decide_eq_false (by omega)], by rwa [Int.natAbs_natCast]⟩

theorem DivMod_known (va vb : Value) (a b q r : Int) (hd : a = q * b + r ∧ (0 ≤ r ∧ r < b ∨ b < r ∧ r ≤ 0)) (h0 : b ≠ 0) (ha : (dig a.natAbs).length ≤ 1024) (hb : (dig b.natAbs).length ≤ 1024) (w : World) (h : Num w va a) (g : Num w vb b) :
    Calls Try.prog 29 #[va, vb] w fun e w' => (∃ v v2, e = .returned (.tuple #[v, v2, .int .i64 0]) ∧ NumF w.heap.size w' v q ∧ NumF w.heap.size w' v2 r) ∧ Below w.heap.size w w' := by
  refine (DivMod_any va vb a b ha hb h0 w h g).mono ?_
  rintro e w' ⟨⟨v, v2, q', r', rfl, hr, h1, h2⟩, hB⟩
  obtain ⟨rfl, rfl⟩ := hr.uniq' hd
  exact ⟨⟨_, _, rfl, h1, h2⟩, hB⟩

set_option maxRecDepth 100000 in
set_option maxHeartbeats 64000000 in
theorem WholeDivides_some (a b : Int) (sa : Sz 200 a) (sb : Sz 200 b) (bia : Bool) (aia : Option Addr) (kia cia : Nat) (bib : Bool) (aib : Option Addr) (kib cib : Nat) (hb0 : b ≠ 0) (w : World) (ia : Num w (.agg #[.bool bia, .slice aia kia cia]) a) (ib : Num w (.agg #[.bool bib, .slice aib kib cib]) b) :
    Calls Try.prog 5 #[.agg #[.bool bia, .slice aia kia cia], .agg #[.bool bib, .slice aib kib cib]] w fun e w' => e = .returned (.bool true) ∧ Below w.heap.size w w' := by
  have hB := (((Below.refl w.heap.size w).alloc (by simp <;> omega) (.cells #[.bool bia, .slice aia kia cia] 26)).alloc (by simp <;> omega) (.cells #[.bool bib, .slice aib kib cib] 26))
  have xia := ((Bx.new w (.bool bia) (.slice aia kia cia)).alloc (.cells #[.bool bib, .slice aib kib cib] 26))
  have xib := (Bx.new (w.alloc (.cells #[.bool bia, .slice aia kia cia] 26)) (.bool bib) (.slice aib kib cib))
  simp only [World.size_alloc] at xib
  replace ia := ia.below hB (Nat.le_refl _)
  replace ib := ib.below hB (Nat.le_refl _)
  go_enter Try.func5, Try.ntmps5
  go_wp2_with fail
  refine (awake_any _).mono ?_
  rintro e v1 ⟨rfl, hb⟩
  replace ia := ia.below hb (Nat.le_refl _)
  replace xia := xia.on hb
  obtain ⟨pia, pia'⟩ := xia.cells
  replace ib := ib.below hb (Nat.le_refl _)
  replace xib := xib.on hb
  obtain ⟨pib, pib'⟩ := xib.cells
  replace hB := hB.trans (hb.mono hB.size)
  clear hb
  go_wp2_with fail
  have al := (Below.refl v1.heap.size v1).alloc (Nat.le_refl _) (.cells #[.bool bia, .slice aia kia cia, .bool bib, .slice aib kib cib] 26)
  replace ia := ia.below al (Nat.le_refl _)
  replace xia := xia.on al
  replace ib := ib.below al (Nat.le_refl _)
  replace xib := xib.on al
  replace hB := hB.alloc hB.size (.cells #[.bool bia, .slice aia kia cia, .bool bib, .slice aib kib cib] 26)
  clear al
  have HU := usable2_num' 200 v1.heap.size (by decide) a b _ (by simp) (by simp) (by simp) (by simp) ia ib (Sz.len2 sa) (Sz.len2 sb)
  refine HU.mono ?_
  clear HU
  rintro e v2 ⟨rfl, hb⟩
  clear pia pia'
  replace ia := ia.below hb (Nat.le_refl _)
  replace xia := xia.on hb
  obtain ⟨pia, pia'⟩ := xia.cells
  clear pib pib'
  replace ib := ib.below hb (Nat.le_refl _)
  replace xib := xib.on hb
  obtain ⟨pib, pib'⟩ := xib.cells
  replace hB := hB.trans (hb.mono hB.size)
  clear hb
  go_wp2_with fail
  refine (DivMod_any _ _ a b (Sz.len sa (by decide)) (Sz.len sb (by decide)) hb0 _ ia ib).mono ?_
  rintro e v3 ⟨⟨v, vv, q, r, rfl, hd, hn, hn2⟩, hb⟩
  obtain ⟨bgq, agq, kgq, cgq, rfl⟩ := hn.opened
  obtain ⟨bgr, agr, kgr, cgr, rfl⟩ := hn2.opened
  clear pia pia' pib pib'
  replace ia := ia.below hb (Nat.le_refl _)
  replace ib := ib.below hb (Nat.le_refl _)
  replace xia := xia.on hb
  replace xib := xib.on hb
  replace hB := hB.trans (hb.mono hB.size)
  clear hb
  have hv3 : w.heap.size + 1 < v3.heap.size := xib.lt
  have gq := hn.num
  have gr := hn2.num
  clear hn hn2
  have al := (Below.refl v3.heap.size v3).alloc (Nat.le_refl _) (.cells #[.bool bgq, .slice agq kgq cgq] 26)
  have xq := Bx.new v3 (.bool bgq) (.slice agq kgq cgq)
  replace ia := ia.below al (Nat.le_refl _)
  replace ib := ib.below al (Nat.le_refl _)
  replace gq := gq.below al (Nat.le_refl _)
  replace gr := gr.below al (Nat.le_refl _)
  replace xia := xia.on al
  replace xib := xib.on al
  replace hB := hB.alloc hB.size (.cells #[.bool bgq, .slice agq kgq cgq] 26)
  clear al
  have al := (Below.refl (v3.alloc (.cells #[.bool bgq, .slice agq kgq cgq] 26)).heap.size (v3.alloc (.cells #[.bool bgq, .slice agq kgq cgq] 26))).alloc (Nat.le_refl _) (.cells #[.bool bgr, .slice agr kgr cgr] 26)
  have xr := Bx.new (v3.alloc (.cells #[.bool bgq, .slice agq kgq cgq] 26)) (.bool bgr) (.slice agr kgr cgr)
  simp only [World.size_alloc] at xr
  replace ia := ia.below al (Nat.le_refl _)
  replace ib := ib.below al (Nat.le_refl _)
  replace gq := gq.below al (Nat.le_refl _)
  replace gr := gr.below al (Nat.le_refl _)
  replace xia := xia.on al
  replace xib := xib.on al
  replace xq := xq.on al
  replace hB := hB.alloc hB.size (.cells #[.bool bgr, .slice agr kgr cgr] 26)
  clear al
  obtain ⟨eb, lb⟩ := neg_num ib
  obtain ⟨er, lr⟩ := neg_num gr
  have ekb := lim_len lb
  have ekr := lim_len lr
  have hkb : ((kib : Int) == 0) = false := by have := dig_pos_len (show b.natAbs ≠ 0 by omega); simp; omega
  obtain ⟨pia, pia'⟩ := xia.cells
  obtain ⟨pib, pib'⟩ := xib.cells
  obtain ⟨pq, pq'⟩ := xq.cells
  obtain ⟨pr, pr'⟩ := xr.cells
  replace eb := Lib.hid eb
  replace er := Lib.hid er
  replace ekb := Lib.hid ekb
  replace ekr := Lib.hid ekr
  have hd1 := hd.1
  have hdq := hd.2.2.1
  have hdr := hd.2.2.2
  have sq : Sz 200 q := sa.le hdq
  have sr : Sz 200 r := sb.le hdr
  have sab : Sz 201 (a + b) := Sz.add sa sb
  have hsg := hd.2.1
  have HD := Lib.hid hd
  have HS := Lib.hid hsg
  have hrel : DivRel (a + b) b (q + 1) r ∨ True := Or.inr trivial
  clear hrel
  have HP := Lib.hid (fun vx vy W (h : Num W vx (q)) (g : Num W vy (b)) => law_product_any vx vy (q) (b) (q * b) rfl (Sz.len sq (by decide)) (Sz.len sb (by decide)) (Sz.len (Sz.mul sq sb) (by decide)) W h g)
  have HSm := Lib.hid (fun vx vy W (h : Num W vx (q * b)) (g : Num W vy (r)) => law_sum_any vx vy (q * b) (r) (a) hd1.symm (Sz.len (Sz.mul sq sb) (by decide)) (Sz.len sr (by decide)) (Sz.len sa (by decide)) W h g)
  have HE := Lib.hid (fun vx vy W (h : Num W vx a) (g : Num W vy a) => equal_any vx vy a (Sz.len sa (by decide)) W h g)
  have HC := Lib.hid (fun vx vy W (h : Num W vx (r.natAbs : Int)) (g : Num W vy (b.natAbs : Int)) => Cmp_lit vx vy (r.natAbs : Int) (b.natAbs : Int) (-1) (by unfold cmpI; split <;> (try split) <;> omega) (Sz.len (Sz.le sr (by omega)) (by decide)) (Sz.len (Sz.le sb (by omega)) (by decide)) W h g)
  have HS2 := Lib.hid (fun vx vy W (h : Num W vx (a)) (g : Num W vy (b)) => law_sum_any vx vy (a) (b) (a + b) rfl (Sz.len sa (by decide)) (Sz.len sb (by decide)) (Sz.len sab (by decide)) W h g)
  have HDM := Lib.hid (fun vx vy W (h : Num W vx (a + b)) (g : Num W vy b) => DivMod_known vx vy (a + b) b (q + 1) r ⟨by rw [Int.add_mul]; omega, hsg⟩ hb0 (Sz.len sab (by decide)) (Sz.len sb (by decide)) W h g)
  have HN := Lib.hid (fun W => num_any 1 (by decide) (by decide) W)
  have HQ1 := Lib.hid (fun vx vy W (h : Num W vx (q)) (g : Num W vy (1)) => law_sum_any vx vy (q) (1) (q + 1) rfl (Sz.len sq (by decide)) (Sz.len (Sz.small (z := 1) (by decide)) (by decide)) (Sz.len (Sz.add sq (Sz.small (z := 1) (by decide))) (by decide)) W h g)
  have HE1 := Lib.hid (fun vx vy W (h : Num W vx (q + 1)) (g : Num W vy (q + 1)) => equal_any vx vy (q + 1) (Sz.len (Sz.add sq (Sz.small (z := 1) (by decide))) (by decide)) W h g)
  have HE2 := Lib.hid (fun vx vy W (h : Num W vx r) (g : Num W vy r) => equal_any vx vy r (Sz.len sr (by decide)) W h g)
  clear hd1 hdq hdr hd
  have hcs : (bib = false ∧ bgr = false) ∨ (bib = true ∧ bgr = false ∧ kgr = 0) ∨ (bib = true ∧ bgr = true ∧ ∃ m, kgr = m + 1) := by
    rw [eb, er, ekr]
    rcases hsg with h | h
    · exact Or.inl ⟨decide_eq_false (by omega), decide_eq_false (by omega)⟩
    · by_cases h0 : r = 0
      · exact Or.inr (Or.inl ⟨decide_eq_true (by omega), decide_eq_false (by omega), by rw [h0]; simp [dig_zero]⟩)
      · have := dig_pos_len (show r.natAbs ≠ 0 by omega)
        exact Or.inr (Or.inr ⟨decide_eq_true (by omega), decide_eq_true (by omega), (dig r.natAbs).length - 1, by omega⟩)
  clear hsg eb er ekb ekr HD HS
  have HCS := Lib.hid hcs
  clear hcs
  go_upto_region 8 with fail
  obtain ⟨w4, hw4⟩ : ∃ W : World, W = ((v3.alloc (.cells #[.bool bgq, .slice agq kgq cgq] 26)).alloc (.cells #[.bool bgr, .slice agr kgr cgr] 26)) := ⟨_, rfl⟩
  rw [← hw4] at ia ib gq gr xia xib xq xr hB pia pia' pib pib' pq pq' pr pr' lb lr ⊢
  have lv3 : v3.heap.size + 1 < w4.heap.size := by rw [hw4]; simp
  clear hw4
  have lw4 : w.heap.size + 1 < w4.heap.size := by omega
  have lw5 : w.heap.size < w4.heap.size := by omega
  have lw6 : v3.heap.size < w4.heap.size := by omega
  go_cut [8, 9] (fun s8 s9 wx => ∃ B8 B9 : Nat, s8 = .pointer (some ⟨B8, 0, none⟩) ∧ s9 = .pointer (some ⟨B9, 0, none⟩) ∧ Bx wx B8 (.bool false) (.slice aib kib cib) ∧ Bx wx B9 (.bool false) (.slice agr kgr cgr) ∧ Below w4.heap.size w4 wx)
  case first =>
    go_region
    all_goals (go_wp2_with fail; go_meet)
    · have al := (((Below.refl w4.heap.size w4).alloc (Nat.le_refl _) (.cells #[.bool false, .slice aib kib cib] 26)).alloc (by simp) (.cells #[.bool false, .slice agr kgr cgr] 26)).drew
      have n1 := (Bx.new w4 (.bool false) (.slice aib kib cib)).alloc (.cells #[.bool false, .slice agr kgr cgr] 26)
      have n2 := Bx.new (w4.alloc (.cells #[.bool false, .slice aib kib cib] 26)) (.bool false) (.slice agr kgr cgr)
      simp only [World.size_alloc] at n2
      exact ⟨_, _, rfl, rfl, n1, n2, al⟩
    · have al := (((Below.refl w4.heap.size w4).alloc (Nat.le_refl _) (.cells #[.bool false, .slice agr kgr cgr] 26)).alloc (by simp) (.cells #[.bool false, .slice aib kib cib] 26)).drew
      have n1 := (Bx.new w4 (.bool false) (.slice agr kgr cgr)).alloc (.cells #[.bool false, .slice aib kib cib] 26)
      have n2 := Bx.new (w4.alloc (.cells #[.bool false, .slice agr kgr cgr] 26)) (.bool false) (.slice aib kib cib)
      simp only [World.size_alloc] at n2
      exact ⟨_, _, rfl, rfl, n2, n1, al⟩
  case rest =>
    obtain ⟨B8, B9, rfl, rfl, xs, xt, hb⟩ := hcut
    clear lv3 lw4 lw5 lw6 hv3
    have gs := num_abs (lb.below hb (Nat.le_refl _))
    have gt := num_abs (lr.below hb (Nat.le_refl _))
    clear lb lr
    replace ia := ia.below hb (Nat.le_refl _)
    replace ib := ib.below hb (Nat.le_refl _)
    replace gq := gq.below hb (Nat.le_refl _)
    replace gr := gr.below hb (Nat.le_refl _)
    replace xia := xia.on hb; clear pia pia'; obtain ⟨pia, pia'⟩ := xia.cells
    replace xib := xib.on hb; clear pib pib'; obtain ⟨pib, pib'⟩ := xib.cells
    replace xq := xq.on hb; clear pq pq'; obtain ⟨pq, pq'⟩ := xq.cells
    replace xr := xr.on hb; clear pr pr'; obtain ⟨pr, pr'⟩ := xr.cells
    replace hB := hB.trans (hb.mono hB.size)
    clear hb
    obtain ⟨ps, ps'⟩ := xs.cells
    obtain ⟨pt, pt'⟩ := xt.cells
    go_upto_region 9 with fail
    go_cut [79] (fun s79 wx => s79 = .bool false ∧ Below wc.heap.size wc wx)
    case first =>
      replace hB : Below wc.heap.size wc wc.drew := (Below.refl wc.heap.size wc).drew
      replace ia : Num wc.drew _ _ := ia
      replace ib : Num wc.drew _ _ := ib
      replace gq : Num wc.drew _ _ := gq
      replace gr : Num wc.drew _ _ := gr
      replace gs : Num wc.drew _ _ := gs
      replace gt : Num wc.drew _ _ := gt
      replace xia : Bx wc.drew _ _ _ := xia
      replace xib : Bx wc.drew _ _ _ := xib
      replace xq : Bx wc.drew _ _ _ := xq
      replace xr : Bx wc.drew _ _ _ := xr
      replace xs : Bx wc.drew _ _ _ := xs
      replace xt : Bx wc.drew _ _ _ := xt
      rcases HCS.out with ⟨rfl, rfl⟩ | ⟨rfl, rfl, rfl⟩ | ⟨rfl, rfl, m, rfl⟩
      · clear HCS
        have q2 : IntKind.i64.wrap (-1) = -1 := by decide
        refine wp_region_noPanic ?_
        refine wp_region_held_drew (S := (fun w' => w'.cell? ⟨w.heap.size, 0, none⟩ = some (.bool bia) ∧ w'.cell? ⟨w.heap.size, 1, none⟩ = some (.slice aia kia cia) ∧ w'.cell? ⟨w.heap.size + 1, 0, none⟩ = some (.bool false) ∧ w'.cell? ⟨w.heap.size + 1, 1, none⟩ = some (.slice aib kib cib) ∧ w'.cell? ⟨v3.heap.size, 0, none⟩ = some (.bool bgq) ∧ w'.cell? ⟨v3.heap.size, 1, none⟩ = some (.slice agq kgq cgq) ∧ w'.cell? ⟨v3.heap.size + 1, 0, none⟩ = some (.bool false) ∧ w'.cell? ⟨v3.heap.size + 1, 1, none⟩ = some (.slice agr kgr cgr) ∧ w'.cell? ⟨B8, 0, none⟩ = some (.bool false) ∧ w'.cell? ⟨B8, 1, none⟩ = some (.slice aib kib cib) ∧ w'.cell? ⟨B9, 0, none⟩ = some (.bool false) ∧ w'.cell? ⟨B9, 1, none⟩ = some (.slice agr kgr cgr))) (by kernel_rfl) ⟨pia, pia', pib, pib', pq, pq', pr, pr', ps, ps', pt, pt'⟩ (fun h0 => ?_)
        refine wpAnyH_take (i := 0) (oi := { dst := some 49, op := Op.move (Operand.tmp 7), type := 27, pos := "outright.go:64", after := #[], guard := none }) (v := ?_) rfl (by kernel_rfl) (by kernel_rfl) (by kernel_rfl) (fun _ _ _ h => h) (Or.inl ⟨by rfl, ?_⟩) (by assumption) ?_
        rotate_left 1
        · (intro w hSw; (try dsimp only at hSw); go_simp <;> (with_reducible rfl))
        (try simp only [Act.put, List.setIfInBounds_toArray, List.set_cons_zero, List.set_cons_succ])
        refine wpAnyH_take (i := 1) (oi := { dst := some 50, op := Op.binOp BinOp.neq 27 (Operand.tmp 49) (Operand.const (Value.int IntKind.i64 0)) 27, type := 4, pos := "outright.go:64", after := #[{ on := 0, ground := Ground.data }], guard := none }) (v := ?_) rfl (by kernel_rfl) (by kernel_rfl) (by kernel_rfl) (fun _ _ _ h => h) (Or.inl ⟨by rfl, ?_⟩) (by assumption) ?_
        rotate_left 1
        · (intro w hSw; (try dsimp only at hSw); go_simp <;> (with_reducible rfl))
        (try simp only [Act.put, List.setIfInBounds_toArray, List.set_cons_zero, List.set_cons_succ])
        refine wpAnyH_take (i := 2) (oi := { dst := some 51, op := Op.move (Operand.tmp 50), type := 4, pos := "outright.go:64", after := #[{ on := 1, ground := Ground.data }], guard := none }) (v := ?_) rfl (by kernel_rfl) (by kernel_rfl) (by kernel_rfl) (fun _ _ _ h => h) (Or.inl ⟨by rfl, ?_⟩) (by assumption) ?_
        rotate_left 1
        · (intro w hSw; (try dsimp only at hSw); go_simp <;> (with_reducible rfl))
        (try simp only [Act.put, List.setIfInBounds_toArray, List.set_cons_zero, List.set_cons_succ])
        refine wpAnyH_take (i := 3) (oi := { dst := some 52, op := Op.load 26 (Operand.tmp 5), type := 26, pos := "outright.go:64", after := #[{ on := 2, ground := Ground.guard }], guard := some (2, false) }) (v := ?_) rfl (by kernel_rfl) (by kernel_rfl) (by kernel_rfl) (fun _ _ _ h => h) (Or.inl ⟨by rfl, ?_⟩) (by assumption) ?_
        rotate_left 1
        · (intro w hSw; (try dsimp only at hSw); go_simp <;> (with_reducible rfl))
        (try simp only [Act.put, List.setIfInBounds_toArray, List.set_cons_zero, List.set_cons_succ])
        refine wpAnyH_take (i := 4) (oi := { dst := some 53, op := Op.load 26 (Operand.tmp 3), type := 26, pos := "outright.go:64", after := #[{ on := 2, ground := Ground.guard }], guard := some (2, false) }) (v := ?_) rfl (by kernel_rfl) (by kernel_rfl) (by kernel_rfl) (fun _ _ _ h => h) (Or.inl ⟨by rfl, ?_⟩) (by assumption) ?_
        rotate_left 1
        · (intro w hSw; (try dsimp only at hSw); go_simp <;> (with_reducible rfl))
        (try simp only [Act.put, List.setIfInBounds_toArray, List.set_cons_zero, List.set_cons_succ])
        refine wpAnyH_take (i := 6) (oi := { dst := some 55, op := Op.load 26 (Operand.tmp 6), type := 26, pos := "outright.go:64", after := #[{ on := 2, ground := Ground.guard }], guard := some (2, false) }) (v := ?_) rfl (by kernel_rfl) (by kernel_rfl) (by kernel_rfl) (fun _ _ _ h => h) (Or.inl ⟨by rfl, ?_⟩) (by assumption) ?_
        rotate_left 1
        · (intro w hSw; (try dsimp only at hSw); go_simp <;> (with_reducible rfl))
        (try simp only [Act.put, List.setIfInBounds_toArray, List.set_cons_zero, List.set_cons_succ])
        refine wpAnyH_take (i := 8) (oi := { dst := some 57, op := Op.load 26 (Operand.tmp 2), type := 26, pos := "outright.go:64", after := #[{ on := 2, ground := Ground.guard }], guard := some (2, false) }) (v := ?_) rfl (by kernel_rfl) (by kernel_rfl) (by kernel_rfl) (fun _ _ _ h => h) (Or.inl ⟨by rfl, ?_⟩) (by assumption) ?_
        rotate_left 1
        · (intro w hSw; (try dsimp only at hSw); go_simp <;> (with_reducible rfl))
        (try simp only [Act.put, List.setIfInBounds_toArray, List.set_cons_zero, List.set_cons_succ])
        refine wpAnyH_ready (rs := [5]) (by kernel_rfl) (by simp) ?_
        refine AllReadyH.cons (o := { dst := some 54, op := Op.call { callee := Callee.value (Operand.func 32), args := #[Operand.tmp 52, Operand.tmp 53], argTypes := #[26, 26] }, type := 26, pos := "outright.go:64", after := #[{ on := 3, ground := Ground.data }, { on := 4, ground := Ground.data }, { on := 2, ground := Ground.chain }, { on := 2, ground := Ground.guard }], guard := some (2, false) }) rfl (fun K hK => ?_) AllReadyH.nil
        go_simp
        (go_at_call 32; ((with_reducible refine (HP.out _ _ _ gq ib).mono ?_); rintro e wn ⟨⟨v, rfl, hn⟩, hb⟩; obtain ⟨bga1, aga1, kga1, cga1, rfl⟩ := hn.opened; replace ia := ia.below hb (Nat.le_refl _); replace ib := ib.below hb (Nat.le_refl _); replace gq := gq.below hb (Nat.le_refl _); replace gr := gr.below hb (Nat.le_refl _); replace gs := gs.below hb (Nat.le_refl _); replace gt := gt.below hb (Nat.le_refl _); replace xia := xia.on hb; clear pia pia'; obtain ⟨pia, pia'⟩ := xia.cells; replace xib := xib.on hb; clear pib pib'; obtain ⟨pib, pib'⟩ := xib.cells; replace xq := xq.on hb; clear pq pq'; obtain ⟨pq, pq'⟩ := xq.cells; replace xr := xr.on hb; clear pr pr'; obtain ⟨pr, pr'⟩ := xr.cells; replace xs := xs.on hb; clear ps ps'; obtain ⟨ps, ps'⟩ := xs.cells; replace xt := xt.on hb; clear pt pt'; obtain ⟨pt, pt'⟩ := xt.cells; (try replace ga1 := ga1.below hb (Nat.le_refl _)); (try replace ga2 := ga2.below hb (Nat.le_refl _)); replace hB := hB.trans (hb.mono hB.size); have ga1 := hn.num; clear hb hn))
        (try go_wp2_with fail)
        refine hK.out _ _ ?_ (fun h1 => ?_)
        · (try dsimp only); first | exact ⟨pia, pia', pib, pib', pq, pq', pr, pr', ps, ps', pt, pt'⟩ | go_keep
        clear hK K h0
        (try simp only [Act.put, List.setIfInBounds_toArray, List.set_cons_zero, List.set_cons_succ])
        refine wpAnyH_ready (rs := [7]) (by kernel_rfl) (by simp) ?_
        refine AllReadyH.cons (o := { dst := some 56, op := Op.call { callee := Callee.value (Operand.func 31), args := #[Operand.tmp 54, Operand.tmp 55], argTypes := #[26, 26] }, type := 26, pos := "outright.go:64", after := #[{ on := 5, ground := Ground.data }, { on := 6, ground := Ground.data }, { on := 5, ground := Ground.chain }, { on := 2, ground := Ground.guard }], guard := some (2, false) }) rfl (fun K hK => ?_) AllReadyH.nil
        go_simp
        (go_at_call 31; ((with_reducible refine (HSm.out _ _ _ ga1 gr).mono ?_); rintro e wn ⟨⟨v, rfl, hn⟩, hb⟩; obtain ⟨bga2, aga2, kga2, cga2, rfl⟩ := hn.opened; replace ia := ia.below hb (Nat.le_refl _); replace ib := ib.below hb (Nat.le_refl _); replace gq := gq.below hb (Nat.le_refl _); replace gr := gr.below hb (Nat.le_refl _); replace gs := gs.below hb (Nat.le_refl _); replace gt := gt.below hb (Nat.le_refl _); replace xia := xia.on hb; clear pia pia'; obtain ⟨pia, pia'⟩ := xia.cells; replace xib := xib.on hb; clear pib pib'; obtain ⟨pib, pib'⟩ := xib.cells; replace xq := xq.on hb; clear pq pq'; obtain ⟨pq, pq'⟩ := xq.cells; replace xr := xr.on hb; clear pr pr'; obtain ⟨pr, pr'⟩ := xr.cells; replace xs := xs.on hb; clear ps ps'; obtain ⟨ps, ps'⟩ := xs.cells; replace xt := xt.on hb; clear pt pt'; obtain ⟨pt, pt'⟩ := xt.cells; (try replace ga1 := ga1.below hb (Nat.le_refl _)); (try replace ga2 := ga2.below hb (Nat.le_refl _)); replace hB := hB.trans (hb.mono hB.size); have ga2 := hn.num; clear hb hn))
        (try go_wp2_with fail)
        refine hK.out _ _ ?_ (fun h2 => ?_)
        · (try dsimp only); first | exact ⟨pia, pia', pib, pib', pq, pq', pr, pr', ps, ps', pt, pt'⟩ | go_keep
        clear hK K h1
        (try simp only [Act.put, List.setIfInBounds_toArray, List.set_cons_zero, List.set_cons_succ])
        refine wpAnyH_ready (rs := [9]) (by kernel_rfl) (by simp) ?_
        refine AllReadyH.cons (o := { dst := some 58, op := Op.call { callee := Callee.value (Operand.func 30), args := #[Operand.tmp 56, Operand.tmp 57], argTypes := #[26, 26] }, type := 4, pos := "outright.go:64", after := #[{ on := 7, ground := Ground.data }, { on := 8, ground := Ground.data }, { on := 7, ground := Ground.chain }, { on := 2, ground := Ground.guard }], guard := some (2, false) }) rfl (fun K hK => ?_) AllReadyH.nil
        go_simp
        (go_at_call 30; ((with_reducible refine (HE.out _ _ _ ga2 ia).mono ?_); rintro e wn ⟨rfl, hb⟩; replace ia := ia.below hb (Nat.le_refl _); replace ib := ib.below hb (Nat.le_refl _); replace gq := gq.below hb (Nat.le_refl _); replace gr := gr.below hb (Nat.le_refl _); replace gs := gs.below hb (Nat.le_refl _); replace gt := gt.below hb (Nat.le_refl _); replace xia := xia.on hb; clear pia pia'; obtain ⟨pia, pia'⟩ := xia.cells; replace xib := xib.on hb; clear pib pib'; obtain ⟨pib, pib'⟩ := xib.cells; replace xq := xq.on hb; clear pq pq'; obtain ⟨pq, pq'⟩ := xq.cells; replace xr := xr.on hb; clear pr pr'; obtain ⟨pr, pr'⟩ := xr.cells; replace xs := xs.on hb; clear ps ps'; obtain ⟨ps, ps'⟩ := xs.cells; replace xt := xt.on hb; clear pt pt'; obtain ⟨pt, pt'⟩ := xt.cells; (try replace ga1 := ga1.below hb (Nat.le_refl _)); (try replace ga2 := ga2.below hb (Nat.le_refl _)); replace hB := hB.trans (hb.mono hB.size); clear hb))
        (try go_wp2_with fail)
        refine hK.out _ _ ?_ (fun h3 => ?_)
        · (try dsimp only); first | exact ⟨pia, pia', pib, pib', pq, pq', pr, pr', ps, ps', pt, pt'⟩ | go_keep
        clear hK K h2
        (try simp only [Act.put, List.setIfInBounds_toArray, List.set_cons_zero, List.set_cons_succ])
        refine wpAnyH_take (i := 10) (oi := { dst := some 59, op := Op.unOp UnOp.not 4 (Operand.tmp 58), type := 4, pos := "outright.go:64", after := #[{ on := 9, ground := Ground.data }, { on := 2, ground := Ground.guard }], guard := some (2, false) }) (v := ?_) rfl (by kernel_rfl) (by kernel_rfl) (by kernel_rfl) (fun _ _ _ h => h) (Or.inl ⟨by rfl, ?_⟩) (by assumption) ?_
        rotate_left 1
        · (intro w hSw; (try dsimp only at hSw); go_simp <;> (with_reducible rfl))
        (try simp only [Act.put, List.setIfInBounds_toArray, List.set_cons_zero, List.set_cons_succ])
        refine wpAnyH_take (i := 11) (oi := { dst := some 60, op := Op.pick (Operand.tmp 51) (Operand.const (Value.bool true)) (Operand.tmp 59), type := 4, pos := "outright.go:64", after := #[{ on := 2, ground := Ground.data }, { on := 10, ground := Ground.data }], guard := none }) (v := ?_) rfl (by kernel_rfl) (by kernel_rfl) (by kernel_rfl) (fun _ _ _ h => h) (Or.inl ⟨by rfl, ?_⟩) (by assumption) ?_
        rotate_left 1
        · (intro w hSw; (try dsimp only at hSw); go_simp <;> (with_reducible rfl))
        (try simp only [Act.put, List.setIfInBounds_toArray, List.set_cons_zero, List.set_cons_succ])
        refine wpAnyH_take (i := 12) (oi := { dst := some 61, op := Op.move (Operand.tmp 60), type := 4, pos := "outright.go:64", after := #[{ on := 11, ground := Ground.data }, { on := 9, ground := Ground.chain }], guard := none }) (v := ?_) rfl (by kernel_rfl) (by kernel_rfl) (by kernel_rfl) (fun _ _ _ h => h) (Or.inl ⟨by rfl, ?_⟩) (by assumption) ?_
        rotate_left 1
        · (intro w hSw; (try dsimp only at hSw); go_simp <;> (with_reducible rfl))
        (try simp only [Act.put, List.setIfInBounds_toArray, List.set_cons_zero, List.set_cons_succ])
        refine wpAnyH_take (i := 13) (oi := { dst := some 62, op := Op.fieldAddr 26 (Operand.tmp 6) 0, type := 0, pos := "outright.go:64", after := #[{ on := 12, ground := Ground.guard }], guard := some (12, false) }) (v := ?_) rfl (by kernel_rfl) (by kernel_rfl) (by kernel_rfl) (fun _ _ _ h => h) (Or.inl ⟨by rfl, ?_⟩) (by assumption) ?_
        rotate_left 1
        · (intro w hSw; (try dsimp only at hSw); go_simp <;> (with_reducible rfl))
        (try simp only [Act.put, List.setIfInBounds_toArray, List.set_cons_zero, List.set_cons_succ])
        refine wpAnyH_take (i := 14) (oi := { dst := some 63, op := Op.load 4 (Operand.tmp 62), type := 4, pos := "outright.go:64", after := #[{ on := 13, ground := Ground.data }, { on := 12, ground := Ground.guard }], guard := some (12, false) }) (v := ?_) rfl (by kernel_rfl) (by kernel_rfl) (by kernel_rfl) (fun _ _ _ h => h) (Or.inl ⟨by rfl, ?_⟩) (by assumption) ?_
        rotate_left 1
        · (intro w hSw; (try dsimp only at hSw); go_simp <;> (with_reducible rfl))
        (try simp only [Act.put, List.setIfInBounds_toArray, List.set_cons_zero, List.set_cons_succ])
        refine wpAnyH_take (i := 15) (oi := { dst := some 64, op := Op.fieldAddr 26 (Operand.tmp 3) 0, type := 0, pos := "outright.go:64", after := #[{ on := 12, ground := Ground.guard }], guard := some (12, false) }) (v := ?_) rfl (by kernel_rfl) (by kernel_rfl) (by kernel_rfl) (fun _ _ _ h => h) (Or.inl ⟨by rfl, ?_⟩) (by assumption) ?_
        rotate_left 1
        · (intro w hSw; (try dsimp only at hSw); go_simp <;> (with_reducible rfl))
        (try simp only [Act.put, List.setIfInBounds_toArray, List.set_cons_zero, List.set_cons_succ])
        refine wpAnyH_take (i := 16) (oi := { dst := some 65, op := Op.load 4 (Operand.tmp 64), type := 4, pos := "outright.go:64", after := #[{ on := 15, ground := Ground.data }, { on := 12, ground := Ground.guard }], guard := some (12, false) }) (v := ?_) rfl (by kernel_rfl) (by kernel_rfl) (by kernel_rfl) (fun _ _ _ h => h) (Or.inl ⟨by rfl, ?_⟩) (by assumption) ?_
        rotate_left 1
        · (intro w hSw; (try dsimp only at hSw); go_simp <;> (with_reducible rfl))
        (try simp only [Act.put, List.setIfInBounds_toArray, List.set_cons_zero, List.set_cons_succ])
        refine wpAnyH_take (i := 17) (oi := { dst := some 66, op := Op.move (Operand.tmp 65), type := 4, pos := "outright.go:64", after := #[{ on := 16, ground := Ground.data }, { on := 12, ground := Ground.chain }, { on := 12, ground := Ground.guard }], guard := some (12, false) }) (v := ?_) rfl (by kernel_rfl) (by kernel_rfl) (by kernel_rfl) (fun _ _ _ h => h) (Or.inl ⟨by rfl, ?_⟩) (by assumption) ?_
        rotate_left 1
        · (intro w hSw; (try dsimp only at hSw); go_simp <;> (with_reducible rfl))
        (try simp only [Act.put, List.setIfInBounds_toArray, List.set_cons_zero, List.set_cons_succ])
        refine wpAnyH_take (i := 18) (oi := { dst := some 67, op := Op.fieldAddr 26 (Operand.tmp 6) 1, type := 0, pos := "outright.go:64", after := #[{ on := 17, ground := Ground.guard }], guard := some (17, true) }) (v := undef) rfl (by kernel_rfl) (by kernel_rfl) (by kernel_rfl) (fun _ _ _ h => h) (Or.inr ⟨by rfl, rfl⟩) (by assumption) ?_
        (try simp only [Act.put, List.setIfInBounds_toArray, List.set_cons_zero, List.set_cons_succ])
        refine wpAnyH_take (i := 19) (oi := { dst := some 68, op := Op.load 24 (Operand.tmp 67), type := 24, pos := "outright.go:64", after := #[{ on := 18, ground := Ground.data }, { on := 17, ground := Ground.guard }], guard := some (17, true) }) (v := undef) rfl (by kernel_rfl) (by kernel_rfl) (by kernel_rfl) (fun _ _ _ h => h) (Or.inr ⟨by rfl, rfl⟩) (by assumption) ?_
        (try simp only [Act.put, List.setIfInBounds_toArray, List.set_cons_zero, List.set_cons_succ])
        refine wpAnyH_take (i := 20) (oi := { dst := some 69, op := Op.call { callee := Callee.builtin Builtin.len, args := #[Operand.tmp 68], argTypes := #[24] }, type := 3, pos := "outright.go:64", after := #[{ on := 19, ground := Ground.data }, { on := 17, ground := Ground.guard }], guard := some (17, true) }) (v := undef) rfl (by kernel_rfl) (by kernel_rfl) (by kernel_rfl) (fun _ _ _ h => h) (Or.inr ⟨by rfl, rfl⟩) (by assumption) ?_
        (try simp only [Act.put, List.setIfInBounds_toArray, List.set_cons_zero, List.set_cons_succ])
        refine wpAnyH_take (i := 21) (oi := { dst := some 70, op := Op.binOp BinOp.gtr 3 (Operand.tmp 69) (Operand.const (Value.int IntKind.i64 0)) 3, type := 4, pos := "outright.go:64", after := #[{ on := 20, ground := Ground.data }, { on := 17, ground := Ground.guard }], guard := some (17, true) }) (v := undef) rfl (by kernel_rfl) (by kernel_rfl) (by kernel_rfl) (fun _ _ _ h => h) (Or.inr ⟨by rfl, rfl⟩) (by assumption) ?_
        (try simp only [Act.put, List.setIfInBounds_toArray, List.set_cons_zero, List.set_cons_succ])
        refine wpAnyH_take (i := 22) (oi := { dst := some 71, op := Op.pick (Operand.tmp 66) (Operand.tmp 70) (Operand.const (Value.bool false)), type := 4, pos := "outright.go:64", after := #[{ on := 17, ground := Ground.data }, { on := 21, ground := Ground.data }, { on := 12, ground := Ground.guard }], guard := some (12, false) }) (v := ?_) rfl (by kernel_rfl) (by kernel_rfl) (by kernel_rfl) (fun _ _ _ h => h) (Or.inl ⟨by rfl, ?_⟩) (by assumption) ?_
        rotate_left 1
        · (intro w hSw; (try dsimp only at hSw); go_simp <;> (with_reducible rfl))
        (try simp only [Act.put, List.setIfInBounds_toArray, List.set_cons_zero, List.set_cons_succ])
        refine wpAnyH_take (i := 23) (oi := { dst := some 72, op := Op.binOp BinOp.neq 4 (Operand.tmp 63) (Operand.tmp 71) 4, type := 4, pos := "outright.go:64", after := #[{ on := 14, ground := Ground.data }, { on := 22, ground := Ground.data }, { on := 12, ground := Ground.guard }], guard := some (12, false) }) (v := ?_) rfl (by kernel_rfl) (by kernel_rfl) (by kernel_rfl) (fun _ _ _ h => h) (Or.inl ⟨by rfl, ?_⟩) (by assumption) ?_
        rotate_left 1
        · (intro w hSw; (try dsimp only at hSw); go_simp <;> (with_reducible rfl))
        (try simp only [Act.put, List.setIfInBounds_toArray, List.set_cons_zero, List.set_cons_succ])
        refine wpAnyH_take (i := 24) (oi := { dst := some 73, op := Op.pick (Operand.tmp 61) (Operand.const (Value.bool true)) (Operand.tmp 72), type := 4, pos := "outright.go:64", after := #[{ on := 12, ground := Ground.data }, { on := 23, ground := Ground.data }], guard := none }) (v := ?_) rfl (by kernel_rfl) (by kernel_rfl) (by kernel_rfl) (fun _ _ _ h => h) (Or.inl ⟨by rfl, ?_⟩) (by assumption) ?_
        rotate_left 1
        · (intro w hSw; (try dsimp only at hSw); go_simp <;> (with_reducible rfl))
        (try simp only [Act.put, List.setIfInBounds_toArray, List.set_cons_zero, List.set_cons_succ])
        refine wpAnyH_take (i := 25) (oi := { dst := some 74, op := Op.move (Operand.tmp 73), type := 4, pos := "outright.go:64", after := #[{ on := 24, ground := Ground.data }, { on := 17, ground := Ground.chain }], guard := none }) (v := ?_) rfl (by kernel_rfl) (by kernel_rfl) (by kernel_rfl) (fun _ _ _ h => h) (Or.inl ⟨by rfl, ?_⟩) (by assumption) ?_
        rotate_left 1
        · (intro w hSw; (try dsimp only at hSw); go_simp <;> (with_reducible rfl))
        (try simp only [Act.put, List.setIfInBounds_toArray, List.set_cons_zero, List.set_cons_succ])
        refine wpAnyH_take (i := 26) (oi := { dst := some 75, op := Op.load 26 (Operand.tmp 9), type := 26, pos := "outright.go:64", after := #[{ on := 25, ground := Ground.guard }], guard := some (25, false) }) (v := ?_) rfl (by kernel_rfl) (by kernel_rfl) (by kernel_rfl) (fun _ _ _ h => h) (Or.inl ⟨by rfl, ?_⟩) (by assumption) ?_
        rotate_left 1
        · (intro w hSw; (try dsimp only at hSw); go_simp <;> (with_reducible rfl))
        (try simp only [Act.put, List.setIfInBounds_toArray, List.set_cons_zero, List.set_cons_succ])
        refine wpAnyH_take (i := 27) (oi := { dst := some 76, op := Op.load 26 (Operand.tmp 8), type := 26, pos := "outright.go:64", after := #[{ on := 25, ground := Ground.guard }], guard := some (25, false) }) (v := ?_) rfl (by kernel_rfl) (by kernel_rfl) (by kernel_rfl) (fun _ _ _ h => h) (Or.inl ⟨by rfl, ?_⟩) (by assumption) ?_
        rotate_left 1
        · (intro w hSw; (try dsimp only at hSw); go_simp <;> (with_reducible rfl))
        (try simp only [Act.put, List.setIfInBounds_toArray, List.set_cons_zero, List.set_cons_succ])
        refine wpAnyH_ready (rs := [28]) (by kernel_rfl) (by simp) ?_
        refine AllReadyH.cons (o := { dst := some 77, op := Op.call { callee := Callee.value (Operand.func 33), args := #[Operand.tmp 75, Operand.tmp 76], argTypes := #[26, 26] }, type := 3, pos := "outright.go:64", after := #[{ on := 26, ground := Ground.data }, { on := 27, ground := Ground.data }, { on := 25, ground := Ground.chain }, { on := 25, ground := Ground.guard }], guard := some (25, false) }) rfl (fun K hK => ?_) AllReadyH.nil
        go_simp
        (go_at_call 33; ((with_reducible refine (HC.out _ _ _ gt gs).mono ?_); rintro e wn ⟨rfl, hb⟩; replace ia := ia.below hb (Nat.le_refl _); replace ib := ib.below hb (Nat.le_refl _); replace gq := gq.below hb (Nat.le_refl _); replace gr := gr.below hb (Nat.le_refl _); replace gs := gs.below hb (Nat.le_refl _); replace gt := gt.below hb (Nat.le_refl _); replace xia := xia.on hb; clear pia pia'; obtain ⟨pia, pia'⟩ := xia.cells; replace xib := xib.on hb; clear pib pib'; obtain ⟨pib, pib'⟩ := xib.cells; replace xq := xq.on hb; clear pq pq'; obtain ⟨pq, pq'⟩ := xq.cells; replace xr := xr.on hb; clear pr pr'; obtain ⟨pr, pr'⟩ := xr.cells; replace xs := xs.on hb; clear ps ps'; obtain ⟨ps, ps'⟩ := xs.cells; replace xt := xt.on hb; clear pt pt'; obtain ⟨pt, pt'⟩ := xt.cells; (try replace ga1 := ga1.below hb (Nat.le_refl _)); (try replace ga2 := ga2.below hb (Nat.le_refl _)); replace hB := hB.trans (hb.mono hB.size); clear hb))
        (try go_wp2_with fail)
        refine hK.out _ _ ?_ (fun h4 => ?_)
        · (try dsimp only); first | exact ⟨pia, pia', pib, pib', pq, pq', pr, pr', ps, ps', pt, pt'⟩ | go_keep
        clear hK K h3
        (try simp only [Act.put, List.setIfInBounds_toArray, List.set_cons_zero, List.set_cons_succ])
        refine wpAnyH_take (i := 29) (oi := { dst := some 78, op := Op.binOp BinOp.neq 3 (Operand.tmp 77) (Operand.const (Value.int IntKind.i64 (-1))) 3, type := 4, pos := "outright.go:64", after := #[{ on := 28, ground := Ground.data }, { on := 25, ground := Ground.guard }], guard := some (25, false) }) (v := ?_) rfl (by kernel_rfl) (by kernel_rfl) (by kernel_rfl) (fun _ _ _ h => h) (Or.inl ⟨by rfl, ?_⟩) (by assumption) ?_
        rotate_left 1
        · (intro w hSw; (try dsimp only at hSw); go_simp <;> (with_reducible rfl))
        (try simp only [Act.put, List.setIfInBounds_toArray, List.set_cons_zero, List.set_cons_succ])
        refine wpAnyH_take (i := 30) (oi := { dst := some 79, op := Op.pick (Operand.tmp 74) (Operand.const (Value.bool true)) (Operand.tmp 78), type := 4, pos := "outright.go:64", after := #[{ on := 25, ground := Ground.data }, { on := 29, ground := Ground.data }], guard := none }) (v := ?_) rfl (by kernel_rfl) (by kernel_rfl) (by kernel_rfl) (fun _ _ _ h => h) (Or.inl ⟨by rfl, ?_⟩) (by assumption) ?_
        rotate_left 1
        · (intro w hSw; (try dsimp only at hSw); go_simp <;> (with_reducible rfl))
        (try simp only [Act.put, List.setIfInBounds_toArray, List.set_cons_zero, List.set_cons_succ])
        refine wpAnyH_done (by kernel_rfl) ?_ _
        refine NoPanic.normal ?_
        (try go_wp2_with fail)
        go_meet
        exact ⟨rfl, hB⟩
      · clear HCS
        have c1 : decide ((0 : Int) > 0) = false := by decide
        have q2 : IntKind.i64.wrap (-1) = -1 := by decide
        go_region_held3 (fun w' => w'.cell? ⟨w.heap.size, 0, none⟩ = some (.bool bia) ∧ w'.cell? ⟨w.heap.size, 1, none⟩ = some (.slice aia kia cia) ∧ w'.cell? ⟨w.heap.size + 1, 0, none⟩ = some (.bool true) ∧ w'.cell? ⟨w.heap.size + 1, 1, none⟩ = some (.slice aib kib cib) ∧ w'.cell? ⟨v3.heap.size, 0, none⟩ = some (.bool bgq) ∧ w'.cell? ⟨v3.heap.size, 1, none⟩ = some (.slice agq kgq cgq) ∧ w'.cell? ⟨v3.heap.size + 1, 0, none⟩ = some (.bool false) ∧ w'.cell? ⟨v3.heap.size + 1, 1, none⟩ = some (.slice agr 0 cgr) ∧ w'.cell? ⟨B8, 0, none⟩ = some (.bool false) ∧ w'.cell? ⟨B8, 1, none⟩ = some (.slice aib kib cib) ∧ w'.cell? ⟨B9, 0, none⟩ = some (.bool false) ∧ w'.cell? ⟨B9, 1, none⟩ = some (.slice agr 0 cgr))
          (first | exact ⟨pia, pia', pib, pib', pq, pq', pr, pr', ps, ps', pt, pt'⟩ | go_keep)
          (first
          | (go_at_call 32; ((with_reducible refine (HP.out _ _ _ gq ib).mono ?_); rintro e wn ⟨⟨v, rfl, hn⟩, hb⟩; obtain ⟨bga1, aga1, kga1, cga1, rfl⟩ := hn.opened; replace ia := ia.below hb (Nat.le_refl _); replace ib := ib.below hb (Nat.le_refl _); replace gq := gq.below hb (Nat.le_refl _); replace gr := gr.below hb (Nat.le_refl _); replace gs := gs.below hb (Nat.le_refl _); replace gt := gt.below hb (Nat.le_refl _); replace xia := xia.on hb; clear pia pia'; obtain ⟨pia, pia'⟩ := xia.cells; replace xib := xib.on hb; clear pib pib'; obtain ⟨pib, pib'⟩ := xib.cells; replace xq := xq.on hb; clear pq pq'; obtain ⟨pq, pq'⟩ := xq.cells; replace xr := xr.on hb; clear pr pr'; obtain ⟨pr, pr'⟩ := xr.cells; replace xs := xs.on hb; clear ps ps'; obtain ⟨ps, ps'⟩ := xs.cells; replace xt := xt.on hb; clear pt pt'; obtain ⟨pt, pt'⟩ := xt.cells; (try replace ga1 := ga1.below hb (Nat.le_refl _)); (try replace ga2 := ga2.below hb (Nat.le_refl _)); replace hB := hB.trans (hb.mono hB.size); have ga1 := hn.num; clear hb hn))
          | (go_at_call 31; ((with_reducible refine (HSm.out _ _ _ ga1 gr).mono ?_); rintro e wn ⟨⟨v, rfl, hn⟩, hb⟩; obtain ⟨bga2, aga2, kga2, cga2, rfl⟩ := hn.opened; replace ia := ia.below hb (Nat.le_refl _); replace ib := ib.below hb (Nat.le_refl _); replace gq := gq.below hb (Nat.le_refl _); replace gr := gr.below hb (Nat.le_refl _); replace gs := gs.below hb (Nat.le_refl _); replace gt := gt.below hb (Nat.le_refl _); replace xia := xia.on hb; clear pia pia'; obtain ⟨pia, pia'⟩ := xia.cells; replace xib := xib.on hb; clear pib pib'; obtain ⟨pib, pib'⟩ := xib.cells; replace xq := xq.on hb; clear pq pq'; obtain ⟨pq, pq'⟩ := xq.cells; replace xr := xr.on hb; clear pr pr'; obtain ⟨pr, pr'⟩ := xr.cells; replace xs := xs.on hb; clear ps ps'; obtain ⟨ps, ps'⟩ := xs.cells; replace xt := xt.on hb; clear pt pt'; obtain ⟨pt, pt'⟩ := xt.cells; (try replace ga1 := ga1.below hb (Nat.le_refl _)); (try replace ga2 := ga2.below hb (Nat.le_refl _)); replace hB := hB.trans (hb.mono hB.size); have ga2 := hn.num; clear hb hn))
          | (go_at_call 30; ((with_reducible refine (HE.out _ _ _ ga2 ia).mono ?_); rintro e wn ⟨rfl, hb⟩; replace ia := ia.below hb (Nat.le_refl _); replace ib := ib.below hb (Nat.le_refl _); replace gq := gq.below hb (Nat.le_refl _); replace gr := gr.below hb (Nat.le_refl _); replace gs := gs.below hb (Nat.le_refl _); replace gt := gt.below hb (Nat.le_refl _); replace xia := xia.on hb; clear pia pia'; obtain ⟨pia, pia'⟩ := xia.cells; replace xib := xib.on hb; clear pib pib'; obtain ⟨pib, pib'⟩ := xib.cells; replace xq := xq.on hb; clear pq pq'; obtain ⟨pq, pq'⟩ := xq.cells; replace xr := xr.on hb; clear pr pr'; obtain ⟨pr, pr'⟩ := xr.cells; replace xs := xs.on hb; clear ps ps'; obtain ⟨ps, ps'⟩ := xs.cells; replace xt := xt.on hb; clear pt pt'; obtain ⟨pt, pt'⟩ := xt.cells; (try replace ga1 := ga1.below hb (Nat.le_refl _)); (try replace ga2 := ga2.below hb (Nat.le_refl _)); replace hB := hB.trans (hb.mono hB.size); clear hb))
          | (go_at_call 33; ((with_reducible refine (HC.out _ _ _ gt gs).mono ?_); rintro e wn ⟨rfl, hb⟩; replace ia := ia.below hb (Nat.le_refl _); replace ib := ib.below hb (Nat.le_refl _); replace gq := gq.below hb (Nat.le_refl _); replace gr := gr.below hb (Nat.le_refl _); replace gs := gs.below hb (Nat.le_refl _); replace gt := gt.below hb (Nat.le_refl _); replace xia := xia.on hb; clear pia pia'; obtain ⟨pia, pia'⟩ := xia.cells; replace xib := xib.on hb; clear pib pib'; obtain ⟨pib, pib'⟩ := xib.cells; replace xq := xq.on hb; clear pq pq'; obtain ⟨pq, pq'⟩ := xq.cells; replace xr := xr.on hb; clear pr pr'; obtain ⟨pr, pr'⟩ := xr.cells; replace xs := xs.on hb; clear ps ps'; obtain ⟨ps, ps'⟩ := xs.cells; replace xt := xt.on hb; clear pt pt'; obtain ⟨pt, pt'⟩ := xt.cells; (try replace ga1 := ga1.below hb (Nat.le_refl _)); (try replace ga2 := ga2.below hb (Nat.le_refl _)); replace hB := hB.trans (hb.mono hB.size); clear hb)))
        (try go_wp2_with fail)
        go_meet
        exact ⟨rfl, hB⟩
      · clear HCS
        have c1 : decide ((((m + 1 : Nat) : Int) : Int) > 0) = true := by exact decide_eq_true (by omega)
        have q2 : IntKind.i64.wrap (-1) = -1 := by decide
        go_region_held3 (fun w' => w'.cell? ⟨w.heap.size, 0, none⟩ = some (.bool bia) ∧ w'.cell? ⟨w.heap.size, 1, none⟩ = some (.slice aia kia cia) ∧ w'.cell? ⟨w.heap.size + 1, 0, none⟩ = some (.bool true) ∧ w'.cell? ⟨w.heap.size + 1, 1, none⟩ = some (.slice aib kib cib) ∧ w'.cell? ⟨v3.heap.size, 0, none⟩ = some (.bool bgq) ∧ w'.cell? ⟨v3.heap.size, 1, none⟩ = some (.slice agq kgq cgq) ∧ w'.cell? ⟨v3.heap.size + 1, 0, none⟩ = some (.bool true) ∧ w'.cell? ⟨v3.heap.size + 1, 1, none⟩ = some (.slice agr (m + 1) cgr) ∧ w'.cell? ⟨B8, 0, none⟩ = some (.bool false) ∧ w'.cell? ⟨B8, 1, none⟩ = some (.slice aib kib cib) ∧ w'.cell? ⟨B9, 0, none⟩ = some (.bool false) ∧ w'.cell? ⟨B9, 1, none⟩ = some (.slice agr (m + 1) cgr))
          (first | exact ⟨pia, pia', pib, pib', pq, pq', pr, pr', ps, ps', pt, pt'⟩ | go_keep)
          (first
          | (go_at_call 32; ((with_reducible refine (HP.out _ _ _ gq ib).mono ?_); rintro e wn ⟨⟨v, rfl, hn⟩, hb⟩; obtain ⟨bga1, aga1, kga1, cga1, rfl⟩ := hn.opened; replace ia := ia.below hb (Nat.le_refl _); replace ib := ib.below hb (Nat.le_refl _); replace gq := gq.below hb (Nat.le_refl _); replace gr := gr.below hb (Nat.le_refl _); replace gs := gs.below hb (Nat.le_refl _); replace gt := gt.below hb (Nat.le_refl _); replace xia := xia.on hb; clear pia pia'; obtain ⟨pia, pia'⟩ := xia.cells; replace xib := xib.on hb; clear pib pib'; obtain ⟨pib, pib'⟩ := xib.cells; replace xq := xq.on hb; clear pq pq'; obtain ⟨pq, pq'⟩ := xq.cells; replace xr := xr.on hb; clear pr pr'; obtain ⟨pr, pr'⟩ := xr.cells; replace xs := xs.on hb; clear ps ps'; obtain ⟨ps, ps'⟩ := xs.cells; replace xt := xt.on hb; clear pt pt'; obtain ⟨pt, pt'⟩ := xt.cells; (try replace ga1 := ga1.below hb (Nat.le_refl _)); (try replace ga2 := ga2.below hb (Nat.le_refl _)); replace hB := hB.trans (hb.mono hB.size); have ga1 := hn.num; clear hb hn))
          | (go_at_call 31; ((with_reducible refine (HSm.out _ _ _ ga1 gr).mono ?_); rintro e wn ⟨⟨v, rfl, hn⟩, hb⟩; obtain ⟨bga2, aga2, kga2, cga2, rfl⟩ := hn.opened; replace ia := ia.below hb (Nat.le_refl _); replace ib := ib.below hb (Nat.le_refl _); replace gq := gq.below hb (Nat.le_refl _); replace gr := gr.below hb (Nat.le_refl _); replace gs := gs.below hb (Nat.le_refl _); replace gt := gt.below hb (Nat.le_refl _); replace xia := xia.on hb; clear pia pia'; obtain ⟨pia, pia'⟩ := xia.cells; replace xib := xib.on hb; clear pib pib'; obtain ⟨pib, pib'⟩ := xib.cells; replace xq := xq.on hb; clear pq pq'; obtain ⟨pq, pq'⟩ := xq.cells; replace xr := xr.on hb; clear pr pr'; obtain ⟨pr, pr'⟩ := xr.cells; replace xs := xs.on hb; clear ps ps'; obtain ⟨ps, ps'⟩ := xs.cells; replace xt := xt.on hb; clear pt pt'; obtain ⟨pt, pt'⟩ := xt.cells; (try replace ga1 := ga1.below hb (Nat.le_refl _)); (try replace ga2 := ga2.below hb (Nat.le_refl _)); replace hB := hB.trans (hb.mono hB.size); have ga2 := hn.num; clear hb hn))
          | (go_at_call 30; ((with_reducible refine (HE.out _ _ _ ga2 ia).mono ?_); rintro e wn ⟨rfl, hb⟩; replace ia := ia.below hb (Nat.le_refl _); replace ib := ib.below hb (Nat.le_refl _); replace gq := gq.below hb (Nat.le_refl _); replace gr := gr.below hb (Nat.le_refl _); replace gs := gs.below hb (Nat.le_refl _); replace gt := gt.below hb (Nat.le_refl _); replace xia := xia.on hb; clear pia pia'; obtain ⟨pia, pia'⟩ := xia.cells; replace xib := xib.on hb; clear pib pib'; obtain ⟨pib, pib'⟩ := xib.cells; replace xq := xq.on hb; clear pq pq'; obtain ⟨pq, pq'⟩ := xq.cells; replace xr := xr.on hb; clear pr pr'; obtain ⟨pr, pr'⟩ := xr.cells; replace xs := xs.on hb; clear ps ps'; obtain ⟨ps, ps'⟩ := xs.cells; replace xt := xt.on hb; clear pt pt'; obtain ⟨pt, pt'⟩ := xt.cells; (try replace ga1 := ga1.below hb (Nat.le_refl _)); (try replace ga2 := ga2.below hb (Nat.le_refl _)); replace hB := hB.trans (hb.mono hB.size); clear hb))
          | (go_at_call 33; ((with_reducible refine (HC.out _ _ _ gt gs).mono ?_); rintro e wn ⟨rfl, hb⟩; replace ia := ia.below hb (Nat.le_refl _); replace ib := ib.below hb (Nat.le_refl _); replace gq := gq.below hb (Nat.le_refl _); replace gr := gr.below hb (Nat.le_refl _); replace gs := gs.below hb (Nat.le_refl _); replace gt := gt.below hb (Nat.le_refl _); replace xia := xia.on hb; clear pia pia'; obtain ⟨pia, pia'⟩ := xia.cells; replace xib := xib.on hb; clear pib pib'; obtain ⟨pib, pib'⟩ := xib.cells; replace xq := xq.on hb; clear pq pq'; obtain ⟨pq, pq'⟩ := xq.cells; replace xr := xr.on hb; clear pr pr'; obtain ⟨pr, pr'⟩ := xr.cells; replace xs := xs.on hb; clear ps ps'; obtain ⟨ps, ps'⟩ := xs.cells; replace xt := xt.on hb; clear pt pt'; obtain ⟨pt, pt'⟩ := xt.cells; (try replace ga1 := ga1.below hb (Nat.le_refl _)); (try replace ga2 := ga2.below hb (Nat.le_refl _)); replace hB := hB.trans (hb.mono hB.size); clear hb)))
        (try go_wp2_with fail)
        go_meet
        exact ⟨rfl, hB⟩
    case rest =>
      obtain ⟨rfl, hb⟩ := hcut
      have gs' := gs
      clear gs' gs gt xs xt ps ps' pt pt'
      replace ia := ia.below hb (Nat.le_refl _)
      replace ib := ib.below hb (Nat.le_refl _)
      replace gq := gq.below hb (Nat.le_refl _)
      replace gr := gr.below hb (Nat.le_refl _)
      replace xia := xia.on hb; clear pia pia'; obtain ⟨pia, pia'⟩ := xia.cells
      replace xib := xib.on hb; clear pib pib'; obtain ⟨pib, pib'⟩ := xib.cells
      replace xq := xq.on hb; clear pq pq'; obtain ⟨pq, pq'⟩ := xq.cells
      replace xr := xr.on hb; clear pr pr'; obtain ⟨pr, pr'⟩ := xr.cells
      replace hB := hB.trans (hb.mono hB.size)
      clear hb
      go_upto_region 11 with fail
      go_cut [10, 11, 12] (fun s10 s11 s12 wx => s12 = .int .i64 0 ∧ ∃ (B10 B11 : Nat) (bgu : Bool) (agu : Option Addr) (kgu cgu : Nat) (bgv : Bool) (agv : Option Addr) (kgv cgv : Nat), s10 = .pointer (some ⟨B10, 0, none⟩) ∧ s11 = .pointer (some ⟨B11, 0, none⟩) ∧ Bx wx B10 (.bool bgu) (.slice agu kgu cgu) ∧ Num wx (.agg #[.bool bgu, .slice agu kgu cgu]) (q + 1) ∧ Bx wx B11 (.bool bgv) (.slice agv kgv cgv) ∧ Num wx (.agg #[.bool bgv, .slice agv kgv cgv]) r ∧ Below wc.heap.size wc wx)
      case first =>
        replace hB : Below wc.heap.size wc wc.drew := (Below.refl wc.heap.size wc).drew
        replace ia : Num wc.drew _ _ := ia
        replace ib : Num wc.drew _ _ := ib
        replace xia : Bx wc.drew _ _ _ := xia
        replace xib : Bx wc.drew _ _ _ := xib
        clear pq pq' pr pr' xq xr gq gr HCS
        have nc0 : wc.heap.size ≠ w.heap.size := (by have := xib.lt; have := xia.lt; simp only [World.size_drew] at *; omega)
        have nc1 : wc.heap.size ≠ w.heap.size + 1 := (by have := xib.lt; have := xia.lt; simp only [World.size_drew] at *; omega)
        have nc2 : wc.heap.size + 1 ≠ w.heap.size := (by have := xib.lt; have := xia.lt; simp only [World.size_drew] at *; omega)
        have nc3 : wc.heap.size + 1 ≠ w.heap.size + 1 := (by have := xib.lt; have := xia.lt; simp only [World.size_drew] at *; omega)
        have A1D : Below wc.drew.heap.size wc.drew ((wc.alloc (.cells #[.bool false, .slice none 0 0] 26)).drew) := ((Below.refl wc.drew.heap.size wc.drew).alloc (Nat.le_refl _) (.cells #[.bool false, .slice none 0 0] 26))
        have A2D : Below wc.drew.heap.size wc.drew (((wc.alloc (.cells #[.bool false, .slice none 0 0] 26)).alloc (.cells #[.bool false, .slice none 0 0] 26)).drew) := (((Below.refl wc.drew.heap.size wc.drew).alloc (Nat.le_refl _) (.cells #[.bool false, .slice none 0 0] 26)).alloc ((Below.refl wc.drew.heap.size wc.drew).alloc (Nat.le_refl _) (.cells #[.bool false, .slice none 0 0] 26)).size (.cells #[.bool false, .slice none 0 0] 26))
        have Z1D : Bx ((wc.alloc (.cells #[.bool false, .slice none 0 0] 26)).drew) wc.heap.size (.bool false) (.slice none 0 0) := Bx.new wc (.bool false) (.slice none 0 0)
        have Z2D : Bx (((wc.alloc (.cells #[.bool false, .slice none 0 0] 26)).alloc (.cells #[.bool false, .slice none 0 0] 26)).drew) wc.heap.size (.bool false) (.slice none 0 0) := (Bx.new wc (.bool false) (.slice none 0 0)).alloc (.cells #[.bool false, .slice none 0 0] 26)
        have Z2D' := Bx.new (wc.alloc (.cells #[.bool false, .slice none 0 0] 26)) (.bool false) (.slice none 0 0); simp only [World.size_alloc] at Z2D'
        replace Z2D' : Bx (((wc.alloc (.cells #[.bool false, .slice none 0 0] 26)).alloc (.cells #[.bool false, .slice none 0 0] 26)).drew) (wc.heap.size + 1) (.bool false) (.slice none 0 0) := Z2D'
        have A1E : Below wc.drew.heap.size wc.drew (wc.drew.alloc (.cells #[.bool false, .slice none 0 0] 26)) := ((Below.refl wc.drew.heap.size wc.drew).alloc (Nat.le_refl _) (.cells #[.bool false, .slice none 0 0] 26))
        have A2E : Below wc.drew.heap.size wc.drew ((wc.drew.alloc (.cells #[.bool false, .slice none 0 0] 26)).alloc (.cells #[.bool false, .slice none 0 0] 26)) := (((Below.refl wc.drew.heap.size wc.drew).alloc (Nat.le_refl _) (.cells #[.bool false, .slice none 0 0] 26)).alloc ((Below.refl wc.drew.heap.size wc.drew).alloc (Nat.le_refl _) (.cells #[.bool false, .slice none 0 0] 26)).size (.cells #[.bool false, .slice none 0 0] 26))
        have Z1E : Bx (wc.drew.alloc (.cells #[.bool false, .slice none 0 0] 26)) wc.heap.size (.bool false) (.slice none 0 0) := Bx.new wc (.bool false) (.slice none 0 0)
        have Z2E : Bx ((wc.drew.alloc (.cells #[.bool false, .slice none 0 0] 26)).alloc (.cells #[.bool false, .slice none 0 0] 26)) wc.heap.size (.bool false) (.slice none 0 0) := (Bx.new wc (.bool false) (.slice none 0 0)).alloc (.cells #[.bool false, .slice none 0 0] 26)
        have Z2E' := Bx.new (wc.alloc (.cells #[.bool false, .slice none 0 0] 26)) (.bool false) (.slice none 0 0); simp only [World.size_alloc] at Z2E'
        replace Z2E' : Bx ((wc.drew.alloc (.cells #[.bool false, .slice none 0 0] 26)).alloc (.cells #[.bool false, .slice none 0 0] 26)) (wc.heap.size + 1) (.bool false) (.slice none 0 0) := Z2E'
        go_region_held3 (fun w' => w'.cell? ⟨w.heap.size, 0, none⟩ = some (.bool bia) ∧ w'.cell? ⟨w.heap.size, 1, none⟩ = some (.slice aia kia cia) ∧ w'.cell? ⟨w.heap.size + 1, 0, none⟩ = some (.bool bib) ∧ w'.cell? ⟨w.heap.size + 1, 1, none⟩ = some (.slice aib kib cib))
          (first | exact ⟨pia, pia', pib, pib'⟩ | go_keep)
          (first
          | (go_at_call 31; ((with_reducible refine (HS2.out _ _ _ ia ib).mono ?_); rintro e wn ⟨⟨v, rfl, hn⟩, hb⟩; obtain ⟨bgab, agab, kgab, cgab, rfl⟩ := hn.opened; have hX := hb; replace ia := ia.below hX (Nat.le_refl _); replace ib := ib.below hX (Nat.le_refl _); replace xia := xia.on hX; clear pia pia'; obtain ⟨pia, pia'⟩ := xia.cells; replace xib := xib.on hX; clear pib pib'; obtain ⟨pib, pib'⟩ := xib.cells; replace hB := hB.trans (hX.mono hB.size); have nn0 : wn.heap.size ≠ w.heap.size := (by have := xib.lt; have := xia.lt; simp only [World.size_drew] at *; omega); have nn1 : wn.heap.size ≠ w.heap.size + 1 := (by have := xib.lt; have := xia.lt; simp only [World.size_drew] at *; omega); have nn2 : wn.heap.size + 1 ≠ w.heap.size := (by have := xib.lt; have := xia.lt; simp only [World.size_drew] at *; omega); have nn3 : wn.heap.size + 1 ≠ w.heap.size + 1 := (by have := xib.lt; have := xia.lt; simp only [World.size_drew] at *; omega); have lwn : wc.heap.size ≤ wn.heap.size := hB.size; have gab := hn.num; clear hb hX hn))
          | (go_at_call 31; ((with_reducible refine (HS2.out _ _ _ (ia.below A1D (Nat.le_refl _)) (ib.below A1D (Nat.le_refl _))).mono ?_); rintro e wn ⟨⟨v, rfl, hn⟩, hb⟩; obtain ⟨bgab, agab, kgab, cgab, rfl⟩ := hn.opened; have z1 := Z1D.on hb; have hX := below_then A1D hb; replace ia := ia.below hX (Nat.le_refl _); replace ib := ib.below hX (Nat.le_refl _); replace xia := xia.on hX; clear pia pia'; obtain ⟨pia, pia'⟩ := xia.cells; replace xib := xib.on hX; clear pib pib'; obtain ⟨pib, pib'⟩ := xib.cells; replace hB := hB.trans (hX.mono hB.size); have nn0 : wn.heap.size ≠ w.heap.size := (by have := xib.lt; have := xia.lt; simp only [World.size_drew] at *; omega); have nn1 : wn.heap.size ≠ w.heap.size + 1 := (by have := xib.lt; have := xia.lt; simp only [World.size_drew] at *; omega); have nn2 : wn.heap.size + 1 ≠ w.heap.size := (by have := xib.lt; have := xia.lt; simp only [World.size_drew] at *; omega); have nn3 : wn.heap.size + 1 ≠ w.heap.size + 1 := (by have := xib.lt; have := xia.lt; simp only [World.size_drew] at *; omega); have lwn : wc.heap.size ≤ wn.heap.size := hB.size; have gab := hn.num; clear hb hX hn))
          | (go_at_call 31; ((with_reducible refine (HS2.out _ _ _ (ia.below A1E (Nat.le_refl _)) (ib.below A1E (Nat.le_refl _))).mono ?_); rintro e wn ⟨⟨v, rfl, hn⟩, hb⟩; obtain ⟨bgab, agab, kgab, cgab, rfl⟩ := hn.opened; have z1 := Z1E.on hb; have hX := below_then A1E hb; replace ia := ia.below hX (Nat.le_refl _); replace ib := ib.below hX (Nat.le_refl _); replace xia := xia.on hX; clear pia pia'; obtain ⟨pia, pia'⟩ := xia.cells; replace xib := xib.on hX; clear pib pib'; obtain ⟨pib, pib'⟩ := xib.cells; replace hB := hB.trans (hX.mono hB.size); have nn0 : wn.heap.size ≠ w.heap.size := (by have := xib.lt; have := xia.lt; simp only [World.size_drew] at *; omega); have nn1 : wn.heap.size ≠ w.heap.size + 1 := (by have := xib.lt; have := xia.lt; simp only [World.size_drew] at *; omega); have nn2 : wn.heap.size + 1 ≠ w.heap.size := (by have := xib.lt; have := xia.lt; simp only [World.size_drew] at *; omega); have nn3 : wn.heap.size + 1 ≠ w.heap.size + 1 := (by have := xib.lt; have := xia.lt; simp only [World.size_drew] at *; omega); have lwn : wc.heap.size ≤ wn.heap.size := hB.size; have gab := hn.num; clear hb hX hn))
          | (go_at_call 31; ((with_reducible refine (HS2.out _ _ _ (ia.below A2D (Nat.le_refl _)) (ib.below A2D (Nat.le_refl _))).mono ?_); rintro e wn ⟨⟨v, rfl, hn⟩, hb⟩; obtain ⟨bgab, agab, kgab, cgab, rfl⟩ := hn.opened; have z1 := Z2D.on hb; have z2 := Z2D'.on hb; have hX := below_then A2D hb; replace ia := ia.below hX (Nat.le_refl _); replace ib := ib.below hX (Nat.le_refl _); replace xia := xia.on hX; clear pia pia'; obtain ⟨pia, pia'⟩ := xia.cells; replace xib := xib.on hX; clear pib pib'; obtain ⟨pib, pib'⟩ := xib.cells; replace hB := hB.trans (hX.mono hB.size); have nn0 : wn.heap.size ≠ w.heap.size := (by have := xib.lt; have := xia.lt; simp only [World.size_drew] at *; omega); have nn1 : wn.heap.size ≠ w.heap.size + 1 := (by have := xib.lt; have := xia.lt; simp only [World.size_drew] at *; omega); have nn2 : wn.heap.size + 1 ≠ w.heap.size := (by have := xib.lt; have := xia.lt; simp only [World.size_drew] at *; omega); have nn3 : wn.heap.size + 1 ≠ w.heap.size + 1 := (by have := xib.lt; have := xia.lt; simp only [World.size_drew] at *; omega); have lwn : wc.heap.size ≤ wn.heap.size := hB.size; have gab := hn.num; clear hb hX hn))
          | (go_at_call 31; ((with_reducible refine (HS2.out _ _ _ (ia.below A2E (Nat.le_refl _)) (ib.below A2E (Nat.le_refl _))).mono ?_); rintro e wn ⟨⟨v, rfl, hn⟩, hb⟩; obtain ⟨bgab, agab, kgab, cgab, rfl⟩ := hn.opened; have z1 := Z2E.on hb; have z2 := Z2E'.on hb; have hX := below_then A2E hb; replace ia := ia.below hX (Nat.le_refl _); replace ib := ib.below hX (Nat.le_refl _); replace xia := xia.on hX; clear pia pia'; obtain ⟨pia, pia'⟩ := xia.cells; replace xib := xib.on hX; clear pib pib'; obtain ⟨pib, pib'⟩ := xib.cells; replace hB := hB.trans (hX.mono hB.size); have nn0 : wn.heap.size ≠ w.heap.size := (by have := xib.lt; have := xia.lt; simp only [World.size_drew] at *; omega); have nn1 : wn.heap.size ≠ w.heap.size + 1 := (by have := xib.lt; have := xia.lt; simp only [World.size_drew] at *; omega); have nn2 : wn.heap.size + 1 ≠ w.heap.size := (by have := xib.lt; have := xia.lt; simp only [World.size_drew] at *; omega); have nn3 : wn.heap.size + 1 ≠ w.heap.size + 1 := (by have := xib.lt; have := xia.lt; simp only [World.size_drew] at *; omega); have lwn : wc.heap.size ≤ wn.heap.size := hB.size; have gab := hn.num; clear hb hX hn))
          | (go_at_call 29; ((with_reducible refine (HDM.out _ _ _ gab ib).mono ?_); rintro e wm ⟨⟨v, v2, rfl, hn, hn2⟩, hb⟩; obtain ⟨bgu, agu, kgu, cgu, rfl⟩ := hn.opened; obtain ⟨bgv, agv, kgv, cgv, rfl⟩ := hn2.opened; (try have ep1 : wc.heap.size ≠ wn.heap.size := (by have := z1.lt; omega)); (try have ep2 : wn.heap.size ≠ wc.heap.size := (by have := z1.lt; omega)); (try have eq1 : wc.heap.size ≠ wn.heap.size + 1 := (by have := z1.lt; omega)); (try have eq2 : wn.heap.size + 1 ≠ wc.heap.size := (by have := z1.lt; omega)); (try have er1 : wc.heap.size + 1 ≠ wn.heap.size := (by have := z2.lt; omega)); (try have er2 : wn.heap.size ≠ wc.heap.size + 1 := (by have := z2.lt; omega)); (try have es1 : wc.heap.size + 1 ≠ wn.heap.size + 1 := (by have := z2.lt; omega)); (try have es2 : wn.heap.size + 1 ≠ wc.heap.size + 1 := (by have := z2.lt; omega)); have hX := below_then (Below.refl wn.heap.size wn) hb; replace ia := ia.below hX (Nat.le_refl _); replace ib := ib.below hX (Nat.le_refl _); replace xia := xia.on hX; clear pia pia'; obtain ⟨pia, pia'⟩ := xia.cells; replace xib := xib.on hX; clear pib pib'; obtain ⟨pib, pib'⟩ := xib.cells; replace hB := hB.trans (hX.mono hB.size); (try replace z1 := z1.on hX); (try replace z2 := z2.on hX); (try (have lz1 := z1.lt; obtain ⟨cz1, cz1'⟩ := z1.cells; obtain ⟨fz1, fz1'⟩ := z1.free)); (try (have lz2 := z2.lt; obtain ⟨cz2, cz2'⟩ := z2.cells; obtain ⟨fz2, fz2'⟩ := z2.free)); (try (have ly1 := y1.lt; obtain ⟨cy1, cy1'⟩ := y1.cells; obtain ⟨fy1, fy1'⟩ := y1.free)); (try (have ly2 := y2.lt; obtain ⟨cy2, cy2'⟩ := y2.cells; obtain ⟨fy2, fy2'⟩ := y2.free)); have gu := hn.num; have gv := hn2.num; clear hb hX hn hn2 gab))
          | (go_at_call 29; ((with_reducible refine (HDM.out _ _ _ (gab.below ((Below.refl wn.heap.size wn).alloc (Nat.le_refl _) (.cells #[.bool false, .slice none 0 0] 26)) (Nat.le_refl _)) (ib.below ((Below.refl wn.heap.size wn).alloc (Nat.le_refl _) (.cells #[.bool false, .slice none 0 0] 26)) (Nat.le_refl _))).mono ?_); rintro e wm ⟨⟨v, v2, rfl, hn, hn2⟩, hb⟩; obtain ⟨bgu, agu, kgu, cgu, rfl⟩ := hn.opened; obtain ⟨bgv, agv, kgv, cgv, rfl⟩ := hn2.opened; have y1 := ((Bx.new wn (.bool false) (.slice none 0 0))).on hb; (try have ep1 : wc.heap.size ≠ wn.heap.size := (by have := z1.lt; omega)); (try have ep2 : wn.heap.size ≠ wc.heap.size := (by have := z1.lt; omega)); (try have eq1 : wc.heap.size ≠ wn.heap.size + 1 := (by have := z1.lt; omega)); (try have eq2 : wn.heap.size + 1 ≠ wc.heap.size := (by have := z1.lt; omega)); (try have er1 : wc.heap.size + 1 ≠ wn.heap.size := (by have := z2.lt; omega)); (try have er2 : wn.heap.size ≠ wc.heap.size + 1 := (by have := z2.lt; omega)); (try have es1 : wc.heap.size + 1 ≠ wn.heap.size + 1 := (by have := z2.lt; omega)); (try have es2 : wn.heap.size + 1 ≠ wc.heap.size + 1 := (by have := z2.lt; omega)); have hX := below_then ((Below.refl wn.heap.size wn).alloc (Nat.le_refl _) (.cells #[.bool false, .slice none 0 0] 26)) hb; replace ia := ia.below hX (Nat.le_refl _); replace ib := ib.below hX (Nat.le_refl _); replace xia := xia.on hX; clear pia pia'; obtain ⟨pia, pia'⟩ := xia.cells; replace xib := xib.on hX; clear pib pib'; obtain ⟨pib, pib'⟩ := xib.cells; replace hB := hB.trans (hX.mono hB.size); (try replace z1 := z1.on hX); (try replace z2 := z2.on hX); (try (have lz1 := z1.lt; obtain ⟨cz1, cz1'⟩ := z1.cells; obtain ⟨fz1, fz1'⟩ := z1.free)); (try (have lz2 := z2.lt; obtain ⟨cz2, cz2'⟩ := z2.cells; obtain ⟨fz2, fz2'⟩ := z2.free)); (try (have ly1 := y1.lt; obtain ⟨cy1, cy1'⟩ := y1.cells; obtain ⟨fy1, fy1'⟩ := y1.free)); (try (have ly2 := y2.lt; obtain ⟨cy2, cy2'⟩ := y2.cells; obtain ⟨fy2, fy2'⟩ := y2.free)); have gu := hn.num; have gv := hn2.num; clear hb hX hn hn2 gab))
          | (go_at_call 29; ((with_reducible refine (HDM.out _ _ _ (gab.below (((Below.refl wn.heap.size wn).alloc (Nat.le_refl _) (.cells #[.bool false, .slice none 0 0] 26)).alloc ((Below.refl wn.heap.size wn).alloc (Nat.le_refl _) (.cells #[.bool false, .slice none 0 0] 26)).size (.cells #[.bool false, .slice none 0 0] 26)) (Nat.le_refl _)) (ib.below (((Below.refl wn.heap.size wn).alloc (Nat.le_refl _) (.cells #[.bool false, .slice none 0 0] 26)).alloc ((Below.refl wn.heap.size wn).alloc (Nat.le_refl _) (.cells #[.bool false, .slice none 0 0] 26)).size (.cells #[.bool false, .slice none 0 0] 26)) (Nat.le_refl _))).mono ?_); rintro e wm ⟨⟨v, v2, rfl, hn, hn2⟩, hb⟩; obtain ⟨bgu, agu, kgu, cgu, rfl⟩ := hn.opened; obtain ⟨bgv, agv, kgv, cgv, rfl⟩ := hn2.opened; have y1 := ((Bx.new wn (.bool false) (.slice none 0 0)).alloc (.cells #[.bool false, .slice none 0 0] 26)).on hb; have y2 := (Bx.new (wn.alloc (.cells #[.bool false, .slice none 0 0] 26)) (.bool false) (.slice none 0 0)).on hb; simp only [World.size_alloc] at y2; (try have ep1 : wc.heap.size ≠ wn.heap.size := (by have := z1.lt; omega)); (try have ep2 : wn.heap.size ≠ wc.heap.size := (by have := z1.lt; omega)); (try have eq1 : wc.heap.size ≠ wn.heap.size + 1 := (by have := z1.lt; omega)); (try have eq2 : wn.heap.size + 1 ≠ wc.heap.size := (by have := z1.lt; omega)); (try have er1 : wc.heap.size + 1 ≠ wn.heap.size := (by have := z2.lt; omega)); (try have er2 : wn.heap.size ≠ wc.heap.size + 1 := (by have := z2.lt; omega)); (try have es1 : wc.heap.size + 1 ≠ wn.heap.size + 1 := (by have := z2.lt; omega)); (try have es2 : wn.heap.size + 1 ≠ wc.heap.size + 1 := (by have := z2.lt; omega)); have hX := below_then (((Below.refl wn.heap.size wn).alloc (Nat.le_refl _) (.cells #[.bool false, .slice none 0 0] 26)).alloc ((Below.refl wn.heap.size wn).alloc (Nat.le_refl _) (.cells #[.bool false, .slice none 0 0] 26)).size (.cells #[.bool false, .slice none 0 0] 26)) hb; replace ia := ia.below hX (Nat.le_refl _); replace ib := ib.below hX (Nat.le_refl _); replace xia := xia.on hX; clear pia pia'; obtain ⟨pia, pia'⟩ := xia.cells; replace xib := xib.on hX; clear pib pib'; obtain ⟨pib, pib'⟩ := xib.cells; replace hB := hB.trans (hX.mono hB.size); (try replace z1 := z1.on hX); (try replace z2 := z2.on hX); (try (have lz1 := z1.lt; obtain ⟨cz1, cz1'⟩ := z1.cells; obtain ⟨fz1, fz1'⟩ := z1.free)); (try (have lz2 := z2.lt; obtain ⟨cz2, cz2'⟩ := z2.cells; obtain ⟨fz2, fz2'⟩ := z2.free)); (try (have ly1 := y1.lt; obtain ⟨cy1, cy1'⟩ := y1.cells; obtain ⟨fy1, fy1'⟩ := y1.free)); (try (have ly2 := y2.lt; obtain ⟨cy2, cy2'⟩ := y2.cells; obtain ⟨fy2, fy2'⟩ := y2.free)); have gu := hn.num; have gv := hn2.num; clear hb hX hn hn2 gab)))
        all_goals (go_wp2_with fail; go_meet)
        · obtain ⟨e1, e2, e3, e4, e5⟩ := two_new hB hB.size (.bool bgu) (.slice agu kgu cgu) (.bool bgv) (.slice agv kgv cgv) gu gv
          exact ⟨rfl, _, _, _, _, _, _, _, _, _, _, rfl, rfl, e1, e3, e2, e4, e5⟩
        · obtain ⟨e1, e2, e3, e4, e5⟩ := two_new hB hB.size (.bool bgv) (.slice agv kgv cgv) (.bool bgu) (.slice agu kgu cgu) gv gu
          exact ⟨rfl, _, _, _, _, _, _, _, _, _, _, rfl, rfl, e2, e4, e1, e3, e5⟩
        · obtain ⟨e1, e2, e3, e4, e5⟩ := old_new hB hB.size lwn y1 (.bool bgu) (.slice agu kgu cgu) (.bool bgv) (.slice agv kgv cgv) gu gv
          exact ⟨rfl, _, _, _, _, _, _, _, _, _, _, rfl, rfl, e1, e3, e2, e4, e5⟩
        · obtain ⟨e1, e2, e3, e4, e5⟩ := two_old hB lwn (Nat.le_succ_of_le lwn) (Nat.ne_of_lt (Nat.lt_succ_self _)) y1 y2 (.bool bgu) (.slice agu kgu cgu) (.bool bgv) (.slice agv kgv cgv) gu gv
          exact ⟨rfl, _, _, _, _, _, _, _, _, _, _, rfl, rfl, e1, e3, e2, e4, e5⟩
        · obtain ⟨e1, e2, e3, e4, e5⟩ := old_new hB hB.size lwn y1 (.bool bgv) (.slice agv kgv cgv) (.bool bgu) (.slice agu kgu cgu) gv gu
          exact ⟨rfl, _, _, _, _, _, _, _, _, _, _, rfl, rfl, e2, e4, e1, e3, e5⟩
        · obtain ⟨e1, e2, e3, e4, e5⟩ := two_old hB (Nat.le_succ_of_le lwn) lwn (Nat.ne_of_gt (Nat.lt_succ_self _)) y2 y1 (.bool bgu) (.slice agu kgu cgu) (.bool bgv) (.slice agv kgv cgv) gu gv
          exact ⟨rfl, _, _, _, _, _, _, _, _, _, _, rfl, rfl, e1, e3, e2, e4, e5⟩
        · obtain ⟨e1, e2, e3, e4, e5⟩ := old_new hB hB.size (Nat.le_refl _) z1 (.bool bgu) (.slice agu kgu cgu) (.bool bgv) (.slice agv kgv cgv) gu gv
          exact ⟨rfl, _, _, _, _, _, _, _, _, _, _, rfl, rfl, e1, e3, e2, e4, e5⟩
        · obtain ⟨e1, e2, e3, e4, e5⟩ := two_old hB (Nat.le_refl _) lwn ep1 z1 y1 (.bool bgu) (.slice agu kgu cgu) (.bool bgv) (.slice agv kgv cgv) gu gv
          exact ⟨rfl, _, _, _, _, _, _, _, _, _, _, rfl, rfl, e1, e3, e2, e4, e5⟩
        · obtain ⟨e1, e2, e3, e4, e5⟩ := two_old hB (Nat.le_refl _) (Nat.le_succ _) (Nat.ne_of_lt (Nat.lt_succ_self _)) z1 z2 (.bool bgu) (.slice agu kgu cgu) (.bool bgv) (.slice agv kgv cgv) gu gv
          exact ⟨rfl, _, _, _, _, _, _, _, _, _, _, rfl, rfl, e1, e3, e2, e4, e5⟩
        · obtain ⟨e1, e2, e3, e4, e5⟩ := old_new hB hB.size (Nat.le_refl _) z1 (.bool bgv) (.slice agv kgv cgv) (.bool bgu) (.slice agu kgu cgu) gv gu
          exact ⟨rfl, _, _, _, _, _, _, _, _, _, _, rfl, rfl, e2, e4, e1, e3, e5⟩
        · obtain ⟨e1, e2, e3, e4, e5⟩ := two_old hB lwn (Nat.le_refl _) ep2 y1 z1 (.bool bgu) (.slice agu kgu cgu) (.bool bgv) (.slice agv kgv cgv) gu gv
          exact ⟨rfl, _, _, _, _, _, _, _, _, _, _, rfl, rfl, e1, e3, e2, e4, e5⟩
        · obtain ⟨e1, e2, e3, e4, e5⟩ := two_old hB (Nat.le_succ _) (Nat.le_refl _) (Nat.ne_of_gt (Nat.lt_succ_self _)) z2 z1 (.bool bgu) (.slice agu kgu cgu) (.bool bgv) (.slice agv kgv cgv) gu gv
          exact ⟨rfl, _, _, _, _, _, _, _, _, _, _, rfl, rfl, e1, e3, e2, e4, e5⟩
      case rest =>
        obtain ⟨rfl, B10, B11, bgu, agu, kgu, cgu, bgv, agv, kgv, cgv, rfl, rfl, xu, gu, xv, gv, hb⟩ := hcut
        replace ia := ia.below hb (Nat.le_refl _)
        replace ib := ib.below hb (Nat.le_refl _)
        replace gq := gq.below hb (Nat.le_refl _)
        replace gr := gr.below hb (Nat.le_refl _)
        replace xia := xia.on hb; clear pia pia'; obtain ⟨pia, pia'⟩ := xia.cells
        replace xib := xib.on hb; clear pib pib'; obtain ⟨pib, pib'⟩ := xib.cells
        replace xq := xq.on hb; clear pq pq'; obtain ⟨pq, pq'⟩ := xq.cells
        replace xr := xr.on hb; clear pr pr'; obtain ⟨pr, pr'⟩ := xr.cells
        replace hB := hB.trans (hb.mono hB.size)
        clear hb HCS
        obtain ⟨pu, pu'⟩ := xu.cells
        obtain ⟨pv, pv'⟩ := xv.cells
        go_upto_region 12 with fail
        replace hB : Below w.heap.size w wc.drew := hB.drew
        replace ia : Num wc.drew _ _ := ia
        replace ib : Num wc.drew _ _ := ib
        replace gq : Num wc.drew _ _ := gq
        replace gr : Num wc.drew _ _ := gr
        replace gu : Num wc.drew _ _ := gu
        replace gv : Num wc.drew _ _ := gv
        replace xia : Bx wc.drew _ _ _ := xia
        replace xib : Bx wc.drew _ _ _ := xib
        replace xq : Bx wc.drew _ _ _ := xq
        replace xr : Bx wc.drew _ _ _ := xr
        replace xu : Bx wc.drew _ _ _ := xu
        replace xv : Bx wc.drew _ _ _ := xv
        go_region_held3 (fun w' => w'.cell? ⟨w.heap.size, 0, none⟩ = some (.bool bia) ∧ w'.cell? ⟨w.heap.size, 1, none⟩ = some (.slice aia kia cia) ∧ w'.cell? ⟨w.heap.size + 1, 0, none⟩ = some (.bool bib) ∧ w'.cell? ⟨w.heap.size + 1, 1, none⟩ = some (.slice aib kib cib) ∧ w'.cell? ⟨v3.heap.size, 0, none⟩ = some (.bool bgq) ∧ w'.cell? ⟨v3.heap.size, 1, none⟩ = some (.slice agq kgq cgq) ∧ w'.cell? ⟨v3.heap.size + 1, 0, none⟩ = some (.bool bgr) ∧ w'.cell? ⟨v3.heap.size + 1, 1, none⟩ = some (.slice agr kgr cgr) ∧ w'.cell? ⟨B10, 0, none⟩ = some (.bool bgu) ∧ w'.cell? ⟨B10, 1, none⟩ = some (.slice agu kgu cgu) ∧ w'.cell? ⟨B11, 0, none⟩ = some (.bool bgv) ∧ w'.cell? ⟨B11, 1, none⟩ = some (.slice agv kgv cgv))
          (first | exact ⟨pia, pia', pib, pib', pq, pq', pr, pr', pu, pu', pv, pv'⟩ | go_keep)
          (first
          | (go_at_call 25; ((with_reducible refine (HN.out _).mono ?_); rintro e wn ⟨⟨v, rfl, hn⟩, hb⟩; obtain ⟨bgone, agone, kgone, cgone, rfl⟩ := hn.opened; replace ia := ia.below hb (Nat.le_refl _); replace ib := ib.below hb (Nat.le_refl _); replace gq := gq.below hb (Nat.le_refl _); replace gr := gr.below hb (Nat.le_refl _); replace gu := gu.below hb (Nat.le_refl _); replace gv := gv.below hb (Nat.le_refl _); replace xia := xia.on hb; clear pia pia'; obtain ⟨pia, pia'⟩ := xia.cells; replace xib := xib.on hb; clear pib pib'; obtain ⟨pib, pib'⟩ := xib.cells; replace xq := xq.on hb; clear pq pq'; obtain ⟨pq, pq'⟩ := xq.cells; replace xr := xr.on hb; clear pr pr'; obtain ⟨pr, pr'⟩ := xr.cells; replace xu := xu.on hb; clear pu pu'; obtain ⟨pu, pu'⟩ := xu.cells; replace xv := xv.on hb; clear pv pv'; obtain ⟨pv, pv'⟩ := xv.cells; (try replace gone := gone.below hb (Nat.le_refl _)); (try replace gsu := gsu.below hb (Nat.le_refl _)); replace hB := hB.trans (hb.mono hB.size); have gone := hn.num; clear hb hn))
          | (go_at_call 31; ((with_reducible refine (HQ1.out _ _ _ gq gone).mono ?_); rintro e wn ⟨⟨v, rfl, hn⟩, hb⟩; obtain ⟨bgsu, agsu, kgsu, cgsu, rfl⟩ := hn.opened; replace ia := ia.below hb (Nat.le_refl _); replace ib := ib.below hb (Nat.le_refl _); replace gq := gq.below hb (Nat.le_refl _); replace gr := gr.below hb (Nat.le_refl _); replace gu := gu.below hb (Nat.le_refl _); replace gv := gv.below hb (Nat.le_refl _); replace xia := xia.on hb; clear pia pia'; obtain ⟨pia, pia'⟩ := xia.cells; replace xib := xib.on hb; clear pib pib'; obtain ⟨pib, pib'⟩ := xib.cells; replace xq := xq.on hb; clear pq pq'; obtain ⟨pq, pq'⟩ := xq.cells; replace xr := xr.on hb; clear pr pr'; obtain ⟨pr, pr'⟩ := xr.cells; replace xu := xu.on hb; clear pu pu'; obtain ⟨pu, pu'⟩ := xu.cells; replace xv := xv.on hb; clear pv pv'; obtain ⟨pv, pv'⟩ := xv.cells; (try replace gone := gone.below hb (Nat.le_refl _)); (try replace gsu := gsu.below hb (Nat.le_refl _)); replace hB := hB.trans (hb.mono hB.size); have gsu := hn.num; clear hb hn))
          | (go_at_call 30; ((with_reducible refine (HE1.out _ _ _ gu gsu).mono ?_); rintro e wn ⟨rfl, hb⟩; replace ia := ia.below hb (Nat.le_refl _); replace ib := ib.below hb (Nat.le_refl _); replace gq := gq.below hb (Nat.le_refl _); replace gr := gr.below hb (Nat.le_refl _); replace gu := gu.below hb (Nat.le_refl _); replace gv := gv.below hb (Nat.le_refl _); replace xia := xia.on hb; clear pia pia'; obtain ⟨pia, pia'⟩ := xia.cells; replace xib := xib.on hb; clear pib pib'; obtain ⟨pib, pib'⟩ := xib.cells; replace xq := xq.on hb; clear pq pq'; obtain ⟨pq, pq'⟩ := xq.cells; replace xr := xr.on hb; clear pr pr'; obtain ⟨pr, pr'⟩ := xr.cells; replace xu := xu.on hb; clear pu pu'; obtain ⟨pu, pu'⟩ := xu.cells; replace xv := xv.on hb; clear pv pv'; obtain ⟨pv, pv'⟩ := xv.cells; (try replace gone := gone.below hb (Nat.le_refl _)); (try replace gsu := gsu.below hb (Nat.le_refl _)); replace hB := hB.trans (hb.mono hB.size); clear hb))
          | (go_at_call 30; ((with_reducible refine (HE2.out _ _ _ gv gr).mono ?_); rintro e wn ⟨rfl, hb⟩; replace ia := ia.below hb (Nat.le_refl _); replace ib := ib.below hb (Nat.le_refl _); replace gq := gq.below hb (Nat.le_refl _); replace gr := gr.below hb (Nat.le_refl _); replace gu := gu.below hb (Nat.le_refl _); replace gv := gv.below hb (Nat.le_refl _); replace xia := xia.on hb; clear pia pia'; obtain ⟨pia, pia'⟩ := xia.cells; replace xib := xib.on hb; clear pib pib'; obtain ⟨pib, pib'⟩ := xib.cells; replace xq := xq.on hb; clear pq pq'; obtain ⟨pq, pq'⟩ := xq.cells; replace xr := xr.on hb; clear pr pr'; obtain ⟨pr, pr'⟩ := xr.cells; replace xu := xu.on hb; clear pu pu'; obtain ⟨pu, pu'⟩ := xu.cells; replace xv := xv.on hb; clear pv pv'; obtain ⟨pv, pv'⟩ := xv.cells; (try replace gone := gone.below hb (Nat.le_refl _)); (try replace gsu := gsu.below hb (Nat.le_refl _)); replace hB := hB.trans (hb.mono hB.size); clear hb)))
        go_wp2
        go_ret
        exact ⟨rfl, hB⟩

end Go.Proofs.Ytodmbklednehbaa
