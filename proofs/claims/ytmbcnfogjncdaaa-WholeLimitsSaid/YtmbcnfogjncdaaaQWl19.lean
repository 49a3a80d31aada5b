/- A part of the proofs about fractions. -/
import Derived.Test.YtmbcnfogjncdaaaQWl1
import Derived.Test.YtmbcnfogjncdaaaQWl18
set_option maxRecDepth 100000
set_option maxHeartbeats 2000000
namespace Go.Proofs.Ytmbcnfogjncdaaa
open Go.RowKit Wh
theorem AnsW.setB {W : World} {t : Option Int} {cd c : Int} {v : Value} {X : Nat} {C : Array Value} {T : TypeId} (h : AnsW W t cd v c) (hx : Bk W X C T) (hC : noInt C = true) (i : Nat) (u : Value) : AnsW (W.setCell ⟨X, i, none⟩ u) t cd v c := by
 rcases h with ⟨z, h1, h2, h3⟩ | h
 · exact .inl ⟨z, h1, h2, h3.setB hx hC i u⟩
 · exact .inr h
def fit (z : Int) : Option Int := if (dig z.natAbs).length ≤ 1024 then some z else none
theorem vld_len {b : Bool} {l : List Nat} (h : vld b l = true) : l.length ≤ 1024 := by
 unfold vld at h
 split at h
 · rename_i e; rw [e]; exact Nat.zero_le _
 · simp only [Bool.and_eq_true, decide_eq_true_eq] at h; exact h.1
theorem refFits_ok (ba : Bool) (aa : Option Addr) (ka ca : Nat) (hf : ka ≤ 1024) (w : World)  :
  Calls Try.prog 21 #[.agg #[.bool ba, .slice aa ka ca]] w fun e w' => e = .returned (.tuple #[.agg #[.bool ba, .slice aa ka ca], .int .i64 0]) ∧ Below w.heap.size w w' := by
 have hk : ¬ 1024 < (ka : Int) := by omega
 clear hf
 have hB := Below.refl w.heap.size w
 obtain ⟨al, xa, hN⟩ := mk hB #[.bool ba, .slice aa ka ca] 26
 replace hB := hN; clear al hN
 try simp only [World.size_alloc] at xa
 obtain ⟨al, xr, hN⟩ := mk hB #[.bool false, .slice none 0 0] 26
 replace xa := xa.on al; replace hB := hN; clear al hN
 try simp only [World.size_alloc] at xr
 go_enter Try.func21, Try.ntmps21
 have pa := xa.all2
 have pr := xr.all2
 have lta := xa.lt
 have ltr := xr.lt
 go_wp2
 clear lta ltr pa pr xr
 have xr := Bk.new (w.alloc (.cells #[.bool ba, .slice aa ka ca] 26)) #[.bool ba, .slice aa ka ca] 26
 simp only [World.size_alloc] at xr
 have e0 := xr.cell 0
 have e1 := xr.cell 1
 simp only [List.getElem?_toArray, List.getElem?_cons_zero, List.getElem?_cons_succ] at e0 e1
 exact bodyPost_ret (v := .tuple #[.agg #[.bool ba, .slice aa ka ca], .int .i64 0]) (by simp [results, Try.results21, go_sem, e0, e1]) rfl ⟨rfl, ((Below.refl _ w).alloc (Nat.le_refl _) _).alloc (by simp) _⟩
theorem refFits_long (ba : Bool) (aa : Option Addr) (ka ca : Nat) (hf : 1024 < ka) (w : World)  :
  Calls Try.prog 21 #[.agg #[.bool ba, .slice aa ka ca]] w fun e w' => e = .returned (.tuple #[.agg #[.bool false, .slice none 0 0], .int .i64 3]) ∧ Below w.heap.size w w' := by
 have hk : 1024 < (ka : Int) := by omega
 clear hf
 have hB := Below.refl w.heap.size w
 obtain ⟨al, xa, hN⟩ := mk hB #[.bool ba, .slice aa ka ca] 26
 replace hB := hN; clear al hN
 try simp only [World.size_alloc] at xa
 obtain ⟨al, xr, hN⟩ := mk hB #[.bool false, .slice none 0 0] 26
 replace xa := xa.on al; replace hB := hN; clear al hN
 try simp only [World.size_alloc] at xr
 go_enter Try.func21, Try.ntmps21
 have pa := xa.all2
 have pr := xr.all2
 have lta := xa.lt
 have ltr := xr.lt
 go_wp2
 clear lta ltr pa pr xr
 have xr := Bk.new (w.alloc (.cells #[.bool ba, .slice aa ka ca] 26)) #[.bool false, .slice none 0 0] 26
 simp only [World.size_alloc] at xr
 have e0 := xr.cell 0
 have e1 := xr.cell 1
 simp only [List.getElem?_toArray, List.getElem?_cons_zero, List.getElem?_cons_succ] at e0 e1
 exact bodyPost_ret (v := .tuple #[.agg #[.bool false, .slice none 0 0], .int .i64 3]) (by simp [results, Try.results21, go_sem, e0, e1]) rfl ⟨rfl, ((Below.refl _ w).alloc (Nat.le_refl _) _).alloc (by simp) _⟩
theorem refFits_ans (v : Value) (z : Int) (w : World) (h : Num w v z) : Calls Try.prog 21 #[v] w fun e w' => (∃ u c, e = .returned (.tuple #[u, .int .i64 c]) ∧ AnsW w' (fit z) 3 u c) ∧ Below w.heap.size w w' := by
  obtain ⟨b, a, k, c, rfl⟩ := h.opened
  have hk := (num_len h).1
  by_cases hf : k ≤ 1024
  · refine (refFits_ok b a k c hf w).mono ?_
    rintro e w' ⟨rfl, hb⟩
    exact ⟨⟨_, _, rfl, .inl ⟨z, by unfold fit; rw [if_pos (by omega)], rfl, h.below hb (Nat.le_refl _)⟩⟩, hb⟩
  · refine (refFits_long b a k c (by omega) w).mono ?_
    rintro e w' ⟨rfl, hb⟩
    exact ⟨⟨_, _, rfl, .inr ⟨by unfold fit; rw [if_neg (by omega)], rfl, rfl⟩⟩, hb⟩
theorem refAdd_bad1 (ba : Bool) (aa : Option Addr) (ka ca : Nat) (bb : Bool) (ab : Option Addr) (kb cb : Nat) (w : World) (hx : ∀ W, Below w.heap.size w W → Calls Try.prog 20 #[.agg #[.bool ba, .slice aa ka ca]] W fun e w' => e = .returned (.bool false) ∧ Below W.heap.size W w') :
  Calls Try.prog 8 #[.agg #[.bool ba, .slice aa ka ca], .agg #[.bool bb, .slice ab kb cb]] w fun e w' => e = .returned (.tuple #[.agg #[.bool false, .slice none 0 0], .int .i64 2]) ∧ Below w.heap.size w w' := by
 have HX := Lib.hid hx
 clear hx
 have hB := Below.refl w.heap.size w
 obtain ⟨al, xa, hN⟩ := mk hB #[.bool ba, .slice aa ka ca] 26
 replace hB := hN; clear al hN
 try simp only [World.size_alloc] at xa
 obtain ⟨al, xb, hN⟩ := mk hB #[.bool bb, .slice ab kb cb] 26
 replace xa := xa.on al; replace hB := hN; clear al hN
 try simp only [World.size_alloc] at xb
 obtain ⟨al, xr, hN⟩ := mk hB #[.bool false, .slice none 0 0] 26
 replace xa := xa.on al; replace xb := xb.on al; replace hB := hN; clear al hN
 try simp only [World.size_alloc] at xr
 go_enter Try.func8, Try.ntmps8
 have pa := xa.all2
 have pb := xb.all2
 have pr := xr.all2
 have lta := xa.lt
 have ltb := xb.lt
 have ltr := xr.lt
 go_wp2_with fail
 clear lta ltb ltr pa pb pr
 refine (HX.out _ hB).mono ?_
 rintro e w1 ⟨rfl, hb⟩
 replace xa := xa.on hb; replace xb := xb.on hb; replace xr := xr.on hb
 have hz1 := hb.size
 try simp at hz1
 replace hB := hB.trans (hb.mono hB.size); clear hb
 have pa := xa.all2
 have pb := xb.all2
 have pr := xr.all2
 have lta := xa.lt
 have ltb := xb.lt
 have ltr := xr.lt
 go_wp2
 clear lta ltb ltr pa pb pr xa xb
 replace xr : Bk _ (w.heap.size + 1 + 1) #[.bool false, .slice none 0 0] _ := xr.put 0 (.bool false)
 replace hB := hB.setCell (p := ⟨w.heap.size + 1 + 1, 0, none⟩) (by first | omega | (simp; omega) | simp) (.bool false)
 replace xr : Bk _ (w.heap.size + 1 + 1) #[.bool false, .slice none 0 0] _ := xr.put 1 (.slice none 0 0)
 replace hB := hB.setCell (p := ⟨w.heap.size + 1 + 1, 1, none⟩) (by first | omega | (simp; omega) | simp) (.slice none 0 0)
 generalize ((w1.setCell ⟨w.heap.size + 1 + 1, 0, none⟩ (.bool false)).setCell ⟨w.heap.size + 1 + 1, 1, none⟩ (.slice none 0 0)) = WF at *
 have pr := xr.all2
 have ltr := xr.lt
 exact bodyPost_ret (v := .tuple #[.agg #[.bool false, .slice none 0 0], .int .i64 2]) (by simp [results, Try.results8, go_sem, pr]) rfl ⟨rfl, hB⟩
theorem refAdd_bad2 (ba : Bool) (aa : Option Addr) (ka ca : Nat) (bb : Bool) (ab : Option Addr) (kb cb : Nat) (w : World) (hx : ∀ W, Below w.heap.size w W → Calls Try.prog 20 #[.agg #[.bool ba, .slice aa ka ca]] W fun e w' => e = .returned (.bool true) ∧ Below W.heap.size W w') (hv : ∀ W, Below w.heap.size w W → Calls Try.prog 20 #[.agg #[.bool bb, .slice ab kb cb]] W fun e w' => e = .returned (.bool false) ∧ Below W.heap.size W w') :
  Calls Try.prog 8 #[.agg #[.bool ba, .slice aa ka ca], .agg #[.bool bb, .slice ab kb cb]] w fun e w' => e = .returned (.tuple #[.agg #[.bool false, .slice none 0 0], .int .i64 2]) ∧ Below w.heap.size w w' := by
 have HX := Lib.hid hx
 clear hx
 have HV := Lib.hid hv
 clear hv
 have hB := Below.refl w.heap.size w
 obtain ⟨al, xa, hN⟩ := mk hB #[.bool ba, .slice aa ka ca] 26
 replace hB := hN; clear al hN
 try simp only [World.size_alloc] at xa
 obtain ⟨al, xb, hN⟩ := mk hB #[.bool bb, .slice ab kb cb] 26
 replace xa := xa.on al; replace hB := hN; clear al hN
 try simp only [World.size_alloc] at xb
 obtain ⟨al, xr, hN⟩ := mk hB #[.bool false, .slice none 0 0] 26
 replace xa := xa.on al; replace xb := xb.on al; replace hB := hN; clear al hN
 try simp only [World.size_alloc] at xr
 go_enter Try.func8, Try.ntmps8
 have pa := xa.all2
 have pb := xb.all2
 have pr := xr.all2
 have lta := xa.lt
 have ltb := xb.lt
 have ltr := xr.lt
 go_wp2_with fail
 clear lta ltb ltr pa pb pr
 refine (HX.out _ hB).mono ?_
 rintro e w1 ⟨rfl, hb⟩
 replace xa := xa.on hb; replace xb := xb.on hb; replace xr := xr.on hb
 have hz1 := hb.size
 try simp at hz1
 replace hB := hB.trans (hb.mono hB.size); clear hb
 have pa := xa.all2
 have pb := xb.all2
 have pr := xr.all2
 have lta := xa.lt
 have ltb := xb.lt
 have ltr := xr.lt
 go_wp2_with fail
 clear lta ltb ltr pa pb pr
 refine (HV.out _ hB).mono ?_
 rintro e w2 ⟨rfl, hb⟩
 replace xa := xa.on hb; replace xb := xb.on hb; replace xr := xr.on hb
 have hz2 := hb.size
 try simp at hz2
 replace hB := hB.trans (hb.mono hB.size); clear hb
 have pa := xa.all2
 have pb := xb.all2
 have pr := xr.all2
 have lta := xa.lt
 have ltb := xb.lt
 have ltr := xr.lt
 go_wp2
 clear lta ltb ltr pa pb pr xa xb
 replace xr : Bk _ (w.heap.size + 1 + 1) #[.bool false, .slice none 0 0] _ := xr.put 0 (.bool false)
 replace hB := hB.setCell (p := ⟨w.heap.size + 1 + 1, 0, none⟩) (by first | omega | (simp; omega) | simp) (.bool false)
 replace xr : Bk _ (w.heap.size + 1 + 1) #[.bool false, .slice none 0 0] _ := xr.put 1 (.slice none 0 0)
 replace hB := hB.setCell (p := ⟨w.heap.size + 1 + 1, 1, none⟩) (by first | omega | (simp; omega) | simp) (.slice none 0 0)
 generalize ((w2.setCell ⟨w.heap.size + 1 + 1, 0, none⟩ (.bool false)).setCell ⟨w.heap.size + 1 + 1, 1, none⟩ (.slice none 0 0)) = WF at *
 have pr := xr.all2
 have ltr := xr.lt
 exact bodyPost_ret (v := .tuple #[.agg #[.bool false, .slice none 0 0], .int .i64 2]) (by simp [results, Try.results8, go_sem, pr]) rfl ⟨rfl, hB⟩
theorem refAdd_good (ba : Bool) (aa : Option Addr) (ka ca : Nat) (bb : Bool) (ab : Option Addr) (kb cb : Nat) (a b : Int) (sa : (dig a.natAbs).length ≤ 1024) (sb : (dig b.natAbs).length ≤ 1024) (w : World) (na : Num w (.agg #[.bool ba, .slice aa ka ca]) a) (nb : Num w (.agg #[.bool bb, .slice ab kb cb]) b) (hx : ∀ W, Below w.heap.size w W → Calls Try.prog 20 #[.agg #[.bool ba, .slice aa ka ca]] W fun e w' => e = .returned (.bool true) ∧ Below W.heap.size W w') (hv : ∀ W, Below w.heap.size w W → Calls Try.prog 20 #[.agg #[.bool bb, .slice ab kb cb]] W fun e w' => e = .returned (.bool true) ∧ Below W.heap.size W w') :
  Calls Try.prog 8 #[.agg #[.bool ba, .slice aa ka ca], .agg #[.bool bb, .slice ab kb cb]] w fun e w' => (∃ v c, e = .returned (.tuple #[v, .int .i64 c]) ∧ AnsW w' (fit (a + b)) 3 v c) ∧ Below w.heap.size w w' := by
 have HS := Lib.hid (fun W (hW : Below w.heap.size w W) => refSum_num _ _ a b (Nat.le_trans sa (by decide)) (Nat.le_trans sb (by decide)) W (na.below hW (Nat.le_refl _)) (nb.below hW (Nat.le_refl _)))
 have HFt := Lib.hid (fun v W (h : Num W v (a + b)) => refFits_ans v (a + b) W h)
 clear na nb sa sb
 have HX := Lib.hid hx
 clear hx
 have HV := Lib.hid hv
 clear hv
 have hB := Below.refl w.heap.size w
 obtain ⟨al, xa, hN⟩ := mk hB #[.bool ba, .slice aa ka ca] 26
 replace hB := hN; clear al hN
 try simp only [World.size_alloc] at xa
 obtain ⟨al, xb, hN⟩ := mk hB #[.bool bb, .slice ab kb cb] 26
 replace xa := xa.on al; replace hB := hN; clear al hN
 try simp only [World.size_alloc] at xb
 obtain ⟨al, xr, hN⟩ := mk hB #[.bool false, .slice none 0 0] 26
 replace xa := xa.on al; replace xb := xb.on al; replace hB := hN; clear al hN
 try simp only [World.size_alloc] at xr
 go_enter Try.func8, Try.ntmps8
 have pa := xa.all2
 have pb := xb.all2
 have pr := xr.all2
 have lta := xa.lt
 have ltb := xb.lt
 have ltr := xr.lt
 go_wp2_with fail
 clear lta ltb ltr pa pb pr
 refine (HX.out _ hB).mono ?_
 rintro e w1 ⟨rfl, hb⟩
 replace xa := xa.on hb; replace xb := xb.on hb; replace xr := xr.on hb
 have hz1 := hb.size
 try simp at hz1
 replace hB := hB.trans (hb.mono hB.size); clear hb
 have pa := xa.all2
 have pb := xb.all2
 have pr := xr.all2
 have lta := xa.lt
 have ltb := xb.lt
 have ltr := xr.lt
 go_wp2_with fail
 clear lta ltb ltr pa pb pr
 refine (HV.out _ hB).mono ?_
 rintro e w2 ⟨rfl, hb⟩
 replace xa := xa.on hb; replace xb := xb.on hb; replace xr := xr.on hb
 have hz2 := hb.size
 try simp at hz2
 replace hB := hB.trans (hb.mono hB.size); clear hb
 have pa := xa.all2
 have pb := xb.all2
 have pr := xr.all2
 have lta := xa.lt
 have ltb := xb.lt
 have ltr := xr.lt
 go_wp2_with fail
 clear lta ltb ltr pa pb pr
 refine (HS.out _ hB).mono ?_
 rintro e w3 ⟨⟨v2, rfl, g2⟩, hb⟩
 replace xa := xa.on hb; replace xb := xb.on hb; replace xr := xr.on hb
 have hz3 := hb.size
 try simp at hz3
 replace hB := hB.trans (hb.mono hB.size); clear hb
 have pa := xa.all2
 have pb := xb.all2
 have pr := xr.all2
 have lta := xa.lt
 have ltb := xb.lt
 have ltr := xr.lt
 go_wp2_with fail
 clear lta ltb ltr pa pb pr
 refine (HFt.out _ _ g2).mono ?_
 rintro e w4 ⟨⟨v3, c3, rfl, gy⟩, hb⟩
 clear g2
 obtain ⟨bc, ac, kc, cc, rfl⟩ := gy.opened
 replace xa := xa.on hb; replace xb := xb.on hb; replace xr := xr.on hb; replace hB := hB.trans (hb.mono hB.size); clear hb
 have pa := xa.all2
 have pb := xb.all2
 have pr := xr.all2
 have lta := xa.lt
 have ltb := xb.lt
 have ltr := xr.lt
 go_wp2
 clear lta ltb ltr pa pb pr xa xb; replace gy := gy.setB xr rfl 0 (.bool bc)
 replace xr : Bk _ (w.heap.size + 1 + 1) #[.bool bc, .slice none 0 0] _ := xr.put 0 (.bool bc)
 replace hB := hB.setCell (p := ⟨w.heap.size + 1 + 1, 0, none⟩) (by first | omega | (simp; omega) | simp) (.bool bc); replace gy := gy.setB xr rfl 1 (.slice ac kc cc)
 replace xr : Bk _ (w.heap.size + 1 + 1) #[.bool bc, .slice ac kc cc] _ := xr.put 1 (.slice ac kc cc)
 replace hB := hB.setCell (p := ⟨w.heap.size + 1 + 1, 1, none⟩) (by first | omega | (simp; omega) | simp) (.slice ac kc cc)
 generalize ((w4.setCell ⟨w.heap.size + 1 + 1, 0, none⟩ (.bool bc)).setCell ⟨w.heap.size + 1 + 1, 1, none⟩ (.slice ac kc cc)) = WF at *
 have pr := xr.all2
 have ltr := xr.lt
 exact bodyPost_ret (v := .tuple #[.agg #[.bool bc, .slice ac kc cc], .int .i64 c3]) (by simp [results, Try.results8, go_sem, pr]) rfl ⟨⟨_, _, rfl, gy⟩, hB⟩
theorem refSub_bad1 (ba : Bool) (aa : Option Addr) (ka ca : Nat) (bb : Bool) (ab : Option Addr) (kb cb : Nat) (w : World) (hx : ∀ W, Below w.heap.size w W → Calls Try.prog 20 #[.agg #[.bool ba, .slice aa ka ca]] W fun e w' => e = .returned (.bool false) ∧ Below W.heap.size W w') :
  Calls Try.prog 9 #[.agg #[.bool ba, .slice aa ka ca], .agg #[.bool bb, .slice ab kb cb]] w fun e w' => e = .returned (.tuple #[.agg #[.bool false, .slice none 0 0], .int .i64 2]) ∧ Below w.heap.size w w' := by
 have HX := Lib.hid hx
 clear hx
 have hB := Below.refl w.heap.size w
 obtain ⟨al, xa, hN⟩ := mk hB #[.bool ba, .slice aa ka ca] 26
 replace hB := hN; clear al hN
 try simp only [World.size_alloc] at xa
 obtain ⟨al, xb, hN⟩ := mk hB #[.bool bb, .slice ab kb cb] 26
 replace xa := xa.on al; replace hB := hN; clear al hN
 try simp only [World.size_alloc] at xb
 obtain ⟨al, xr, hN⟩ := mk hB #[.bool false, .slice none 0 0] 26
 replace xa := xa.on al; replace xb := xb.on al; replace hB := hN; clear al hN
 try simp only [World.size_alloc] at xr
 go_enter Try.func9, Try.ntmps9
 have pa := xa.all2
 have pb := xb.all2
 have pr := xr.all2
 have lta := xa.lt
 have ltb := xb.lt
 have ltr := xr.lt
 go_wp2_with fail
 clear lta ltb ltr pa pb pr
 refine (HX.out _ hB).mono ?_
 rintro e w1 ⟨rfl, hb⟩
 replace xa := xa.on hb; replace xb := xb.on hb; replace xr := xr.on hb
 have hz1 := hb.size
 try simp at hz1
 replace hB := hB.trans (hb.mono hB.size); clear hb
 have pa := xa.all2
 have pb := xb.all2
 have pr := xr.all2
 have lta := xa.lt
 have ltb := xb.lt
 have ltr := xr.lt
 go_wp2
 clear lta ltb ltr pa pb pr xa xb
 replace xr : Bk _ (w.heap.size + 1 + 1) #[.bool false, .slice none 0 0] _ := xr.put 0 (.bool false)
 replace hB := hB.setCell (p := ⟨w.heap.size + 1 + 1, 0, none⟩) (by first | omega | (simp; omega) | simp) (.bool false)
 replace xr : Bk _ (w.heap.size + 1 + 1) #[.bool false, .slice none 0 0] _ := xr.put 1 (.slice none 0 0)
 replace hB := hB.setCell (p := ⟨w.heap.size + 1 + 1, 1, none⟩) (by first | omega | (simp; omega) | simp) (.slice none 0 0)
 generalize ((w1.setCell ⟨w.heap.size + 1 + 1, 0, none⟩ (.bool false)).setCell ⟨w.heap.size + 1 + 1, 1, none⟩ (.slice none 0 0)) = WF at *
 have pr := xr.all2
 have ltr := xr.lt
 exact bodyPost_ret (v := .tuple #[.agg #[.bool false, .slice none 0 0], .int .i64 2]) (by simp [results, Try.results9, go_sem, pr]) rfl ⟨rfl, hB⟩
theorem refSub_bad2 (ba : Bool) (aa : Option Addr) (ka ca : Nat) (bb : Bool) (ab : Option Addr) (kb cb : Nat) (w : World) (hx : ∀ W, Below w.heap.size w W → Calls Try.prog 20 #[.agg #[.bool ba, .slice aa ka ca]] W fun e w' => e = .returned (.bool true) ∧ Below W.heap.size W w') (hv : ∀ W, Below w.heap.size w W → Calls Try.prog 20 #[.agg #[.bool bb, .slice ab kb cb]] W fun e w' => e = .returned (.bool false) ∧ Below W.heap.size W w') :
  Calls Try.prog 9 #[.agg #[.bool ba, .slice aa ka ca], .agg #[.bool bb, .slice ab kb cb]] w fun e w' => e = .returned (.tuple #[.agg #[.bool false, .slice none 0 0], .int .i64 2]) ∧ Below w.heap.size w w' := by
 have HX := Lib.hid hx
 clear hx
 have HV := Lib.hid hv
 clear hv
 have hB := Below.refl w.heap.size w
 obtain ⟨al, xa, hN⟩ := mk hB #[.bool ba, .slice aa ka ca] 26
 replace hB := hN; clear al hN
 try simp only [World.size_alloc] at xa
 obtain ⟨al, xb, hN⟩ := mk hB #[.bool bb, .slice ab kb cb] 26
 replace xa := xa.on al; replace hB := hN; clear al hN
 try simp only [World.size_alloc] at xb
 obtain ⟨al, xr, hN⟩ := mk hB #[.bool false, .slice none 0 0] 26
 replace xa := xa.on al; replace xb := xb.on al; replace hB := hN; clear al hN
 try simp only [World.size_alloc] at xr
 go_enter Try.func9, Try.ntmps9
 have pa := xa.all2
 have pb := xb.all2
 have pr := xr.all2
 have lta := xa.lt
 have ltb := xb.lt
 have ltr := xr.lt
 go_wp2_with fail
 clear lta ltb ltr pa pb pr
 refine (HX.out _ hB).mono ?_
 rintro e w1 ⟨rfl, hb⟩
 replace xa := xa.on hb; replace xb := xb.on hb; replace xr := xr.on hb
 have hz1 := hb.size
 try simp at hz1
 replace hB := hB.trans (hb.mono hB.size); clear hb
 have pa := xa.all2
 have pb := xb.all2
 have pr := xr.all2
 have lta := xa.lt
 have ltb := xb.lt
 have ltr := xr.lt
 go_wp2_with fail
 clear lta ltb ltr pa pb pr
 refine (HV.out _ hB).mono ?_
 rintro e w2 ⟨rfl, hb⟩
 replace xa := xa.on hb; replace xb := xb.on hb; replace xr := xr.on hb
 have hz2 := hb.size
 try simp at hz2
 replace hB := hB.trans (hb.mono hB.size); clear hb
 have pa := xa.all2
 have pb := xb.all2
 have pr := xr.all2
 have lta := xa.lt
 have ltb := xb.lt
 have ltr := xr.lt
 go_wp2
 clear lta ltb ltr pa pb pr xa xb
 replace xr : Bk _ (w.heap.size + 1 + 1) #[.bool false, .slice none 0 0] _ := xr.put 0 (.bool false)
 replace hB := hB.setCell (p := ⟨w.heap.size + 1 + 1, 0, none⟩) (by first | omega | (simp; omega) | simp) (.bool false)
 replace xr : Bk _ (w.heap.size + 1 + 1) #[.bool false, .slice none 0 0] _ := xr.put 1 (.slice none 0 0)
 replace hB := hB.setCell (p := ⟨w.heap.size + 1 + 1, 1, none⟩) (by first | omega | (simp; omega) | simp) (.slice none 0 0)
 generalize ((w2.setCell ⟨w.heap.size + 1 + 1, 0, none⟩ (.bool false)).setCell ⟨w.heap.size + 1 + 1, 1, none⟩ (.slice none 0 0)) = WF at *
 have pr := xr.all2
 have ltr := xr.lt
 exact bodyPost_ret (v := .tuple #[.agg #[.bool false, .slice none 0 0], .int .i64 2]) (by simp [results, Try.results9, go_sem, pr]) rfl ⟨rfl, hB⟩
theorem refSub_good (ba : Bool) (aa : Option Addr) (ka ca : Nat) (bb : Bool) (ab : Option Addr) (kb cb : Nat) (a b : Int) (sa : (dig a.natAbs).length ≤ 1024) (sb : (dig b.natAbs).length ≤ 1024) (w : World) (na : Num w (.agg #[.bool ba, .slice aa ka ca]) a) (nb : Num w (.agg #[.bool bb, .slice ab kb cb]) b) (hx : ∀ W, Below w.heap.size w W → Calls Try.prog 20 #[.agg #[.bool ba, .slice aa ka ca]] W fun e w' => e = .returned (.bool true) ∧ Below W.heap.size W w') (hv : ∀ W, Below w.heap.size w W → Calls Try.prog 20 #[.agg #[.bool bb, .slice ab kb cb]] W fun e w' => e = .returned (.bool true) ∧ Below W.heap.size W w') :
  Calls Try.prog 9 #[.agg #[.bool ba, .slice aa ka ca], .agg #[.bool bb, .slice ab kb cb]] w fun e w' => (∃ v c, e = .returned (.tuple #[v, .int .i64 c]) ∧ AnsW w' (fit (a - b)) 3 v c) ∧ Below w.heap.size w w' := by
 have HN := Lib.hid (fun W (hW : Below w.heap.size w W) => refNeg_num _ b W (nb.below hW (Nat.le_refl _)))
 have HS := Lib.hid (fun v W (h : Num W v (-b)) (hW : Below w.heap.size w W) => refSum_num _ v a (-b) (Nat.le_trans sa (by decide)) (by rw [Int.natAbs_neg]; exact Nat.le_trans sb (by decide)) W (na.below hW (Nat.le_refl _)) h)
 rw [← Int.sub_eq_add_neg] at HS
 have HFt := Lib.hid (fun v W (h : Num W v (a - b)) => refFits_ans v (a - b) W h)
 clear na nb sa sb
 have HX := Lib.hid hx
 clear hx
 have HV := Lib.hid hv
 clear hv
 have hB := Below.refl w.heap.size w
 obtain ⟨al, xa, hN⟩ := mk hB #[.bool ba, .slice aa ka ca] 26
 replace hB := hN; clear al hN
 try simp only [World.size_alloc] at xa
 obtain ⟨al, xb, hN⟩ := mk hB #[.bool bb, .slice ab kb cb] 26
 replace xa := xa.on al; replace hB := hN; clear al hN
 try simp only [World.size_alloc] at xb
 obtain ⟨al, xr, hN⟩ := mk hB #[.bool false, .slice none 0 0] 26
 replace xa := xa.on al; replace xb := xb.on al; replace hB := hN; clear al hN
 try simp only [World.size_alloc] at xr
 go_enter Try.func9, Try.ntmps9
 have pa := xa.all2
 have pb := xb.all2
 have pr := xr.all2
 have lta := xa.lt
 have ltb := xb.lt
 have ltr := xr.lt
 go_wp2_with fail
 clear lta ltb ltr pa pb pr
 refine (HX.out _ hB).mono ?_
 rintro e w1 ⟨rfl, hb⟩
 replace xa := xa.on hb; replace xb := xb.on hb; replace xr := xr.on hb
 have hz1 := hb.size
 try simp at hz1
 replace hB := hB.trans (hb.mono hB.size); clear hb
 have pa := xa.all2
 have pb := xb.all2
 have pr := xr.all2
 have lta := xa.lt
 have ltb := xb.lt
 have ltr := xr.lt
 go_wp2_with fail
 clear lta ltb ltr pa pb pr
 refine (HV.out _ hB).mono ?_
 rintro e w2 ⟨rfl, hb⟩
 replace xa := xa.on hb; replace xb := xb.on hb; replace xr := xr.on hb
 have hz2 := hb.size
 try simp at hz2
 replace hB := hB.trans (hb.mono hB.size); clear hb
 have pa := xa.all2
 have pb := xb.all2
 have pr := xr.all2
 have lta := xa.lt
 have ltb := xb.lt
 have ltr := xr.lt
 go_wp2_with fail
 clear lta ltb ltr pa pb pr
 obtain ⟨wa, hwa⟩ : ∃ W, W = w2 := ⟨_, rfl⟩
 rw [← hwa] at hB xa xb xr ⊢
 clear hwa
 have qa := xa.lt
 have qb := xb.lt
 obtain ⟨ga0, ga1⟩ := xa.cells2
 obtain ⟨gb0, gb1⟩ := xb.cells2
 refine wp_region_noPanic ?_
 refine wp_region_held_drew (S := (fun w' => w'.cell? ⟨w.heap.size, 0, none⟩ = some (.bool ba) ∧ w'.cell? ⟨w.heap.size, 1, none⟩ = some (.slice aa ka ca) ∧ w'.cell? ⟨w.heap.size + 1, 0, none⟩ = some (.bool bb) ∧ w'.cell? ⟨w.heap.size + 1, 1, none⟩ = some (.slice ab kb cb))) (by kernel_rfl) ⟨ga0, ga1, gb0, gb1⟩ (fun hR0 => ?_)
 change wpAnyH _ _ _ _ _ 9 #[false, false, false, false, false, false, false, false, false] _ _
 clear ga0 ga1 gb0 gb1
 refine tz 0 ?_
 (try simp only [Act.put, List.setIfInBounds_toArray, List.set])
 refine tz 1 ?_
 (try simp only [Act.put, List.setIfInBounds_toArray, List.set])
 refine rz 2 fun K hK => ?_
 go_simp
 go_at_call 23; have hBd := hB.drew; refine (HN.out _ hBd).mono ?_; rintro e w3 ⟨⟨v1, rfl, g1⟩, hb⟩; replace hb := (Below.refl wa.heap.size wa).drew.trans hb; replace xa := xa.on hb; replace xb := xb.on hb; replace xr := xr.on hb; replace hB := hB.trans (hb.mono hB.size); have hz3 := hb.size
 (try go_wp2_with fail)
 refine hK.out _ _ (⟨(hb.cell (p := ⟨w.heap.size, 0, none⟩) qa).trans hR0.1, (hb.cell (p := ⟨w.heap.size, 1, none⟩) qa).trans hR0.2.1, (hb.cell (p := ⟨w.heap.size + 1, 0, none⟩) qb).trans hR0.2.2.1, (hb.cell (p := ⟨w.heap.size + 1, 1, none⟩) qb).trans hR0.2.2.2⟩) (fun hR1 => ?_)
 clear hK K hR0
 (try simp only [List.setIfInBounds_toArray, List.set])
 replace qa := Nat.lt_of_lt_of_le qa hz3; replace qb := Nat.lt_of_lt_of_le qb hz3; clear hb hBd
 refine rz 3 fun K hK => ?_
 go_simp
 go_at_call 22; have hBd := hB; refine (HS.out _ _ g1 hBd).mono ?_; rintro e w4 ⟨⟨v2, rfl, g2⟩, hb⟩; replace xa := xa.on hb; replace xb := xb.on hb; replace xr := xr.on hb; replace g1 := g1.on hb; replace hB := hB.trans (hb.mono hB.size); have hz4 := hb.size
 (try go_wp2_with fail)
 refine hK.out _ _ (⟨(hb.cell (p := ⟨w.heap.size, 0, none⟩) qa).trans hR1.1, (hb.cell (p := ⟨w.heap.size, 1, none⟩) qa).trans hR1.2.1, (hb.cell (p := ⟨w.heap.size + 1, 0, none⟩) qb).trans hR1.2.2.1, (hb.cell (p := ⟨w.heap.size + 1, 1, none⟩) qb).trans hR1.2.2.2⟩) (fun hR2 => ?_)
 clear hK K hR1
 (try simp only [List.setIfInBounds_toArray, List.set])
 replace qa := Nat.lt_of_lt_of_le qa hz4; replace qb := Nat.lt_of_lt_of_le qb hz4; clear hb hBd
 refine rz 4 fun K hK => ?_
 go_simp
 go_at_call 21; have hBd := hB; refine (HFt.out _ _ g2).mono ?_; rintro e w5 ⟨⟨v3, c3, rfl, gy⟩, hb⟩; obtain ⟨bc, ac, kc, cc, rfl⟩ := gy.opened; replace xa := xa.on hb; replace xb := xb.on hb; replace xr := xr.on hb; replace g1 := g1.on hb; replace g2 := g2.on hb; replace hB := hB.trans (hb.mono hB.size); have hz5 := hb.size
 (try go_wp2_with fail)
 refine hK.out _ _ (⟨(hb.cell (p := ⟨w.heap.size, 0, none⟩) qa).trans hR2.1, (hb.cell (p := ⟨w.heap.size, 1, none⟩) qa).trans hR2.2.1, (hb.cell (p := ⟨w.heap.size + 1, 0, none⟩) qb).trans hR2.2.2.1, (hb.cell (p := ⟨w.heap.size + 1, 1, none⟩) qb).trans hR2.2.2.2⟩) (fun hR3 => ?_)
 clear hK K hR2
 (try simp only [List.setIfInBounds_toArray, List.set])
 replace qa := Nat.lt_of_lt_of_le qa hz5; replace qb := Nat.lt_of_lt_of_le qb hz5; clear hb hBd
 refine tz 5 ?_
 (try simp only [Act.put, List.setIfInBounds_toArray, List.set])
 refine tz 6 ?_
 (try simp only [Act.put, List.setIfInBounds_toArray, List.set])
 have pr := xr.all2
 refine rz 7 fun K hK => ?_
 go_simp
 refine hK.out _ _ (⟨cell_store hR3.1 (by omega), cell_store hR3.2.1 (by omega), cell_store hR3.2.2.1 (by omega), cell_store hR3.2.2.2 (by omega)⟩) (fun hR4 => ?_)
 clear hK K hR3
 (try simp only [List.setIfInBounds_toArray, List.set])
 clear pr; replace g1 := g1.setB xr rfl 0 (.bool bc); replace g2 := g2.setB xr rfl 0 (.bool bc); replace gy := gy.setB xr rfl 0 (.bool bc); replace xa := xa.put_other (w.heap.size + 1 + 1) 0 (.bool bc) (by omega); replace xb := xb.put_other (w.heap.size + 1 + 1) 0 (.bool bc) (by omega)
 replace xr : Bk _ (w.heap.size + 1 + 1) #[.bool bc, .slice none 0 0] _ := xr.put 0 (.bool bc)
 replace hB := hB.setCell (p := ⟨w.heap.size + 1 + 1, 0, none⟩) (by first | omega | (simp; omega) | simp) (.bool bc); replace g1 := g1.setB xr rfl 1 (.slice ac kc cc); replace g2 := g2.setB xr rfl 1 (.slice ac kc cc); replace gy := gy.setB xr rfl 1 (.slice ac kc cc); replace xa := xa.put_other (w.heap.size + 1 + 1) 1 (.slice ac kc cc) (by omega); replace xb := xb.put_other (w.heap.size + 1 + 1) 1 (.slice ac kc cc) (by omega)
 replace xr : Bk _ (w.heap.size + 1 + 1) #[.bool bc, .slice ac kc cc] _ := xr.put 1 (.slice ac kc cc)
 replace hB := hB.setCell (p := ⟨w.heap.size + 1 + 1, 1, none⟩) (by first | omega | (simp; omega) | simp) (.slice ac kc cc)
 refine tz 8 ?_
 (try simp only [Act.put, List.setIfInBounds_toArray, List.set])
 refine wpAnyH_done (by kernel_rfl) ?_ _
 refine NoPanic.normal ?_
 clear hR4 qa qb g1 g2 xa xb
 have pr := xr.all2
 have ltr := xr.lt
 go_wp2
 clear ltr pr
 generalize ((w5.setCell ⟨w.heap.size + 1 + 1, 0, none⟩ (.bool bc)).setCell ⟨w.heap.size + 1 + 1, 1, none⟩ (.slice ac kc cc)) = WF at *
 have pr := xr.all2
 have ltr := xr.lt
 exact bodyPost_ret (v := .tuple #[.agg #[.bool bc, .slice ac kc cc], .int .i64 c3]) (by simp [results, Try.results9, go_sem, pr]) rfl ⟨⟨_, _, rfl, gy⟩, hB⟩
theorem refMul_bad1 (ba : Bool) (aa : Option Addr) (ka ca : Nat) (bb : Bool) (ab : Option Addr) (kb cb : Nat) (w : World) (hx : ∀ W, Below w.heap.size w W → Calls Try.prog 20 #[.agg #[.bool ba, .slice aa ka ca]] W fun e w' => e = .returned (.bool false) ∧ Below W.heap.size W w') :
  Calls Try.prog 10 #[.agg #[.bool ba, .slice aa ka ca], .agg #[.bool bb, .slice ab kb cb]] w fun e w' => e = .returned (.tuple #[.agg #[.bool false, .slice none 0 0], .int .i64 2]) ∧ Below w.heap.size w w' := by
 have HX := Lib.hid hx
 clear hx
 have hB := Below.refl w.heap.size w
 obtain ⟨al, xa, hN⟩ := mk hB #[.bool ba, .slice aa ka ca] 26
 replace hB := hN; clear al hN
 try simp only [World.size_alloc] at xa
 obtain ⟨al, xb, hN⟩ := mk hB #[.bool bb, .slice ab kb cb] 26
 replace xa := xa.on al; replace hB := hN; clear al hN
 try simp only [World.size_alloc] at xb
 obtain ⟨al, xr, hN⟩ := mk hB #[.bool false, .slice none 0 0] 26
 replace xa := xa.on al; replace xb := xb.on al; replace hB := hN; clear al hN
 try simp only [World.size_alloc] at xr
 go_enter Try.func10, Try.ntmps10
 have pa := xa.all2
 have pb := xb.all2
 have pr := xr.all2
 have lta := xa.lt
 have ltb := xb.lt
 have ltr := xr.lt
 go_wp2_with fail
 clear lta ltb ltr pa pb pr
 refine (HX.out _ hB).mono ?_
 rintro e w1 ⟨rfl, hb⟩
 replace xa := xa.on hb; replace xb := xb.on hb; replace xr := xr.on hb
 have hz1 := hb.size
 try simp at hz1
 replace hB := hB.trans (hb.mono hB.size); clear hb
 have pa := xa.all2
 have pb := xb.all2
 have pr := xr.all2
 have lta := xa.lt
 have ltb := xb.lt
 have ltr := xr.lt
 go_wp2
 clear lta ltb ltr pa pb pr xa xb
 replace xr : Bk _ (w.heap.size + 1 + 1) #[.bool false, .slice none 0 0] _ := xr.put 0 (.bool false)
 replace hB := hB.setCell (p := ⟨w.heap.size + 1 + 1, 0, none⟩) (by first | omega | (simp; omega) | simp) (.bool false)
 replace xr : Bk _ (w.heap.size + 1 + 1) #[.bool false, .slice none 0 0] _ := xr.put 1 (.slice none 0 0)
 replace hB := hB.setCell (p := ⟨w.heap.size + 1 + 1, 1, none⟩) (by first | omega | (simp; omega) | simp) (.slice none 0 0)
 generalize ((w1.setCell ⟨w.heap.size + 1 + 1, 0, none⟩ (.bool false)).setCell ⟨w.heap.size + 1 + 1, 1, none⟩ (.slice none 0 0)) = WF at *
 have pr := xr.all2
 have ltr := xr.lt
 exact bodyPost_ret (v := .tuple #[.agg #[.bool false, .slice none 0 0], .int .i64 2]) (by simp [results, Try.results10, go_sem, pr]) rfl ⟨rfl, hB⟩
theorem refMul_bad2 (ba : Bool) (aa : Option Addr) (ka ca : Nat) (bb : Bool) (ab : Option Addr) (kb cb : Nat) (w : World) (hx : ∀ W, Below w.heap.size w W → Calls Try.prog 20 #[.agg #[.bool ba, .slice aa ka ca]] W fun e w' => e = .returned (.bool true) ∧ Below W.heap.size W w') (hv : ∀ W, Below w.heap.size w W → Calls Try.prog 20 #[.agg #[.bool bb, .slice ab kb cb]] W fun e w' => e = .returned (.bool false) ∧ Below W.heap.size W w') :
  Calls Try.prog 10 #[.agg #[.bool ba, .slice aa ka ca], .agg #[.bool bb, .slice ab kb cb]] w fun e w' => e = .returned (.tuple #[.agg #[.bool false, .slice none 0 0], .int .i64 2]) ∧ Below w.heap.size w w' := by
 have HX := Lib.hid hx
 clear hx
 have HV := Lib.hid hv
 clear hv
 have hB := Below.refl w.heap.size w
 obtain ⟨al, xa, hN⟩ := mk hB #[.bool ba, .slice aa ka ca] 26
 replace hB := hN; clear al hN
 try simp only [World.size_alloc] at xa
 obtain ⟨al, xb, hN⟩ := mk hB #[.bool bb, .slice ab kb cb] 26
 replace xa := xa.on al; replace hB := hN; clear al hN
 try simp only [World.size_alloc] at xb
 obtain ⟨al, xr, hN⟩ := mk hB #[.bool false, .slice none 0 0] 26
 replace xa := xa.on al; replace xb := xb.on al; replace hB := hN; clear al hN
 try simp only [World.size_alloc] at xr
 go_enter Try.func10, Try.ntmps10
 have pa := xa.all2
 have pb := xb.all2
 have pr := xr.all2
 have lta := xa.lt
 have ltb := xb.lt
 have ltr := xr.lt
 go_wp2_with fail
 clear lta ltb ltr pa pb pr
 refine (HX.out _ hB).mono ?_
 rintro e w1 ⟨rfl, hb⟩
 replace xa := xa.on hb; replace xb := xb.on hb; replace xr := xr.on hb
 have hz1 := hb.size
 try simp at hz1
 replace hB := hB.trans (hb.mono hB.size); clear hb
 have pa := xa.all2
 have pb := xb.all2
 have pr := xr.all2
 have lta := xa.lt
 have ltb := xb.lt
 have ltr := xr.lt
 go_wp2_with fail
 clear lta ltb ltr pa pb pr
 refine (HV.out _ hB).mono ?_
 rintro e w2 ⟨rfl, hb⟩
 replace xa := xa.on hb; replace xb := xb.on hb; replace xr := xr.on hb
 have hz2 := hb.size
 try simp at hz2
 replace hB := hB.trans (hb.mono hB.size); clear hb
 have pa := xa.all2
 have pb := xb.all2
 have pr := xr.all2
 have lta := xa.lt
 have ltb := xb.lt
 have ltr := xr.lt
 go_wp2
 clear lta ltb ltr pa pb pr xa xb
 replace xr : Bk _ (w.heap.size + 1 + 1) #[.bool false, .slice none 0 0] _ := xr.put 0 (.bool false)
 replace hB := hB.setCell (p := ⟨w.heap.size + 1 + 1, 0, none⟩) (by first | omega | (simp; omega) | simp) (.bool false)
 replace xr : Bk _ (w.heap.size + 1 + 1) #[.bool false, .slice none 0 0] _ := xr.put 1 (.slice none 0 0)
 replace hB := hB.setCell (p := ⟨w.heap.size + 1 + 1, 1, none⟩) (by first | omega | (simp; omega) | simp) (.slice none 0 0)
 generalize ((w2.setCell ⟨w.heap.size + 1 + 1, 0, none⟩ (.bool false)).setCell ⟨w.heap.size + 1 + 1, 1, none⟩ (.slice none 0 0)) = WF at *
 have pr := xr.all2
 have ltr := xr.lt
 exact bodyPost_ret (v := .tuple #[.agg #[.bool false, .slice none 0 0], .int .i64 2]) (by simp [results, Try.results10, go_sem, pr]) rfl ⟨rfl, hB⟩
theorem refMul_good (ba : Bool) (aa : Option Addr) (ka ca : Nat) (bb : Bool) (ab : Option Addr) (kb cb : Nat) (a b : Int) (sa : (dig a.natAbs).length ≤ 1024) (sb : (dig b.natAbs).length ≤ 1024) (w : World) (na : Num w (.agg #[.bool ba, .slice aa ka ca]) a) (nb : Num w (.agg #[.bool bb, .slice ab kb cb]) b) (hx : ∀ W, Below w.heap.size w W → Calls Try.prog 20 #[.agg #[.bool ba, .slice aa ka ca]] W fun e w' => e = .returned (.bool true) ∧ Below W.heap.size W w') (hv : ∀ W, Below w.heap.size w W → Calls Try.prog 20 #[.agg #[.bool bb, .slice ab kb cb]] W fun e w' => e = .returned (.bool true) ∧ Below W.heap.size W w') :
  Calls Try.prog 10 #[.agg #[.bool ba, .slice aa ka ca], .agg #[.bool bb, .slice ab kb cb]] w fun e w' => (∃ v c, e = .returned (.tuple #[v, .int .i64 c]) ∧ AnsW w' (fit (a * b)) 3 v c) ∧ Below w.heap.size w w' := by
 have HS := Lib.hid (fun W (hW : Below w.heap.size w W) => refProduct_num _ _ a b (Nat.le_trans sa (by decide)) (Nat.le_trans sb (by decide)) W (na.below hW (Nat.le_refl _)) (nb.below hW (Nat.le_refl _)))
 have HFt := Lib.hid (fun v W (h : Num W v (a * b)) => refFits_ans v (a * b) W h)
 clear na nb sa sb
 have HX := Lib.hid hx
 clear hx
 have HV := Lib.hid hv
 clear hv
 have hB := Below.refl w.heap.size w
 obtain ⟨al, xa, hN⟩ := mk hB #[.bool ba, .slice aa ka ca] 26
 replace hB := hN; clear al hN
 try simp only [World.size_alloc] at xa
 obtain ⟨al, xb, hN⟩ := mk hB #[.bool bb, .slice ab kb cb] 26
 replace xa := xa.on al; replace hB := hN; clear al hN
 try simp only [World.size_alloc] at xb
 obtain ⟨al, xr, hN⟩ := mk hB #[.bool false, .slice none 0 0] 26
 replace xa := xa.on al; replace xb := xb.on al; replace hB := hN; clear al hN
 try simp only [World.size_alloc] at xr
 go_enter Try.func10, Try.ntmps10
 have pa := xa.all2
 have pb := xb.all2
 have pr := xr.all2
 have lta := xa.lt
 have ltb := xb.lt
 have ltr := xr.lt
 go_wp2_with fail
 clear lta ltb ltr pa pb pr
 refine (HX.out _ hB).mono ?_
 rintro e w1 ⟨rfl, hb⟩
 replace xa := xa.on hb; replace xb := xb.on hb; replace xr := xr.on hb
 have hz1 := hb.size
 try simp at hz1
 replace hB := hB.trans (hb.mono hB.size); clear hb
 have pa := xa.all2
 have pb := xb.all2
 have pr := xr.all2
 have lta := xa.lt
 have ltb := xb.lt
 have ltr := xr.lt
 go_wp2_with fail
 clear lta ltb ltr pa pb pr
 refine (HV.out _ hB).mono ?_
 rintro e w2 ⟨rfl, hb⟩
 replace xa := xa.on hb; replace xb := xb.on hb; replace xr := xr.on hb
 have hz2 := hb.size
 try simp at hz2
 replace hB := hB.trans (hb.mono hB.size); clear hb
 have pa := xa.all2
 have pb := xb.all2
 have pr := xr.all2
 have lta := xa.lt
 have ltb := xb.lt
 have ltr := xr.lt
 go_wp2_with fail
 clear lta ltb ltr pa pb pr
 refine (HS.out _ hB).mono ?_
 rintro e w3 ⟨⟨v2, rfl, g2⟩, hb⟩
 replace xa := xa.on hb; replace xb := xb.on hb; replace xr := xr.on hb
 have hz3 := hb.size
 try simp at hz3
 replace hB := hB.trans (hb.mono hB.size); clear hb
 have pa := xa.all2
 have pb := xb.all2
 have pr := xr.all2
 have lta := xa.lt
 have ltb := xb.lt
 have ltr := xr.lt
 go_wp2_with fail
 clear lta ltb ltr pa pb pr
 refine (HFt.out _ _ g2).mono ?_
 rintro e w4 ⟨⟨v3, c3, rfl, gy⟩, hb⟩
 clear g2
 obtain ⟨bc, ac, kc, cc, rfl⟩ := gy.opened
 replace xa := xa.on hb; replace xb := xb.on hb; replace xr := xr.on hb; replace hB := hB.trans (hb.mono hB.size); clear hb
 have pa := xa.all2
 have pb := xb.all2
 have pr := xr.all2
 have lta := xa.lt
 have ltb := xb.lt
 have ltr := xr.lt
 go_wp2
 clear lta ltb ltr pa pb pr xa xb; replace gy := gy.setB xr rfl 0 (.bool bc)
 replace xr : Bk _ (w.heap.size + 1 + 1) #[.bool bc, .slice none 0 0] _ := xr.put 0 (.bool bc)
 replace hB := hB.setCell (p := ⟨w.heap.size + 1 + 1, 0, none⟩) (by first | omega | (simp; omega) | simp) (.bool bc); replace gy := gy.setB xr rfl 1 (.slice ac kc cc)
 replace xr : Bk _ (w.heap.size + 1 + 1) #[.bool bc, .slice ac kc cc] _ := xr.put 1 (.slice ac kc cc)
 replace hB := hB.setCell (p := ⟨w.heap.size + 1 + 1, 1, none⟩) (by first | omega | (simp; omega) | simp) (.slice ac kc cc)
 generalize ((w4.setCell ⟨w.heap.size + 1 + 1, 0, none⟩ (.bool bc)).setCell ⟨w.heap.size + 1 + 1, 1, none⟩ (.slice ac kc cc)) = WF at *
 have pr := xr.all2
 have ltr := xr.lt
 exact bodyPost_ret (v := .tuple #[.agg #[.bool bc, .slice ac kc cc], .int .i64 c3]) (by simp [results, Try.results10, go_sem, pr]) rfl ⟨⟨_, _, rfl, gy⟩, hB⟩
theorem Add_both (ba : Bool) (aa : Option Addr) (ka ca : Nat) (bb : Bool) (ab : Option Addr) (kb cb : Nat) (la lb : List Nat) (w : World) (h : Lim w (.slice aa ka ca) la) (g : Lim w (.slice ab kb cb) lb) (hm : Lm la) (gm : Lm lb) :
    ∃ t cd, TellsW w 5 #[.agg #[.bool ba, .slice aa ka ca], .agg #[.bool bb, .slice ab kb cb]] t cd ∧ TellsW w 8 #[.agg #[.bool ba, .slice aa ka ca], .agg #[.bool bb, .slice ab kb cb]] t cd := by
  have va := fun W (hW : Below w.heap.size w W) => refValid_any ba _ la W (h.below hW (Nat.le_refl _))
  have vb := fun W (hW : Below w.heap.size w W) => refValid_any bb _ lb W (g.below hW (Nat.le_refl _))
  have up : ∀ {W W' : World} (hW : Below w.heap.size w W) (hb : Below W.heap.size W W'), Below w.heap.size w W' := fun hW hb => hW.trans (hb.mono hW.size)
  cases ea : vld ba la with
  | false =>
    rw [ea] at va
    refine ⟨none, 2, fun W hW => ?_, fun W hW => ?_⟩
    · exact (Add_bad ba _ la bb _ lb W (h.below hW (Nat.le_refl _)) (g.below hW (Nat.le_refl _)) (by rw [ea]; rfl)).mono fun _ _ ⟨he, hb⟩ => ⟨⟨_, _, he, .inr ⟨rfl, rfl, rfl⟩⟩, hb⟩
    · exact (refAdd_bad1 ba aa ka ca bb ab kb cb W (fun W' hW' => va W' (up hW hW'))).mono fun _ _ ⟨he, hb⟩ => ⟨⟨_, _, he, .inr ⟨rfl, rfl, rfl⟩⟩, hb⟩
  | true =>
    cases eb : vld bb lb with
    | false =>
      rw [ea] at va; rw [eb] at vb
      refine ⟨none, 2, fun W hW => ?_, fun W hW => ?_⟩
      · exact (Add_bad ba _ la bb _ lb W (h.below hW (Nat.le_refl _)) (g.below hW (Nat.le_refl _)) (by rw [ea, eb]; rfl)).mono fun _ _ ⟨he, hb⟩ => ⟨⟨_, _, he, .inr ⟨rfl, rfl, rfl⟩⟩, hb⟩
      · exact (refAdd_bad2 ba aa ka ca bb ab kb cb W (fun W' hW' => va W' (up hW hW')) (fun W' hW' => vb W' (up hW hW'))).mono fun _ _ ⟨he, hb⟩ => ⟨⟨_, _, he, .inr ⟨rfl, rfl, rfl⟩⟩, hb⟩
    | true =>
      rw [ea] at va; rw [eb] at vb
      obtain ⟨a, eba, ela, na⟩ := num_of_vld ea h hm
      obtain ⟨b, ebb, elb, nb⟩ := num_of_vld eb g gm
      have sa : (dig a.natAbs).length ≤ 1024 := by rw [← ela]; exact vld_len ea
      have sb : (dig b.natAbs).length ≤ 1024 := by rw [← elb]; exact vld_len eb
      refine ⟨fit (a + b), 3, fun W hW => ?_, fun W hW => ?_⟩
      · by_cases hf : (dig (a + b).natAbs).length ≤ 1024
        · refine (Add_ok _ _ a b sa sb W (na.below hW (Nat.le_refl _)) (nb.below hW (Nat.le_refl _)) hf).mono ?_
          rintro e w' ⟨⟨v, rfl, hv⟩, hb⟩
          exact ⟨⟨_, _, rfl, .inl ⟨_, by unfold fit; rw [if_pos hf], rfl, hv.num⟩⟩, hb⟩
        · refine (Add_long _ _ a b sa sb W (na.below hW (Nat.le_refl _)) (nb.below hW (Nat.le_refl _)) (by omega)).mono ?_
          rintro e w' ⟨rfl, hb⟩
          exact ⟨⟨_, _, rfl, .inr ⟨by unfold fit; rw [if_neg hf], rfl, rfl⟩⟩, hb⟩
      · exact refAdd_good ba aa ka ca bb ab kb cb a b sa sb W (na.below hW (Nat.le_refl _)) (nb.below hW (Nat.le_refl _)) (fun W' hW' => va W' (up hW hW')) (fun W' hW' => vb W' (up hW hW'))
theorem Sub_both (ba : Bool) (aa : Option Addr) (ka ca : Nat) (bb : Bool) (ab : Option Addr) (kb cb : Nat) (la lb : List Nat) (w : World) (h : Lim w (.slice aa ka ca) la) (g : Lim w (.slice ab kb cb) lb) (hm : Lm la) (gm : Lm lb) :
    ∃ t cd, TellsW w 6 #[.agg #[.bool ba, .slice aa ka ca], .agg #[.bool bb, .slice ab kb cb]] t cd ∧ TellsW w 9 #[.agg #[.bool ba, .slice aa ka ca], .agg #[.bool bb, .slice ab kb cb]] t cd := by
  have va := fun W (hW : Below w.heap.size w W) => refValid_any ba _ la W (h.below hW (Nat.le_refl _))
  have vb := fun W (hW : Below w.heap.size w W) => refValid_any bb _ lb W (g.below hW (Nat.le_refl _))
  have up : ∀ {W W' : World} (hW : Below w.heap.size w W) (hb : Below W.heap.size W W'), Below w.heap.size w W' := fun hW hb => hW.trans (hb.mono hW.size)
  cases ea : vld ba la with
  | false =>
    rw [ea] at va
    refine ⟨none, 2, fun W hW => ?_, fun W hW => ?_⟩
    · exact (Sub_bad ba _ la bb _ lb W (h.below hW (Nat.le_refl _)) (g.below hW (Nat.le_refl _)) (by rw [ea]; rfl)).mono fun _ _ ⟨he, hb⟩ => ⟨⟨_, _, he, .inr ⟨rfl, rfl, rfl⟩⟩, hb⟩
    · exact (refSub_bad1 ba aa ka ca bb ab kb cb W (fun W' hW' => va W' (up hW hW'))).mono fun _ _ ⟨he, hb⟩ => ⟨⟨_, _, he, .inr ⟨rfl, rfl, rfl⟩⟩, hb⟩
  | true =>
    cases eb : vld bb lb with
    | false =>
      rw [ea] at va; rw [eb] at vb
      refine ⟨none, 2, fun W hW => ?_, fun W hW => ?_⟩
      · exact (Sub_bad ba _ la bb _ lb W (h.below hW (Nat.le_refl _)) (g.below hW (Nat.le_refl _)) (by rw [ea, eb]; rfl)).mono fun _ _ ⟨he, hb⟩ => ⟨⟨_, _, he, .inr ⟨rfl, rfl, rfl⟩⟩, hb⟩
      · exact (refSub_bad2 ba aa ka ca bb ab kb cb W (fun W' hW' => va W' (up hW hW')) (fun W' hW' => vb W' (up hW hW'))).mono fun _ _ ⟨he, hb⟩ => ⟨⟨_, _, he, .inr ⟨rfl, rfl, rfl⟩⟩, hb⟩
    | true =>
      rw [ea] at va; rw [eb] at vb
      obtain ⟨a, eba, ela, na⟩ := num_of_vld ea h hm
      obtain ⟨b, ebb, elb, nb⟩ := num_of_vld eb g gm
      have sa : (dig a.natAbs).length ≤ 1024 := by rw [← ela]; exact vld_len ea
      have sb : (dig b.natAbs).length ≤ 1024 := by rw [← elb]; exact vld_len eb
      refine ⟨fit (a - b), 3, fun W hW => ?_, fun W hW => ?_⟩
      · by_cases hf : (dig (a - b).natAbs).length ≤ 1024
        · refine (Sub_ok _ _ a b sa sb W (na.below hW (Nat.le_refl _)) (nb.below hW (Nat.le_refl _)) hf).mono ?_
          rintro e w' ⟨⟨v, rfl, hv⟩, hb⟩
          exact ⟨⟨_, _, rfl, .inl ⟨_, by unfold fit; rw [if_pos hf], rfl, hv.num⟩⟩, hb⟩
        · refine (Sub_long _ _ a b sa sb W (na.below hW (Nat.le_refl _)) (nb.below hW (Nat.le_refl _)) (by omega)).mono ?_
          rintro e w' ⟨rfl, hb⟩
          exact ⟨⟨_, _, rfl, .inr ⟨by unfold fit; rw [if_neg hf], rfl, rfl⟩⟩, hb⟩
      · exact refSub_good ba aa ka ca bb ab kb cb a b sa sb W (na.below hW (Nat.le_refl _)) (nb.below hW (Nat.le_refl _)) (fun W' hW' => va W' (up hW hW')) (fun W' hW' => vb W' (up hW hW'))
theorem Mul_both (ba : Bool) (aa : Option Addr) (ka ca : Nat) (bb : Bool) (ab : Option Addr) (kb cb : Nat) (la lb : List Nat) (w : World) (h : Lim w (.slice aa ka ca) la) (g : Lim w (.slice ab kb cb) lb) (hm : Lm la) (gm : Lm lb) :
    ∃ t cd, TellsW w 7 #[.agg #[.bool ba, .slice aa ka ca], .agg #[.bool bb, .slice ab kb cb]] t cd ∧ TellsW w 10 #[.agg #[.bool ba, .slice aa ka ca], .agg #[.bool bb, .slice ab kb cb]] t cd := by
  have va := fun W (hW : Below w.heap.size w W) => refValid_any ba _ la W (h.below hW (Nat.le_refl _))
  have vb := fun W (hW : Below w.heap.size w W) => refValid_any bb _ lb W (g.below hW (Nat.le_refl _))
  have up : ∀ {W W' : World} (hW : Below w.heap.size w W) (hb : Below W.heap.size W W'), Below w.heap.size w W' := fun hW hb => hW.trans (hb.mono hW.size)
  cases ea : vld ba la with
  | false =>
    rw [ea] at va
    refine ⟨none, 2, fun W hW => ?_, fun W hW => ?_⟩
    · exact (Mul_bad ba _ la bb _ lb W (h.below hW (Nat.le_refl _)) (g.below hW (Nat.le_refl _)) (by rw [ea]; rfl)).mono fun _ _ ⟨he, hb⟩ => ⟨⟨_, _, he, .inr ⟨rfl, rfl, rfl⟩⟩, hb⟩
    · exact (refMul_bad1 ba aa ka ca bb ab kb cb W (fun W' hW' => va W' (up hW hW'))).mono fun _ _ ⟨he, hb⟩ => ⟨⟨_, _, he, .inr ⟨rfl, rfl, rfl⟩⟩, hb⟩
  | true =>
    cases eb : vld bb lb with
    | false =>
      rw [ea] at va; rw [eb] at vb
      refine ⟨none, 2, fun W hW => ?_, fun W hW => ?_⟩
      · exact (Mul_bad ba _ la bb _ lb W (h.below hW (Nat.le_refl _)) (g.below hW (Nat.le_refl _)) (by rw [ea, eb]; rfl)).mono fun _ _ ⟨he, hb⟩ => ⟨⟨_, _, he, .inr ⟨rfl, rfl, rfl⟩⟩, hb⟩
      · exact (refMul_bad2 ba aa ka ca bb ab kb cb W (fun W' hW' => va W' (up hW hW')) (fun W' hW' => vb W' (up hW hW'))).mono fun _ _ ⟨he, hb⟩ => ⟨⟨_, _, he, .inr ⟨rfl, rfl, rfl⟩⟩, hb⟩
    | true =>
      rw [ea] at va; rw [eb] at vb
      obtain ⟨a, eba, ela, na⟩ := num_of_vld ea h hm
      obtain ⟨b, ebb, elb, nb⟩ := num_of_vld eb g gm
      have sa : (dig a.natAbs).length ≤ 1024 := by rw [← ela]; exact vld_len ea
      have sb : (dig b.natAbs).length ≤ 1024 := by rw [← elb]; exact vld_len eb
      refine ⟨fit (a * b), 3, fun W hW => ?_, fun W hW => ?_⟩
      · by_cases hf : (dig (a * b).natAbs).length ≤ 1024
        · refine (Mul_ok _ _ a b sa sb W (na.below hW (Nat.le_refl _)) (nb.below hW (Nat.le_refl _)) hf).mono ?_
          rintro e w' ⟨⟨v, rfl, hv⟩, hb⟩
          exact ⟨⟨_, _, rfl, .inl ⟨_, by unfold fit; rw [if_pos hf], rfl, hv.num⟩⟩, hb⟩
        · refine (Mul_long _ _ a b sa sb W (na.below hW (Nat.le_refl _)) (nb.below hW (Nat.le_refl _)) (by omega)).mono ?_
          rintro e w' ⟨rfl, hb⟩
          exact ⟨⟨_, _, rfl, .inr ⟨by unfold fit; rw [if_neg hf], rfl, rfl⟩⟩, hb⟩
      · exact refMul_good ba aa ka ca bb ab kb cb a b sa sb W (na.below hW (Nat.le_refl _)) (nb.below hW (Nat.le_refl _)) (fun W' hW' => va W' (up hW hW')) (fun W' hW' => vb W' (up hW hW'))
end Go.Proofs.Ytmbcnfogjncdaaa
