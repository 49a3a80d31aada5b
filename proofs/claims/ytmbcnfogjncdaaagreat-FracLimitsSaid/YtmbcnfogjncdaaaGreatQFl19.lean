/- A part of the proofs about fractions. -/
import Derived.Test.YtmbcnfogjncdaaaGreatQFl1
import Derived.Test.YtmbcnfogjncdaaaGreatQFl18
set_option maxRecDepth 100000
set_option maxHeartbeats 1000000
namespace Go.Proofs.YtmbcnfogjncdaaaGreat
open Go.RowKit Wh
def noInt (C : Array Value) : Bool := C.toList.all fun x => match x with | .int .. => false | _ => true
theorem noInt_get {C : Array Value} (h : noInt C = true) (i : Nat) (k : IntKind) (n : Int) : C[i]? ≠ some (.int k n) := fun e => by
 have hm : (.int k n : Value) ∈ C.toList := by rw [← Array.getElem?_toList] at e; exact List.mem_of_getElem? e
 have := List.all_eq_true.1 h _ hm
 simp at this
theorem Lim.setB {W : World} {v : Value} {l : List Nat} {X : Nat} {C : Array Value} {T : TypeId} (h : Lim W v l) (hx : Bk W X C T) (hC : noInt C = true) (i : Nat) (u : Value) : Lim (W.setCell ⟨X, i, none⟩ u) v l := by
  obtain ⟨a, cap, rfl, h1, h2, h3⟩ := h
  refine ⟨a, cap, rfl, h1, h2, ?_⟩
  rcases h3 with h3 | ⟨b, off, rfl, hc⟩
  · exact .inl h3
  · by_cases hl : l = []
    · exact .inl hl
    · have hb : b ≠ X := fun e => by
        subst e
        have := hc 0 (List.length_pos_iff.2 hl)
        rw [hx.cell] at this
        exact noInt_get hC _ _ _ this
      refine .inr ⟨b, off, rfl, fun j hj => ?_⟩
      rw [← hc j hj]
      have e : (W.setCell ⟨X, i, none⟩ u).heap[b]? = W.heap[b]? := heap_setCell_other _ ⟨X, i, none⟩ b u hb
      simp only [World.cell?, e]
theorem Num.setB {W : World} {v : Value} {z : Int} {X : Nat} {C : Array Value} {T : TypeId} (h : Num W v z) (hx : Bk W X C T) (hC : noInt C = true) (i : Nat) (u : Value) : Num (W.setCell ⟨X, i, none⟩ u) v z := by
 obtain ⟨s, e, h⟩ := h; exact ⟨s, e, h.setB hx hC i u⟩
theorem Fra.setB {W : World} {v : Value} {q : Rat} {X : Nat} {C : Array Value} {T : TypeId} (h : Fra W v q) (hx : Bk W X C T) (hC : noInt C = true) (i : Nat) (u : Value) : Fra (W.setCell ⟨X, i, none⟩ u) v q := by
 obtain ⟨n, d, e, h1, h2⟩ := h; exact ⟨n, d, e, h1.setB hx hC i u, h2.setB hx hC i u⟩
theorem noInt_set {C : Array Value} (h : noInt C = true) (i : Nat) (u : Value) (hu : noInt #[u] = true) : noInt (C.setIfInBounds i u) = true := by
 unfold noInt at *
 rw [Array.toList_setIfInBounds, List.all_eq_true]
 intro x hx
 rcases List.mem_or_eq_of_mem_set hx with h1 | h1
 · exact List.all_eq_true.1 h x h1
 · subst h1; simpa using hu
theorem noInt_4 {v0 v1 v2 v3 : Value} (h : noInt #[v0, v1, v2, v3] = true) : noInt #[v0] = true ∧ noInt #[v1] = true ∧ noInt #[v2] = true := by
 unfold noInt at *
 simp only [List.all_cons, List.all_nil, Bool.and_true, Bool.and_eq_true] at *
 exact ⟨h.1, h.2.1, h.2.2.1⟩
theorem Lim.setB4 {W : World} {v : Value} {l : List Nat} {X : Nat} {C : Array Value} {T : TypeId} (h : Lim W v l) (hx : Bk W X C T) (hC : noInt C = true) (v0 v1 v2 v3 : Value) (hV : noInt #[v0, v1, v2, v3] = true) : Lim ((((W.setCell ⟨X, 0, none⟩ v0).setCell ⟨X, 1, none⟩ v1).setCell ⟨X, 2, none⟩ v2).setCell ⟨X, 3, none⟩ v3) v l :=
 (((h.setB hx hC 0 v0).setB (hx.put 0 v0) (noInt_set hC 0 v0 (noInt_4 hV).1) 1 v1).setB ((hx.put 0 v0).put 1 v1) (noInt_set (noInt_set hC 0 v0 (noInt_4 hV).1) 1 v1 (noInt_4 hV).2.1) 2 v2).setB (((hx.put 0 v0).put 1 v1).put 2 v2) (noInt_set (noInt_set (noInt_set hC 0 v0 (noInt_4 hV).1) 1 v1 (noInt_4 hV).2.1) 2 v2 (noInt_4 hV).2.2) 3 v3
theorem Num.setB4 {W : World} {v : Value} {z : Int} {X : Nat} {C : Array Value} {T : TypeId} (h : Num W v z) (hx : Bk W X C T) (hC : noInt C = true) (v0 v1 v2 v3 : Value) (hV : noInt #[v0, v1, v2, v3] = true) : Num ((((W.setCell ⟨X, 0, none⟩ v0).setCell ⟨X, 1, none⟩ v1).setCell ⟨X, 2, none⟩ v2).setCell ⟨X, 3, none⟩ v3) v z :=
 (((h.setB hx hC 0 v0).setB (hx.put 0 v0) (noInt_set hC 0 v0 (noInt_4 hV).1) 1 v1).setB ((hx.put 0 v0).put 1 v1) (noInt_set (noInt_set hC 0 v0 (noInt_4 hV).1) 1 v1 (noInt_4 hV).2.1) 2 v2).setB (((hx.put 0 v0).put 1 v1).put 2 v2) (noInt_set (noInt_set (noInt_set hC 0 v0 (noInt_4 hV).1) 1 v1 (noInt_4 hV).2.1) 2 v2 (noInt_4 hV).2.2) 3 v3
theorem Fra.setB4 {W : World} {v : Value} {q : Rat} {X : Nat} {C : Array Value} {T : TypeId} (h : Fra W v q) (hx : Bk W X C T) (hC : noInt C = true) (v0 v1 v2 v3 : Value) (hV : noInt #[v0, v1, v2, v3] = true) : Fra ((((W.setCell ⟨X, 0, none⟩ v0).setCell ⟨X, 1, none⟩ v1).setCell ⟨X, 2, none⟩ v2).setCell ⟨X, 3, none⟩ v3) v q :=
 (((h.setB hx hC 0 v0).setB (hx.put 0 v0) (noInt_set hC 0 v0 (noInt_4 hV).1) 1 v1).setB ((hx.put 0 v0).put 1 v1) (noInt_set (noInt_set hC 0 v0 (noInt_4 hV).1) 1 v1 (noInt_4 hV).2.1) 2 v2).setB (((hx.put 0 v0).put 1 v1).put 2 v2) (noInt_set (noInt_set (noInt_set hC 0 v0 (noInt_4 hV).1) 1 v1 (noInt_4 hV).2.1) 2 v2 (noInt_4 hV).2.2) 3 v3
def LimAns (W : World) (b5 : Bool) (a5 : Option Addr) (k5 c5 : Nat) (b6 : Bool) (a6 : Option Addr) (k6 c6 : Nat) (o : Int) (n d : Int) : Prop :=
 (o = 0 ∧ Sz 256 n ∧ Sz 256 d ∧ Num W (.agg #[.bool b5, .slice a5 k5 c5]) n ∧ Num W (.agg #[.bool b6, .slice a6 k6 c6]) d) ∨
 (o = 3 ∧ ¬ (Sz 256 n ∧ Sz 256 d) ∧ (.agg #[.bool b5, .slice a5 k5 c5, .bool b6, .slice a6 k6 c6] : Value) = zeroF)
theorem LimAns.below {W W' : World} {M : Nat} {b5 a5 k5 c5 b6 a6 k6 c6 o n d} (h : LimAns W b5 a5 k5 c5 b6 a6 k6 c6 o n d) (hb : Below M W W') (hM : W.heap.size ≤ M) : LimAns W' b5 a5 k5 c5 b6 a6 k6 c6 o n d := by
 rcases h with ⟨h1, h2, h3, h4, h5⟩ | h
 · exact .inl ⟨h1, h2, h3, h4.below hb hM, h5.below hb hM⟩
 · exact .inr h
theorem LimAns.on {W W' : World} {b5 a5 k5 c5 b6 a6 k6 c6 o n d} (h : LimAns W b5 a5 k5 c5 b6 a6 k6 c6 o n d) (hb : Below W.heap.size W W') : LimAns W' b5 a5 k5 c5 b6 a6 k6 c6 o n d := h.below hb (Nat.le_refl _)
theorem LimAns.setB {W : World} {b5 a5 k5 c5 b6 a6 k6 c6 o n d} {X : Nat} {C : Array Value} {T : TypeId} (h : LimAns W b5 a5 k5 c5 b6 a6 k6 c6 o n d) (hx : Bk W X C T) (hC : noInt C = true) (i : Nat) (u : Value) : LimAns (W.setCell ⟨X, i, none⟩ u) b5 a5 k5 c5 b6 a6 k6 c6 o n d := by
 rcases h with ⟨h1, h2, h3, h4, h5⟩ | h
 · exact .inl ⟨h1, h2, h3, h4.setB hx hC i u, h5.setB hx hC i u⟩
 · exact .inr h
theorem LimAns.setB4 {W : World} {b5 a5 k5 c5 b6 a6 k6 c6 o n d} {X : Nat} {C : Array Value} {T : TypeId} (h : LimAns W b5 a5 k5 c5 b6 a6 k6 c6 o n d) (hx : Bk W X C T) (hC : noInt C = true) (v0 v1 v2 v3 : Value) (hV : noInt #[v0, v1, v2, v3] = true) : LimAns ((((W.setCell ⟨X, 0, none⟩ v0).setCell ⟨X, 1, none⟩ v1).setCell ⟨X, 2, none⟩ v2).setCell ⟨X, 3, none⟩ v3) b5 a5 k5 c5 b6 a6 k6 c6 o n d :=
 (((h.setB hx hC 0 v0).setB (hx.put 0 v0) (noInt_set hC 0 v0 (noInt_4 hV).1) 1 v1).setB ((hx.put 0 v0).put 1 v1) (noInt_set (noInt_set hC 0 v0 (noInt_4 hV).1) 1 v1 (noInt_4 hV).2.1) 2 v2).setB (((hx.put 0 v0).put 1 v1).put 2 v2) (noInt_set (noInt_set (noInt_set hC 0 v0 (noInt_4 hV).1) 1 v1 (noInt_4 hV).2.1) 2 v2 (noInt_4 hV).2.2) 3 v3
theorem limited_any (bn : Bool) (an : Option Addr) (kn cn : Nat) (bd : Bool) (ad : Option Addr) (kd cd : Nat) (n d : Int) (w : World) (nn : Num w (.agg #[.bool bn, .slice an kn cn]) n) (nd : Num w (.agg #[.bool bd, .slice ad kd cd]) d) :
    Calls Tryz.prog 84 #[.agg #[.bool bn, .slice an kn cn], .agg #[.bool bd, .slice ad kd cd]] w fun e w' => (∃ b5 a5 k5 c5 b6 a6 k6 c6 o, e = .returned (.tuple #[.agg #[.bool b5, .slice a5 k5 c5, .bool b6, .slice a6 k6 c6], .int .i64 o]) ∧ LimAns w' b5 a5 k5 c5 b6 a6 k6 c6 o n d) ∧ Below w.heap.size w w' := by
  by_cases h1 : Sz 256 n
  · by_cases h2 : Sz 256 d
    · refine (limited_ok bn an kn cn bd ad kd cd n d h1 h2 w nn nd).mono ?_
      rintro e w' ⟨rfl, hb⟩
      exact ⟨⟨_, _, _, _, _, _, _, _, _, rfl, .inl ⟨rfl, h1, h2, nn.below hb (Nat.le_refl _), nd.below hb (Nat.le_refl _)⟩⟩, hb⟩
    · refine (limited_d bn an kn cn bd ad kd cd n d h1 h2 w nn nd).mono ?_
      rintro e w' ⟨rfl, hb⟩
      exact ⟨⟨_, _, _, _, _, _, _, _, _, rfl, .inr ⟨rfl, fun h => h2 h.2, rfl⟩⟩, hb⟩
  · refine (limited_n bn an kn cn bd ad kd cd n d h1 w nn nd).mono ?_
    rintro e w' ⟨rfl, hb⟩
    exact ⟨⟨_, _, _, _, _, _, _, _, _, rfl, .inr ⟨rfl, fun h => h1 h.1, rfl⟩⟩, hb⟩
theorem recip_nums {W : World} {b : Bool} {a : Option Addr} {k c : Nat} {b' : Bool} {a' : Option Addr} {k' c' : Nat} {q : Rat} (hq0 : q ≠ 0) (eb : b = decide (q.num < 0)) (_eb' : b' = false) (n1 : Num W (.agg #[.bool b, .slice a k c]) q.num) (n2 : Num W (.agg #[.bool b', .slice a' k' c']) (q.den : Int)) :
    (Sz 256 (q.den : Int) → Sz 256 (q.num.sign * (q.den : Int))) ∧ (Sz 256 q.num → Sz 256 (q.num.natAbs : Int)) ∧ Num W (.agg #[.bool b, .slice a' k' c']) (q.num.sign * (q.den : Int)) ∧ Num W (.agg #[.bool false, .slice a k c]) (q.num.natAbs : Int) := by
  have h0 : q.num ≠ 0 := fun e => hq0 ((Fq.num_zero q).1 e)
  have hd := q.den_pos
  have ea : (q.num.sign * (q.den : Int)).natAbs = q.den := by rw [Int.natAbs_mul, Int.natAbs_sign_of_ne_zero h0, Nat.one_mul, Int.natAbs_natCast]
  refine ⟨fun h => h.le (by rw [ea, Int.natAbs_natCast]; exact Nat.le_refl _), fun h => h.le (by rw [Int.natAbs_natCast]; exact Nat.le_refl _), ?_, ?_⟩
  · obtain ⟨s, e, h⟩ := n2
    simp only [Value.agg.injEq, Array.mk.injEq, List.cons.injEq, Value.bool.injEq, and_true] at e
    obtain ⟨-, rfl⟩ := e
    refine ⟨_, ?_, by rw [ea]; rwa [Int.natAbs_natCast] at h⟩
    rw [eb]
    have : decide (q.num < 0) = decide (q.num.sign * (q.den : Int) < 0) := by
      rw [decide_eq_decide]
      rcases Int.lt_trichotomy q.num 0 with g | g | g
      · rw [Int.sign_eq_neg_one_of_neg g]; omega
      · exact absurd g h0
      · rw [Int.sign_eq_one_of_pos g]; omega
    rw [this]
  · obtain ⟨s, e, h⟩ := n1
    simp only [Value.agg.injEq, Array.mk.injEq, List.cons.injEq, Value.bool.injEq, and_true] at e
    obtain ⟨-, rfl⟩ := e
    exact ⟨_, by rw [show decide ((q.num.natAbs : Int) < 0) = false from decide_eq_false (by omega)], by rw [Int.natAbs_natCast]; exact h⟩
theorem neg_back (m : Nat) (h : m < 18446744073709551616) : IntKind.u64.wrap (-(IntKind.u64.wrap (-(m : Int)))) = (m : Int) := by
 rw [IntKind.wrap_u64, IntKind.wrap_u64]; omega
theorem reciprocal_any (b : Bool) (a : Option Addr) (k c : Nat) (b' : Bool) (a' : Option Addr) (k' c' : Nat) (w : World) :
  Calls Tryz.prog 122 #[.agg #[.bool b, .slice a k c, .bool b', .slice a' k' c']] w fun e w' => e = .returned (.agg #[.bool b, .slice a' k' c', .bool false, .slice a k c]) ∧ Below w.heap.size w w' := by
 have hB := Below.refl w.heap.size w
 obtain ⟨al, xa, hN⟩ := mk hB #[.bool b, .slice a k c, .bool b', .slice a' k' c'] 101
 replace hB := hN; clear al hN
 try simp only [World.size_alloc] at xa
 go_enter Tryz.func122, Tryz.ntmps122
 have pa := xa.all4
 go_wp2_with fail
 exact bodyPost_ret (v := .agg #[.bool b, .slice a' k' c', .bool false, .slice a k c]) (by simp [results, Tryz.results122, go_sem]) rfl ⟨rfl, hB.alloc hB.size _⟩
theorem frPow_pos (b : Bool) (a : Option Addr) (k c : Nat) (b' : Bool) (a' : Option Addr) (k' c' : Nat) (q : Rat) (hq : Fz 256 256 q) (m : Nat) (hm : m ≤ 9223372036854775807) (w : World) (h : Fra w (.agg #[.bool b, .slice a k c, .bool b', .slice a' k' c']) q) :
  Calls Tryz.prog 39 #[.agg #[.bool b, .slice a k c, .bool b', .slice a' k' c'], .int .i64 (m : Int)] w fun e w' => (∃ b5 a5 k5 c5 b6 a6 k6 c6 o z1 z2, e = .returned (.tuple #[.agg #[.bool b5, .slice a5 k5 c5, .bool b6, .slice a6 k6 c6], .int .i64 o]) ∧ PowAns q.num m z1 ∧ PowAns (q.den : Int) m z2 ∧ LimAns w' b5 a5 k5 c5 b6 a6 k6 c6 o z1 z2) ∧ Below w.heap.size w w' := by
 have HV := Lib.hid (fun W (hW : Below w.heap.size w W) => valid_ok (.agg #[.bool b, .slice a k c, .bool b', .slice a' k' c']) q hq W (h.below hW (Nat.le_refl _)))
 obtain ⟨eb, eb', n1, n2⟩ := fra_nums h
 obtain ⟨h1, h2⟩ := hq
 have HP1 := Lib.hid (fun W (hW : Below w.heap.size w W) => power_any q.num h1 m (by omega) _ a k c W (n1.below hW (Nat.le_refl _)))
 have HP2 := Lib.hid (fun W (hW : Below w.heap.size w W) => power_any q.den h2 m (by omega) _ a' k' c' W (n2.below hW (Nat.le_refl _)))
 clear h n1 n2 h1 h2 eb eb'
 have hB := Below.refl w.heap.size w
 obtain ⟨al, xa, hN⟩ := mk hB #[.bool b, .slice a k c, .bool b', .slice a' k' c'] 39
 replace hB := hN; clear al hN
 try simp only [World.size_alloc] at xa
 obtain ⟨al, xr, hN⟩ := mk hB #[.bool false, .slice none 0 0, .bool false, .slice none 0 0] 39
 replace xa := xa.on al; replace hB := hN; clear al hN
 try simp only [World.size_alloc] at xr
 go_enter Tryz.func39, Tryz.ntmps39
 obtain ⟨al, xx, hN⟩ := mk hB #[.bool b, .slice a k c, .bool b', .slice a' k' c'] 101
 replace xa := xa.on al; replace xr := xr.on al; replace hB := hN; clear al hN
 try simp only [World.size_alloc] at xx
 have pa := xa.all4
 have pr := xr.all4
 have px := xx.all4
 go_wp2_with fail
 clear pa pr px
 refine (HV.out _ hB).mono ?_
 rintro e w1 ⟨rfl, hb⟩
 replace xa := xa.on hb; replace xr := xr.on hb; replace xx := xx.on hb
 have hz1 := hb.size
 try simp at hz1
 replace hB := hB.trans (hb.mono hB.size); clear hb xa
 have pr := xr.all4
 have px := xx.all4
 go_wp2_with fail
 clear pr px
 have qx := xx.lt
 obtain ⟨gx0, gx1, gx2, gx3⟩ := xx.cells4
 refine wp_region_noPanic ?_
 refine wp_region_held_drew (S := (fun w' => w'.cell? ⟨w.heap.size + 1 + 1, 0, none⟩ = some (.bool b) ∧ w'.cell? ⟨w.heap.size + 1 + 1, 1, none⟩ = some (.slice a k c) ∧ w'.cell? ⟨w.heap.size + 1 + 1, 2, none⟩ = some (.bool b') ∧ w'.cell? ⟨w.heap.size + 1 + 1, 3, none⟩ = some (.slice a' k' c'))) (by kernel_rfl) ⟨gx0, gx1, gx2, gx3⟩ (fun hR0 => ?_)
 change wpAnyH _ _ _ _ _ 15 #[false, false, false, false, false, false, false, false, false, false, false, false, false, false, false] _ _
 clear gx0 gx1 gx2 gx3
 refine tz 0 ?_
 (try simp only [Act.put, sa, List.set])
 refine tz 1 ?_
 (try simp only [Act.put, sa, List.set])
 refine tz 2 ?_
 (try simp only [Act.put, sa, List.set])
 refine tz 3 ?_
 (try simp only [Act.put, sa, List.set])
 refine tz 5 ?_
 (try simp only [Act.put, sa, List.set])
 refine tz 6 ?_
 (try simp only [Act.put, sa, List.set])
 refine tz 7 ?_
 (try simp only [Act.put, sa, List.set])
 refine tz 8 ?_
 (try simp only [Act.put, sa, List.set])
 refine rz 4 fun K hK => ?_
 go_simp
 go_at_call 123; have hBd := hB.drew; refine (HP1.out _ hBd).mono ?_; rintro e w2 ⟨⟨v1, z1, rfl, s1, o1⟩, hb⟩; replace hb := (Below.refl w1.heap.size w1).drew.trans hb; obtain ⟨b1, a1, k1, c1, rfl⟩ := o1.opened; have S1 := Lib.hid s1; clear s1; replace xr := xr.on hb; replace xx := xx.on hb; replace hB := hB.trans (hb.mono hB.size); have hz2 := hb.size
 (try go_wp2_with fail)
 refine hK.out _ _ (keep4 hb qx hR0) (fun hR1 => ?_)
 clear hK K hR0
 (try simp only [Act.put, sa, List.set])
 replace qx := Nat.lt_of_lt_of_le qx hz2; clear hb hBd
 refine rz 9 fun K hK => ?_
 go_simp
 go_at_call 123; have hBd := hB; refine (HP2.out _ hBd).mono ?_; rintro e w3 ⟨⟨v2, z2, rfl, s2, o2⟩, hb⟩; obtain ⟨b2, a2, k2, c2, rfl⟩ := o2.opened; have S2 := Lib.hid s2; clear s2; replace xr := xr.on hb; replace xx := xx.on hb; replace o1 := o1.on hb; replace hB := hB.trans (hb.mono hB.size); have hz3 := hb.size
 (try go_wp2_with fail)
 refine hK.out _ _ (keep4 hb qx hR1) (fun hR2 => ?_)
 clear hK K hR1
 (try simp only [Act.put, sa, List.set])
 replace qx := Nat.lt_of_lt_of_le qx hz3; clear hb hBd
 refine rz 10 fun K hK => ?_
 go_simp
 go_at_call 84; have hBd := hB; refine (limited_any _ _ _ _ _ _ _ _ _ _ _ o1 o2).mono ?_; rintro e w4 ⟨⟨b5, a5, k5, c5, b6, a6, k6, c6, o, rfl, la⟩, hb⟩; replace xr := xr.on hb; replace xx := xx.on hb; replace hB := hB.trans (hb.mono hB.size); have hz4 := hb.size
 (try go_wp2_with fail)
 refine hK.out _ _ (keep4 hb qx hR2) (fun hR3 => ?_)
 clear hK K hR2
 (try simp only [Act.put, sa, List.set])
 replace qx := Nat.lt_of_lt_of_le qx hz4; clear hb hBd
 refine tz 11 ?_
 (try simp only [Act.put, sa, List.set])
 refine tz 12 ?_
 (try simp only [Act.put, sa, List.set])
 have pr := xr.all4
 refine rz 13 fun K hK => ?_
 go_simp
 refine hK.out _ _ (stay4 hR3 (by omega)) (fun hR4 => ?_)
 clear hK K hR3
 (try simp only [Act.put, sa, List.set])
 clear pr; replace la := la.setB4 xr rfl (.bool b5) (.slice a5 k5 c5) (.bool b6) (.slice a6 k6 c6) rfl; replace xx := xx.put_other4 (w.heap.size + 1) (.bool b5) (.slice a5 k5 c5) (.bool b6) (.slice a6 k6 c6) (by omega); replace xr := xr.put4 (.bool b5) (.slice a5 k5 c5) (.bool b6) (.slice a6 k6 c6); replace hB := below4 hB (w.heap.size + 1) (by first | omega | (simp; omega) | simp) (.bool b5) (.slice a5 k5 c5) (.bool b6) (.slice a6 k6 c6)
 refine tz 14 ?_
 (try simp only [Act.put, sa, List.set])
 refine wpAnyH_done (by kernel_rfl) ?_ _
 refine NoPanic.normal ?_
 clear hR4 qx xx
 generalize ((((w4.setCell ⟨w.heap.size + 1, 0, none⟩ (.bool b5)).setCell ⟨w.heap.size + 1, 1, none⟩ (.slice a5 k5 c5)).setCell ⟨w.heap.size + 1, 2, none⟩ (.bool b6)).setCell ⟨w.heap.size + 1, 3, none⟩ (.slice a6 k6 c6)) = WF at *
 have pr := xr.all4
 go_wp2
 exact bodyPost_ret (v := .tuple #[.agg #[.bool b5, .slice a5 k5 c5, .bool b6, .slice a6 k6 c6], .int .i64 o]) (by simp [results, Tryz.results39, go_sem, pr]) rfl ⟨⟨_, _, _, _, _, _, _, _, _, _, _, rfl, S1.out, S2.out, la⟩, hB⟩
theorem frPow_neg (b : Bool) (a : Option Addr) (k c : Nat) (b' : Bool) (a' : Option Addr) (k' c' : Nat) (q : Rat) (hq : Fz 256 256 q) (m : Nat) (hm : 1 ≤ m) (hm2 : m ≤ 9223372036854775808) (hq0 : q ≠ 0) (w : World) (h : Fra w (.agg #[.bool b, .slice a k c, .bool b', .slice a' k' c']) q) :
  Calls Tryz.prog 39 #[.agg #[.bool b, .slice a k c, .bool b', .slice a' k' c'], .int .i64 (-(m : Int))] w fun e w' => (∃ b5 a5 k5 c5 b6 a6 k6 c6 o z1 z2, e = .returned (.tuple #[.agg #[.bool b5, .slice a5 k5 c5, .bool b6, .slice a6 k6 c6], .int .i64 o]) ∧ PowAns (q.num.sign * q.den) m z1 ∧ PowAns (q.num.natAbs : Int) m z2 ∧ LimAns w' b5 a5 k5 c5 b6 a6 k6 c6 o z1 z2) ∧ Below w.heap.size w w' := by
 have HV := Lib.hid (fun W (hW : Below w.heap.size w W) => valid_ok (.agg #[.bool b, .slice a k c, .bool b', .slice a' k' c']) q hq W (h.below hW (Nat.le_refl _)))
 obtain ⟨eb, eb', n1, n2⟩ := fra_nums h
 obtain ⟨h1, h2⟩ := hq
 have HZ := Lib.hid (fun W (hW : Below w.heap.size w W) => isZero_num _ q.num W (n1.below hW (Nat.le_refl _)))
 obtain ⟨e1, e2, n3, n4⟩ := recip_nums hq0 eb eb' n1 n2
 have HP1 := Lib.hid (fun W (hW : Below w.heap.size w W) => power_any _ (e1 h2) m (by omega) _ a' k' c' W (n3.below hW (Nat.le_refl _)))
 have HP2 := Lib.hid (fun W (hW : Below w.heap.size w W) => power_any _ (e2 h1) m (by omega) _ a k c W (n4.below hW (Nat.le_refl _)))
 have HR := Lib.hid (fun W => reciprocal_any b a k c b' a' k' c' W)
 have HQ0 : decide (q.num = 0) = false := decide_eq_false (fun e => hq0 ((Fq.num_zero q).1 e))
 rw [HQ0] at HZ
 clear HQ0 n3 n4 e1 e2 hq0 h n1 n2 h1 h2 eb eb'
 have hB := Below.refl w.heap.size w
 obtain ⟨al, xa, hN⟩ := mk hB #[.bool b, .slice a k c, .bool b', .slice a' k' c'] 39
 replace hB := hN; clear al hN
 try simp only [World.size_alloc] at xa
 obtain ⟨al, xr, hN⟩ := mk hB #[.bool false, .slice none 0 0, .bool false, .slice none 0 0] 39
 replace xa := xa.on al; replace hB := hN; clear al hN
 try simp only [World.size_alloc] at xr
 go_enter Tryz.func39, Tryz.ntmps39
 obtain ⟨al, xx, hN⟩ := mk hB #[.bool b, .slice a k c, .bool b', .slice a' k' c'] 101
 replace xa := xa.on al; replace xr := xr.on al; replace hB := hN; clear al hN
 try simp only [World.size_alloc] at xx
 have pa := xa.all4
 have pr := xr.all4
 have px := xx.all4
 go_wp2_with fail
 clear pa pr px
 refine (HV.out _ hB).mono ?_
 rintro e w1 ⟨rfl, hb⟩
 replace xa := xa.on hb; replace xr := xr.on hb; replace xx := xx.on hb
 have hz1 := hb.size
 try simp at hz1
 replace hB := hB.trans (hb.mono hB.size); clear hb xa
 have pr := xr.all4
 have px := xx.all4
 go_wp2_with fail
 clear pr px
 have pr := xr.all4
 have px := xx.all4
 clear pr px
 refine (HZ.out _ hB).mono ?_
 rintro e w2 ⟨rfl, hb⟩
 replace xr := xr.on hb; replace xx := xx.on hb
 have hz2 := hb.size
 try simp at hz2
 replace hB := hB.trans (hb.mono hB.size); clear hb
 have pr := xr.all4
 have px := xx.all4
 go_wp2_with fail
 clear pr px
 refine (HR.out _).mono ?_
 rintro e w3 ⟨rfl, hb⟩
 replace xr := xr.on hb; replace xx := xx.on hb
 have hz3 := hb.size
 try simp at hz3
 replace hB := hB.trans (hb.mono hB.size); clear hb
 have pr := xr.all4
 have px := xx.all4
 go_wp2_with fail
 clear pr px; replace xr := xr.put_other4 (w.heap.size + 1 + 1) (.bool b) (.slice a' k' c') (.bool false) (.slice a k c) (by omega); replace xx := xx.put4 (.bool b) (.slice a' k' c') (.bool false) (.slice a k c); replace hB := below4 hB (w.heap.size + 1 + 1) (by first | omega | (simp; omega) | simp) (.bool b) (.slice a' k' c') (.bool false) (.slice a k c)
 rw [neg_back m (by omega)]
 obtain ⟨wq, hwq⟩ : ∃ W, W = ((((w3.setCell ⟨w.heap.size + 1 + 1, 0, none⟩ (.bool b)).setCell ⟨w.heap.size + 1 + 1, 1, none⟩ (.slice a' k' c')).setCell ⟨w.heap.size + 1 + 1, 2, none⟩ (.bool false)).setCell ⟨w.heap.size + 1 + 1, 3, none⟩ (.slice a k c)) := ⟨_, rfl⟩
 rw [← hwq] at hB xr xx ⊢
 clear hwq
 have qx := xx.lt
 obtain ⟨gx0, gx1, gx2, gx3⟩ := xx.cells4
 refine wp_region_noPanic ?_
 refine wp_region_held_drew (S := (fun w' => w'.cell? ⟨w.heap.size + 1 + 1, 0, none⟩ = some (.bool b) ∧ w'.cell? ⟨w.heap.size + 1 + 1, 1, none⟩ = some (.slice a' k' c') ∧ w'.cell? ⟨w.heap.size + 1 + 1, 2, none⟩ = some (.bool false) ∧ w'.cell? ⟨w.heap.size + 1 + 1, 3, none⟩ = some (.slice a k c))) (by kernel_rfl) ⟨gx0, gx1, gx2, gx3⟩ (fun hR0 => ?_)
 change wpAnyH _ _ _ _ _ 15 #[false, false, false, false, false, false, false, false, false, false, false, false, false, false, false] _ _
 clear gx0 gx1 gx2 gx3
 refine tz 0 ?_
 (try simp only [Act.put, sa, List.set])
 refine tz 1 ?_
 (try simp only [Act.put, sa, List.set])
 refine tz 2 ?_
 (try simp only [Act.put, sa, List.set])
 refine tz 3 ?_
 (try simp only [Act.put, sa, List.set])
 refine tz 5 ?_
 (try simp only [Act.put, sa, List.set])
 refine tz 6 ?_
 (try simp only [Act.put, sa, List.set])
 refine tz 7 ?_
 (try simp only [Act.put, sa, List.set])
 refine tz 8 ?_
 (try simp only [Act.put, sa, List.set])
 refine rz 4 fun K hK => ?_
 go_simp
 go_at_call 123; have hBd := hB.drew; refine (HP1.out _ hBd).mono ?_; rintro e w4 ⟨⟨v1, z1, rfl, s1, o1⟩, hb⟩; replace hb := (Below.refl wq.heap.size wq).drew.trans hb; obtain ⟨b1, a1, k1, c1, rfl⟩ := o1.opened; have S1 := Lib.hid s1; clear s1; replace xr := xr.on hb; replace xx := xx.on hb; replace hB := hB.trans (hb.mono hB.size); have hz4 := hb.size
 (try go_wp2_with fail)
 refine hK.out _ _ (keep4 hb qx hR0) (fun hR1 => ?_)
 clear hK K hR0
 (try simp only [Act.put, sa, List.set])
 replace qx := Nat.lt_of_lt_of_le qx hz4; clear hb hBd
 refine rz 9 fun K hK => ?_
 go_simp
 go_at_call 123; have hBd := hB; refine (HP2.out _ hBd).mono ?_; rintro e w5 ⟨⟨v2, z2, rfl, s2, o2⟩, hb⟩; obtain ⟨b2, a2, k2, c2, rfl⟩ := o2.opened; have S2 := Lib.hid s2; clear s2; replace xr := xr.on hb; replace xx := xx.on hb; replace o1 := o1.on hb; replace hB := hB.trans (hb.mono hB.size); have hz5 := hb.size
 (try go_wp2_with fail)
 refine hK.out _ _ (keep4 hb qx hR1) (fun hR2 => ?_)
 clear hK K hR1
 (try simp only [Act.put, sa, List.set])
 replace qx := Nat.lt_of_lt_of_le qx hz5; clear hb hBd
 refine rz 10 fun K hK => ?_
 go_simp
 go_at_call 84; have hBd := hB; refine (limited_any _ _ _ _ _ _ _ _ _ _ _ o1 o2).mono ?_; rintro e w6 ⟨⟨b5, a5, k5, c5, b6, a6, k6, c6, o, rfl, la⟩, hb⟩; replace xr := xr.on hb; replace xx := xx.on hb; replace hB := hB.trans (hb.mono hB.size); have hz6 := hb.size
 (try go_wp2_with fail)
 refine hK.out _ _ (keep4 hb qx hR2) (fun hR3 => ?_)
 clear hK K hR2
 (try simp only [Act.put, sa, List.set])
 replace qx := Nat.lt_of_lt_of_le qx hz6; clear hb hBd
 refine tz 11 ?_
 (try simp only [Act.put, sa, List.set])
 refine tz 12 ?_
 (try simp only [Act.put, sa, List.set])
 have pr := xr.all4
 refine rz 13 fun K hK => ?_
 go_simp
 refine hK.out _ _ (stay4 hR3 (by omega)) (fun hR4 => ?_)
 clear hK K hR3
 (try simp only [Act.put, sa, List.set])
 clear pr; replace la := la.setB4 xr rfl (.bool b5) (.slice a5 k5 c5) (.bool b6) (.slice a6 k6 c6) rfl; replace xx := xx.put_other4 (w.heap.size + 1) (.bool b5) (.slice a5 k5 c5) (.bool b6) (.slice a6 k6 c6) (by omega); replace xr := xr.put4 (.bool b5) (.slice a5 k5 c5) (.bool b6) (.slice a6 k6 c6); replace hB := below4 hB (w.heap.size + 1) (by first | omega | (simp; omega) | simp) (.bool b5) (.slice a5 k5 c5) (.bool b6) (.slice a6 k6 c6)
 refine tz 14 ?_
 (try simp only [Act.put, sa, List.set])
 refine wpAnyH_done (by kernel_rfl) ?_ _
 refine NoPanic.normal ?_
 clear hR4 qx xx
 generalize ((((w6.setCell ⟨w.heap.size + 1, 0, none⟩ (.bool b5)).setCell ⟨w.heap.size + 1, 1, none⟩ (.slice a5 k5 c5)).setCell ⟨w.heap.size + 1, 2, none⟩ (.bool b6)).setCell ⟨w.heap.size + 1, 3, none⟩ (.slice a6 k6 c6)) = WF at *
 have pr := xr.all4
 go_wp2
 exact bodyPost_ret (v := .tuple #[.agg #[.bool b5, .slice a5 k5 c5, .bool b6, .slice a6 k6 c6], .int .i64 o]) (by simp [results, Tryz.results39, go_sem, pr]) rfl ⟨⟨_, _, _, _, _, _, _, _, _, _, _, rfl, S1.out, S2.out, la⟩, hB⟩
theorem pow_ans {W : World} {b5 a5 k5 c5 b6 a6 k6 c6 o} {x y z1 z2 : Int} {m : Nat} {r : Rat} (hn : r.num = x ^ m) (hd : ((r.den : Nat) : Int) = y ^ m) (p1 : PowAns x m z1) (p2 : PowAns y m z2) (la : LimAns W b5 a5 k5 c5 b6 a6 k6 c6 o z1 z2) :
    (Fz 256 256 r → o = 0 ∧ Fra W (.agg #[.bool b5, .slice a5 k5 c5, .bool b6, .slice a6 k6 c6]) r) ∧ (¬ Fz 256 256 r → o = 3 ∧ (.agg #[.bool b5, .slice a5 k5 c5, .bool b6, .slice a6 k6 c6] : Value) = zeroF) := by
  have q1 : Sz 256 z1 ↔ Sz 256 (x ^ m) := by
    rcases p1.2 with ⟨h, rfl⟩ | ⟨h, g⟩
    · exact ⟨id, id⟩
    · exact ⟨fun e => absurd e h, fun e => absurd e g⟩
  have q2 : Sz 256 z2 ↔ Sz 256 (y ^ m) := by
    rcases p2.2 with ⟨h, rfl⟩ | ⟨h, g⟩
    · exact ⟨id, id⟩
    · exact ⟨fun e => absurd e h, fun e => absurd e g⟩
  unfold Fz
  rw [hn, hd, ← q1, ← q2]
  rcases la with ⟨rfl, h1, h2, n1, n2⟩ | ⟨rfl, h, e⟩
  · refine ⟨fun _ => ⟨rfl, ?_⟩, fun h => absurd ⟨h1, h2⟩ h⟩
    have e1 : z1 = r.num := by
      rcases p1.2 with ⟨_, e⟩ | ⟨h, _⟩
      · rw [e, hn]
      · exact absurd h1 h
    have e2 : z2 = ((r.den : Nat) : Int) := by
      rcases p2.2 with ⟨_, e⟩ | ⟨h, _⟩
      · rw [e, hd]
      · exact absurd h2 h
    rw [e1] at n1; rw [e2] at n2
    exact fra_of n1 n2
  · exact ⟨fun g => absurd g h, fun _ => ⟨rfl, e⟩⟩
theorem frPow_any (b : Bool) (a : Option Addr) (k c : Nat) (b' : Bool) (a' : Option Addr) (k' c' : Nat) (q : Rat) (hq : Fz 256 256 q) (n : Int) (hn1 : -9223372036854775808 ≤ n) (hn2 : n ≤ 9223372036854775807) (hq0 : q ≠ 0 ∨ 0 ≤ n) (w : World) (h : Fra w (.agg #[.bool b, .slice a k c, .bool b', .slice a' k' c']) q) :
    Calls Tryz.prog 39 #[.agg #[.bool b, .slice a k c, .bool b', .slice a' k' c'], .int .i64 n] w fun e w' => (∃ v o, e = .returned (.tuple #[v, .int .i64 o]) ∧ (Fz 256 256 (q ^ n) → o = 0 ∧ Fra w' v (q ^ n)) ∧ (¬ Fz 256 256 (q ^ n) → o = 3 ∧ v = zeroF)) ∧ Below w.heap.size w w' := by
  by_cases hn : 0 ≤ n
  · obtain ⟨m, rfl⟩ := Int.eq_ofNat_of_zero_le hn
    refine (frPow_pos b a k c b' a' k' c' q hq m (by omega) w h).mono ?_
    rintro e w' ⟨⟨b5, a5, k5, c5, b6, a6, k6, c6, o, z1, z2, rfl, p1, p2, la⟩, hb⟩
    obtain ⟨e1, e2⟩ := pow_parts (q := q) hn
    rw [Int.toNat_natCast] at e1 e2
    obtain ⟨t1, t2⟩ := pow_ans e1 e2 p1 p2 la
    exact ⟨⟨_, _, rfl, t1, t2⟩, hb⟩
  · have hq1 : q ≠ 0 := by rcases hq0 with h | h; exact h; exact absurd h hn
    obtain ⟨m, rfl⟩ : ∃ m : Nat, n = -(m : Int) := ⟨n.natAbs, by omega⟩
    refine (frPow_neg b a k c b' a' k' c' q hq m (by omega) (by omega) hq1 w h).mono ?_
    rintro e w' ⟨⟨b5, a5, k5, c5, b6, a6, k6, c6, o, z1, z2, rfl, p1, p2, la⟩, hb⟩
    obtain ⟨e1, e2⟩ := npow_parts (q := q) hq1 (by omega : -(m : Int) < 0)
    rw [Int.natAbs_neg, Int.natAbs_natCast] at e1 e2
    obtain ⟨t1, t2⟩ := pow_ans e1 e2 p1 p2 la
    exact ⟨⟨_, _, rfl, t1, t2⟩, hb⟩
end Go.Proofs.YtmbcnfogjncdaaaGreat
