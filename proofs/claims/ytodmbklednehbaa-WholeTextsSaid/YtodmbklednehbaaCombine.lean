/-
'combine': a * p + b * q, which must not be negative.
-/
import Derived.Test.YtodmbklednehbaaCollect
namespace Go.Proofs.Ytodmbklednehbaa
open Go.RowKit Wh

theorem mul_bound {x p M : Int} (h0 : 0 ≤ x) (h1 : x ≤ 65535) (hM : 0 ≤ M) (hp : -M ≤ p) (hq : p ≤ M) : -(65535 * M) ≤ x * p ∧ x * p ≤ 65535 * M := by
  have h2 : x * p ≤ x * M := Int.mul_le_mul_of_nonneg_left hq h0
  have h3 : x * -M ≤ x * p := Int.mul_le_mul_of_nonneg_left hp h0
  have h4 : x * M ≤ 65535 * M := Int.mul_le_mul_of_nonneg_right h1 hM
  rw [Int.mul_neg] at h3
  omega

/-- What is put so far is the combination of the limbs so far. -/
def CombRel (N B Bp Bc Bl : Nat) (la lb : List Nat) (p q : Int) (w : World) (i : Value) (wr : World) : Prop :=
  ∃ (k : Nat) (l : List Nat) (c : Int), k ≤ N ∧ i = .int .i64 (k : Int) ∧ l.length = k ∧ Lm l ∧ -70368744177664 ≤ c ∧ c ≤ 70368744177664 ∧
    (val l : Int) + ((65536 ^ k : Nat) : Int) * c = (val (la.take k) : Int) * p + (val (lb.take k) : Int) * q ∧ Col B wr Bp Bc Bl l c ∧ Below B w wr

theorem comb_step {la lb l : List Nat} {p q c : Int} {k : Nat} (hl : l.length = k) (h : (val l : Int) + ((65536 ^ k : Nat) : Int) * c = (val (la.take k) : Int) * p + (val (lb.take k) : Int) * q) :
    (val (l ++ [((c + (((la[k]?.getD 0 : Nat) : Int) * p + ((lb[k]?.getD 0 : Nat) : Int) * q)) % 65536).toNat]) : Int) + ((65536 ^ (k + 1) : Nat) : Int) * ((c + (((la[k]?.getD 0 : Nat) : Int) * p + ((lb[k]?.getD 0 : Nat) : Int) * q)) / 65536) = (val (la.take (k + 1)) : Int) * p + (val (lb.take (k + 1)) : Int) * q := by
  have e := put_step l c (((la[k]?.getD 0 : Nat) : Int) * p + ((lb[k]?.getD 0 : Nat) : Int) * q)
  rw [hl] at e
  rw [e]
  have t : ∀ a : List Nat, val (a.take (k + 1)) = val (a.take k) + 65536 ^ k * (a[k]?.getD 0) := by
    intro a
    by_cases hk : k < a.length
    · exact val_take_succ hk
    · rw [List.take_of_length_le (by omega), List.take_of_length_le (by omega), List.getElem?_eq_none (by omega)]
      simp
  rw [t la, t lb]
  generalize 65536 ^ k = P at h ⊢
  rw [Int.mul_add, ← Int.add_assoc, h]
  simp only [Int.natCast_add, Int.natCast_mul, Int.add_mul, Int.mul_add, Int.mul_assoc]
  omega

theorem getD_out {l : List Nat} {k : Nat} (h : l.length ≤ k) : l[k]?.getD 0 = 0 := by rw [List.getElem?_eq_none h]; rfl

theorem comb_rel {M B Bp Bc Bl : Nat} {la lb l : List Nat} {p q c d : Int} {k : Nat} {w wr w1 : World} (hl : l.length = k) (hlm : Lm l) (c1 : -70368744177664 ≤ c) (c2 : c ≤ 70368744177664)
    (hv : (val l : Int) + ((65536 ^ k : Nat) : Int) * c = (val (la.take k) : Int) * p + (val (lb.take k) : Int) * q) (hb : Below B w wr) (hk : k < M)
    (hd : d = ((la[k]?.getD 0 : Nat) : Int) * p + ((lb[k]?.getD 0 : Nat) : Int) * q) (hcol : Col B w1 Bp Bc Bl (l ++ [((c + d) % 65536).toNat]) ((c + d) / 65536)) (hb1 : Below B wr w1)
    (d1 : -4611615649683210240 ≤ d) (d2 : d ≤ 4611615649683210240) : CombRel M B Bp Bc Bl la lb p q w (.int .i64 ((k : Int) + 1)) w1 := by
  refine ⟨k + 1, _, _, by omega, by go_num, by rw [List.length_append, hl]; rfl, hlm.append (.cons (by omega) .nil), by omega, by omega, ?_, hcol, hb.trans hb1⟩
  subst hd
  exact comb_step hl hv

set_option maxRecDepth 100000 in
set_option maxHeartbeats 4000000 in
theorem combine_any (sa sb : Value) (la lb : List Nat) (p q : Int) (hla : Lm la) (hlb : Lm lb) (na : la.length ≤ 1048000) (nb : lb.length ≤ 1048000) (p1 : -35184372088832 ≤ p) (p2 : p ≤ 35184372088832) (q1 : -35184372088832 ≤ q) (q2 : q ≤ 35184372088832)
    (hT : 0 ≤ (val la : Int) * p + (val lb : Int) * q) (w : World) (h : Lim w sa la) (g : Lim w sb lb) :
    Calls Try.prog 57 #[sa, sb, .int .i64 p, .int .i64 q] w fun e w' => (∃ v', e = .returned v' ∧ LimF w.heap.size w' v' (dig ((val la : Int) * p + (val lb : Int) * q).toNat)) ∧ Below w.heap.size w w' := by
  have h' := h
  have g' := g
  obtain ⟨a, cap, rfl, hlc, ⟨hcm, hcl, hcn⟩, hcs⟩ := h'
  obtain ⟨b, capb, rfl, klc, ⟨kcm, kcl, kcn⟩, kcs⟩ := g'
  have ca : ∀ k, k < la.length → ∃ bb bo, a = some ⟨bb, bo, none⟩ ∧ bb < w.heap.size ∧ w.cell? ⟨bb, bo + k, none⟩ = some (.int .u16 ((la[k]?.getD 0 : Nat) : Int)) := fun k hk => by
    obtain ⟨bb, bo, e, e1, e2⟩ := h.block (by intro e; rw [e] at hk; simp at hk)
    exact ⟨bb, bo, e, e1, e2 k hk⟩
  have cb : ∀ k, k < lb.length → ∃ bb bo, b = some ⟨bb, bo, none⟩ ∧ bb < w.heap.size ∧ w.cell? ⟨bb, bo + k, none⟩ = some (.int .u16 ((lb[k]?.getD 0 : Nat) : Int)) := fun k hk => by
    obtain ⟨bb, bo, e, e1, e2⟩ := g.block (by intro e; rw [e] at hk; simp at hk)
    exact ⟨bb, bo, e, e1, e2 k hk⟩
  have CA := Lib.hid ca
  have CB := Lib.hid cb
  have HT := Lib.hid hT
  clear hcs kcs hcn kcn ca cb h g hT
  rcases Nat.lt_or_ge la.length lb.length with hle | hle
  all_goals
    go_enter Try.func57, Try.ntmps57
    go_wp2_with (go_at_call 73; refine (collect_any _ (by omega) (by omega) _).mono ?_; rintro e w1 ⟨⟨Bp, Bc, Bl, rfl, hcol⟩, hb⟩)
    unfold putV endV
    go_loopw [26] (fun i wr => CombRel (max la.length lb.length) w.heap.size Bp Bc Bl la lb p q w i wr) (fun i _ => (max la.length lb.length + 1) - (intOf i).toNat)
    case atStart => exact ⟨0, [], 0, by omega, rfl, rfl, .nil, by omega, by omega, by simp, hcol, hb⟩
    case round =>
      obtain ⟨k, l, c, hk, rfl, hl, hlm, c1, c2, hv, hcol', hb'⟩ := hrel
      have hBr : w.heap.size ≤ wr.heap.size := hb'.size
      have hll : l.length ≤ 1048570 := by omega
      have HV := Lib.hid hv
      have HL := Lib.hid hl
      have HR := Lib.hid (fun (d : Int) (w1 : World) h1 h2 h3 h4 h5 h6 => @comb_rel (max la.length lb.length) w.heap.size Bp Bc Bl la lb l p q c d k w wr w1 hl hlm c1 c2 hv hb' h1 h2 h3 h4 h5 h6)
      clear hv hl
      by_cases hN : k < la.length
      · obtain ⟨ba, oa, rfl, hba', hca⟩ := CA.out k hN
        have hca' := (hb'.cell (p := ⟨ba, oa + k, none⟩) hba').trans hca
        have hu := hla.getD k
        obtain ⟨u, hu'⟩ : ∃ u : Nat, u = la[k]?.getD 0 := ⟨_, rfl⟩
        rw [← hu'] at hca' hu
        have HU := Lib.hid hu'
        clear hu' hca
        obtain ⟨m1, m2⟩ := mul_bound (x := (u : Int)) (by omega) (by omega) (by omega) p1 p2
        by_cases hN2 : k < lb.length
        · obtain ⟨bb, ob, rfl, hbb', hcb⟩ := CB.out k hN2
          have hcb' := (hb'.cell (p := ⟨bb, ob + k, none⟩) hbb').trans hcb
          have hu2 := hlb.getD k
          obtain ⟨v, hv'⟩ : ∃ v : Nat, v = lb[k]?.getD 0 := ⟨_, rfl⟩
          rw [← hv'] at hcb' hu2
          have HW := Lib.hid hv'
          clear hv' hcb
          obtain ⟨m3, m4⟩ := mul_bound (x := (v : Int)) (by omega) (by omega) (by omega) q1 q2
          go_wp2_with (go_at_call 78; refine (put_any w.heap.size Bp Bc Bl l c _ (by omega) (by omega) (by omega) wr hBr hcol').mono ?_; rintro e w1 ⟨rfl, hcol1, hb1⟩)
          exact ⟨HR.out _ _ (by omega) (by rw [← HU.out, ← HW.out]) hcol1 hb1 (by omega) (by omega), by simp [intOf]; omega⟩
        · first
            | (exfalso; omega)
            | (go_wp2_with (go_at_call 78; refine (put_any w.heap.size Bp Bc Bl l c _ (by omega) (by omega) (by omega) wr hBr hcol').mono ?_; rintro e w1 ⟨rfl, hcol1, hb1⟩)
               exact ⟨HR.out _ _ (by omega) (by rw [← HU.out, getD_out (by omega)]; simp) hcol1 hb1 (by omega) (by omega), by simp [intOf]; omega⟩)
      · by_cases hN2 : k < lb.length
        · first
            | (exfalso; omega)
            | (obtain ⟨bb, ob, rfl, hbb', hcb⟩ := CB.out k hN2
               have hcb' := (hb'.cell (p := ⟨bb, ob + k, none⟩) hbb').trans hcb
               have hu2 := hlb.getD k
               obtain ⟨v, hv'⟩ : ∃ v : Nat, v = lb[k]?.getD 0 := ⟨_, rfl⟩
               rw [← hv'] at hcb' hu2
               have HW := Lib.hid hv'
               clear hv' hcb
               obtain ⟨m3, m4⟩ := mul_bound (x := (v : Int)) (by omega) (by omega) (by omega) q1 q2
               go_wp2_with (go_at_call 78; refine (put_any w.heap.size Bp Bc Bl l c _ (by omega) (by omega) (by omega) wr hBr hcol').mono ?_; rintro e w1 ⟨rfl, hcol1, hb1⟩)
               exact ⟨HR.out _ _ (by omega) (by rw [← HW.out, getD_out (by omega)]; simp) hcol1 hb1 (by omega) (by omega), by simp [intOf]; omega⟩)
        · have hT := HT.out
          have hv := HV.out
          rw [List.take_of_length_le (by omega), List.take_of_length_le (by omega)] at hv
          have hc0 : 0 ≤ c := by
            by_cases hneg : 0 ≤ c
            · exact hneg
            · have hlt := val_lt hlm
              rw [HL.out] at hlt
              have : ((65536 ^ k : Nat) : Int) * c ≤ ((65536 ^ k : Nat) : Int) * (-1) := Int.mul_le_mul_of_nonneg_left (by omega) (by omega)
              omega
          have ev : val l + 65536 ^ l.length * c.toNat = ((val la : Int) * p + (val lb : Int) * q).toNat := by
            rw [HL.out, ← hv]
            have e2 : (c.toNat : Int) = c := Int.toNat_of_nonneg hc0
            conv => rhs; rw [← e2]
            rw [← Int.natCast_mul, ← Int.natCast_add, Int.toNat_natCast]
          have EV := Lib.hid ev
          clear ev hv hT
          go_wp2_with (go_at_call 79; refine (end_any w.heap.size Bp Bc Bl l c hlm hc0 (by omega) (by omega) wr hBr hcol').mono ?_; rintro e w1 ⟨⟨v', rfl, hl1⟩, hb1⟩)
          go_ret
          rw [EV.out] at hl1
          exact ⟨⟨v', rfl, hl1⟩, hb'.trans hb1⟩

end Go.Proofs.Ytodmbklednehbaa
