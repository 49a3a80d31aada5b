/-
'multiply': the product, column by column.
-/
import Derived.BigQuiet
import Derived.WalkSmall
import Derived.Deep.QuietTactic
import Derived.Test.YtodmbklednehbaaCombine
import Derived.Test.YtodmbklednehbaaConv
namespace Go.Proofs.Ytodmbklednehbaa
open Go.RowKit Wh

theorem Boxed.below {W W' : World} {B : Nat} {t : TypeId} {v : Value} (h : Boxed W B t v) (hb : Below W.heap.size W W') : Boxed W' B t v := (hb.block B h.lt).trans h

theorem ownsRow_below {W W' : World} {base size n : Nat} {e : TypeId} {v : Value} {xs : List Value} (h : W.ownsRow base e size v n xs) (hb : Below W.heap.size W W') : W'.ownsRow base e size v n xs := by
  refine ⟨h.1, ?_⟩
  rcases h.2 with h2 | ⟨g, cap, cur, hv, hg, hh, r⟩
  · exact .inl h2
  · exact .inr ⟨g, cap, cur, hv, hg, (hb.block g (Array.getElem?_eq_some_iff.1 hh).1).trans hh, r⟩

theorem Col.below {B : Nat} {W W' : World} {Bp Bc Bl : Nat} {l : List Nat} {c : Int} (h : Col B W Bp Bc Bl l c) (hb : Below W.heap.size W W') : Col B W' Bp Bc Bl l c := by
  obtain ⟨h1, h2, ⟨v, h3, h4⟩, h5⟩ := h
  exact ⟨Boxed.below h1 hb, Boxed.below h2 hb, ⟨v, Boxed.below h3 hb, ownsRow_below h4 hb⟩, h5⟩

/-- The columns so far are the limbs and the carry so far. -/
def MulRel (N B Bp Bc Bl : Nat) (la lb : List Nat) (w : World) (i : Value) (wr : World) : Prop :=
  ∃ (k : Nat) (l : List Nat) (c : Int), k ≤ N ∧ i = .int .i64 (k : Int) ∧ l.length = k ∧ Lm l ∧ 0 ≤ c ∧ c ≤ 281474976710656 ∧
    (val l : Int) + ((65536 ^ k : Nat) : Int) * c = (cols la lb k : Int) ∧ Col B wr Bp Bc Bl l c ∧ Below B w wr

def InRel (la lb : List Nat) (k : Nat) (w : World) (d i : Value) (wr : World) : Prop :=
  ∃ j : Nat, k + 1 - lb.length ≤ j ∧ j ≤ min (k + 1) la.length ∧ i = .int .i64 (j : Int) ∧ d = .int .i64 ((col la lb k j : Nat) : Int) ∧ Below w.heap.size w wr

set_option maxRecDepth 100000 in
set_option maxHeartbeats 4000000 in
theorem multiply_any (sa sb : Value) (la lb : List Nat) (hla : Lm la) (hlb : Lm lb) (na : la.length ≤ 16384) (nb : lb.length ≤ 16384) (w : World) (h : Lim w sa la) (g : Lim w sb lb) :
    Calls Try.prog 61 #[sa, sb] w fun e w' => (∃ v', e = .returned v' ∧ LimF w.heap.size w' v' (dig (val la * val lb))) ∧ Below w.heap.size w w' := by
  have h' := h
  have g' := g
  obtain ⟨a, cap, rfl, hlc, ⟨hcm, hcl, hcn⟩, hcs⟩ := h'
  obtain ⟨b, capb, rfl, klc, ⟨kcm, kcl, kcn⟩, kcs⟩ := g'
  have ca : ∀ k, k < la.length → ∃ bb bo, a = some ⟨bb, bo, none⟩ ∧ bb < w.heap.size ∧ w.cell? ⟨bb, bo + k, none⟩ = some (.int .u16 ((la[k]?.getD 0 : Nat) : Int)) := fun k hk => by
    obtain ⟨bb, bo, e, e1, e2⟩ := h.block (by intro e; rw [e] at hk; simp at hk)
    exact ⟨bb, bo, e, e1, e2 k hk⟩
  have cb : ∀ k, k < lb.length → ∃ bb bo, b = some ⟨bb, bo, none⟩ ∧ bb < w.heap.size ∧ w.cell? ⟨bb, bo + k, none⟩ = some (.int .u16 ((lb[k]?.getD 0 : Nat) : Int)) := fun k hk => by
    obtain ⟨bb, bo, e, e1, e2⟩ := g.block (by intro e; rw [e] at hk; simp at hk)
    exact ⟨bb, bo, e, e1, e2 k hk⟩
  have CA := Lib.hid ca
  have CB := Lib.hid cb
  clear hcs kcs hcn kcn ca cb h g
  go_enter Try.func61, Try.ntmps61
  go_wp2_with (go_at_call 73; refine (collect_any _ (by omega) (by omega) _).mono ?_; rintro e w1 ⟨⟨Bp, Bc, Bl, rfl, hcol⟩, hb⟩)
  unfold putV endV
  go_loopw [25] (fun i wr => MulRel (la.length + lb.length - 1) w.heap.size Bp Bc Bl la lb w i wr) (fun i _ => (la.length + lb.length) - (intOf i).toNat)
  case atStart => exact ⟨0, [], 0, by omega, rfl, rfl, .nil, by omega, by omega, by simp [cols, sm], hcol, hb⟩
  case round =>
    obtain ⟨k, l, c, hk, rfl, hl, hlm, c1, c2, hv, hcol', hb'⟩ := hrel
    have hBr : w.heap.size ≤ wr.heap.size := hb'.size
    have hll : l.length ≤ 1048570 := by omega
    have HV := Lib.hid hv
    have HL := Lib.hid hl
    clear hv hl
    by_cases hN : k + 1 < la.length + lb.length
    · obtain ⟨wo, rfl⟩ : ∃ wo : World, wo = wr := ⟨_, rfl⟩
      go_wp2
      all_goals
        go_loopw [8, 9] (fun d i wi => InRel la lb k wo d i wi) (fun _ i _ => la.length - (intOf i).toNat)
        case atStart => exact ⟨k + 1 - lb.length, by omega, by omega, by go_num, by rw [col_low]; rfl, Below.refl _ _⟩
        case round =>
          obtain ⟨j, j1, j2, rfl, rfl, hbi⟩ := hrel
          by_cases hj : j < min (k + 1) la.length
          · have hj1 : j < k + 1 := by omega
            have hj2 : j < la.length := by omega
            have hj3 : k - j < lb.length := by omega
            obtain ⟨ba, oa, rfl, hba', hca⟩ := CA.out j hj2
            obtain ⟨bb, ob, rfl, hbb', hcb⟩ := CB.out (k - j) hj3
            have hca' := ((hbi.cell (p := ⟨ba, oa + j, none⟩) (show ba < _ by omega)).trans (hb'.cell (p := ⟨ba, oa + j, none⟩) hba')).trans hca
            have hcb' := ((hbi.cell (p := ⟨bb, ob + (k - j), none⟩) (show bb < _ by omega)).trans (hb'.cell (p := ⟨bb, ob + (k - j), none⟩) hbb')).trans hcb
            clear hca hcb
            have hu := hla.getD j
            have hu2 := hlb.getD (k - j)
            obtain ⟨u, hu'⟩ : ∃ u : Nat, u = la[j]?.getD 0 := ⟨_, rfl⟩
            obtain ⟨v, hv'⟩ : ∃ v : Nat, v = lb[k - j]?.getD 0 := ⟨_, rfl⟩
            have HC := Lib.hid (col_succ la lb k j)
            rw [← hu'] at hca' hu
            rw [← hv'] at hcb' hu2
            have HU := Lib.hid hu'
            have HW := Lib.hid hv'
            clear hu' hv'
            have hd := col_le hla hlb k j
            generalize col la lb k j = d at hd HC ⊢
            have hp := mul_bound (x := (u : Int)) (p := (v : Int)) (M := 65535) (by omega) (by omega) (by omega) (by omega) (by omega)
            have hp0 : 0 ≤ (u : Int) * (v : Int) := Int.mul_nonneg (by omega) (by omega)
            obtain ⟨z, hz⟩ : ∃ z : Int, z = (u : Int) * (v : Int) := ⟨_, rfl⟩
            rw [← hz] at hp hp0
            have hp2 := hp.2
            clear hp
            have HZ := Lib.hid hz
            clear hz
            have e1 : IntKind.i64.wrap ((k : Int) - (j : Int)) = (k : Int) - (j : Int) := IntWalk.i64_in _ (by omega)
            have e2 : (0 : Int) ≤ (k : Int) - (j : Int) := by omega
            have e3 : ((k : Int) - (j : Int)).toNat = k - j := by omega
            have e4 : IntKind.i64.wrap ((u : Int) * (v : Int)) = z := by rw [← HZ.out]; exact IntWalk.i64_in _ (by omega)
            have e5 : IntKind.i64.wrap ((d : Int) + z) = (d : Int) + z := IntWalk.i64_in _ (by omega)
            have e6 : ((k : Int) - (j : Int)) < (lb.length : Int) := by omega
            go_wp2
            all_goals go_quiet (fail)
            all_goals
              have ef : Value.int IntKind.i64 ((d : Int) + z) = .int .i64 ((d + la[j]?.getD 0 * lb[k - j]?.getD 0 : Nat) : Int) := by
                rw [HZ.out, HU.out, HW.out, Int.natCast_add, Int.natCast_mul]
              have EF := Lib.hid ef
              clear ef e1 e2 e3 e4 e5 e6
              go_wp2
              go_roundw
              case rel => exact ⟨j + 1, by omega, by omega, by go_num, by rw [HC.out]; exact EF.out, below_drewN hbi _⟩
              case measure => simp [intOf]; omega
          · have hjj : j = min (k + 1) la.length := by omega
            have hd := col_high la lb k
            rw [← hjj] at hd
            have hle := col_le hla hlb k j
            have hjle : j ≤ 16384 := by omega
            have hcolr := hcol'.below hbi
            have HCS := Lib.hid (cols_succ la lb k)
            rw [← hd] at HCS
            have hbr := hb'.trans (hbi.mono hBr)
            generalize col la lb k j = d at hle HCS ⊢
            clear hd
            have HJ := Lib.hid hjj
            clear hjj
            have hj5 : ¬ (j < k + 1 ∧ j < la.length) := by omega
            have hBr2 : w.heap.size ≤ wr.heap.size := hbr.size
            go_wp2_with (go_at_call 78; refine (put_any w.heap.size Bp Bc Bl l c _ (by omega) (by omega) (by omega) wr hBr2 hcolr).mono ?_; rintro e w2 ⟨rfl, hcol1, hb1⟩)
            all_goals
              refine ⟨⟨k + 1, _, _, by omega, by go_num, by rw [List.length_append, HL.out]; rfl, hlm.append (.cons (by omega) .nil), by omega, by omega, ?_, hcol1, hbr.trans hb1⟩, by simp [intOf]; omega⟩
              have e := put_step l c (d : Int)
              rw [HL.out] at e
              rw [e, HCS.out]
              have e2 := HV.out
              generalize 65536 ^ k = P at e2 ⊢
              rw [Int.mul_add, Int.natCast_add, Int.natCast_mul, ← e2]
              omega
    · have hk2 : k = la.length + lb.length - 1 := by omega
      have ev : val l + 65536 ^ l.length * c.toNat = val la * val lb := by
        have e := HV.out
        rw [cols_eq la lb k (by omega)] at e
        rw [HL.out]
        have e2 : (c.toNat : Int) = c := Int.toNat_of_nonneg c1
        rw [← e2, ← Int.natCast_mul, ← Int.natCast_add] at e
        exact Int.ofNat_inj.1 e
      have EV := Lib.hid ev
      clear ev hk2
      go_wp2_with (go_at_call 79; refine (end_any w.heap.size Bp Bc Bl l c hlm c1 (by omega) (by omega) wr hBr hcol').mono ?_; rintro e w1 ⟨⟨v', rfl, hl1⟩, hb1⟩)
      go_ret
      rw [EV.out] at hl1
      exact ⟨⟨v', rfl, hl1⟩, hb'.trans hb1⟩

end Go.Proofs.Ytodmbklednehbaa
