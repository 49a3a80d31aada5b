/-
'read': numbers out of a text.
-/
import Derived.Test.YtmjmpdbkijhkiaaDoorCFuns
import Derived.Test.YtmjmpdbkijhkiaaDoorCTxtMath
import Derived.OneCell
import Derived.Lib.IndexBytes
import Derived.RegionTactic
import Derived.BigRegion
import Derived.ChangeAlike
namespace Go.Proofs.YtmjmpdbkijhkiaaDoor
open Go.RowKit

/-- Only block p has changed. -/
structure Exc (B p : Nat) (w w' : World) : Prop where
  below : Below B w w'
  size : w'.heap.size = w.heap.size
  other : ∀ b, b ≠ p → w'.heap[b]? = w.heap[b]?

theorem Exc.refl (B p : Nat) (w : World) : Exc B p w w := ⟨Below.refl _ _, rfl, fun _ _ => rfl⟩
theorem Exc.setCell {B p : Nat} {w w' : World} (h : Exc B p w w') (hB : B ≤ p) (v : Value) : Exc B p w (w'.setCell ⟨p, 0, none⟩ v) :=
  ⟨h.below.setCell hB v, by rw [← h.size]; simp, fun b hb => (Below.heap_setCell _ _ _ _ hb).trans (h.other b hb)⟩
theorem Exc.drew {B p : Nat} {w w' : World} (h : Exc B p w w') : Exc B p w w'.drew := ⟨h.below.drew, h.size, h.other⟩

/-- The cells of the numbers, j of which have been read. -/
def NumCells (l : List UInt8) (P j : Nat) (w : World) : Prop := ∀ i, i < 3 → w.heap[P + i]? = some (.cells #[.int .i64 (if i < j then CalT.num (CalT.lst l i) else 0)] 3 (0, 0))

theorem NumCells.next {l : List UInt8} {P j : Nat} {w w' : World} (h : NumCells l P j w) (hj : j < 3) (he : ∀ b, b ≠ P + j → w'.heap[b]? = w.heap[b]?)
    (hc : w'.heap[P + j]? = some (.cells #[.int .i64 (CalT.num (CalT.lst l j))] 3 (0, 0))) : NumCells l P (j + 1) w' := fun i hi => by
  by_cases e : i = j
  · subst e
    rw [if_pos (by omega)]
    exact hc
  · rw [he (P + i) (by omega), h i hi]
    by_cases h1 : i < j
    · rw [if_pos h1, if_pos (by omega)]
    · rw [if_neg h1, if_neg (by omega)]

def ptrs (P : Nat) : Array Value := #[.pointer (some ⟨P, 0, none⟩), .pointer (some ⟨P + 1, 0, none⟩), .pointer (some ⟨P + 2, 0, none⟩)]

theorem isD_yes {c : UInt8} (h1 : (48 : Int) ≤ (c.toNat : Int)) (h2 : (c.toNat : Int) ≤ 57) : CalT.isD c = true := decide_eq_true ⟨by omega, by omega⟩
theorem isD_no {c : UInt8} (h : ¬ ((48 : Int) ≤ (c.toNat : Int) ∧ (c.toNat : Int) ≤ 57)) : CalT.isD c = false := decide_eq_false (by omega)

/-- The inner loop's relation. -/
def InRel (s : ByteArray) (B p : Nat) (w : World) (v6 : Value) (wr : World) : Prop := ∃ k : Nat, k ≤ s.size ∧ v6 = .int .i64 (k : Int) ∧ (∀ i (h : i < s.data.toList.length), i < k → CalT.isD s.data.toList[i] = true) ∧
  wr.heap[p]? = some (.cells #[.int .i64 (CalT.val (s.data.toList.take k))] 3 (0, 0)) ∧ Exc B p w wr

theorem InRel.done {s : ByteArray} {p : Nat} {wr : World} {k : Nat} (hk : k ≤ s.size) (hd : ∀ i (h : i < s.data.toList.length), i < k → CalT.isD s.data.toList[i] = true)
    (hc : wr.heap[p]? = some (.cells #[.int .i64 (CalT.val (s.data.toList.take k))] 3 (0, 0))) (he : ∀ h : k < s.data.toList.length, CalT.isD s.data.toList[k] = false) :
    wr.heap[p]? = some (.cells #[.int .i64 (CalT.num s.data.toList)] 3 (0, 0)) ∧ CalT.cnt s.data.toList = k := by
  have := CalT.cnt_eq s.data.toList k (by simpa using hk) hd he
  rw [this.2]
  exact ⟨hc, this.1⟩

def OutRel (l : List UInt8) (P Bs : Nat) (w : World) (v0 v9 : Value) (wr : World) : Prop := ∃ (j : Nat) (s : ByteArray), j ≤ 3 ∧ s.size ≤ 10 ∧ v9 = .int .i64 (j : Int) ∧ v0 = .string s ∧ s.data.toList = CalT.lst l j ∧ NumCells l P j wr ∧ wr.heap[Bs]? = w.heap[Bs]? ∧ Below P w wr ∧ wr.heap.size = w.heap.size

theorem InRel.next {s : ByteArray} {B p : Nat} {w wr : World} {k : Nat} {V : Int} (hlt : k < s.size) (hB : B ≤ p) (hV : V = CalT.val (s.data.toList.take k))
    (hd : ∀ i (h : i < s.data.toList.length), i < k → CalT.isD s.data.toList[i] = true) (hD : CalT.isD s[k] = true)
    (hc : wr.heap[p]? = some (.cells #[.int .i64 V] 3 (0, 0))) (hx : Exc B p w wr) : InRel s B p w (.int .i64 ((k : Int) + 1)) (wr.setCell ⟨p, 0, none⟩ (.int .i64 (V * 10 + ((s[k].toNat : Int) - 48)))).drew := by
  refine ⟨k + 1, by omega, by go_num, fun i h1 h2 => ?_, ?_, (hx.setCell hB _).drew⟩
  · by_cases e : i = k
    · subst e; exact hD
    · exact hd i h1 (by omega)
  · have e : CalT.val (s.data.toList.take (k + 1)) = V * 10 + ((s[k].toNat : Int) - 48) := by
      rw [List.take_succ_eq_append_getElem (by simpa using hlt), CalT.val_snoc, hV]; rfl
    rw [e]
    exact one_setCell hc

theorem OutRel.next {l : List UInt8} {P Bs : Nat} {w wo wr : World} {s : ByteArray} {j k : Nat} (hj : j < 3) (hs : s.size ≤ 10) (hB : P + 2 < Bs) (hl : s.data.toList = CalT.lst l j) (hn : NumCells l P j wo)
    (hbr : wo.heap[Bs]? = w.heap[Bs]?) (hbel : Below P w wo) (hsz : wo.heap.size = w.heap.size) (hx : Exc P (P + j) wo wr)
    (he : wr.heap[P + j]? = some (.cells #[.int .i64 (CalT.num s.data.toList)] 3 (0, 0)) ∧ CalT.cnt s.data.toList = k) (s' : ByteArray) (hs' : s'.data.toList = s.data.toList.drop (k + 1)) :
    OutRel l P Bs w (.string s') (.int .i64 ((j : Int) + 1)) wr := by
  have hlen : s'.size ≤ s.size := by
    have : s'.data.toList.length ≤ s.data.toList.length := by rw [hs']; simp
    simpa using this
  refine ⟨j + 1, s', by omega, by omega, by go_num, rfl, ?_, hn.next hj hx.other (by rw [← hl]; exact he.1), (hx.other Bs (by omega)).trans hbr, hbel.trans hx.below, hx.size.trans hsz⟩
  rw [hs']
  show s.data.toList.drop (k + 1) = CalT.rest (CalT.lst l j)
  unfold CalT.rest
  rw [← hl, he.2]

set_option maxRecDepth 100000 in
set_option maxHeartbeats 4000000 in
theorem read_any (s0 : ByteArray) (h10 : s0.size ≤ 10) (P Bs : Nat) (w : World) (hn : NumCells s0.data.toList P 0 w) (hb : w.heap[Bs]? = some (.cells (ptrs P) 45 (0, 0))) (hB : P + 2 < Bs) :
    Calls Tryd.prog 45 #[.string s0, .slice (some ⟨Bs, 0, none⟩) 3 3] w fun e w' => e = .returned (.tuple #[]) ∧ NumCells s0.data.toList P 3 w' ∧ Below P w w' ∧ w'.heap.size = w.heap.size := by
  have HN := Lib.hid hn
  have HB := Lib.hid hb
  clear hn hb
  go_enter Tryd.func45, Tryd.ntmps45
  go_wp2
  go_loopw [0, 9] (fun v0 v9 wr => OutRel s0.data.toList P Bs w v0 v9 wr) (fun _ v9 _ => 3 - (intOf v9).toNat)
  case atStart => exact ⟨0, s0, by omega, h10, rfl, rfl, rfl, HN.out, rfl, Below.refl _ _, rfl⟩
  case round =>
    obtain ⟨j, s, hj, hs, rfl, rfl, hl, hnr, hbr, hbel, hsz⟩ := hrel
    have HL := Lib.hid hl
    have HNR := Lib.hid hnr
    have HBR := Lib.hid hbr
    have HBL := Lib.hid hbel
    have HSZ := Lib.hid hsz
    clear hl hnr hbr hbel hsz
    by_cases hj3 : j < 3
    · have hcp : wr.cell? ⟨Bs, j, none⟩ = some (.pointer (some ⟨P + j, 0, none⟩)) := by
        have := HBR.out.trans HB.out
        rw [cell_of_row _ _ _ _ _ _ this]
        match j, hj3 with
        | 0, _ | 1, _ | 2, _ => rfl
      have hne : P + j ≠ Bs := by omega
      have h0 : wr.heap[P + j]? = some (.cells #[.int .i64 0] 3 (0, 0)) := by
        have := HNR.out j hj3
        rwa [if_neg (by omega)] at this
      have H0 := Lib.hid h0
      clear h0
      go_wp2
      obtain ⟨wo, hwo⟩ : ∃ wo : World, wo = wr := ⟨_, rfl⟩
      rw [← hwo] at HNR HBR HBL HSZ H0
      have HWO := Lib.hid hwo
      clear hwo hcp
      go_loopw [6] (fun v6 wi => InRel s P (P + j) wo v6 wi) (fun v6 _ => s.size - (intOf v6).toNat)
      case atStart => exact ⟨0, Nat.zero_le _, rfl, fun i h1 h2 => absurd h2 (Nat.not_lt_zero _), by rw [← HWO.out]; exact H0.out, by rw [← HWO.out]; exact Exc.refl _ _ _⟩
      case round =>
        rename_i wi
        obtain ⟨k, hk, rfl, hdig, hcell, hexc⟩ := hrel
        have HD := Lib.hid hdig
        have HC := Lib.hid hcell
        have HX := Lib.hid hexc
        have hvb := CalT.val_take_bd s.data.toList k (by omega) hdig
        have c1 := cell_of_one hcell
        have f1 := free_of_one hcell
        clear hdig hcell hexc
        obtain ⟨V, HV⟩ : ∃ V, Hid (V = CalT.val (s.data.toList.take k)) := ⟨_, Lib.hid rfl⟩
        rw [← HV.out] at hvb c1 HC
        by_cases hlt : k < s.size
        · by_cases h48 : (48 : Int) ≤ (s[k].toNat : Int)
          · by_cases h57 : (s[k].toNat : Int) ≤ 57
            · go_wp2
              go_region
              go_wp2
              go_roundw
              case rel => exact InRel.next hlt (by omega) HV.out HD.out (isD_yes h48 h57) HC.out HX.out
              case measure => simp [intOf]; omega
            · have HE := InRel.done hk HD.out (by rw [← HV.out]; exact HC.out) (fun _ => isD_no (c := s[k]) (by omega))
              have hmin : ¬ (s.size : Int) < (k : Int) + 1 := by omega
              go_wp2
              go_roundw
              case rel => exact OutRel.next hj3 hs hB HL.out HNR.out HBR.out HBL.out HSZ.out HX.out HE _ (Lib.extract_to_end s (k + 1))
              case measure => simp [intOf]; omega
          · have HE := InRel.done hk HD.out (by rw [← HV.out]; exact HC.out) (fun _ => isD_no (c := s[k]) (by omega))
            have hmin : ¬ (s.size : Int) < (k : Int) + 1 := by omega
            go_wp2
            go_roundw
            case rel => exact OutRel.next hj3 hs hB HL.out HNR.out HBR.out HBL.out HSZ.out HX.out HE _ (Lib.extract_to_end s (k + 1))
            case measure => simp [intOf]; omega
        · have HE := InRel.done hk HD.out (by rw [← HV.out]; exact HC.out) (fun h => by simp at h; omega)
          obtain rfl : k = s.size := by omega
          have hmin : (s.size : Int) < (s.size : Int) + 1 := by omega
          go_wp2
          go_roundw
          case rel => exact OutRel.next hj3 hs hB HL.out HNR.out HBR.out HBL.out HSZ.out HX.out HE _ (by rw [List.drop_eq_nil_of_le (by simp)]; rfl)
          case measure => simp [intOf]; omega
    · obtain rfl : j = 3 := by omega
      go_wp2
      go_end0
      exact ⟨rfl, HNR.out, HBL.out, HSZ.out⟩

end Go.Proofs.YtmjmpdbkijhkiaaDoor
