/-
ApartSpans, given flatSpans.
-/
import Derived.Test.YtanlaejdibikiaaGreatApart
namespace Go.Proofs.YtanlaejdibikiaaGreat
open Go.RowKit Go.Shelf Sp

theorem Bag.new (W : World) : Bag (W.alloc (.cells #[.slice none 0 0, .slice none 0 0, .slice none 0 0, .slice none 0 0, .slice none 0 0, .slice none 0 0, .slice none 0 0, .slice none 0 0, .slice none 0 0, .slice none 0 0, .slice none 0 0, .slice none 0 0, .slice none 0 0, .slice none 0 0, .slice none 0 0, .slice none 0 0, .slice none 0 0, .slice none 0 0, .slice none 0 0, .slice none 0 0, .slice none 0 0, .slice none 0 0, .slice none 0 0] 81)) W.heap.size (.slice none 0 0) := World.alloc_heap_new W _

set_option maxRecDepth 100000 in
set_option maxHeartbeats 8000000 in
theorem aparts (HFP : FlatsThree) : Aparts := by
  intro N W B v1 v2 v3 l1 l2 l3 hN hB ht hls h1 h2 h3
  obtain ⟨a1, k1, rfl⟩ := own_slice ht.o1
  obtain ⟨a2, k2, rfl⟩ := own_slice ht.o2
  obtain ⟨a3, k3, rfl⟩ := own_slice ht.o3
  have hBW : B < W.heap.size := (Array.getElem?_eq_some_iff.1 hls).1
  have d0 : W.cell? ⟨B, 0, none⟩ = some (.slice a1 l1.length k1) := by simp [World.cell?, hls]
  have d1 : W.cell? ⟨B, 1, none⟩ = some (.slice a2 l2.length k2) := by simp [World.cell?, hls]
  have d2 : W.cell? ⟨B, 2, none⟩ = some (.slice a3 l3.length k3) := by simp [World.cell?, hls]
  have D0 := Lib.hid d0
  have D1 := Lib.hid d1
  have D2 := Lib.hid d2
  have HT := Lib.hid ht
  have HP := Lib.hid HFP
  have H1 := Lib.hid h1
  have H2 := Lib.hid h2
  have H3 := Lib.hid h3
  have HN := Lib.hid hN
  have hx0 := Bag.new W
  have hb0 := (Below.refl W.heap.size W).alloc (Nat.le_refl _) (.cells #[.slice none 0 0, .slice none 0 0, .slice none 0 0, .slice none 0 0, .slice none 0 0, .slice none 0 0, .slice none 0 0, .slice none 0 0, .slice none 0 0, .slice none 0 0, .slice none 0 0, .slice none 0 0, .slice none 0 0, .slice none 0 0, .slice none 0 0, .slice none 0 0, .slice none 0 0, .slice none 0 0, .slice none 0 0, .slice none 0 0, .slice none 0 0, .slice none 0 0, .slice none 0 0] 81)
  have HX := Lib.hid hx0
  have HB := Lib.hid hb0
  clear ht HFP h1 h2 h3 hN hB hls d0 d1 d2 hx0 hb0
  go_enter Tryz.func23, Tryz.ntmps23
  go_wp2_with fail
  go_loopw [4] (fun i wr => ∃ (k : Nat) (x : Value), k ≤ 3 ∧ i = .int .i64 k ∧ Hid (Bag wr W.heap.size x) ∧ Hid (wr.ownsRow W.heap.size 22 1 x k (([.slice a1 l1.length k1, .slice a2 l2.length k2, .slice a3 l3.length k3] : List Value).take k)) ∧ Hid (Below W.heap.size W wr)) (fun i _ => 3 - (intOf i).toNat)
  case atStart => exact ⟨0, .slice none 0 0, by omega, rfl, HX, Lib.hid (World.ownsRow_nil _ _ _ _), HB⟩
  case round =>
    clear HX HB
    obtain ⟨k, x, hk, rfl, HX, HO, HB⟩ := hrel
    have hk3 : k = 0 ∨ k = 1 ∨ k = 2 ∨ k = 3 := by omega
    rcases hk3 with hk0 | hk0 | hk0 | hk0
    · subst hk0
      have c0 := (HB.out.cell (p := ⟨B, 0, none⟩) hBW).trans D0.out
      go_wp2_with fail
      refine (putSpans_any W.heap.size W.heap.size 0 x _ a1 l1.length k1 _ HX.out HO.out (Nat.le_refl _) (by omega)).mono ?_
      rintro e w2 ⟨rfl, ⟨x', hx', ho'⟩, hb'⟩
      have HX' := Lib.hid hx'
      have HO' := Lib.hid ho'
      have HB' := Lib.hid (HB.out.trans hb')
      clear hx' ho' hb'
      go_wp2
      go_roundw
      case rel => exact ⟨1, x', by omega, by go_num, HX', HO', HB'⟩
      case measure => simp [intOf]
    · subst hk0
      have c0 := (HB.out.cell (p := ⟨B, 1, none⟩) hBW).trans D1.out
      go_wp2_with fail
      refine (putSpans_any W.heap.size W.heap.size 1 x _ a2 l2.length k2 _ HX.out HO.out (Nat.le_refl _) (by omega)).mono ?_
      rintro e w2 ⟨rfl, ⟨x', hx', ho'⟩, hb'⟩
      have HX' := Lib.hid hx'
      have HO' := Lib.hid ho'
      have HB' := Lib.hid (HB.out.trans hb')
      clear hx' ho' hb'
      go_wp2
      go_roundw
      case rel => exact ⟨2, x', by omega, by go_num, HX', HO', HB'⟩
      case measure => simp [intOf]
    · subst hk0
      have c0 := (HB.out.cell (p := ⟨B, 2, none⟩) hBW).trans D2.out
      go_wp2_with fail
      refine (putSpans_any W.heap.size W.heap.size 2 x _ a3 l3.length k3 _ HX.out HO.out (Nat.le_refl _) (by omega)).mono ?_
      rintro e w2 ⟨rfl, ⟨x', hx', ho'⟩, hb'⟩
      have HX' := Lib.hid hx'
      have HO' := Lib.hid ho'
      have HB' := Lib.hid (HB.out.trans hb')
      clear hx' ho' hb'
      go_wp2
      go_roundw
      case rel => exact ⟨3, x', by omega, by go_num, HX', HO', HB'⟩
      case measure => simp [intOf]
    · subst hk0
      have HT2 := Lib.hid (three_on HT.out HB.out)
      have HO2 := Lib.hid (own_mono HO.out HN.out)
      have HN2 := Lib.hid (Nat.le_trans HN.out HB.out.size)
      go_wp2_with fail
      refine (apart_any HP.out N _ x _ _ _ l1 l2 l3 _ HX.out HN2.out HT2.out HO2.out H1.out H2.out H3.out).mono ?_
      rintro e w2 ⟨rfl, hb'⟩
      have HE := Lib.hid ((HB.out.mono HN.out).trans hb')
      clear hb'
      go_wp2
      go_ret
      exact ⟨rfl, HE.out⟩

end Go.Proofs.YtanlaejdibikiaaGreat
