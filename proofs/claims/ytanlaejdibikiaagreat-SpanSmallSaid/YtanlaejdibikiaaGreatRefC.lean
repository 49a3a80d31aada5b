/-
The reference's Make and Valid.
-/
import Derived.Test.YtanlaejdibikiaaGreatRefB
namespace Go.Proofs.YtanlaejdibikiaaGreat
open Go.RowKit Go.Shelf Sp

theorem make_set {l : L} (h : AllOk l) : IsSet (make l) ∧ ∀ d, Mem (make l) d ↔ Mem l d := gath_spec _ l (Nat.le_refl _) h

theorem own_mono' {W : World} {base base' : Nat} {v : Value} {n : Nat} {xs : List Value} (h : W.ownsRow base 31 2 v n xs) (hb : base' ≤ base) : W.ownsRow base' 31 2 v n xs := own_mono h hb

set_option maxRecDepth 100000 in
set_option maxHeartbeats 4000000 in
theorem RMake_ok (v : Value) (l : L) (hl : AllOk l) (w : World) (h : Spn w v l) : Calls Tryz.prog 30 #[v] w (Gives (make l) w) := by
  have h' := h
  obtain ⟨a, cap, rfl, hlc, ⟨hcm, hcl, hcn⟩, hcs⟩ := h'
  clear hcn hcs
  have HG := Lib.hid (fun W (hW : Below w.heap.size w W) => Marks_ok (.slice a l.length cap) l hl W (h.below hW (Nat.le_refl _)))
  have HQ := Lib.hid (fun (g : Nat) (W : World) (hR : W.rowIs g 4 65536 (fun j => .bool (memB l j))) => Set_ok g (memB l) (make l) (make_set hl).1 (fun d _ _ => by rw [Bool.eq_iff_iff, memB_iff, memB_iff]; exact ((make_set hl).2 d).symm) W hR)
  have HS := Lib.hid h
  have HL := Lib.hid hl
  clear h hl
  go_enter Tryz.func30, Tryz.ntmps30
  go_wp2
  go_loopw [4] (fun i wr => ∃ k : Nat, k ≤ l.length ∧ i = .int .i64 k ∧ Below w.heap.size w wr) (fun i _ => l.length - (intOf i).toNat)
  case atStart => exact ⟨0, Nat.zero_le _, rfl, Below.refl _ _⟩
  case round =>
    obtain ⟨k, hk, rfl, hb⟩ := hrel
    by_cases hlt : k < l.length
    · have hne : l ≠ [] := by intro e; rw [e] at hlt; simp at hlt
      obtain ⟨b, off, rfl, hbw, hc⟩ := HS.out.block hne
      have c1 := (hb.cell (p := ⟨b, off + k * 2, none⟩) hbw).trans (hc k hlt).1
      have c2 := (hb.cell (p := ⟨b, off + k * 2 + 1, none⟩) hbw).trans (hc k hlt).2
      have hok := HL.out (l[k]) (List.getElem_mem hlt)
      rw [← getD_eq hlt] at hok
      obtain ⟨x, hx⟩ : ∃ x, x = (l[k]?.getD (0, 0)).1 := ⟨_, rfl⟩
      obtain ⟨y, hy⟩ : ∃ y, y = (l[k]?.getD (0, 0)).2 := ⟨_, rfl⟩
      rw [← hx] at c1 hok
      rw [← hy] at c2 hok
      have HW := Lib.hid (fun W => Right_any x y W)
      rw [hok] at HW
      clear hx hy hc hok
      have HB := Lib.hid hb
      clear hb
      go_wp2_with fail
      refine (HW.out _).mono ?_
      rintro e w1 ⟨rfl, hb1⟩
      have HE := Lib.hid (HB.out.trans (hb1.mono HB.out.size))
      clear hb1
      go_wp2
      go_roundw
      case rel => exact ⟨k + 1, by omega, by go_num, HE.out⟩
      case measure => simp [intOf]; omega
    · have HB := Lib.hid hb
      go_wp2_with fail
      refine (HG.out _ HB.out).mono ?_
      rintro e w1 ⟨⟨g, hg, rfl, hR⟩, hb1⟩
      have HR := Lib.hid hR
      have HE := Lib.hid (HB.out.trans (hb1.mono HB.out.size))
      clear hb1 hR hb
      go_wp2_with fail
      refine (HQ.out g _ HR.out).mono ?_
      rintro e w2 ⟨⟨v1, rfl, ho⟩, hb2⟩
      have HO := Lib.hid (own_mono ho HE.out.size)
      have HZ := Lib.hid (HE.out.trans (hb2.mono HE.out.size))
      clear ho hb2
      go_wp2
      go_ret2
      exact ⟨⟨_, rfl, HO.out⟩, HZ.out⟩

set_option maxRecDepth 100000 in
set_option maxHeartbeats 4000000 in
theorem RMake_no (v : Value) (l : L) (hl : ¬ AllOk l) (w : World) (h : Spn w v l) : Calls Tryz.prog 30 #[v] w (Says (.tuple #[.slice none 0 0, .int .i64 2]) w) := by
  have h' := h
  obtain ⟨a, cap, rfl, hlc, ⟨hcm, hcl, hcn⟩, hcs⟩ := h'
  clear hcn hcs
  have HS := Lib.hid h
  have HL := Lib.hid hl
  clear h hl
  go_enter Tryz.func30, Tryz.ntmps30
  go_wp2
  go_loopw [4] (fun i wr => ∃ k : Nat, k ≤ l.length ∧ i = .int .i64 k ∧ Below w.heap.size w wr ∧ Hid (AllOk (l.take k))) (fun i _ => l.length - (intOf i).toNat)
  case atStart => exact ⟨0, Nat.zero_le _, rfl, Below.refl _ _, Lib.hid (fun s hs => by simp at hs)⟩
  case round =>
    obtain ⟨k, hk, rfl, hb, HK⟩ := hrel
    by_cases hlt : k < l.length
    · have hne : l ≠ [] := by intro e; rw [e] at hlt; simp at hlt
      obtain ⟨b, off, rfl, hbw, hc⟩ := HS.out.block hne
      have c1 := (hb.cell (p := ⟨b, off + k * 2, none⟩) hbw).trans (hc k hlt).1
      have c2 := (hb.cell (p := ⟨b, off + k * 2 + 1, none⟩) hbw).trans (hc k hlt).2
      have HT := Lib.hid (allOk_take hlt)
      obtain ⟨x, hx⟩ : ∃ x, x = (l[k]?.getD (0, 0)).1 := ⟨_, rfl⟩
      obtain ⟨y, hy⟩ : ∃ y, y = (l[k]?.getD (0, 0)).2 := ⟨_, rfl⟩
      rw [← hx] at c1 HT
      rw [← hy] at c2 HT
      clear hx hy hc
      have HB := Lib.hid hb
      clear hb
      have HW := Lib.hid (fun W => Right_any x y W)
      rcases Bool.eq_false_or_eq_true (okB x y) with hok | hok
      · rw [hok] at HW
        have HF : Hid (AllOk (l.take (k + 1))) := Lib.hid (HT.out.2 ⟨HK.out, hok⟩)
        clear hok
        go_wp2_with fail
        refine (HW.out _).mono ?_
        rintro e w1 ⟨rfl, hb1⟩
        have HE := Lib.hid (HB.out.trans (hb1.mono HB.out.size))
        clear hb1
        go_wp2
        go_roundw
        case rel => exact ⟨k + 1, by omega, by go_num, HE.out, HF⟩
        case measure => simp [intOf]; omega
      · rw [hok] at HW
        clear hok
        go_wp2_with fail
        refine (HW.out _).mono ?_
        rintro e w1 ⟨rfl, hb1⟩
        have HE := Lib.hid (HB.out.trans (hb1.mono HB.out.size))
        clear hb1
        go_wp2
        go_ret2
        exact ⟨rfl, HE.out⟩
    · obtain rfl : k = l.length := by omega
      rw [List.take_length] at HK
      exact absurd HK.out HL.out

end Go.Proofs.YtanlaejdibikiaaGreat
