/- A part of the proofs about fractions. -/
import Derived.Test.YtnnnhjgmgomlpaaGreatQz1
import Derived.Test.YtnnnhjgmgomlpaaGreatQz20
import Derived.Test.YtnnnhjgmgomlpaaGreatQz22
import Derived.Test.YtnnnhjgmgomlpaaGreatQz26
import Derived.Test.YtnnnhjgmgomlpaaGreatQz27
import Derived.Test.YtnnnhjgmgomlpaaGreatQz29
namespace Go.Proofs.YtnnnhjgmgomlpaaGreat
open Go.RowKit Wh
set_option maxRecDepth 100000 in
set_option maxHeartbeats 1000000 in
theorem slCut_no (s : ByteArray) (c : UInt8) (h : Lib.indexByte s.data.toList c = -1) (w : World) :
    Calls Tryz.prog 125 #[.string s, .string ⟨#[c]⟩] w fun e w' => e = .returned (.tuple #[.string s, .string ⟨#[]⟩, .bool false]) ∧ Below w.heap.size w w' := by
  have hi := fun W => Tryz.stringslite_Index_one s c W
  simp only [h] at hi
  have HI := Lib.hid hi
  clear hi h
  go_enter Tryz.func125, Tryz.ntmps125
  go_wp2_with fail
  refine (HI.out _).mono ?_
  rintro e w1 ⟨rfl, rfl⟩
  go_wp2
  exact bodyPost_ret (v := .tuple #[.string s, .string ⟨#[]⟩, .bool false]) (by simp [results, Tryz.results125, go_sem]) rfl ⟨rfl, Below.refl _ _⟩
set_option maxRecDepth 100000 in
set_option maxHeartbeats 1000000 in
theorem slCut_at (s : ByteArray) (c : UInt8) (i : Nat) (h : Lib.indexByte s.data.toList c = (i : Int)) (hi : i < s.size) (hs : s.size ≤ maxLen) (w : World) :
    Calls Tryz.prog 125 #[.string s, .string ⟨#[c]⟩] w fun e w' => e = .returned (.tuple #[.string (s.extract 0 i), .string (s.extract (i + 1) s.size), .bool true]) ∧ Below w.heap.size w w' := by
  have hx := fun W => Tryz.stringslite_Index_one s c W
  simp only [h] at hx
  have HI := Lib.hid hx
  have hs' : s.size ≤ 9223372036854775807 := by unfold maxLen at hs; omega
  have hw : IntKind.i64.wrap ((i : Int) + 1) = (i : Int) + 1 := IntWalk.i64_in _ (by omega)
  clear hx h hs
  go_enter Tryz.func125, Tryz.ntmps125
  go_wp2_with fail
  refine (HI.out _).mono ?_
  rintro e w1 ⟨rfl, rfl⟩
  go_wp2_with fail
  refine wp_region_noPanic ?_
  refine wp_region_held_drew (S := (fun _ => True)) (by kernel_rfl) trivial (fun hR0 => ?_)
  change wpAnyH _ _ _ _ _ 12 #[false, false, false, false, false, false, false, false, false, false, false, false] _ _
  refine tk (i := 0) (v := ?_) rfl (by kernel_rfl) (fun _ _ _ h => h) (by rfl) ?_ (by assumption) ?_
  rotate_left 1
  · (intro w hSw; (try dsimp only at hSw); go_simp <;> (with_reducible rfl))
  (try simp only [Act.put, sa, List.set])
  refine tk (i := 1) (v := ?_) rfl (by kernel_rfl) (fun _ _ _ h => h) (by rfl) ?_ (by assumption) ?_
  rotate_left 1
  · (intro w hSw; (try dsimp only at hSw); go_simp <;> (with_reducible rfl))
  (try simp only [Act.put, sa, List.set])
  refine tk (i := 3) (v := ?_) rfl (by kernel_rfl) (fun _ _ _ h => h) (by rfl) ?_ (by assumption) ?_
  rotate_left 1
  · (intro w hSw; (try dsimp only at hSw); go_simp <;> (with_reducible rfl))
  (try simp only [Act.put, sa, List.set])
  refine tk (i := 4) (v := ?_) rfl (by kernel_rfl) (fun _ _ _ h => h) (by rfl) ?_ (by assumption) ?_
  rotate_left 1
  · (intro w hSw; (try dsimp only at hSw); go_simp <;> (with_reducible rfl))
  (try simp only [Act.put, sa, List.set])
  refine tk (i := 5) (v := ?_) rfl (by kernel_rfl) (fun _ _ _ h => h) (by rfl) ?_ (by assumption) ?_
  rotate_left 1
  · (intro w hSw; (try dsimp only at hSw); go_simp <;> (with_reducible rfl))
  (try simp only [Act.put, sa, List.set])
  refine tk (i := 6) (v := ?_) rfl (by kernel_rfl) (fun _ _ _ h => h) (by rfl) ?_ (by assumption) ?_
  rotate_left 1
  · (intro w hSw; (try dsimp only at hSw); go_simp <;> (with_reducible rfl))
  (try simp only [Act.put, sa, List.set])
  refine tk (i := 2) (v := .string (s.extract 0 i)) rfl (by kernel_rfl) (fun _ _ _ h => h) (by rfl) ?_ (by assumption) ?_
  · (intro w hSw; (try dsimp only at hSw); (go_simp; intro hx; exact absurd hx (by omega)))
  (try simp only [Act.put, sa, List.set])
  refine tk (i := 7) (v := .int .i64 ((i : Int) + 1)) rfl (by kernel_rfl) (fun _ _ _ h => h) (by rfl) ?_ (by assumption) ?_
  · (intro w hSw; (try dsimp only at hSw); go_simp)
  (try simp only [Act.put, sa, List.set])
  refine tk (i := 8) (v := .string (s.extract (i + 1) s.size)) rfl (by kernel_rfl) (fun _ _ _ h => h) (by rfl) ?_ (by assumption) ?_
  · (intro w hSw; (try dsimp only at hSw); (go_simp; intro hx; exact absurd (hx (by omega)) (by omega)))
  (try simp only [Act.put, sa, List.set])
  refine tk (i := 9) (v := ?_) rfl (by kernel_rfl) (fun _ _ _ h => h) (by rfl) ?_ (by assumption) ?_
  rotate_left 1
  · (intro w hSw; (try dsimp only at hSw); go_simp <;> (with_reducible rfl))
  (try simp only [Act.put, sa, List.set])
  refine tk (i := 10) (v := ?_) rfl (by kernel_rfl) (fun _ _ _ h => h) (by rfl) ?_ (by assumption) ?_
  rotate_left 1
  · (intro w hSw; (try dsimp only at hSw); go_simp <;> (with_reducible rfl))
  (try simp only [Act.put, sa, List.set])
  refine tk (i := 11) (v := ?_) rfl (by kernel_rfl) (fun _ _ _ h => h) (by rfl) ?_ (by assumption) ?_
  rotate_left 1
  · (intro w hSw; (try dsimp only at hSw); go_simp <;> (with_reducible rfl))
  (try simp only [Act.put, sa, List.set])
  refine wpAnyH_done (by kernel_rfl) ?_ _
  refine NoPanic.normal ?_
  clear hR0
  go_wp2
  exact bodyPost_ret (v := .tuple #[.string (s.extract 0 i), .string (s.extract (i + 1) s.size), .bool true]) (by simp [results, Tryz.results125, go_sem]) rfl ⟨rfl, (Below.refl _ _).drew⟩
set_option maxRecDepth 100000 in
set_option maxHeartbeats 1000000 in
theorem Cut_of (s t : ByteArray) (x y : ByteArray) (b : Bool) (w : World) (h : ∀ W, Calls Tryz.prog 125 #[.string s, .string t] W fun e w' => e = .returned (.tuple #[.string x, .string y, .bool b]) ∧ Below W.heap.size W w') :
    Calls Tryz.prog 72 #[.string s, .string t] w fun e w' => e = .returned (.tuple #[.string x, .string y, .bool b]) ∧ Below w.heap.size w w' := by
  have HI := Lib.hid h
  clear h
  go_enter Tryz.func72, Tryz.ntmps72
  go_wp2_with fail
  refine (HI.out _).mono ?_
  rintro e w1 ⟨rfl, hb⟩
  go_wp2
  exact bodyPost_ret (v := .tuple #[.string x, .string y, .bool b]) (by simp [results, Tryz.results72, go_sem]) rfl ⟨rfl, hb⟩
end Go.Proofs.YtnnnhjgmgomlpaaGreat
namespace Go.Proofs.YtnnnhjgmgomlpaaGreat
open Go.RowKit Wh
set_option maxRecDepth 100000 in
set_option maxHeartbeats 1000000 in
theorem pden_neg (s : ByteArray) (w : World) (hpf : Lib.hasPrefix s.data.toList [45] = true) :
    Calls Tryz.prog 75 #[.string s] w fun e w' => e = .returned (.tuple #[zeroW, .int .i64 10]) ∧ Below w.heap.size w w' := by
  have hx := fun W => Tryz.strings_HasPrefix s ⟨#[45]⟩ W
  rw [hpf] at hx
  have HX := Lib.hid hx
  clear hx hpf
  have hB := Below.refl w.heap.size w
  obtain ⟨al, xr, hN⟩ := mk hB #[.bool false, .slice none 0 0] 24
  replace hB := hN
  clear al hN
  try simp only [World.size_alloc] at xr
  go_enter Tryz.func75, Tryz.ntmps75
  have pr := xr.all2
  go_wp2_with fail
  refine (HX.out _).mono ?_
  rintro e w0 ⟨rfl, rfl⟩
  clear pr
  have pr := xr.all2
  go_wp2_with fail
  clear pr
  have pr := xr.all2
  exact bodyPost_ret (v := .tuple #[.agg #[.bool false, .slice none 0 0], .int .i64 10]) (by simp [results, Tryz.results75, go_sem, pr]) rfl ⟨rfl, hB⟩
set_option maxRecDepth 100000 in
set_option maxHeartbeats 1000000 in
theorem pden_bad (s : ByteArray) (w : World) (hpf : Lib.hasPrefix s.data.toList [45] = false) (hp : ∀ W, Below w.heap.size w W → Calls Tryz.prog 73 #[.string s] W fun e w' => e = .returned (.tuple #[zeroW, .int .i64 10]) ∧ Below W.heap.size W w') :
    Calls Tryz.prog 75 #[.string s] w fun e w' => e = .returned (.tuple #[zeroW, .int .i64 10]) ∧ Below w.heap.size w w' := by
  have hx := fun W => Tryz.strings_HasPrefix s ⟨#[45]⟩ W
  rw [hpf] at hx
  have HX := Lib.hid hx
  clear hx hpf
  have HP := Lib.hid hp
  clear hp
  have hB := Below.refl w.heap.size w
  obtain ⟨al, xr, hN⟩ := mk hB #[.bool false, .slice none 0 0] 24
  replace hB := hN
  clear al hN
  try simp only [World.size_alloc] at xr
  go_enter Tryz.func75, Tryz.ntmps75
  have pr := xr.all2
  go_wp2_with fail
  refine (HX.out _).mono ?_
  rintro e w0 ⟨rfl, rfl⟩
  clear pr
  have pr := xr.all2
  go_wp2_with fail
  clear pr
  refine (HP.out _ hB).mono ?_
  rintro e w1 ⟨rfl, hb⟩
  replace xr := xr.on hb
  have hz1 := hb.size
  try simp at hz1
  replace hB := hB.trans (hb.mono hB.size)
  clear hb
  obtain ⟨al, xd, hN⟩ := mk hB #[.bool false, .slice none 0 0] 24
  replace xr := xr.on al
  replace hB := hN
  clear al hN
  try simp only [World.size_alloc] at xd
  have pr := xr.all2
  have pd := xd.all2
  go_wp2_with fail
  clear pr pd
  clear xd
  replace xr : Bk _ w.heap.size #[.bool false, .slice none 0 0] _ := xr.put 0 (.bool false)
  replace hB := hB.setCell (p := ⟨w.heap.size, 0, none⟩) (by first | omega | (simp; omega) | simp) (.bool false)
  replace xr : Bk _ w.heap.size #[.bool false, .slice none 0 0] _ := xr.put 1 (.slice none 0 0)
  replace hB := hB.setCell (p := ⟨w.heap.size, 1, none⟩) (by first | omega | (simp; omega) | simp) (.slice none 0 0)
  generalize (((w1.alloc (.cells #[.bool false, .slice none 0 0] 24)).setCell ⟨w.heap.size, 0, none⟩ (.bool false)).setCell ⟨w.heap.size, 1, none⟩ (.slice none 0 0)) = WF at *
  have pr := xr.all2
  exact bodyPost_ret (v := .tuple #[.agg #[.bool false, .slice none 0 0], .int .i64 10]) (by simp [results, Tryz.results75, go_sem, pr]) rfl ⟨rfl, hB⟩
set_option maxRecDepth 100000 in
set_option maxHeartbeats 1000000 in
theorem pden_zero (s : ByteArray) (w : World) (hpf : Lib.hasPrefix s.data.toList [45] = false) (z : Int) (hz : z = 0) (hp : ∀ W, Below w.heap.size w W → Calls Tryz.prog 73 #[.string s] W fun e w' => (∃ v, e = .returned (.tuple #[v, .int .i64 0]) ∧ Num w' v z) ∧ Below W.heap.size W w') :
    Calls Tryz.prog 75 #[.string s] w fun e w' => e = .returned (.tuple #[zeroW, .int .i64 10]) ∧ Below w.heap.size w w' := by
  have hx := fun W => Tryz.strings_HasPrefix s ⟨#[45]⟩ W
  rw [hpf] at hx
  have HX := Lib.hid hx
  clear hx hpf
  have hz1 := fun v W (h : Num W v z) => isZero_num v z W h
  rw [show decide (z = 0) = true from decide_eq_true (by omega)] at hz1
  have HZ := Lib.hid hz1
  clear hz1
  clear hz
  have HP := Lib.hid hp
  clear hp
  have hB := Below.refl w.heap.size w
  obtain ⟨al, xr, hN⟩ := mk hB #[.bool false, .slice none 0 0] 24
  replace hB := hN
  clear al hN
  try simp only [World.size_alloc] at xr
  go_enter Tryz.func75, Tryz.ntmps75
  have pr := xr.all2
  go_wp2_with fail
  refine (HX.out _).mono ?_
  rintro e w0 ⟨rfl, rfl⟩
  clear pr
  have pr := xr.all2
  go_wp2_with fail
  clear pr
  refine (HP.out _ hB).mono ?_
  rintro e w1 ⟨⟨v, rfl, gn⟩, hb⟩
  obtain ⟨b1, a1, k1, c1, rfl⟩ := gn.opened
  replace xr := xr.on hb
  have hz1 := hb.size
  try simp at hz1
  replace hB := hB.trans (hb.mono hB.size)
  clear hb
  obtain ⟨al, xd, hN⟩ := mk hB #[.bool b1, .slice a1 k1 c1] 24
  replace xr := xr.on al
  replace gn := gn.on al
  replace hB := hN
  clear al hN
  try simp only [World.size_alloc] at xd
  have pr := xr.all2
  have pd := xd.all2
  go_wp2_with fail
  clear pr pd
  refine (HZ.out _ _ gn).mono ?_
  rintro e w2 ⟨rfl, hb⟩
  replace xr := xr.on hb
  replace xd := xd.on hb
  replace gn := gn.on hb
  have hz2 := hb.size
  try simp at hz2
  replace hB := hB.trans (hb.mono hB.size)
  clear hb
  have pr := xr.all2
  have pd := xd.all2
  go_wp2_with fail
  clear pr pd
  clear xd
  clear gn
  replace xr : Bk _ w.heap.size #[.bool false, .slice none 0 0] _ := xr.put 0 (.bool false)
  replace hB := hB.setCell (p := ⟨w.heap.size, 0, none⟩) (by first | omega | (simp; omega) | simp) (.bool false)
  replace xr : Bk _ w.heap.size #[.bool false, .slice none 0 0] _ := xr.put 1 (.slice none 0 0)
  replace hB := hB.setCell (p := ⟨w.heap.size, 1, none⟩) (by first | omega | (simp; omega) | simp) (.slice none 0 0)
  generalize ((w2.setCell ⟨w.heap.size, 0, none⟩ (.bool false)).setCell ⟨w.heap.size, 1, none⟩ (.slice none 0 0)) = WF at *
  have pr := xr.all2
  exact bodyPost_ret (v := .tuple #[.agg #[.bool false, .slice none 0 0], .int .i64 10]) (by simp [results, Tryz.results75, go_sem, pr]) rfl ⟨rfl, hB⟩
set_option maxRecDepth 100000 in
set_option maxHeartbeats 1000000 in
theorem pden_one (s : ByteArray) (w : World) (hpf : Lib.hasPrefix s.data.toList [45] = false) (z : Int) (hz : z = 1) (hp : ∀ W, Below w.heap.size w W → Calls Tryz.prog 73 #[.string s] W fun e w' => (∃ v, e = .returned (.tuple #[v, .int .i64 0]) ∧ Num w' v z) ∧ Below W.heap.size W w') :
    Calls Tryz.prog 75 #[.string s] w fun e w' => e = .returned (.tuple #[zeroW, .int .i64 10]) ∧ Below w.heap.size w w' := by
  have hx := fun W => Tryz.strings_HasPrefix s ⟨#[45]⟩ W
  rw [hpf] at hx
  have HX := Lib.hid hx
  clear hx hpf
  have hz1 := fun v W (h : Num W v z) => isZero_num v z W h
  rw [show decide (z = 0) = false from decide_eq_false (by omega)] at hz1
  have HZ := Lib.hid hz1
  clear hz1
  have hz2 := fun v W (h : Num W v z) => isOne_num v z W h
  rw [show decide (z = 1) = true from decide_eq_true (by omega)] at hz2
  have HI := Lib.hid hz2
  clear hz2
  clear hz
  have HP := Lib.hid hp
  clear hp
  have hB := Below.refl w.heap.size w
  obtain ⟨al, xr, hN⟩ := mk hB #[.bool false, .slice none 0 0] 24
  replace hB := hN
  clear al hN
  try simp only [World.size_alloc] at xr
  go_enter Tryz.func75, Tryz.ntmps75
  have pr := xr.all2
  go_wp2_with fail
  refine (HX.out _).mono ?_
  rintro e w0 ⟨rfl, rfl⟩
  clear pr
  have pr := xr.all2
  go_wp2_with fail
  clear pr
  refine (HP.out _ hB).mono ?_
  rintro e w1 ⟨⟨v, rfl, gn⟩, hb⟩
  obtain ⟨b1, a1, k1, c1, rfl⟩ := gn.opened
  replace xr := xr.on hb
  have hz1 := hb.size
  try simp at hz1
  replace hB := hB.trans (hb.mono hB.size)
  clear hb
  obtain ⟨al, xd, hN⟩ := mk hB #[.bool b1, .slice a1 k1 c1] 24
  replace xr := xr.on al
  replace gn := gn.on al
  replace hB := hN
  clear al hN
  try simp only [World.size_alloc] at xd
  have pr := xr.all2
  have pd := xd.all2
  go_wp2_with fail
  clear pr pd
  refine (HZ.out _ _ gn).mono ?_
  rintro e w2 ⟨rfl, hb⟩
  replace xr := xr.on hb
  replace xd := xd.on hb
  replace gn := gn.on hb
  have hz2 := hb.size
  try simp at hz2
  replace hB := hB.trans (hb.mono hB.size)
  clear hb
  have pr := xr.all2
  have pd := xd.all2
  go_wp2_with fail
  clear pr pd
  refine (HI.out _ _ gn).mono ?_
  rintro e w3 ⟨rfl, hb⟩
  replace xr := xr.on hb
  replace xd := xd.on hb
  replace gn := gn.on hb
  have hz3 := hb.size
  try simp at hz3
  replace hB := hB.trans (hb.mono hB.size)
  clear hb
  have pr := xr.all2
  have pd := xd.all2
  go_wp2_with fail
  clear pr pd
  clear xd
  clear gn
  replace xr : Bk _ w.heap.size #[.bool false, .slice none 0 0] _ := xr.put 0 (.bool false)
  replace hB := hB.setCell (p := ⟨w.heap.size, 0, none⟩) (by first | omega | (simp; omega) | simp) (.bool false)
  replace xr : Bk _ w.heap.size #[.bool false, .slice none 0 0] _ := xr.put 1 (.slice none 0 0)
  replace hB := hB.setCell (p := ⟨w.heap.size, 1, none⟩) (by first | omega | (simp; omega) | simp) (.slice none 0 0)
  generalize ((w3.setCell ⟨w.heap.size, 0, none⟩ (.bool false)).setCell ⟨w.heap.size, 1, none⟩ (.slice none 0 0)) = WF at *
  have pr := xr.all2
  exact bodyPost_ret (v := .tuple #[.agg #[.bool false, .slice none 0 0], .int .i64 10]) (by simp [results, Tryz.results75, go_sem, pr]) rfl ⟨rfl, hB⟩
set_option maxRecDepth 100000 in
set_option maxHeartbeats 1000000 in
theorem pden_ok (s : ByteArray) (w : World) (hpf : Lib.hasPrefix s.data.toList [45] = false) (z : Int) (hz : z ≠ 0 ∧ z ≠ 1) (hp : ∀ W, Below w.heap.size w W → Calls Tryz.prog 73 #[.string s] W fun e w' => (∃ v, e = .returned (.tuple #[v, .int .i64 0]) ∧ Num w' v z) ∧ Below W.heap.size W w') :
    Calls Tryz.prog 75 #[.string s] w fun e w' => (∃ v, e = .returned (.tuple #[v, .int .i64 0]) ∧ Num w' v z) ∧ Below w.heap.size w w' := by
  have hx := fun W => Tryz.strings_HasPrefix s ⟨#[45]⟩ W
  rw [hpf] at hx
  have HX := Lib.hid hx
  clear hx hpf
  have hz1 := fun v W (h : Num W v z) => isZero_num v z W h
  rw [show decide (z = 0) = false from decide_eq_false (by omega)] at hz1
  have HZ := Lib.hid hz1
  clear hz1
  have hz2 := fun v W (h : Num W v z) => isOne_num v z W h
  rw [show decide (z = 1) = false from decide_eq_false (by omega)] at hz2
  have HI := Lib.hid hz2
  clear hz2
  clear hz
  have HP := Lib.hid hp
  clear hp
  have hB := Below.refl w.heap.size w
  obtain ⟨al, xr, hN⟩ := mk hB #[.bool false, .slice none 0 0] 24
  replace hB := hN
  clear al hN
  try simp only [World.size_alloc] at xr
  go_enter Tryz.func75, Tryz.ntmps75
  have pr := xr.all2
  go_wp2_with fail
  refine (HX.out _).mono ?_
  rintro e w0 ⟨rfl, rfl⟩
  clear pr
  have pr := xr.all2
  go_wp2_with fail
  clear pr
  refine (HP.out _ hB).mono ?_
  rintro e w1 ⟨⟨v, rfl, gn⟩, hb⟩
  obtain ⟨b1, a1, k1, c1, rfl⟩ := gn.opened
  replace xr := xr.on hb
  have hz1 := hb.size
  try simp at hz1
  replace hB := hB.trans (hb.mono hB.size)
  clear hb
  obtain ⟨al, xd, hN⟩ := mk hB #[.bool b1, .slice a1 k1 c1] 24
  replace xr := xr.on al
  replace gn := gn.on al
  replace hB := hN
  clear al hN
  try simp only [World.size_alloc] at xd
  have pr := xr.all2
  have pd := xd.all2
  go_wp2_with fail
  clear pr pd
  refine (HZ.out _ _ gn).mono ?_
  rintro e w2 ⟨rfl, hb⟩
  replace xr := xr.on hb
  replace xd := xd.on hb
  replace gn := gn.on hb
  have hz2 := hb.size
  try simp at hz2
  replace hB := hB.trans (hb.mono hB.size)
  clear hb
  have pr := xr.all2
  have pd := xd.all2
  go_wp2_with fail
  clear pr pd
  refine (HI.out _ _ gn).mono ?_
  rintro e w3 ⟨rfl, hb⟩
  replace xr := xr.on hb
  replace xd := xd.on hb
  replace gn := gn.on hb
  have hz3 := hb.size
  try simp at hz3
  replace hB := hB.trans (hb.mono hB.size)
  clear hb
  have pr := xr.all2
  have pd := xd.all2
  go_wp2_with fail
  clear pr pd
  clear xd
  replace gn := gn.setB xr rfl 0 (.bool b1)
  replace xr : Bk _ w.heap.size #[.bool b1, .slice none 0 0] _ := xr.put 0 (.bool b1)
  replace hB := hB.setCell (p := ⟨w.heap.size, 0, none⟩) (by first | omega | (simp; omega) | simp) (.bool b1)
  replace gn := gn.setB xr rfl 1 (.slice a1 k1 c1)
  replace xr : Bk _ w.heap.size #[.bool b1, .slice a1 k1 c1] _ := xr.put 1 (.slice a1 k1 c1)
  replace hB := hB.setCell (p := ⟨w.heap.size, 1, none⟩) (by first | omega | (simp; omega) | simp) (.slice a1 k1 c1)
  generalize ((w3.setCell ⟨w.heap.size, 0, none⟩ (.bool b1)).setCell ⟨w.heap.size, 1, none⟩ (.slice a1 k1 c1)) = WF at *
  have pr := xr.all2
  exact bodyPost_ret (v := .tuple #[.agg #[.bool b1, .slice a1 k1 c1], .int .i64 0]) (by simp [results, Tryz.results75, go_sem, pr]) rfl ⟨⟨_, rfl, gn⟩, hB⟩
end Go.Proofs.YtnnnhjgmgomlpaaGreat
namespace Go.Proofs.YtnnnhjgmgomlpaaGreat
open Go.RowKit Wh
set_option maxRecDepth 100000 in
set_option maxHeartbeats 1000000 in
theorem frParse_wrong (s x y : ByteArray) (zn zd : Int) (s1 : Sz 256 zn) (s2 : Sz 256 zd) (hv : fvld (decide (zn < 0)) (dig zn.natAbs) (decide (zd < 0)) (dig zd.natAbs) = false) (w : World)
    (hc : ∀ W, Below w.heap.size w W → Calls Tryz.prog 72 #[.string s, .string ⟨#[47]⟩] W fun e w' => e = .returned (.tuple #[.string x, .string y, .bool true]) ∧ Below W.heap.size W w')
    (hn : ∀ W, Below w.heap.size w W → Calls Tryz.prog 73 #[.string x] W fun e w' => (∃ v, e = .returned (.tuple #[v, .int .i64 0]) ∧ Num w' v zn) ∧ Below W.heap.size W w')
    (hd : ∀ W, Below w.heap.size w W → Calls Tryz.prog 75 #[.string y] W fun e w' => (∃ v, e = .returned (.tuple #[v, .int .i64 0]) ∧ Num w' v zd) ∧ Below W.heap.size W w') :
    Calls Tryz.prog 19 #[.string s] w fun e w' => e = .returned (.tuple #[zeroF, .int .i64 21]) ∧ Below w.heap.size w w' := by
  have HC := Lib.hid hc
  have HN := Lib.hid hn
  have HD := Lib.hid hd
  have t1 := fun v W (h : Num W v zn) => tooLong_num v zn W h
  rw [show decide (256 < (dig zn.natAbs).length) = false from decide_eq_false (Nat.not_lt.2 s1)] at t1
  have HT1 := Lib.hid t1
  have t2 := fun v W (h : Num W v zd) => tooLong_num v zd W h
  rw [show decide (256 < (dig zd.natAbs).length) = false from decide_eq_false (Nat.not_lt.2 s2)] at t2
  have HT2 := Lib.hid t2
  have hvl := fun bn an kn cn bd ad kd cd W (h : Num W (.agg #[.bool bn, .slice an kn cn]) zn) (g : Num W (.agg #[.bool bd, .slice ad kd cd]) zd) => (show Calls Tryz.prog 51 #[.agg #[.bool bn, .slice an kn cn, .bool bd, .slice ad kd cd]] W fun e w' => e = .returned (.bool false) ∧ Below W.heap.size W w' from by have := frValid_raw bn an kn cn _ bd ad kd cd _ W (lim_of_num h).2 (dig_Lm _) (lim_of_num g).2 (dig_Lm _); rw [(lim_of_num h).1, (lim_of_num g).1, hv] at this; rw [(lim_of_num h).1, (lim_of_num g).1]; exact this)
  have HV := Lib.hid hvl
  have H1 := Lib.hid (fun W => FromInt_any 1 (by decide) (by decide) W)
  clear hc hn hd t1 t2 hvl hv s1 s2
  have hB := Below.refl w.heap.size w
  obtain ⟨al, xr, hN⟩ := mk hB #[.bool false, .slice none 0 0, .bool false, .slice none 0 0] 26
  replace hB := hN
  clear al hN
  try simp only [World.size_alloc] at xr
  go_enter Tryz.func19, Tryz.ntmps19
  have pr := xr.all4
  go_wp2_with fail
  clear pr
  refine (HC.out _ hB).mono ?_
  rintro e w1 ⟨rfl, hb⟩
  replace xr := xr.on hb
  have hz1 := hb.size
  try simp at hz1
  replace hB := hB.trans (hb.mono hB.size)
  clear hb
  have pr := xr.all4
  go_wp2_with fail
  clear pr
  refine (HN.out _ hB).mono ?_
  rintro e w2 ⟨⟨v, rfl, gn⟩, hb⟩
  obtain ⟨b1, a1, k1, c1, rfl⟩ := gn.opened
  replace xr := xr.on hb
  have hz2 := hb.size
  try simp at hz2
  replace hB := hB.trans (hb.mono hB.size)
  clear hb
  obtain ⟨al, xn, hN⟩ := mk hB #[.bool b1, .slice a1 k1 c1] 24
  replace xr := xr.on al
  replace gn := gn.on al
  replace hB := hN
  clear al hN
  try simp only [World.size_alloc] at xn
  have pr := xr.all4
  have pn := xn.all2
  go_wp2_with fail
  clear pr pn
  refine (H1.out _).mono ?_
  rintro e w3 ⟨⟨v3, rfl, g1⟩, hb⟩
  obtain ⟨b2, a2, k2, c2, rfl⟩ := g1.num.opened
  clear g1
  replace xr := xr.on hb
  replace xn := xn.on hb
  replace gn := gn.on hb
  have hz3 := hb.size
  try simp at hz3
  replace hB := hB.trans (hb.mono hB.size)
  clear hb
  obtain ⟨al, xd, hN⟩ := mk hB #[.bool b2, .slice a2 k2 c2] 24
  replace xr := xr.on al
  replace xn := xn.on al
  replace gn := gn.on al
  replace hB := hN
  clear al hN
  try simp only [World.size_alloc] at xd
  have pr := xr.all4
  have pn := xn.all2
  have pd := xd.all2
  go_wp2_with fail
  clear pr pn pd
  refine (HD.out _ hB).mono ?_
  rintro e w4 ⟨⟨v4, rfl, gd⟩, hb⟩
  obtain ⟨b3, a3, k3, c3, rfl⟩ := gd.opened
  replace xr := xr.on hb
  replace xn := xn.on hb
  replace xd := xd.on hb
  replace gn := gn.on hb
  have hz4 := hb.size
  try simp at hz4
  replace hB := hB.trans (hb.mono hB.size)
  clear hb
  have pr := xr.all4
  have pn := xn.all2
  have pd := xd.all2
  have hne : w3.heap.size ≠ w2.heap.size := by omega
  have hne2 : w3.heap.size ≠ w.heap.size := by omega
  go_wp2_with fail
  clear pr pn pd
  replace gn := gn.setB xd rfl 0 (.bool b3)
  replace gd := gd.setB xd rfl 0 (.bool b3)
  replace xr := xr.put_other w3.heap.size 0 (.bool b3) (by omega)
  replace xn := xn.put_other w3.heap.size 0 (.bool b3) (by omega)
  replace xd : Bk _ w3.heap.size #[.bool b3, .slice a2 k2 c2] _ := xd.put 0 (.bool b3)
  replace hB := hB.setCell (p := ⟨w3.heap.size, 0, none⟩) (by first | omega | (simp; omega) | simp) (.bool b3)
  replace gn := gn.setB xd rfl 1 (.slice a3 k3 c3)
  replace gd := gd.setB xd rfl 1 (.slice a3 k3 c3)
  replace xr := xr.put_other w3.heap.size 1 (.slice a3 k3 c3) (by omega)
  replace xn := xn.put_other w3.heap.size 1 (.slice a3 k3 c3) (by omega)
  replace xd : Bk _ w3.heap.size #[.bool b3, .slice a3 k3 c3] _ := xd.put 1 (.slice a3 k3 c3)
  replace hB := hB.setCell (p := ⟨w3.heap.size, 1, none⟩) (by first | omega | (simp; omega) | simp) (.slice a3 k3 c3)
  obtain ⟨w5, hw5⟩ : ∃ W, W = ((w4.setCell ⟨w3.heap.size, 0, none⟩ (.bool b3)).setCell ⟨w3.heap.size, 1, none⟩ (.slice a3 k3 c3)) := ⟨_, rfl⟩
  have hz5 : w4.heap.size = w5.heap.size := by rw [hw5]; simp
  rw [← hw5] at hB xr xn xd gn gd ⊢
  clear hw5
  refine (HT1.out _ _ gn).mono ?_
  rintro e w6 ⟨rfl, hb⟩
  replace xr := xr.on hb
  replace xn := xn.on hb
  replace xd := xd.on hb
  replace gn := gn.on hb
  replace gd := gd.on hb
  have hz6 := hb.size
  try simp at hz6
  replace hB := hB.trans (hb.mono hB.size)
  clear hb
  have pr := xr.all4
  have pn := xn.all2
  have pd := xd.all2
  go_wp2_with fail
  clear pr pn pd
  refine (HT2.out _ _ gd).mono ?_
  rintro e w7 ⟨rfl, hb⟩
  replace xr := xr.on hb
  replace xn := xn.on hb
  replace xd := xd.on hb
  replace gn := gn.on hb
  replace gd := gd.on hb
  have hz7 := hb.size
  try simp at hz7
  replace hB := hB.trans (hb.mono hB.size)
  clear hb
  have pr := xr.all4
  have pn := xn.all2
  have pd := xd.all2
  go_wp2_with fail
  clear pr pn pd
  obtain ⟨al, xa, hN⟩ := mk hB #[.bool b1, .slice a1 k1 c1, .bool b3, .slice a3 k3 c3] 26
  replace xr := xr.on al
  replace xn := xn.on al
  replace xd := xd.on al
  replace gn := gn.on al
  replace gd := gd.on al
  replace hB := hN
  clear al hN
  try simp only [World.size_alloc] at xa
  refine (HV.out _ _ _ _ _ _ _ _ _ gn gd).mono ?_
  rintro e w8 ⟨rfl, hb⟩
  replace xr := xr.on hb
  replace xn := xn.on hb
  replace xd := xd.on hb
  replace xa := xa.on hb
  replace gn := gn.on hb
  replace gd := gd.on hb
  have hz8 := hb.size
  try simp at hz8
  replace hB := hB.trans (hb.mono hB.size)
  clear hb
  clear xn xd
  have pr := xr.all4
  have pa := xa.all4
  go_wp2_with fail
  clear pr pa
  clear xa
  clear gn gd
  replace xr := xr.put4 (.bool false) (.slice none 0 0) (.bool false) (.slice none 0 0)
  replace hB := below4 hB w.heap.size (by first | omega | (simp; omega) | simp) (.bool false) (.slice none 0 0) (.bool false) (.slice none 0 0)
  generalize ((((w8.setCell ⟨w.heap.size, 0, none⟩ (.bool false)).setCell ⟨w.heap.size, 1, none⟩ (.slice none 0 0)).setCell ⟨w.heap.size, 2, none⟩ (.bool false)).setCell ⟨w.heap.size, 3, none⟩ (.slice none 0 0)) = WF at *
  have pr := xr.all4
  exact bodyPost_ret (v := .tuple #[.agg #[.bool false, .slice none 0 0, .bool false, .slice none 0 0], .int .i64 21]) (by simp [results, Tryz.results19, go_sem, pr]) rfl ⟨rfl, hB⟩
set_option maxRecDepth 100000 in
set_option maxHeartbeats 1000000 in
theorem frParse_ok (s x y : ByteArray) (zn zd : Int) (s1 : Sz 256 zn) (s2 : Sz 256 zd) (hv : fvld (decide (zn < 0)) (dig zn.natAbs) (decide (zd < 0)) (dig zd.natAbs) = true) (w : World)
    (hc : ∀ W, Below w.heap.size w W → Calls Tryz.prog 72 #[.string s, .string ⟨#[47]⟩] W fun e w' => e = .returned (.tuple #[.string x, .string y, .bool true]) ∧ Below W.heap.size W w')
    (hn : ∀ W, Below w.heap.size w W → Calls Tryz.prog 73 #[.string x] W fun e w' => (∃ v, e = .returned (.tuple #[v, .int .i64 0]) ∧ Num w' v zn) ∧ Below W.heap.size W w')
    (hd : ∀ W, Below w.heap.size w W → Calls Tryz.prog 75 #[.string y] W fun e w' => (∃ v, e = .returned (.tuple #[v, .int .i64 0]) ∧ Num w' v zd) ∧ Below W.heap.size W w') :
    Calls Tryz.prog 19 #[.string s] w fun e w' => (∃ b1 a1 k1 c1 b3 a3 k3 c3, e = .returned (.tuple #[.agg #[.bool b1, .slice a1 k1 c1, .bool b3, .slice a3 k3 c3], .int .i64 0]) ∧ Num w' (.agg #[.bool b1, .slice a1 k1 c1]) zn ∧ Num w' (.agg #[.bool b3, .slice a3 k3 c3]) zd) ∧ Below w.heap.size w w' := by
  have HC := Lib.hid hc
  have HN := Lib.hid hn
  have HD := Lib.hid hd
  have t1 := fun v W (h : Num W v zn) => tooLong_num v zn W h
  rw [show decide (256 < (dig zn.natAbs).length) = false from decide_eq_false (Nat.not_lt.2 s1)] at t1
  have HT1 := Lib.hid t1
  have t2 := fun v W (h : Num W v zd) => tooLong_num v zd W h
  rw [show decide (256 < (dig zd.natAbs).length) = false from decide_eq_false (Nat.not_lt.2 s2)] at t2
  have HT2 := Lib.hid t2
  have hvl := fun bn an kn cn bd ad kd cd W (h : Num W (.agg #[.bool bn, .slice an kn cn]) zn) (g : Num W (.agg #[.bool bd, .slice ad kd cd]) zd) => (show Calls Tryz.prog 51 #[.agg #[.bool bn, .slice an kn cn, .bool bd, .slice ad kd cd]] W fun e w' => e = .returned (.bool true) ∧ Below W.heap.size W w' from by have := frValid_raw bn an kn cn _ bd ad kd cd _ W (lim_of_num h).2 (dig_Lm _) (lim_of_num g).2 (dig_Lm _); rw [(lim_of_num h).1, (lim_of_num g).1, hv] at this; rw [(lim_of_num h).1, (lim_of_num g).1]; exact this)
  have HV := Lib.hid hvl
  have H1 := Lib.hid (fun W => FromInt_any 1 (by decide) (by decide) W)
  clear hc hn hd t1 t2 hvl hv s1 s2
  have hB := Below.refl w.heap.size w
  obtain ⟨al, xr, hN⟩ := mk hB #[.bool false, .slice none 0 0, .bool false, .slice none 0 0] 26
  replace hB := hN
  clear al hN
  try simp only [World.size_alloc] at xr
  go_enter Tryz.func19, Tryz.ntmps19
  have pr := xr.all4
  go_wp2_with fail
  clear pr
  refine (HC.out _ hB).mono ?_
  rintro e w1 ⟨rfl, hb⟩
  replace xr := xr.on hb
  have hz1 := hb.size
  try simp at hz1
  replace hB := hB.trans (hb.mono hB.size)
  clear hb
  have pr := xr.all4
  go_wp2_with fail
  clear pr
  refine (HN.out _ hB).mono ?_
  rintro e w2 ⟨⟨v, rfl, gn⟩, hb⟩
  obtain ⟨b1, a1, k1, c1, rfl⟩ := gn.opened
  replace xr := xr.on hb
  have hz2 := hb.size
  try simp at hz2
  replace hB := hB.trans (hb.mono hB.size)
  clear hb
  obtain ⟨al, xn, hN⟩ := mk hB #[.bool b1, .slice a1 k1 c1] 24
  replace xr := xr.on al
  replace gn := gn.on al
  replace hB := hN
  clear al hN
  try simp only [World.size_alloc] at xn
  have pr := xr.all4
  have pn := xn.all2
  go_wp2_with fail
  clear pr pn
  refine (H1.out _).mono ?_
  rintro e w3 ⟨⟨v3, rfl, g1⟩, hb⟩
  obtain ⟨b2, a2, k2, c2, rfl⟩ := g1.num.opened
  clear g1
  replace xr := xr.on hb
  replace xn := xn.on hb
  replace gn := gn.on hb
  have hz3 := hb.size
  try simp at hz3
  replace hB := hB.trans (hb.mono hB.size)
  clear hb
  obtain ⟨al, xd, hN⟩ := mk hB #[.bool b2, .slice a2 k2 c2] 24
  replace xr := xr.on al
  replace xn := xn.on al
  replace gn := gn.on al
  replace hB := hN
  clear al hN
  try simp only [World.size_alloc] at xd
  have pr := xr.all4
  have pn := xn.all2
  have pd := xd.all2
  go_wp2_with fail
  clear pr pn pd
  refine (HD.out _ hB).mono ?_
  rintro e w4 ⟨⟨v4, rfl, gd⟩, hb⟩
  obtain ⟨b3, a3, k3, c3, rfl⟩ := gd.opened
  replace xr := xr.on hb
  replace xn := xn.on hb
  replace xd := xd.on hb
  replace gn := gn.on hb
  have hz4 := hb.size
  try simp at hz4
  replace hB := hB.trans (hb.mono hB.size)
  clear hb
  have pr := xr.all4
  have pn := xn.all2
  have pd := xd.all2
  have hne : w3.heap.size ≠ w2.heap.size := by omega
  have hne2 : w3.heap.size ≠ w.heap.size := by omega
  go_wp2_with fail
  clear pr pn pd
  replace gn := gn.setB xd rfl 0 (.bool b3)
  replace gd := gd.setB xd rfl 0 (.bool b3)
  replace xr := xr.put_other w3.heap.size 0 (.bool b3) (by omega)
  replace xn := xn.put_other w3.heap.size 0 (.bool b3) (by omega)
  replace xd : Bk _ w3.heap.size #[.bool b3, .slice a2 k2 c2] _ := xd.put 0 (.bool b3)
  replace hB := hB.setCell (p := ⟨w3.heap.size, 0, none⟩) (by first | omega | (simp; omega) | simp) (.bool b3)
  replace gn := gn.setB xd rfl 1 (.slice a3 k3 c3)
  replace gd := gd.setB xd rfl 1 (.slice a3 k3 c3)
  replace xr := xr.put_other w3.heap.size 1 (.slice a3 k3 c3) (by omega)
  replace xn := xn.put_other w3.heap.size 1 (.slice a3 k3 c3) (by omega)
  replace xd : Bk _ w3.heap.size #[.bool b3, .slice a3 k3 c3] _ := xd.put 1 (.slice a3 k3 c3)
  replace hB := hB.setCell (p := ⟨w3.heap.size, 1, none⟩) (by first | omega | (simp; omega) | simp) (.slice a3 k3 c3)
  obtain ⟨w5, hw5⟩ : ∃ W, W = ((w4.setCell ⟨w3.heap.size, 0, none⟩ (.bool b3)).setCell ⟨w3.heap.size, 1, none⟩ (.slice a3 k3 c3)) := ⟨_, rfl⟩
  have hz5 : w4.heap.size = w5.heap.size := by rw [hw5]; simp
  rw [← hw5] at hB xr xn xd gn gd ⊢
  clear hw5
  refine (HT1.out _ _ gn).mono ?_
  rintro e w6 ⟨rfl, hb⟩
  replace xr := xr.on hb
  replace xn := xn.on hb
  replace xd := xd.on hb
  replace gn := gn.on hb
  replace gd := gd.on hb
  have hz6 := hb.size
  try simp at hz6
  replace hB := hB.trans (hb.mono hB.size)
  clear hb
  have pr := xr.all4
  have pn := xn.all2
  have pd := xd.all2
  go_wp2_with fail
  clear pr pn pd
  refine (HT2.out _ _ gd).mono ?_
  rintro e w7 ⟨rfl, hb⟩
  replace xr := xr.on hb
  replace xn := xn.on hb
  replace xd := xd.on hb
  replace gn := gn.on hb
  replace gd := gd.on hb
  have hz7 := hb.size
  try simp at hz7
  replace hB := hB.trans (hb.mono hB.size)
  clear hb
  have pr := xr.all4
  have pn := xn.all2
  have pd := xd.all2
  go_wp2_with fail
  clear pr pn pd
  obtain ⟨al, xa, hN⟩ := mk hB #[.bool b1, .slice a1 k1 c1, .bool b3, .slice a3 k3 c3] 26
  replace xr := xr.on al
  replace xn := xn.on al
  replace xd := xd.on al
  replace gn := gn.on al
  replace gd := gd.on al
  replace hB := hN
  clear al hN
  try simp only [World.size_alloc] at xa
  refine (HV.out _ _ _ _ _ _ _ _ _ gn gd).mono ?_
  rintro e w8 ⟨rfl, hb⟩
  replace xr := xr.on hb
  replace xn := xn.on hb
  replace xd := xd.on hb
  replace xa := xa.on hb
  replace gn := gn.on hb
  replace gd := gd.on hb
  have hz8 := hb.size
  try simp at hz8
  replace hB := hB.trans (hb.mono hB.size)
  clear hb
  clear xn xd
  have pr := xr.all4
  have pa := xa.all4
  go_wp2_with fail
  clear pr pa
  clear xa
  replace gn := gn.setB4 xr rfl (.bool b1) (.slice a1 k1 c1) (.bool b3) (.slice a3 k3 c3) rfl
  replace gd := gd.setB4 xr rfl (.bool b1) (.slice a1 k1 c1) (.bool b3) (.slice a3 k3 c3) rfl
  replace xr := xr.put4 (.bool b1) (.slice a1 k1 c1) (.bool b3) (.slice a3 k3 c3)
  replace hB := below4 hB w.heap.size (by first | omega | (simp; omega) | simp) (.bool b1) (.slice a1 k1 c1) (.bool b3) (.slice a3 k3 c3)
  generalize ((((w8.setCell ⟨w.heap.size, 0, none⟩ (.bool b1)).setCell ⟨w.heap.size, 1, none⟩ (.slice a1 k1 c1)).setCell ⟨w.heap.size, 2, none⟩ (.bool b3)).setCell ⟨w.heap.size, 3, none⟩ (.slice a3 k3 c3)) = WF at *
  have pr := xr.all4
  exact bodyPost_ret (v := .tuple #[.agg #[.bool b1, .slice a1 k1 c1, .bool b3, .slice a3 k3 c3], .int .i64 0]) (by simp [results, Tryz.results19, go_sem, pr]) rfl ⟨⟨_, _, _, _, _, _, _, _, rfl, gn, gd⟩, hB⟩
end Go.Proofs.YtnnnhjgmgomlpaaGreat
namespace Go.Proofs.YtnnnhjgmgomlpaaGreat
open Go.RowKit Wh
theorem Parse_digit (x : ByteArray) (c : UInt8) (z : Int) (hx : x.data.toList = [c]) (hw : twf [c] = true) (hv : tval [c] = z) (hd : (dig (dv (tds [c]))).length ≤ 1024) (W : World) :
    Calls Tryz.prog 73 #[.string x] W fun e w' => (∃ v, e = .returned (.tuple #[v, .int .i64 0]) ∧ Num w' v z) ∧ Below W.heap.size W w' :=
  (Parse_known x [c] z hx (by simp) hw hv hd W).mono fun _ _ ⟨⟨_, _, _, _, he, hn⟩, hb⟩ => ⟨⟨_, he, hn⟩, hb⟩
theorem two_digits (s : ByteArray) (c d : UInt8) (zn zd : Int) (hs : s = ⟨#[c, 47, d]⟩) (hc47 : c ≠ 47) (hn : twf [c] = true ∧ tval [c] = zn ∧ (dig (dv (tds [c]))).length ≤ 1024) (hd : twf [d] = true ∧ tval [d] = zd ∧ (dig (dv (tds [d]))).length ≤ 1024) (hd45 : d ≠ 45) (z0 : zd ≠ 0) (z1 : zd ≠ 1) (s1 : Sz 256 zn) (s2 : Sz 256 zd)
    (hv : fvld (decide (zn < 0)) (dig zn.natAbs) (decide (zd < 0)) (dig zd.natAbs) = false) (w : World) :
    Calls Tryz.prog 19 #[.string s] w fun e w' => e = .returned (.tuple #[zeroF, .int .i64 21]) ∧ Below w.heap.size w w' := by
  have e0 : s.data.toList = [c, 47, d] := by rw [hs]
  have esz : s.size = 3 := by rw [hs]; rfl
  have ex : (s.extract 0 1).data.toList = [c] := by rw [hs]; rfl
  have ey : (s.extract (1 + 1) s.size).data.toList = [d] := by rw [hs]; rfl
  have ei : Lib.indexByte s.data.toList 47 = ((1 : Nat) : Int) := by
    rw [e0]
    have h1 : (c == 47) = false := by simpa using hc47
    simp [Lib.indexByte, h1]
  refine frParse_wrong s (s.extract 0 1) (s.extract (1 + 1) s.size) zn zd s1 s2 hv w (fun W _ => ?_) (fun W _ => ?_) (fun W _ => ?_)
  · exact Cut_of s ⟨#[47]⟩ _ _ true W (fun W' => slCut_at s 47 1 ei (by omega) (by unfold maxLen; omega) W')
  · exact Parse_digit _ c zn ex hn.1 hn.2.1 hn.2.2 W
  · refine pden_ok _ W ?_ zd ⟨z0, z1⟩ (fun W' _ => Parse_digit _ d zd ey hd.1 hd.2.1 hd.2.2 W')
    rw [ey]
    have h1 : (45 == d) = false := by simpa using Ne.symm hd45
    simp [Lib.hasPrefix, List.isPrefixOf, h1]
theorem Parse_24 (w : World) : Calls Tryz.prog 19 #[.string ⟨#[50, 47, 52]⟩] w fun e w' => e = .returned (.tuple #[zeroF, .int .i64 21]) ∧ Below w.heap.size w w' :=
  two_digits _ 50 52 2 4 rfl (by decide) ⟨by decide, by decide, by decide +kernel⟩ ⟨by decide, by decide, by decide +kernel⟩ (by decide) (by decide) (by decide) ((Sz.small (z := 2) (by decide)).mono (by decide)) ((Sz.small (z := 4) (by decide)).mono (by decide)) (by decide +kernel) w
theorem Parse_02 (w : World) : Calls Tryz.prog 19 #[.string ⟨#[48, 47, 50]⟩] w fun e w' => e = .returned (.tuple #[zeroF, .int .i64 21]) ∧ Below w.heap.size w w' :=
  two_digits _ 48 50 0 2 rfl (by decide) ⟨by decide, by decide, by decide +kernel⟩ ⟨by decide, by decide, by decide +kernel⟩ (by decide) (by decide) (by decide) ((Sz.small (z := 0) (by decide)).mono (by decide)) ((Sz.small (z := 2) (by decide)).mono (by decide)) (by decide +kernel) w
end Go.Proofs.YtnnnhjgmgomlpaaGreat
