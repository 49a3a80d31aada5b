/- A part of the proofs about fractions. -/
import Derived.Outline
import Derived.WalkSpells
import Derived.Test.YthlclegajldphaaGreatQz1
import Derived.Test.YthlclegajldphaaGreatQz11
import Derived.Test.YthlclegajldphaaGreatQz16
namespace Go.Proofs.YthlclegajldphaaGreat
open Go.RowKit Wh
set_option maxRecDepth 100000 in
set_option maxHeartbeats 4000000 in
theorem frjoin_quotient_ok (p q : Rat) (bx : Bool) (ax : Option Addr) (kx cx : Nat) (dx : Bool) (ex : Option Addr) (lx mx : Nat) (bY : Bool) (ay : Option Addr) (ky cy : Nat) (dy : Bool) (ey : Option Addr) (ly my : Nat) (hp : Fz 256 256 p) (hq : Fz 256 256 q) (hq0 : q ≠ 0) (hz : Fz 256 256 (p / q)) (w : World) (fx : Fra w (.agg #[.bool bx, .slice ax kx cx, .bool dx, .slice ex lx mx]) p) (fy : Fra w (.agg #[.bool bY, .slice ay ky cy, .bool dy, .slice ey ly my]) q) :
    Calls Tryz.prog 105 #[.func (.func 112) #[] #[], .agg #[.bool bx, .slice ax kx cx, .bool dx, .slice ex lx mx], .agg #[.bool bY, .slice ay ky cy, .bool dy, .slice ey ly my]] w fun e w' => (∃ v, e = .returned (.tuple #[v, .int .i64 0]) ∧ FraF w.heap.size w' v (p / q)) ∧ Below w.heap.size w w' := by
  have HV1 := Lib.hid (fun W (hW : Below w.heap.size w W) => valid_ok (.agg #[.bool bx, .slice ax kx cx, .bool dx, .slice ex lx mx]) p hp W (fx.below hW (Nat.le_refl _)))
  have HV2 := Lib.hid (fun W (hW : Below w.heap.size w W) => valid_ok (.agg #[.bool bY, .slice ay ky cy, .bool dy, .slice ey ly my]) q hq W (fy.below hW (Nat.le_refl _)))
  have HO := Lib.hid (fun W (hW : Below w.heap.size w W) => frquotient_any p q bx ax kx cx dx ex lx mx bY ay ky cy dy ey ly my hp hq W (fx.below hW (Nat.le_refl _)) (fy.below hW (Nat.le_refl _)))
  obtain ⟨h1, h1d⟩ := hp
  obtain ⟨h2, h2d⟩ := hq
  have HM := Lib.hid (fun bn an kn cn bd ad kd cd W h g => Make_okk bn an kn cn bd ad kd cd (p.num * q.den) ((p.den : Int) * q.num) (p / q) ((Fq.div_eq p q).symm) ((Sz.mul h1 h2d).mono (by decide)) ((Sz.mul h1d h2).mono (by decide)) (dn_ne p hq0) hz W h g)
  clear fx fy h1 h1d h2 h2d hz hq0
  have hB := (((Below.refl w.heap.size w).alloc (Nat.le_refl _) (.cells #[.bool bx, .slice ax kx cx, .bool dx, .slice ex lx mx] 26)).alloc (by simp) (.cells #[.bool bY, .slice ay ky cy, .bool dy, .slice ey ly my] 26)).alloc (by simp <;> omega) (.cells #[.bool false, .slice none 0 0, .bool false, .slice none 0 0] 26)
  have xa := ((Bk.new w #[.bool bx, .slice ax kx cx, .bool dx, .slice ex lx mx] 26).alloc (.cells #[.bool bY, .slice ay ky cy, .bool dy, .slice ey ly my] 26)).alloc (.cells #[.bool false, .slice none 0 0, .bool false, .slice none 0 0] 26)
  have xb := (Bk.new (w.alloc (.cells #[.bool bx, .slice ax kx cx, .bool dx, .slice ex lx mx] 26)) #[.bool bY, .slice ay ky cy, .bool dy, .slice ey ly my] 26).alloc (.cells #[.bool false, .slice none 0 0, .bool false, .slice none 0 0] 26)
  have xr := Bk.new ((w.alloc (.cells #[.bool bx, .slice ax kx cx, .bool dx, .slice ex lx mx] 26)).alloc (.cells #[.bool bY, .slice ay ky cy, .bool dy, .slice ey ly my] 26)) #[.bool false, .slice none 0 0, .bool false, .slice none 0 0] 26
  simp only [World.size_alloc] at xb xr
  have hsz : (((w.alloc (.cells #[.bool bx, .slice ax kx cx, .bool dx, .slice ex lx mx] 26)).alloc (.cells #[.bool bY, .slice ay ky cy, .bool dy, .slice ey ly my] 26)).alloc (.cells #[.bool false, .slice none 0 0, .bool false, .slice none 0 0] 26)).heap.size = w.heap.size + 1 + 1 + 1 := by simp only [World.size_alloc]
  obtain ⟨W0, hW0⟩ : ∃ W0, W0 = (((w.alloc (.cells #[.bool bx, .slice ax kx cx, .bool dx, .slice ex lx mx] 26)).alloc (.cells #[.bool bY, .slice ay ky cy, .bool dy, .slice ey ly my] 26)).alloc (.cells #[.bool false, .slice none 0 0, .bool false, .slice none 0 0] 26)) := ⟨_, rfl⟩
  rw [← hW0] at hB xa xb xr hsz
  go_enter Tryz.func105, Tryz.ntmps105
  go_upto_region 1 with fail
  rw [← hW0]
  clear hW0
  have q0 : w.heap.size < W0.heap.size := by omega
  have q1 : w.heap.size + 1 < W0.heap.size := by omega
  have q2 : w.heap.size + 1 + 1 < W0.heap.size := by omega
  have q3 : w.heap.size ≤ W0.heap.size := by omega
  clear hsz
  obtain ⟨a0, a1, a2, a3⟩ := xa.cells4
  obtain ⟨b0, b1, b2, b3⟩ := xb.cells4
  clear xa xb
  go_cut [8, 9] (fun s8 s9 wx => ∃ BX BY : Nat, s8 = .pointer (some ⟨BX, 0, none⟩) ∧ s9 = .pointer (some ⟨BY, 0, none⟩) ∧ Bk wx BX #[.bool bx, .slice ax kx cx, .bool dx, .slice ex lx mx] 85 ∧ Bk wx BY #[.bool bY, .slice ay ky cy, .bool dy, .slice ey ly my] 85 ∧ Below W0.heap.size W0 wx)
  case first =>
    go_region
    all_goals (go_wp2_with fail; go_meet)
    · obtain ⟨t1, t2, t3⟩ := frpair_new W0 #[.bool bx, .slice ax kx cx, .bool dx, .slice ex lx mx] #[.bool bY, .slice ay ky cy, .bool dy, .slice ey ly my] 85
      exact ⟨_, _, rfl, rfl, t1, t2, t3⟩
    · obtain ⟨t1, t2, t3⟩ := frpair_new W0 #[.bool bY, .slice ay ky cy, .bool dy, .slice ey ly my] #[.bool bx, .slice ax kx cx, .bool dx, .slice ex lx mx] 85
      exact ⟨_, _, rfl, rfl, t2, t1, t3⟩
  case rest =>
    obtain ⟨BX, BY, rfl, rfl, xx, xy, hb⟩ := hcut
    replace xr := xr.on hb
    replace hB := hB.trans (hb.mono hB.size)
    have hz0 := hb.size
    clear hb a0 a1 a2 a3 b0 b1 b2 b3
    have px := xx.all4
    have py := xy.all4
    have pr := xr.all4
    go_wp2_with fail
    clear px py pr
    refine (HV1.out _ hB).mono ?_
    rintro e w1 ⟨rfl, hb⟩
    replace xx := xx.on hb
    replace xy := xy.on hb
    replace xr := xr.on hb
    have hz1 := hb.size
    try simp at hz1
    replace hB := hB.trans (hb.mono hB.size)
    clear hb
    have px := xx.all4
    have py := xy.all4
    have pr := xr.all4
    go_wp2_with fail
    clear px py pr
    refine (HV2.out _ hB).mono ?_
    rintro e w2 ⟨rfl, hb⟩
    replace xx := xx.on hb
    replace xy := xy.on hb
    replace xr := xr.on hb
    have hz2 := hb.size
    try simp at hz2
    replace hB := hB.trans (hb.mono hB.size)
    clear hb
    have px := xx.all4
    have py := xy.all4
    have pr := xr.all4
    go_wp2_with fail
    clear px py pr
    refine (HO.out _ hB).mono ?_
    rintro e w3 ⟨⟨vn, vd, rfl, on, od⟩, hb⟩
    obtain ⟨b1, u1, k1, c1, rfl⟩ := on.num.opened
    obtain ⟨b2, u2, k2, c2, rfl⟩ := od.num.opened
    replace xx := xx.on hb
    replace xy := xy.on hb
    replace xr := xr.on hb
    have hz3 := hb.size
    try simp at hz3
    replace hB := hB.trans (hb.mono hB.size)
    clear hb
    have hl := Nat.le_trans q3 (Nat.le_trans hz0 (Nat.le_trans hz1 (Nat.le_trans hz2 hz3)))
    go_wp2_with fail
    refine (HM.out _ _ _ _ _ _ _ _ _ on.num od.num).mono ?_
    rintro e w4 ⟨⟨v, rfl, on⟩, hb⟩
    obtain ⟨b5, a5, k5, c5, b6, a6, k6, c6, rfl⟩ := on.fra.opened
    replace xx := xx.on hb
    replace xy := xy.on hb
    replace xr := xr.on hb
    have hz4 := hb.size
    try simp at hz4
    replace hB := hB.trans (hb.mono hB.size)
    clear hb
    have px := xx.all4
    have py := xy.all4
    have pr := xr.all4
    go_wp2_with fail
    clear px py pr
    clear xx xy
    replace xr := xr.put4 (.bool b5) (.slice a5 k5 c5) (.bool b6) (.slice a6 k6 c6)
    replace on := on.set4 (w.heap.size + 1 + 1) (by first | omega | (simp; omega) | simp) (.bool b5) (.slice a5 k5 c5) (.bool b6) (.slice a6 k6 c6)
    replace hB := below4 hB (w.heap.size + 1 + 1) (by first | omega | (simp; omega) | simp) (.bool b5) (.slice a5 k5 c5) (.bool b6) (.slice a6 k6 c6)
    replace on := on.mono hl
    generalize ((((w4.setCell ⟨w.heap.size + 1 + 1, 0, none⟩ (.bool b5)).setCell ⟨w.heap.size + 1 + 1, 1, none⟩ (.slice a5 k5 c5)).setCell ⟨w.heap.size + 1 + 1, 2, none⟩ (.bool b6)).setCell ⟨w.heap.size + 1 + 1, 3, none⟩ (.slice a6 k6 c6)) = WF at *
    have pr := xr.all4
    exact bodyPost_ret (v := .tuple #[.agg #[.bool b5, .slice a5 k5 c5, .bool b6, .slice a6 k6 c6], .int .i64 0]) (by simp [results, Tryz.results105, go_sem, pr]) rfl ⟨⟨_, rfl, on⟩, hB⟩
set_option maxRecDepth 100000 in
set_option maxHeartbeats 2000000 in
theorem frDiv_ok (p q : Rat) (bx : Bool) (ax : Option Addr) (kx cx : Nat) (dx : Bool) (ex : Option Addr) (lx mx : Nat) (bY : Bool) (ay : Option Addr) (ky cy : Nat) (dy : Bool) (ey : Option Addr) (ly my : Nat) (hp : Fz 256 256 p) (hq : Fz 256 256 q) (hq0 : q ≠ 0) (hz : Fz 256 256 (p / q)) (w : World) (fx : Fra w (.agg #[.bool bx, .slice ax kx cx, .bool dx, .slice ex lx mx]) p) (fy : Fra w (.agg #[.bool bY, .slice ay ky cy, .bool dy, .slice ey ly my]) q) :
    Calls Tryz.prog 48 #[.agg #[.bool bx, .slice ax kx cx, .bool dx, .slice ex lx mx], .agg #[.bool bY, .slice ay ky cy, .bool dy, .slice ey ly my]] w fun e w' => (∃ v, e = .returned (.tuple #[v, .int .i64 0]) ∧ FraF w.heap.size w' v (p / q)) ∧ Below w.heap.size w w' := by
  have HJ := Lib.hid (fun W (hW : Below w.heap.size w W) => frjoin_quotient_ok p q bx ax kx cx dx ex lx mx bY ay ky cy dy ey ly my hp hq hq0 hz W (fx.below hW (Nat.le_refl _)) (fy.below hW (Nat.le_refl _)))
  clear fx fy hp hq hq0 hz
  have hB := Below.refl w.heap.size w
  obtain ⟨al, xa, hN⟩ := mk hB #[.bool bx, .slice ax kx cx, .bool dx, .slice ex lx mx] 26
  replace hB := hN
  clear al hN
  try simp only [World.size_alloc] at xa
  obtain ⟨al, xb, hN⟩ := mk hB #[.bool bY, .slice ay ky cy, .bool dy, .slice ey ly my] 26
  replace xa := xa.on al
  replace hB := hN
  clear al hN
  try simp only [World.size_alloc] at xb
  obtain ⟨al, xr, hN⟩ := mk hB #[.bool false, .slice none 0 0, .bool false, .slice none 0 0] 26
  replace xa := xa.on al
  replace xb := xb.on al
  replace hB := hN
  clear al hN
  try simp only [World.size_alloc] at xr
  go_enter Tryz.func48, Tryz.ntmps48
  go_wp2_with fail
  refine (HJ.out _ hB).mono ?_
  rintro e w1 ⟨⟨v, rfl, on⟩, hb⟩
  obtain ⟨b5, a5, k5, c5, b6, a6, k6, c6, rfl⟩ := on.fra.opened
  replace xa := xa.on hb
  replace xb := xb.on hb
  replace xr := xr.on hb
  have hz1 := hb.size
  try simp at hz1
  replace hB := hB.trans (hb.mono hB.size)
  clear hb
  have pa := xa.all4
  have pb := xb.all4
  have pr := xr.all4
  go_wp2_with fail
  clear pa pb pr
  clear xa xb
  replace xr := xr.put4 (.bool b5) (.slice a5 k5 c5) (.bool b6) (.slice a6 k6 c6)
  replace on := on.set4 (w.heap.size + 1 + 1) (by first | omega | (simp; omega) | simp) (.bool b5) (.slice a5 k5 c5) (.bool b6) (.slice a6 k6 c6)
  replace hB := below4 hB (w.heap.size + 1 + 1) (by first | omega | (simp; omega) | simp) (.bool b5) (.slice a5 k5 c5) (.bool b6) (.slice a6 k6 c6)
  replace on := on.mono (show w.heap.size ≤ _ by first | omega | (simp; omega) | simp)
  generalize ((((w1.setCell ⟨w.heap.size + 1 + 1, 0, none⟩ (.bool b5)).setCell ⟨w.heap.size + 1 + 1, 1, none⟩ (.slice a5 k5 c5)).setCell ⟨w.heap.size + 1 + 1, 2, none⟩ (.bool b6)).setCell ⟨w.heap.size + 1 + 1, 3, none⟩ (.slice a6 k6 c6)) = WF at *
  have pr := xr.all4
  exact bodyPost_ret (v := .tuple #[.agg #[.bool b5, .slice a5 k5 c5, .bool b6, .slice a6 k6 c6], .int .i64 0]) (by simp [results, Tryz.results48, go_sem, pr]) rfl ⟨⟨_, rfl, on⟩, hB⟩
set_option maxRecDepth 100000 in
set_option maxHeartbeats 4000000 in
theorem frjoin_quotient_zero (p q : Rat) (bx : Bool) (ax : Option Addr) (kx cx : Nat) (dx : Bool) (ex : Option Addr) (lx mx : Nat) (bY : Bool) (ay : Option Addr) (ky cy : Nat) (dy : Bool) (ey : Option Addr) (ly my : Nat) (hp : Fz 256 256 p) (hq : Fz 256 256 q) (hq0 : q = 0) (w : World) (fx : Fra w (.agg #[.bool bx, .slice ax kx cx, .bool dx, .slice ex lx mx]) p) (fy : Fra w (.agg #[.bool bY, .slice ay ky cy, .bool dy, .slice ey ly my]) q) :
    Calls Tryz.prog 105 #[.func (.func 112) #[] #[], .agg #[.bool bx, .slice ax kx cx, .bool dx, .slice ex lx mx], .agg #[.bool bY, .slice ay ky cy, .bool dy, .slice ey ly my]] w fun e w' => e = .returned (.tuple #[zeroF, .int .i64 20]) ∧ Below w.heap.size w w' := by
  have HV1 := Lib.hid (fun W (hW : Below w.heap.size w W) => valid_ok (.agg #[.bool bx, .slice ax kx cx, .bool dx, .slice ex lx mx]) p hp W (fx.below hW (Nat.le_refl _)))
  have HV2 := Lib.hid (fun W (hW : Below w.heap.size w W) => valid_ok (.agg #[.bool bY, .slice ay ky cy, .bool dy, .slice ey ly my]) q hq W (fy.below hW (Nat.le_refl _)))
  have HO := Lib.hid (fun W (hW : Below w.heap.size w W) => frquotient_any p q bx ax kx cx dx ex lx mx bY ay ky cy dy ey ly my hp hq W (fx.below hW (Nat.le_refl _)) (fy.below hW (Nat.le_refl _)))
  obtain ⟨h1, h1d⟩ := hp
  obtain ⟨h2, h2d⟩ := hq
  have HM := Lib.hid (fun bn an kn cn bd ad kd cd W h g => Make_zero bn an kn cn bd ad kd cd (p.num * q.den) ((Sz.mul h1 h2d).mono (by decide)) W h g)
  have EZ : ((p.den : Int) * q.num) = 0 := by rw [(Fq.num_zero q).2 hq0, Int.mul_zero]
  have EZ := Lib.hid EZ
  clear fx fy h1 h1d h2 h2d hq0
  have hB := (((Below.refl w.heap.size w).alloc (Nat.le_refl _) (.cells #[.bool bx, .slice ax kx cx, .bool dx, .slice ex lx mx] 26)).alloc (by simp) (.cells #[.bool bY, .slice ay ky cy, .bool dy, .slice ey ly my] 26)).alloc (by simp <;> omega) (.cells #[.bool false, .slice none 0 0, .bool false, .slice none 0 0] 26)
  have xa := ((Bk.new w #[.bool bx, .slice ax kx cx, .bool dx, .slice ex lx mx] 26).alloc (.cells #[.bool bY, .slice ay ky cy, .bool dy, .slice ey ly my] 26)).alloc (.cells #[.bool false, .slice none 0 0, .bool false, .slice none 0 0] 26)
  have xb := (Bk.new (w.alloc (.cells #[.bool bx, .slice ax kx cx, .bool dx, .slice ex lx mx] 26)) #[.bool bY, .slice ay ky cy, .bool dy, .slice ey ly my] 26).alloc (.cells #[.bool false, .slice none 0 0, .bool false, .slice none 0 0] 26)
  have xr := Bk.new ((w.alloc (.cells #[.bool bx, .slice ax kx cx, .bool dx, .slice ex lx mx] 26)).alloc (.cells #[.bool bY, .slice ay ky cy, .bool dy, .slice ey ly my] 26)) #[.bool false, .slice none 0 0, .bool false, .slice none 0 0] 26
  simp only [World.size_alloc] at xb xr
  have hsz : (((w.alloc (.cells #[.bool bx, .slice ax kx cx, .bool dx, .slice ex lx mx] 26)).alloc (.cells #[.bool bY, .slice ay ky cy, .bool dy, .slice ey ly my] 26)).alloc (.cells #[.bool false, .slice none 0 0, .bool false, .slice none 0 0] 26)).heap.size = w.heap.size + 1 + 1 + 1 := by simp only [World.size_alloc]
  obtain ⟨W0, hW0⟩ : ∃ W0, W0 = (((w.alloc (.cells #[.bool bx, .slice ax kx cx, .bool dx, .slice ex lx mx] 26)).alloc (.cells #[.bool bY, .slice ay ky cy, .bool dy, .slice ey ly my] 26)).alloc (.cells #[.bool false, .slice none 0 0, .bool false, .slice none 0 0] 26)) := ⟨_, rfl⟩
  rw [← hW0] at hB xa xb xr hsz
  go_enter Tryz.func105, Tryz.ntmps105
  go_upto_region 1 with fail
  rw [← hW0]
  clear hW0
  have q0 : w.heap.size < W0.heap.size := by omega
  have q1 : w.heap.size + 1 < W0.heap.size := by omega
  have q2 : w.heap.size + 1 + 1 < W0.heap.size := by omega
  have q3 : w.heap.size ≤ W0.heap.size := by omega
  clear hsz
  obtain ⟨a0, a1, a2, a3⟩ := xa.cells4
  obtain ⟨b0, b1, b2, b3⟩ := xb.cells4
  clear xa xb
  go_cut [8, 9] (fun s8 s9 wx => ∃ BX BY : Nat, s8 = .pointer (some ⟨BX, 0, none⟩) ∧ s9 = .pointer (some ⟨BY, 0, none⟩) ∧ Bk wx BX #[.bool bx, .slice ax kx cx, .bool dx, .slice ex lx mx] 85 ∧ Bk wx BY #[.bool bY, .slice ay ky cy, .bool dy, .slice ey ly my] 85 ∧ Below W0.heap.size W0 wx)
  case first =>
    go_region
    all_goals (go_wp2_with fail; go_meet)
    · obtain ⟨t1, t2, t3⟩ := frpair_new W0 #[.bool bx, .slice ax kx cx, .bool dx, .slice ex lx mx] #[.bool bY, .slice ay ky cy, .bool dy, .slice ey ly my] 85
      exact ⟨_, _, rfl, rfl, t1, t2, t3⟩
    · obtain ⟨t1, t2, t3⟩ := frpair_new W0 #[.bool bY, .slice ay ky cy, .bool dy, .slice ey ly my] #[.bool bx, .slice ax kx cx, .bool dx, .slice ex lx mx] 85
      exact ⟨_, _, rfl, rfl, t2, t1, t3⟩
  case rest =>
    obtain ⟨BX, BY, rfl, rfl, xx, xy, hb⟩ := hcut
    replace xr := xr.on hb
    replace hB := hB.trans (hb.mono hB.size)
    have hz0 := hb.size
    clear hb a0 a1 a2 a3 b0 b1 b2 b3
    have px := xx.all4
    have py := xy.all4
    have pr := xr.all4
    go_wp2_with fail
    clear px py pr
    refine (HV1.out _ hB).mono ?_
    rintro e w1 ⟨rfl, hb⟩
    replace xx := xx.on hb
    replace xy := xy.on hb
    replace xr := xr.on hb
    have hz1 := hb.size
    try simp at hz1
    replace hB := hB.trans (hb.mono hB.size)
    clear hb
    have px := xx.all4
    have py := xy.all4
    have pr := xr.all4
    go_wp2_with fail
    clear px py pr
    refine (HV2.out _ hB).mono ?_
    rintro e w2 ⟨rfl, hb⟩
    replace xx := xx.on hb
    replace xy := xy.on hb
    replace xr := xr.on hb
    have hz2 := hb.size
    try simp at hz2
    replace hB := hB.trans (hb.mono hB.size)
    clear hb
    have px := xx.all4
    have py := xy.all4
    have pr := xr.all4
    go_wp2_with fail
    clear px py pr
    refine (HO.out _ hB).mono ?_
    rintro e w3 ⟨⟨vn, vd, rfl, on, od⟩, hb⟩
    obtain ⟨b1, u1, k1, c1, rfl⟩ := on.num.opened
    obtain ⟨b2, u2, k2, c2, rfl⟩ := od.num.opened
    replace xx := xx.on hb
    replace xy := xy.on hb
    replace xr := xr.on hb
    have hz3 := hb.size
    try simp at hz3
    replace hB := hB.trans (hb.mono hB.size)
    clear hb
    rw [EZ.out] at od
    have hl := Nat.le_trans q3 (Nat.le_trans hz0 (Nat.le_trans hz1 (Nat.le_trans hz2 hz3)))
    go_wp2_with fail
    refine (HM.out _ _ _ _ _ _ _ _ _ on.num od.num).mono ?_
    rintro e w4 ⟨rfl, hb⟩
    replace xx := xx.on hb
    replace xy := xy.on hb
    replace xr := xr.on hb
    have hz4 := hb.size
    try simp at hz4
    replace hB := hB.trans (hb.mono hB.size)
    clear hb
    have px := xx.all4
    have py := xy.all4
    have pr := xr.all4
    go_wp2_with fail
    clear px py pr
    clear xx xy
    replace xr := xr.put4 (.bool false) (.slice none 0 0) (.bool false) (.slice none 0 0)
    replace hB := below4 hB (w.heap.size + 1 + 1) (by first | omega | (simp; omega) | simp) (.bool false) (.slice none 0 0) (.bool false) (.slice none 0 0)
    generalize ((((w4.setCell ⟨w.heap.size + 1 + 1, 0, none⟩ (.bool false)).setCell ⟨w.heap.size + 1 + 1, 1, none⟩ (.slice none 0 0)).setCell ⟨w.heap.size + 1 + 1, 2, none⟩ (.bool false)).setCell ⟨w.heap.size + 1 + 1, 3, none⟩ (.slice none 0 0)) = WF at *
    have pr := xr.all4
    exact bodyPost_ret (v := .tuple #[.agg #[.bool false, .slice none 0 0, .bool false, .slice none 0 0], .int .i64 20]) (by simp [results, Tryz.results105, go_sem, pr]) rfl ⟨rfl, hB⟩
set_option maxRecDepth 100000 in
set_option maxHeartbeats 2000000 in
theorem frDiv_zero (p q : Rat) (bx : Bool) (ax : Option Addr) (kx cx : Nat) (dx : Bool) (ex : Option Addr) (lx mx : Nat) (bY : Bool) (ay : Option Addr) (ky cy : Nat) (dy : Bool) (ey : Option Addr) (ly my : Nat) (hp : Fz 256 256 p) (hq : Fz 256 256 q) (hq0 : q = 0) (w : World) (fx : Fra w (.agg #[.bool bx, .slice ax kx cx, .bool dx, .slice ex lx mx]) p) (fy : Fra w (.agg #[.bool bY, .slice ay ky cy, .bool dy, .slice ey ly my]) q) :
    Calls Tryz.prog 48 #[.agg #[.bool bx, .slice ax kx cx, .bool dx, .slice ex lx mx], .agg #[.bool bY, .slice ay ky cy, .bool dy, .slice ey ly my]] w fun e w' => e = .returned (.tuple #[zeroF, .int .i64 20]) ∧ Below w.heap.size w w' := by
  have HJ := Lib.hid (fun W (hW : Below w.heap.size w W) => frjoin_quotient_zero p q bx ax kx cx dx ex lx mx bY ay ky cy dy ey ly my hp hq hq0 W (fx.below hW (Nat.le_refl _)) (fy.below hW (Nat.le_refl _)))
  clear fx fy hp hq hq0
  have hB := Below.refl w.heap.size w
  obtain ⟨al, xa, hN⟩ := mk hB #[.bool bx, .slice ax kx cx, .bool dx, .slice ex lx mx] 26
  replace hB := hN
  clear al hN
  try simp only [World.size_alloc] at xa
  obtain ⟨al, xb, hN⟩ := mk hB #[.bool bY, .slice ay ky cy, .bool dy, .slice ey ly my] 26
  replace xa := xa.on al
  replace hB := hN
  clear al hN
  try simp only [World.size_alloc] at xb
  obtain ⟨al, xr, hN⟩ := mk hB #[.bool false, .slice none 0 0, .bool false, .slice none 0 0] 26
  replace xa := xa.on al
  replace xb := xb.on al
  replace hB := hN
  clear al hN
  try simp only [World.size_alloc] at xr
  go_enter Tryz.func48, Tryz.ntmps48
  go_wp2_with fail
  refine (HJ.out _ hB).mono ?_
  rintro e w1 ⟨rfl, hb⟩
  replace xa := xa.on hb
  replace xb := xb.on hb
  replace xr := xr.on hb
  have hz1 := hb.size
  try simp at hz1
  replace hB := hB.trans (hb.mono hB.size)
  clear hb
  have pa := xa.all4
  have pb := xb.all4
  have pr := xr.all4
  go_wp2_with fail
  clear pa pb pr
  clear xa xb
  replace xr := xr.put4 (.bool false) (.slice none 0 0) (.bool false) (.slice none 0 0)
  replace hB := below4 hB (w.heap.size + 1 + 1) (by first | omega | (simp; omega) | simp) (.bool false) (.slice none 0 0) (.bool false) (.slice none 0 0)
  generalize ((((w1.setCell ⟨w.heap.size + 1 + 1, 0, none⟩ (.bool false)).setCell ⟨w.heap.size + 1 + 1, 1, none⟩ (.slice none 0 0)).setCell ⟨w.heap.size + 1 + 1, 2, none⟩ (.bool false)).setCell ⟨w.heap.size + 1 + 1, 3, none⟩ (.slice none 0 0)) = WF at *
  have pr := xr.all4
  exact bodyPost_ret (v := .tuple #[.agg #[.bool false, .slice none 0 0, .bool false, .slice none 0 0], .int .i64 20]) (by simp [results, Tryz.results48, go_sem, pr]) rfl ⟨rfl, hB⟩
end Go.Proofs.YthlclegajldphaaGreat
namespace Go.Proofs.YthlclegajldphaaGreat
open Go.RowKit Wh
set_option maxRecDepth 100000 in
set_option maxHeartbeats 2000000 in
theorem Same_any (b : Bool) (s : Value) (l : List Nat) (b' : Bool) (s' : Value) (l' : List Nat) (w : World) (h : Lim w s l) (g : Lim w s' l') :
    Calls Tryz.prog 56 #[.agg #[.bool b, s], .agg #[.bool b', s']] w fun e w' => e = .returned (.bool (decide (b = b' ∧ l = l'))) ∧ Below w.heap.size w w' := by
  obtain ⟨aa, ca, rfl, hlc, ⟨hcm, hcl, -⟩, -⟩ := id h
  obtain ⟨ab, cb, rfl, glc, ⟨gcm, gcl, -⟩, -⟩ := id g
  have hz := ((Below.refl w.heap.size w).alloc (Nat.le_refl _) (.cells #[.bool b, .slice aa l.length ca] 24)).alloc (by simp) (.cells #[.bool b', .slice ab l'.length cb] 24)
  have x2 := (Bx.new w (.bool b) (.slice aa l.length ca)).alloc (.cells #[.bool b', .slice ab l'.length cb] 24)
  have x3 := Bx.new (w.alloc (.cells #[.bool b, .slice aa l.length ca] 24)) (.bool b') (.slice ab l'.length cb)
  simp only [World.size_alloc] at x3
  obtain ⟨r, hr⟩ : ∃ r, r = decide (b = b' ∧ l = l') := ⟨_, rfl⟩
  rw [← hr]
  have HR := Lib.hid hr
  clear hr
  by_cases hb : b = b'
  · subst hb
    by_cases hl : l.length = l'.length
    · have hl0 : ((l.length : Int) != (l'.length : Int)) = false := by simp [hl]
      have HL := Lib.hid hl
      clear hl
      go_enter Tryz.func56, Tryz.ntmps56
      go_wp2
      go_loopw [24] (fun v5 wr => SameRel l l' w wr w.heap.size (w.heap.size + 1) (.bool b) (.slice aa l.length ca) (.bool b) (.slice ab l'.length cb) v5) (fun v5 _ => l.length - (intOf v5).toNat)
      case atStart => exact ⟨0, Nat.zero_le _, rfl, fun j h => absurd h (Nat.not_lt_zero _), hz, x2, x3⟩
      case round =>
        obtain ⟨k, hk, rfl, hz1, hB, y2, y3⟩ := hrel
        obtain ⟨p2, p2'⟩ := y2.cells
        obtain ⟨p3, p3'⟩ := y3.cells
        have HZ := Lib.hid hz1
        clear hz1
        rcases Nat.lt_or_ge k l.length with hlt | hge
        · have hlt' : k < l'.length := by rw [← HL.out]; exact hlt
          obtain ⟨b1, o1, rfl⟩ := lim_addr h (by omega)
          obtain ⟨b2, o2, rfl⟩ := lim_addr g (by omega)
          have c1 := cell_of_lim (h.below hB (Nat.le_refl _)) k hlt
          have c2 := cell_of_lim (g.below hB (Nat.le_refl _)) k hlt'
          have i1 : (k : Int) < (l.length : Int) := by omega
          have i2 : (k : Int) < (l'.length : Int) := by omega
          have i0 : (0 : Int) ≤ (k : Int) := by omega
          obtain ⟨x, hx⟩ : ∃ x, x = l[k]?.getD 0 := ⟨_, rfl⟩
          obtain ⟨y, hy⟩ : ∃ y, y = l'[k]?.getD 0 := ⟨_, rfl⟩
          rw [← hx] at c1
          rw [← hy] at c2
          have HX := Lib.hid hx
          have HY := Lib.hid hy
          clear hx hy
          by_cases hxy : x = y
          · have hxy0 : ((x : Int) != (y : Int)) = false := by simp [hxy]
            have HXY := Lib.hid hxy
            clear hxy
            go_wp2
            case roundEnd =>
              refine ⟨⟨k + 1, by omega, by go_num, fun j hj => ?_, hB, y2, y3⟩, by simp [intOf]; omega⟩
              by_cases e : j = k
              · subst e; rw [← HX.out, ← HY.out]; exact HXY.out
              · exact HZ.out j (by omega)
          · have hxy0 : ((x : Int) != (y : Int)) = true := by simp; omega
            have HXY := Lib.hid hxy
            clear hxy
            go_wp2
            have hr0 : r = false := by
              rw [HR.out]
              exact decide_eq_false fun e => HXY.out (by rw [HX.out, HY.out, e.2])
            go_ret
            exact ⟨by rw [hr0]; rfl, hB⟩
        · have hge' : ¬ (k : Int) < (l.length : Int) := by omega
          go_wp2
          have hr0 : r = true := by
            rw [HR.out]
            have E := eq_of_all HL.out fun j hj => HZ.out j (by omega)
            exact decide_eq_true (by first | exact ⟨rfl, E⟩ | exact ⟨trivial, E⟩ | exact E)
          go_ret
          exact ⟨by rw [hr0]; rfl, hB⟩
    · have hl0 : ((l.length : Int) != (l'.length : Int)) = true := by simp; omega
      have hr0 : Hid (r = false) := Lib.hid (by rw [HR.out]; exact decide_eq_false fun e => hl (by rw [e.2]))
      clear hl
      go_enter Tryz.func56, Tryz.ntmps56
      go_wp2
      go_ret
      exact ⟨by rw [hr0.out]; rfl, hz⟩
  · have hb0 : b' = !b := by cases b <;> cases b' <;> simp at hb ⊢
    have hr0 : Hid (r = false) := Lib.hid (by rw [HR.out]; exact decide_eq_false fun e => hb e.1)
    subst hb0
    clear hb
    go_enter Tryz.func56, Tryz.ntmps56
    go_wp2
    go_ret
    exact ⟨by rw [hr0.out]; rfl, hz⟩
theorem Same_num (va vb : Value) (a b : Int) (w : World) (h : Num w va a) (g : Num w vb b) :
    Calls Tryz.prog 56 #[va, vb] w fun e w' => e = .returned (.bool (decide (a = b))) ∧ Below w.heap.size w w' := by
  obtain ⟨s, rfl, h⟩ := h
  obtain ⟨s', rfl, g⟩ := g
  have := Same_any (decide (a < 0)) s _ (decide (b < 0)) s' _ w h g
  rwa [show decide (decide (a < 0) = decide (b < 0) ∧ dig a.natAbs = dig b.natAbs) = decide (a = b) from decide_eq_decide.2 (num_eq_iff a b)] at this
end Go.Proofs.YthlclegajldphaaGreat
namespace Go.Proofs.YthlclegajldphaaGreat
open Go.RowKit Wh
theorem cell_store4 {W : World} {B B' : Nat} {o : Nat} {x v0 v1 v2 v3 : Value} (h : W.cell? ⟨B, o, none⟩ = some x) (hne : B' ≠ B) : ((((W.setCell ⟨B', 0, none⟩ v0).setCell ⟨B', 1, none⟩ v1).setCell ⟨B', 2, none⟩ v2).setCell ⟨B', 3, none⟩ v3).cell? ⟨B, o, none⟩ = some x := by
  rw [← h]
  have e : ((((W.setCell ⟨B', 0, none⟩ v0).setCell ⟨B', 1, none⟩ v1).setCell ⟨B', 2, none⟩ v2).setCell ⟨B', 3, none⟩ v3).heap[B]? = W.heap[B]? :=
    (heap_setCell_other _ ⟨B', 3, none⟩ B v3 (Ne.symm hne)).trans ((heap_setCell_other _ ⟨B', 2, none⟩ B v2 (Ne.symm hne)).trans ((heap_setCell_other _ ⟨B', 1, none⟩ B v1 (Ne.symm hne)).trans (heap_setCell_other _ ⟨B', 0, none⟩ B v0 (Ne.symm hne))))
  unfold World.cell?
  simp only [e]
set_option maxRecDepth 100000 in
set_option maxHeartbeats 1000000 in
theorem frValid_raw (b : Bool) (a : Option Addr) (k c : Nat) (l : List Nat) (b' : Bool) (a' : Option Addr) (k' c' : Nat) (l' : List Nat) (w : World) (h : Lim w (.slice a k c) l) (hm : Lm l) (h' : Lim w (.slice a' k' c') l') (hm' : Lm l') :
    Calls Tryz.prog 51 #[.agg #[.bool b, .slice a k c, .bool b', .slice a' k' c']] w fun e w' => e = .returned (.bool (fvld b l b' l')) ∧ Below w.heap.size w w' := by
  have HV := Lib.hid (fun W (hW : Below w.heap.size w W) => valid_raw b a k c l b' a' k' c' l' W (h.below hW (Nat.le_refl _)) hm (h'.below hW (Nat.le_refl _)) hm')
  clear h hm h' hm'
  have hB := Below.refl w.heap.size w
  obtain ⟨al, xa, hN⟩ := mk hB #[.bool b, .slice a k c, .bool b', .slice a' k' c'] 26
  replace hB := hN
  clear al hN
  try simp only [World.size_alloc] at xa
  go_enter Tryz.func51, Tryz.ntmps51
  go_wp2_with fail
  refine (HV.out _ hB).mono ?_
  rintro e w1 ⟨rfl, hb⟩
  replace xa := xa.on hb
  have hz1 := hb.size
  try simp at hz1
  replace hB := hB.trans (hb.mono hB.size)
  clear hb
  have HB := Lib.hid hB
  clear hB xa
  go_wp2
  go_ret
  exact ⟨rfl, HB.out⟩
theorem frValid_ok (v : Value) (q : Rat) (hq : Fz 256 256 q) (w : World) (h : Fra w v q) :
    Calls Tryz.prog 51 #[v] w fun e w' => e = .returned (.bool true) ∧ Below w.heap.size w w' := by
  obtain ⟨s, s', rfl, h1, h2⟩ := h
  obtain ⟨a, c, rfl⟩ := lim_slice h1
  obtain ⟨a', c', rfl⟩ := lim_slice h2
  have := frValid_raw (decide (q.num < 0)) _ _ _ _ false _ _ _ _ w h1 (dig_Lm _) h2 (dig_Lm _)
  rwa [fvld_fra hq] at this
theorem num_zero0 (W : World) : Num W (.agg #[.bool false, .slice none 0 0]) 0 := ⟨.slice none 0 0, rfl, by rw [show (0 : Int).natAbs = 0 from rfl, dig_zero]; exact Lim.nil W⟩
theorem den_dig_ne (q : Rat) : dig q.den ≠ [] := fun e => by have := (dig_nil_iff q.den).1 e; have := q.den_pos; omega
theorem num_lim' {W : World} {b : Bool} {s : Value} {q : Rat} (h : Num W (.agg #[.bool b, s]) (q.den : Int)) : Lim W s (dig q.den) := by
  have := num_lim h
  rwa [Int.natAbs_natCast] at this
theorem fraF_lim {B : Nat} {W : World} {s s' : Value} {q : Rat} {b : Bool} (h1 : NumF B W (.agg #[.bool b, s]) (-q.num)) (h2 : LimF B W s' (dig q.den)) : FraF B W (.agg #[.bool b, s, .bool false, s']) (-q) := by
  refine fraF_of (q := -q) (by rw [(Fq.neg_num q).1]; exact h1) ⟨s', by rw [den_neg], by rw [(Fq.neg_num q).2, Int.natAbs_natCast]; exact h2⟩
set_option maxRecDepth 100000 in
set_option maxHeartbeats 1000000 in
theorem Clone_any (sv : Value) (l : List Nat) (hl : l ≠ []) (w : World) (h : Lim w sv l) :
    Calls Tryz.prog 111 #[sv] w fun e w' => (∃ v, e = .returned v ∧ LimF w.heap.size w' v l) ∧ Below w.heap.size w w' := by
  obtain ⟨i0, hi, hz0, hz1, hz2⟩ := info_parts Tryz.infoU
  obtain ⟨a, cap, rfl, hlc, ⟨hcm, hcl, hcn⟩, hcs⟩ := id h
  obtain ⟨b, off, rfl, hbw, hc⟩ := h.block hl
  have hcs' : ∀ j u, (cellsOf l)[j]? = some u → (w.alloc (.cells #[] 62)).cell? ((⟨b, off, none⟩ : Addr).add j) = some u := fun j u hu => by
    have hj : j < l.length := by have := (List.getElem?_eq_some_iff.1 hu).1; simpa [cellsOf] using this
    rw [cellsOf_get l j hj] at hu
    rw [add_eq]
    exact ((((Below.refl w.heap.size w).alloc (Nat.le_refl _) _).cell (p := ⟨b, off + j, none⟩) hbw).trans (hc j hj)).trans hu
  have OE : (w.alloc (.cells #[] 62)).ownsRow w.heap.size 62 1 (.slice (some ⟨w.heap.size, 0, none⟩) 0 0) 0 (cellsOf []) := ⟨rfl, .inr ⟨w.heap.size, 0, #[], rfl, Nat.le_refl _, World.alloc_heap_new w _, Nat.le_refl _, by unfold maxLen; omega, rfl, rfl⟩⟩
  have HC := Lib.hid hcs'
  have HOE := Lib.hid OE
  have hll : (cellsOf l).length = l.length * 1 := by simp [cellsOf]
  have HLL := Lib.hid hll
  clear hcn hcs hc h hcs' OE hll hl
  have he := fun (W : World) (n c : Nat) => Lib.run_eql_slice_nil (P := Tryz.prog) W 22 62 (some ⟨b, off, none⟩) n c 0 0 Tryz.underlying22
  go_enter Tryz.func111, Tryz.ntmps111
  go_wp2_with (at_builtin; refine wpList_append_own _ rfl _ _ 22 rfl w.heap.size 62 i0 (.int .u16 0) 1 2 Tryz.underlying22 hi hz0 hz1 hz2 rfl (by decide) (.slice (some ⟨w.heap.size, 0, none⟩) 0 0) _ _ rfl HOE.out ⟨b, off, none⟩ l.length cap (cellsOf l) rfl HLL.out HC.out (by simp [cellsOf, Value.oneCell']) (by unfold maxLen; omega) (by omega) (by simp) ?_; intro v' w2 hown hgrow _; have HR := Lib.hid hown; have HB := Lib.hid (((Below.refl w.heap.size w).alloc (Nat.le_refl _) (.cells #[] 62)).grown hgrow (by simp) (fun q e => by obtain rfl : w.heap.size = q := (by simpa [Value.ownBlock] using e); exact Nat.le_refl _)); clear hown hgrow)
  go_ret
  have hr := HR.out
  simp only [Nat.zero_add, cellsOf, List.map_nil, List.nil_append] at hr
  exact ⟨⟨_, rfl, Lim.of_owns hr hcl, Fr.of_owns hr⟩, HB.out⟩
set_option maxRecDepth 100000 in
set_option maxHeartbeats 1000000 in
theorem frFromInt_any (n : Int) (h1 : -9223372036854775808 ≤ n) (h2 : n ≤ 9223372036854775807) (w : World) :
    Calls Tryz.prog 23 #[.int .i64 n] w fun e w' => (∃ v, e = .returned v ∧ FraF w.heap.size w' v (n : Rat)) ∧ Below w.heap.size w w' := by
  have H1 := Lib.hid (fun W => FromInt_any n h1 h2 W)
  have H2 := Lib.hid (fun W => FromInt_any 1 (by decide) (by decide) W)
  clear h1 h2
  have hB := Below.refl w.heap.size w
  obtain ⟨al, xr, hN⟩ := mk hB #[.bool false, .slice none 0 0, .bool false, .slice none 0 0] 26
  replace hB := hN
  clear al hN
  try simp only [World.size_alloc] at xr
  go_enter Tryz.func23, Tryz.ntmps23
  go_wp2_with fail
  refine (H1.out _).mono ?_
  rintro e w1 ⟨⟨v, rfl, on⟩, hb⟩
  obtain ⟨b1, a1, k1, c1, rfl⟩ := on.num.opened
  replace xr := xr.on hb
  have hz1 := hb.size
  try simp at hz1
  replace hB := hB.trans (hb.mono hB.size)
  clear hb
  go_wp2_with fail
  refine (H2.out _).mono ?_
  rintro e w2 ⟨⟨v, rfl, od⟩, hb⟩
  obtain ⟨b2, a2, k2, c2, rfl⟩ := od.num.opened
  replace xr := xr.on hb
  replace on := on.below hb
  have hz2 := hb.size
  try simp at hz2
  replace hB := hB.trans (hb.mono hB.size)
  clear hb
  have pr := xr.all4
  go_wp2_with fail
  clear pr
  replace xr := xr.put4 (.bool b1) (.slice a1 k1 c1) (.bool b2) (.slice a2 k2 c2)
  replace on := on.set4 w.heap.size (by first | omega | (simp; omega) | simp) (.bool b1) (.slice a1 k1 c1) (.bool b2) (.slice a2 k2 c2)
  replace od := od.set4 w.heap.size (by first | omega | (simp; omega) | simp) (.bool b1) (.slice a1 k1 c1) (.bool b2) (.slice a2 k2 c2)
  replace hB := below4 hB w.heap.size (by first | omega | (simp; omega) | simp) (.bool b1) (.slice a1 k1 c1) (.bool b2) (.slice a2 k2 c2)
  replace on := on.mono (show w.heap.size ≤ _ by first | omega | (simp; omega) | simp)
  replace od := od.mono (show w.heap.size ≤ _ by first | omega | (simp; omega) | simp)
  generalize ((((w2.setCell ⟨w.heap.size, 0, none⟩ (.bool b1)).setCell ⟨w.heap.size, 1, none⟩ (.slice a1 k1 c1)).setCell ⟨w.heap.size, 2, none⟩ (.bool b2)).setCell ⟨w.heap.size, 3, none⟩ (.slice a2 k2 c2)) = WF at *
  have pr := xr.all4
  exact bodyPost_ret (v := .agg #[.bool b1, .slice a1 k1 c1, .bool b2, .slice a2 k2 c2]) (by simp [results, Tryz.results23, go_sem, pr]) rfl ⟨⟨_, rfl, fraF_of (by rw [Rat.num_intCast]; exact on) (by rw [Rat.den_intCast]; exact od)⟩, hB⟩
set_option maxRecDepth 100000 in
set_option maxHeartbeats 2000000 in
theorem frNeg_ok (b : Bool) (a : Option Addr) (k c : Nat) (b' : Bool) (a' : Option Addr) (k' c' : Nat) (q : Rat) (hq : Fz 256 256 q) (w : World) (h : Fra w (.agg #[.bool b, .slice a k c, .bool b', .slice a' k' c']) q) :
    Calls Tryz.prog 47 #[.agg #[.bool b, .slice a k c, .bool b', .slice a' k' c']] w fun e w' => (∃ v, e = .returned (.tuple #[v, .int .i64 0]) ∧ FraF w.heap.size w' v (-q)) ∧ Below w.heap.size w w' := by
  have HV := Lib.hid (fun W (hW : Below w.heap.size w W) => valid_ok (.agg #[.bool b, .slice a k c, .bool b', .slice a' k' c']) q hq W (h.below hW (Nat.le_refl _)))
  obtain ⟨eb, eb', n1, n2⟩ := fra_nums h
  obtain ⟨h1, h2⟩ := hq
  have HM := Lib.hid (fun W (hW : Below w.heap.size w W) => frminus_any (.agg #[.bool false, .slice none 0 0]) (.agg #[.bool b, .slice a k c]) 0 q.num (-q.num) (by omega) ((Sz.small (z := 0) (by decide)).mono (by decide)) (h1.mono (by decide)) (h1.neg.mono (by decide)) W (num_zero0 W) (n1.below hW (Nat.le_refl _)))
  have HC := Lib.hid (fun W (hW : Below w.heap.size w W) => Clone_any (.slice a' k' c') (dig q.den) (den_dig_ne q) W ((num_lim' n2).below hW (Nat.le_refl _)))
  clear h n1 n2 h1 h2 eb eb'
  have hB := Below.refl w.heap.size w
  obtain ⟨al, xa, hN⟩ := mk hB #[.bool b, .slice a k c, .bool b', .slice a' k' c'] 26
  replace hB := hN
  clear al hN
  try simp only [World.size_alloc] at xa
  obtain ⟨al, xr, hN⟩ := mk hB #[.bool false, .slice none 0 0, .bool false, .slice none 0 0] 26
  replace xa := xa.on al
  replace hB := hN
  clear al hN
  try simp only [World.size_alloc] at xr
  go_enter Tryz.func47, Tryz.ntmps47
  obtain ⟨al, xx, hN⟩ := mk hB #[.bool b, .slice a k c, .bool b', .slice a' k' c'] 85
  replace xa := xa.on al
  replace xr := xr.on al
  replace hB := hN
  clear al hN
  try simp only [World.size_alloc] at xx
  have pa := xa.all4
  have pr := xr.all4
  have px := xx.all4
  go_wp2_with fail
  clear pa pr px
  refine (HV.out _ hB).mono ?_
  rintro e w1 ⟨rfl, hb⟩
  replace xa := xa.on hb
  replace xr := xr.on hb
  replace xx := xx.on hb
  have hz1 := hb.size
  try simp at hz1
  replace hB := hB.trans (hb.mono hB.size)
  clear hb
  clear xa
  have pr := xr.all4
  have px := xx.all4
  go_wp2_with fail
  clear pr px
  have qx := xx.lt
  obtain ⟨gx0, gx1, gx2, gx3⟩ := xx.cells4
  refine wp_region_noPanic ?_
  refine wp_region_held_drew (S := (fun w' => w'.cell? ⟨w.heap.size + 1 + 1, 0, none⟩ = some (.bool b) ∧ w'.cell? ⟨w.heap.size + 1 + 1, 1, none⟩ = some (.slice a k c) ∧ w'.cell? ⟨w.heap.size + 1 + 1, 2, none⟩ = some (.bool b') ∧ w'.cell? ⟨w.heap.size + 1 + 1, 3, none⟩ = some (.slice a' k' c'))) (by kernel_rfl) ⟨gx0, gx1, gx2, gx3⟩ (fun hR0 => ?_)
  change wpAnyH _ _ _ _ _ 14 #[false, false, false, false, false, false, false, false, false, false, false, false, false, false] _ _
  clear gx0 gx1 gx2 gx3
  refine tk (i := 0) (v := ?_) rfl (by kernel_rfl) (fun _ _ _ h => h) (by rfl) ?_ (by assumption) ?_
  rotate_left 1
  · (intro w hSw; (try dsimp only at hSw); go_simp <;> (with_reducible rfl))
  (try simp only [Act.put, sa, List.set])
  refine tk (i := 1) (v := ?_) rfl (by kernel_rfl) (fun _ _ _ h => h) (by rfl) ?_ (by assumption) ?_
  rotate_left 1
  · (intro w hSw; (try dsimp only at hSw); go_simp <;> (with_reducible rfl))
  (try simp only [Act.put, sa, List.set])
  refine tk (i := 2) (v := ?_) rfl (by kernel_rfl) (fun _ _ _ h => h) (by rfl) ?_ (by assumption) ?_
  rotate_left 1
  · (intro w hSw; (try dsimp only at hSw); go_simp <;> (with_reducible rfl))
  (try simp only [Act.put, sa, List.set])
  refine tk (i := 3) (v := ?_) rfl (by kernel_rfl) (fun _ _ _ h => h) (by rfl) ?_ (by assumption) ?_
  rotate_left 1
  · (intro w hSw; (try dsimp only at hSw); go_simp <;> (with_reducible rfl))
  (try simp only [Act.put, sa, List.set])
  refine tk (i := 5) (v := ?_) rfl (by kernel_rfl) (fun _ _ _ h => h) (by rfl) ?_ (by assumption) ?_
  rotate_left 1
  · (intro w hSw; (try dsimp only at hSw); go_simp <;> (with_reducible rfl))
  (try simp only [Act.put, sa, List.set])
  refine tk (i := 6) (v := ?_) rfl (by kernel_rfl) (fun _ _ _ h => h) (by rfl) ?_ (by assumption) ?_
  rotate_left 1
  · (intro w hSw; (try dsimp only at hSw); go_simp <;> (with_reducible rfl))
  (try simp only [Act.put, sa, List.set])
  refine tk (i := 7) (v := ?_) rfl (by kernel_rfl) (fun _ _ _ h => h) (by rfl) ?_ (by assumption) ?_
  rotate_left 1
  · (intro w hSw; (try dsimp only at hSw); go_simp <;> (with_reducible rfl))
  (try simp only [Act.put, sa, List.set])
  refine tk (i := 8) (v := ?_) rfl (by kernel_rfl) (fun _ _ _ h => h) (by rfl) ?_ (by assumption) ?_
  rotate_left 1
  · (intro w hSw; (try dsimp only at hSw); go_simp <;> (with_reducible rfl))
  (try simp only [Act.put, sa, List.set])
  refine rd1 (i := 4) (by kernel_rfl) rfl (fun K hK => ?_)
  go_simp
  go_at_call 110; have hBd := hB.drew; refine (HM.out _ hBd).mono ?_; rintro e w2 ⟨⟨v1, rfl, on⟩, hb⟩; replace hb := (Below.refl w1.heap.size w1).drew.trans hb; obtain ⟨b1, a1, k1, c1, rfl⟩ := on.num.opened; replace on : NumF w1.heap.size w2 _ _ := on; replace xr := xr.on hb; replace xx := xx.on hb; replace hB := hB.trans (hb.mono hB.size); have hz2 := hb.size
  (try go_wp2_with fail)
  refine hK.out _ _ (keep4 hb qx hR0) (fun hR1 => ?_)
  clear hK K hR0
  (try simp only [Act.put, sa, List.set])
  replace qx := Nat.lt_of_lt_of_le qx hz2
  clear hb hBd
  refine rd1 (i := 9) (by kernel_rfl) rfl (fun K hK => ?_)
  go_simp
  go_at_call 111; have hBd := hB; refine (HC.out _ hBd).mono ?_; rintro e w3 ⟨⟨v2, rfl, od⟩, hb⟩; obtain ⟨a2, c2, rfl⟩ := lf_slice od; obtain ⟨k2, hk2⟩ : ∃ n, n = (dig q.den).length := ⟨_, rfl⟩; rw [← hk2] at od ⊢; have HK2 := Lib.hid hk2; clear hk2; replace xr := xr.on hb; replace xx := xx.on hb; replace on := on.below hb; replace hB := hB.trans (hb.mono hB.size); have hz3 := hb.size
  (try go_wp2_with fail)
  refine hK.out _ _ (keep4 hb qx hR1) (fun hR2 => ?_)
  clear hK K hR1
  (try simp only [Act.put, sa, List.set])
  replace qx := Nat.lt_of_lt_of_le qx hz3
  clear hb hBd
  refine tk (i := 10) (v := ?_) rfl (by kernel_rfl) (fun _ _ _ h => h) (by rfl) ?_ (by assumption) ?_
  rotate_left 1
  · (intro w hSw; (try dsimp only at hSw); go_simp <;> (with_reducible rfl))
  (try simp only [Act.put, sa, List.set])
  refine tk (i := 11) (v := ?_) rfl (by kernel_rfl) (fun _ _ _ h => h) (by rfl) ?_ (by assumption) ?_
  rotate_left 1
  · (intro w hSw; (try dsimp only at hSw); go_simp <;> (with_reducible rfl))
  (try simp only [Act.put, sa, List.set])
  have pr := xr.all4
  refine rd1 (i := 12) (by kernel_rfl) rfl (fun K hK => ?_)
  go_simp
  refine hK.out _ _ (stay4 hR2 (by omega)) (fun hR3 => ?_)
  clear hK K hR2
  (try simp only [Act.put, sa, List.set])
  clear pr
  replace xx := xx.put_other4 (w.heap.size + 1) (.bool b1) (.slice a1 k1 c1) (.bool false) (.slice a2 k2 c2) (by omega)
  replace xr := xr.put4 (.bool b1) (.slice a1 k1 c1) (.bool false) (.slice a2 k2 c2)
  replace on := on.set4 (w.heap.size + 1) (by first | omega | (simp; omega) | simp) (.bool b1) (.slice a1 k1 c1) (.bool false) (.slice a2 k2 c2)
  replace od := od.set4 (w.heap.size + 1) (by first | omega | (simp; omega) | simp) (.bool b1) (.slice a1 k1 c1) (.bool false) (.slice a2 k2 c2)
  replace hB := below4 hB (w.heap.size + 1) (by first | omega | (simp; omega) | simp) (.bool b1) (.slice a1 k1 c1) (.bool false) (.slice a2 k2 c2)
  refine tk (i := 13) (v := ?_) rfl (by kernel_rfl) (fun _ _ _ h => h) (by rfl) ?_ (by assumption) ?_
  rotate_left 1
  · (intro w hSw; (try dsimp only at hSw); go_simp <;> (with_reducible rfl))
  (try simp only [Act.put, sa, List.set])
  refine wpAnyH_done (by kernel_rfl) ?_ _
  refine NoPanic.normal ?_
  clear hR3
  clear qx
  clear xx
  replace on := on.mono (show w.heap.size ≤ _ by omega)
  replace od := od.mono (show w.heap.size ≤ _ by omega)
  generalize ((((w3.setCell ⟨w.heap.size + 1, 0, none⟩ (.bool b1)).setCell ⟨w.heap.size + 1, 1, none⟩ (.slice a1 k1 c1)).setCell ⟨w.heap.size + 1, 2, none⟩ (.bool false)).setCell ⟨w.heap.size + 1, 3, none⟩ (.slice a2 k2 c2)) = WF at *
  have pr := xr.all4
  go_wp2
  exact bodyPost_ret (v := .tuple #[.agg #[.bool b1, .slice a1 k1 c1, .bool false, .slice a2 k2 c2], .int .i64 0]) (by simp [results, Tryz.results47, go_sem, pr]) rfl ⟨⟨_, rfl, fraF_lim on od⟩, hB⟩
end Go.Proofs.YthlclegajldphaaGreat
