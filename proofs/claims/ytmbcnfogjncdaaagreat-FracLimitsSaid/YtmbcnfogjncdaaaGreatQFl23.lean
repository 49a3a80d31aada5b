/- A part of the proofs about fractions. -/
import Derived.Test.YtmbcnfogjncdaaaGreatQFl17
import Derived.Test.YtmbcnfogjncdaaaGreatQFl18
import Derived.Test.YtmbcnfogjncdaaaGreatQFl19
set_option maxRecDepth 100000
set_option maxHeartbeats 4000000
namespace Go.Proofs.YtmbcnfogjncdaaaGreat
open Go.RowKit Wh
theorem frjoin_sum_ok (p q : Rat) (bx : Bool) (ax : Option Addr) (kx cx : Nat) (dx : Bool) (ex : Option Addr) (lx mx : Nat) (bY : Bool) (ay : Option Addr) (ky cy : Nat) (dy : Bool) (ey : Option Addr) (ly my : Nat) (hp : Fz 256 256 p) (hq : Fz 256 256 q) (hz : Fz 256 256 (p + q)) (w : World) (fx : Fra w (.agg #[.bool bx, .slice ax kx cx, .bool dx, .slice ex lx mx]) p) (fy : Fra w (.agg #[.bool bY, .slice ay ky cy, .bool dy, .slice ey ly my]) q) :
    Calls Tryz.prog 125 #[.func (.func 126) #[] #[], .agg #[.bool bx, .slice ax kx cx, .bool dx, .slice ex lx mx], .agg #[.bool bY, .slice ay ky cy, .bool dy, .slice ey ly my]] w fun e w' => (∃ v, e = .returned (.tuple #[v, .int .i64 0]) ∧ FraF w.heap.size w' v (p + q)) ∧ Below w.heap.size w w' := by
  have HV1 := Lib.hid (fun W (hW : Below w.heap.size w W) => valid_ok (.agg #[.bool bx, .slice ax kx cx, .bool dx, .slice ex lx mx]) p hp W (fx.below hW (Nat.le_refl _)))
  have HV2 := Lib.hid (fun W (hW : Below w.heap.size w W) => valid_ok (.agg #[.bool bY, .slice ay ky cy, .bool dy, .slice ey ly my]) q hq W (fy.below hW (Nat.le_refl _)))
  have HO := Lib.hid (fun W (hW : Below w.heap.size w W) => frsum_any p q bx ax kx cx dx ex lx mx bY ay ky cy dy ey ly my hp hq W (fx.below hW (Nat.le_refl _)) (fy.below hW (Nat.le_refl _)))
  obtain ⟨h1, h1d⟩ := hp
  obtain ⟨h2, h2d⟩ := hq
  have HM := Lib.hid (fun bn an kn cn bd ad kd cd W h g => Make_okk bn an kn cn bd ad kd cd (p.num * q.den + q.num * p.den) ((p.den : Int) * q.den) (p + q) ((Fq.add_eq p q).symm) ((Sz.add (Sz.mul h1 h2d) (Sz.mul h2 h1d)).mono (by decide)) ((Sz.mul h1d h2d).mono (by decide)) (dd_ne p q) hz W h g)
  clear fx fy h1 h1d h2 h2d hz
  have hB := (((Below.refl w.heap.size w).alloc (Nat.le_refl _) (.cells #[.bool bx, .slice ax kx cx, .bool dx, .slice ex lx mx] 39)).alloc (by simp) (.cells #[.bool bY, .slice ay ky cy, .bool dy, .slice ey ly my] 39)).alloc (by simp <;> omega) (.cells #[.bool false, .slice none 0 0, .bool false, .slice none 0 0] 39)
  have xa := ((Bk.new w #[.bool bx, .slice ax kx cx, .bool dx, .slice ex lx mx] 39).alloc (.cells #[.bool bY, .slice ay ky cy, .bool dy, .slice ey ly my] 39)).alloc (.cells #[.bool false, .slice none 0 0, .bool false, .slice none 0 0] 39)
  have xb := (Bk.new (w.alloc (.cells #[.bool bx, .slice ax kx cx, .bool dx, .slice ex lx mx] 39)) #[.bool bY, .slice ay ky cy, .bool dy, .slice ey ly my] 39).alloc (.cells #[.bool false, .slice none 0 0, .bool false, .slice none 0 0] 39)
  have xr := Bk.new ((w.alloc (.cells #[.bool bx, .slice ax kx cx, .bool dx, .slice ex lx mx] 39)).alloc (.cells #[.bool bY, .slice ay ky cy, .bool dy, .slice ey ly my] 39)) #[.bool false, .slice none 0 0, .bool false, .slice none 0 0] 39
  simp only [World.size_alloc] at xb xr
  have hsz : (((w.alloc (.cells #[.bool bx, .slice ax kx cx, .bool dx, .slice ex lx mx] 39)).alloc (.cells #[.bool bY, .slice ay ky cy, .bool dy, .slice ey ly my] 39)).alloc (.cells #[.bool false, .slice none 0 0, .bool false, .slice none 0 0] 39)).heap.size = w.heap.size + 1 + 1 + 1 := by simp only [World.size_alloc]
  obtain ⟨W0, hW0⟩ : ∃ W0, W0 = (((w.alloc (.cells #[.bool bx, .slice ax kx cx, .bool dx, .slice ex lx mx] 39)).alloc (.cells #[.bool bY, .slice ay ky cy, .bool dy, .slice ey ly my] 39)).alloc (.cells #[.bool false, .slice none 0 0, .bool false, .slice none 0 0] 39)) := ⟨_, rfl⟩
  rw [← hW0] at hB xa xb xr hsz
  go_enter Tryz.func125, Tryz.ntmps125
  go_upto_region 1 with fail
  rw [← hW0]
  clear hW0
  have q0 : w.heap.size < W0.heap.size := by omega
  have q1 : w.heap.size + 1 < W0.heap.size := by omega
  have q2 : w.heap.size + 1 + 1 < W0.heap.size := by omega
  have q3 : w.heap.size ≤ W0.heap.size := by omega
  clear hsz
  obtain ⟨a0, a1, a2, a3⟩ := xa.cells4
  obtain ⟨b0, b1, b2, b3⟩ := xb.cells4
  clear xa xb
  go_cut [8, 9] (fun s8 s9 wx => ∃ BX BY : Nat, s8 = .pointer (some ⟨BX, 0, none⟩) ∧ s9 = .pointer (some ⟨BY, 0, none⟩) ∧ Bk wx BX #[.bool bx, .slice ax kx cx, .bool dx, .slice ex lx mx] 101 ∧ Bk wx BY #[.bool bY, .slice ay ky cy, .bool dy, .slice ey ly my] 101 ∧ Below W0.heap.size W0 wx)
  case first =>
    go_region
    all_goals (go_wp2_with fail; go_meet)
    · obtain ⟨t1, t2, t3⟩ := frpair_new W0 #[.bool bx, .slice ax kx cx, .bool dx, .slice ex lx mx] #[.bool bY, .slice ay ky cy, .bool dy, .slice ey ly my] 101
      exact ⟨_, _, rfl, rfl, t1, t2, t3⟩
    · obtain ⟨t1, t2, t3⟩ := frpair_new W0 #[.bool bY, .slice ay ky cy, .bool dy, .slice ey ly my] #[.bool bx, .slice ax kx cx, .bool dx, .slice ex lx mx] 101
      exact ⟨_, _, rfl, rfl, t2, t1, t3⟩
  case rest =>
    obtain ⟨BX, BY, rfl, rfl, xx, xy, hb⟩ := hcut
    replace xr := xr.on hb; replace hB := hB.trans (hb.mono hB.size)
    have hz0 := hb.size
    clear hb a0 a1 a2 a3 b0 b1 b2 b3
    have px := xx.all4
    have py := xy.all4
    have pr := xr.all4
    go_wp2_with fail
    clear px py pr
    refine (HV1.out _ hB).mono ?_
    rintro e w1 ⟨rfl, hb⟩
    replace xx := xx.on hb; replace xy := xy.on hb; replace xr := xr.on hb
    have hz1 := hb.size
    try simp at hz1
    replace hB := hB.trans (hb.mono hB.size); clear hb
    have px := xx.all4
    have py := xy.all4
    have pr := xr.all4
    go_wp2_with fail
    clear px py pr
    refine (HV2.out _ hB).mono ?_
    rintro e w2 ⟨rfl, hb⟩
    replace xx := xx.on hb; replace xy := xy.on hb; replace xr := xr.on hb
    have hz2 := hb.size
    try simp at hz2
    replace hB := hB.trans (hb.mono hB.size); clear hb
    have px := xx.all4
    have py := xy.all4
    have pr := xr.all4
    go_wp2_with fail
    clear px py pr
    refine (HO.out _ hB).mono ?_
    rintro e w3 ⟨⟨vn, vd, rfl, on, od⟩, hb⟩
    obtain ⟨b1, u1, k1, c1, rfl⟩ := on.num.opened
    obtain ⟨b2, u2, k2, c2, rfl⟩ := od.num.opened
    replace xx := xx.on hb; replace xy := xy.on hb; replace xr := xr.on hb
    have hz3 := hb.size
    try simp at hz3
    replace hB := hB.trans (hb.mono hB.size); clear hb
    have hl := Nat.le_trans q3 (Nat.le_trans hz0 (Nat.le_trans hz1 (Nat.le_trans hz2 hz3)))
    go_wp2_with fail
    refine (HM.out _ _ _ _ _ _ _ _ _ on.num od.num).mono ?_
    rintro e w4 ⟨⟨v, rfl, on⟩, hb⟩
    obtain ⟨b5, a5, k5, c5, b6, a6, k6, c6, rfl⟩ := on.fra.opened
    replace xx := xx.on hb; replace xy := xy.on hb; replace xr := xr.on hb
    have hz4 := hb.size
    try simp at hz4
    replace hB := hB.trans (hb.mono hB.size); clear hb
    have px := xx.all4
    have py := xy.all4
    have pr := xr.all4
    go_wp2_with fail
    clear px py pr xx xy; replace xr := xr.put4 (.bool b5) (.slice a5 k5 c5) (.bool b6) (.slice a6 k6 c6); replace on := on.set4 (w.heap.size + 1 + 1) (by first | omega | (simp; omega) | simp) (.bool b5) (.slice a5 k5 c5) (.bool b6) (.slice a6 k6 c6); replace hB := below4 hB (w.heap.size + 1 + 1) (by first | omega | (simp; omega) | simp) (.bool b5) (.slice a5 k5 c5) (.bool b6) (.slice a6 k6 c6); replace on := on.mono hl
    generalize ((((w4.setCell ⟨w.heap.size + 1 + 1, 0, none⟩ (.bool b5)).setCell ⟨w.heap.size + 1 + 1, 1, none⟩ (.slice a5 k5 c5)).setCell ⟨w.heap.size + 1 + 1, 2, none⟩ (.bool b6)).setCell ⟨w.heap.size + 1 + 1, 3, none⟩ (.slice a6 k6 c6)) = WF at *
    have pr := xr.all4
    exact bodyPost_ret (v := .tuple #[.agg #[.bool b5, .slice a5 k5 c5, .bool b6, .slice a6 k6 c6], .int .i64 0]) (by simp [results, Tryz.results125, go_sem, pr]) rfl ⟨⟨_, rfl, on⟩, hB⟩
theorem frAdd_ok (p q : Rat) (bx : Bool) (ax : Option Addr) (kx cx : Nat) (dx : Bool) (ex : Option Addr) (lx mx : Nat) (bY : Bool) (ay : Option Addr) (ky cy : Nat) (dy : Bool) (ey : Option Addr) (ly my : Nat) (hp : Fz 256 256 p) (hq : Fz 256 256 q) (hz : Fz 256 256 (p + q)) (w : World) (fx : Fra w (.agg #[.bool bx, .slice ax kx cx, .bool dx, .slice ex lx mx]) p) (fy : Fra w (.agg #[.bool bY, .slice ay ky cy, .bool dy, .slice ey ly my]) q) :
  Calls Tryz.prog 43 #[.agg #[.bool bx, .slice ax kx cx, .bool dx, .slice ex lx mx], .agg #[.bool bY, .slice ay ky cy, .bool dy, .slice ey ly my]] w fun e w' => (∃ v, e = .returned (.tuple #[v, .int .i64 0]) ∧ FraF w.heap.size w' v (p + q)) ∧ Below w.heap.size w w' := by
 have HJ := Lib.hid (fun W (hW : Below w.heap.size w W) => frjoin_sum_ok p q bx ax kx cx dx ex lx mx bY ay ky cy dy ey ly my hp hq hz W (fx.below hW (Nat.le_refl _)) (fy.below hW (Nat.le_refl _)))
 clear fx fy hp hq hz
 have hB := Below.refl w.heap.size w
 obtain ⟨al, xa, hN⟩ := mk hB #[.bool bx, .slice ax kx cx, .bool dx, .slice ex lx mx] 39
 replace hB := hN; clear al hN
 try simp only [World.size_alloc] at xa
 obtain ⟨al, xb, hN⟩ := mk hB #[.bool bY, .slice ay ky cy, .bool dy, .slice ey ly my] 39
 replace xa := xa.on al; replace hB := hN; clear al hN
 try simp only [World.size_alloc] at xb
 obtain ⟨al, xr, hN⟩ := mk hB #[.bool false, .slice none 0 0, .bool false, .slice none 0 0] 39
 replace xa := xa.on al; replace xb := xb.on al; replace hB := hN; clear al hN
 try simp only [World.size_alloc] at xr
 go_enter Tryz.func43, Tryz.ntmps43
 go_wp2_with fail
 refine (HJ.out _ hB).mono ?_
 rintro e w1 ⟨⟨v, rfl, on⟩, hb⟩
 obtain ⟨b5, a5, k5, c5, b6, a6, k6, c6, rfl⟩ := on.fra.opened
 replace xa := xa.on hb; replace xb := xb.on hb; replace xr := xr.on hb
 have hz1 := hb.size
 try simp at hz1
 replace hB := hB.trans (hb.mono hB.size); clear hb
 have pa := xa.all4
 have pb := xb.all4
 have pr := xr.all4
 go_wp2_with fail
 clear pa pb pr xa xb; replace xr := xr.put4 (.bool b5) (.slice a5 k5 c5) (.bool b6) (.slice a6 k6 c6); replace on := on.set4 (w.heap.size + 1 + 1) (by first | omega | (simp; omega) | simp) (.bool b5) (.slice a5 k5 c5) (.bool b6) (.slice a6 k6 c6); replace hB := below4 hB (w.heap.size + 1 + 1) (by first | omega | (simp; omega) | simp) (.bool b5) (.slice a5 k5 c5) (.bool b6) (.slice a6 k6 c6)
 replace on := on.mono (show w.heap.size ≤ _ by first | omega | (simp; omega) | simp)
 generalize ((((w1.setCell ⟨w.heap.size + 1 + 1, 0, none⟩ (.bool b5)).setCell ⟨w.heap.size + 1 + 1, 1, none⟩ (.slice a5 k5 c5)).setCell ⟨w.heap.size + 1 + 1, 2, none⟩ (.bool b6)).setCell ⟨w.heap.size + 1 + 1, 3, none⟩ (.slice a6 k6 c6)) = WF at *
 have pr := xr.all4
 exact bodyPost_ret (v := .tuple #[.agg #[.bool b5, .slice a5 k5 c5, .bool b6, .slice a6 k6 c6], .int .i64 0]) (by simp [results, Tryz.results43, go_sem, pr]) rfl ⟨⟨_, rfl, on⟩, hB⟩
theorem frjoin_sum_long (p q : Rat) (bx : Bool) (ax : Option Addr) (kx cx : Nat) (dx : Bool) (ex : Option Addr) (lx mx : Nat) (bY : Bool) (ay : Option Addr) (ky cy : Nat) (dy : Bool) (ey : Option Addr) (ly my : Nat) (hp : Fz 256 256 p) (hq : Fz 256 256 q) (hz : ¬ Fz 256 256 (p + q)) (w : World) (fx : Fra w (.agg #[.bool bx, .slice ax kx cx, .bool dx, .slice ex lx mx]) p) (fy : Fra w (.agg #[.bool bY, .slice ay ky cy, .bool dy, .slice ey ly my]) q) :
    Calls Tryz.prog 125 #[.func (.func 126) #[] #[], .agg #[.bool bx, .slice ax kx cx, .bool dx, .slice ex lx mx], .agg #[.bool bY, .slice ay ky cy, .bool dy, .slice ey ly my]] w fun e w' => e = .returned (.tuple #[zeroF, .int .i64 3]) ∧ Below w.heap.size w w' := by
  have HV1 := Lib.hid (fun W (hW : Below w.heap.size w W) => valid_ok (.agg #[.bool bx, .slice ax kx cx, .bool dx, .slice ex lx mx]) p hp W (fx.below hW (Nat.le_refl _)))
  have HV2 := Lib.hid (fun W (hW : Below w.heap.size w W) => valid_ok (.agg #[.bool bY, .slice ay ky cy, .bool dy, .slice ey ly my]) q hq W (fy.below hW (Nat.le_refl _)))
  have HO := Lib.hid (fun W (hW : Below w.heap.size w W) => frsum_any p q bx ax kx cx dx ex lx mx bY ay ky cy dy ey ly my hp hq W (fx.below hW (Nat.le_refl _)) (fy.below hW (Nat.le_refl _)))
  obtain ⟨h1, h1d⟩ := hp
  obtain ⟨h2, h2d⟩ := hq
  have HM := Lib.hid (fun bn an kn cn bd ad kd cd W h g => Make_long bn an kn cn bd ad kd cd (p.num * q.den + q.num * p.den) ((p.den : Int) * q.den) ((Sz.add (Sz.mul h1 h2d) (Sz.mul h2 h1d)).mono (by decide)) ((Sz.mul h1d h2d).mono (by decide)) (dd_ne p q) (by rw [show Rat.divInt (p.num * q.den + q.num * p.den) ((p.den : Int) * q.den) = p + q from (Fq.add_eq p q).symm]; exact hz) W h g)
  clear fx fy h1 h1d h2 h2d hz
  have hB := (((Below.refl w.heap.size w).alloc (Nat.le_refl _) (.cells #[.bool bx, .slice ax kx cx, .bool dx, .slice ex lx mx] 39)).alloc (by simp) (.cells #[.bool bY, .slice ay ky cy, .bool dy, .slice ey ly my] 39)).alloc (by simp <;> omega) (.cells #[.bool false, .slice none 0 0, .bool false, .slice none 0 0] 39)
  have xa := ((Bk.new w #[.bool bx, .slice ax kx cx, .bool dx, .slice ex lx mx] 39).alloc (.cells #[.bool bY, .slice ay ky cy, .bool dy, .slice ey ly my] 39)).alloc (.cells #[.bool false, .slice none 0 0, .bool false, .slice none 0 0] 39)
  have xb := (Bk.new (w.alloc (.cells #[.bool bx, .slice ax kx cx, .bool dx, .slice ex lx mx] 39)) #[.bool bY, .slice ay ky cy, .bool dy, .slice ey ly my] 39).alloc (.cells #[.bool false, .slice none 0 0, .bool false, .slice none 0 0] 39)
  have xr := Bk.new ((w.alloc (.cells #[.bool bx, .slice ax kx cx, .bool dx, .slice ex lx mx] 39)).alloc (.cells #[.bool bY, .slice ay ky cy, .bool dy, .slice ey ly my] 39)) #[.bool false, .slice none 0 0, .bool false, .slice none 0 0] 39
  simp only [World.size_alloc] at xb xr
  have hsz : (((w.alloc (.cells #[.bool bx, .slice ax kx cx, .bool dx, .slice ex lx mx] 39)).alloc (.cells #[.bool bY, .slice ay ky cy, .bool dy, .slice ey ly my] 39)).alloc (.cells #[.bool false, .slice none 0 0, .bool false, .slice none 0 0] 39)).heap.size = w.heap.size + 1 + 1 + 1 := by simp only [World.size_alloc]
  obtain ⟨W0, hW0⟩ : ∃ W0, W0 = (((w.alloc (.cells #[.bool bx, .slice ax kx cx, .bool dx, .slice ex lx mx] 39)).alloc (.cells #[.bool bY, .slice ay ky cy, .bool dy, .slice ey ly my] 39)).alloc (.cells #[.bool false, .slice none 0 0, .bool false, .slice none 0 0] 39)) := ⟨_, rfl⟩
  rw [← hW0] at hB xa xb xr hsz
  go_enter Tryz.func125, Tryz.ntmps125
  go_upto_region 1 with fail
  rw [← hW0]
  clear hW0
  have q0 : w.heap.size < W0.heap.size := by omega
  have q1 : w.heap.size + 1 < W0.heap.size := by omega
  have q2 : w.heap.size + 1 + 1 < W0.heap.size := by omega
  have q3 : w.heap.size ≤ W0.heap.size := by omega
  clear hsz
  obtain ⟨a0, a1, a2, a3⟩ := xa.cells4
  obtain ⟨b0, b1, b2, b3⟩ := xb.cells4
  clear xa xb
  go_cut [8, 9] (fun s8 s9 wx => ∃ BX BY : Nat, s8 = .pointer (some ⟨BX, 0, none⟩) ∧ s9 = .pointer (some ⟨BY, 0, none⟩) ∧ Bk wx BX #[.bool bx, .slice ax kx cx, .bool dx, .slice ex lx mx] 101 ∧ Bk wx BY #[.bool bY, .slice ay ky cy, .bool dy, .slice ey ly my] 101 ∧ Below W0.heap.size W0 wx)
  case first =>
    go_region
    all_goals (go_wp2_with fail; go_meet)
    · obtain ⟨t1, t2, t3⟩ := frpair_new W0 #[.bool bx, .slice ax kx cx, .bool dx, .slice ex lx mx] #[.bool bY, .slice ay ky cy, .bool dy, .slice ey ly my] 101
      exact ⟨_, _, rfl, rfl, t1, t2, t3⟩
    · obtain ⟨t1, t2, t3⟩ := frpair_new W0 #[.bool bY, .slice ay ky cy, .bool dy, .slice ey ly my] #[.bool bx, .slice ax kx cx, .bool dx, .slice ex lx mx] 101
      exact ⟨_, _, rfl, rfl, t2, t1, t3⟩
  case rest =>
    obtain ⟨BX, BY, rfl, rfl, xx, xy, hb⟩ := hcut
    replace xr := xr.on hb; replace hB := hB.trans (hb.mono hB.size)
    have hz0 := hb.size
    clear hb a0 a1 a2 a3 b0 b1 b2 b3
    have px := xx.all4
    have py := xy.all4
    have pr := xr.all4
    go_wp2_with fail
    clear px py pr
    refine (HV1.out _ hB).mono ?_
    rintro e w1 ⟨rfl, hb⟩
    replace xx := xx.on hb; replace xy := xy.on hb; replace xr := xr.on hb
    have hz1 := hb.size
    try simp at hz1
    replace hB := hB.trans (hb.mono hB.size); clear hb
    have px := xx.all4
    have py := xy.all4
    have pr := xr.all4
    go_wp2_with fail
    clear px py pr
    refine (HV2.out _ hB).mono ?_
    rintro e w2 ⟨rfl, hb⟩
    replace xx := xx.on hb; replace xy := xy.on hb; replace xr := xr.on hb
    have hz2 := hb.size
    try simp at hz2
    replace hB := hB.trans (hb.mono hB.size); clear hb
    have px := xx.all4
    have py := xy.all4
    have pr := xr.all4
    go_wp2_with fail
    clear px py pr
    refine (HO.out _ hB).mono ?_
    rintro e w3 ⟨⟨vn, vd, rfl, on, od⟩, hb⟩
    obtain ⟨b1, u1, k1, c1, rfl⟩ := on.num.opened
    obtain ⟨b2, u2, k2, c2, rfl⟩ := od.num.opened
    replace xx := xx.on hb; replace xy := xy.on hb; replace xr := xr.on hb
    have hz3 := hb.size
    try simp at hz3
    replace hB := hB.trans (hb.mono hB.size); clear hb
    have hl := Nat.le_trans q3 (Nat.le_trans hz0 (Nat.le_trans hz1 (Nat.le_trans hz2 hz3)))
    go_wp2_with fail
    refine (HM.out _ _ _ _ _ _ _ _ _ on.num od.num).mono ?_
    rintro e w4 ⟨rfl, hb⟩
    replace xx := xx.on hb; replace xy := xy.on hb; replace xr := xr.on hb
    have hz4 := hb.size
    try simp at hz4
    replace hB := hB.trans (hb.mono hB.size); clear hb
    have px := xx.all4
    have py := xy.all4
    have pr := xr.all4
    go_wp2_with fail
    clear px py pr xx xy; replace xr := xr.put4 (.bool false) (.slice none 0 0) (.bool false) (.slice none 0 0); replace hB := below4 hB (w.heap.size + 1 + 1) (by first | omega | (simp; omega) | simp) (.bool false) (.slice none 0 0) (.bool false) (.slice none 0 0)
    generalize ((((w4.setCell ⟨w.heap.size + 1 + 1, 0, none⟩ (.bool false)).setCell ⟨w.heap.size + 1 + 1, 1, none⟩ (.slice none 0 0)).setCell ⟨w.heap.size + 1 + 1, 2, none⟩ (.bool false)).setCell ⟨w.heap.size + 1 + 1, 3, none⟩ (.slice none 0 0)) = WF at *
    have pr := xr.all4
    exact bodyPost_ret (v := .tuple #[.agg #[.bool false, .slice none 0 0, .bool false, .slice none 0 0], .int .i64 3]) (by simp [results, Tryz.results125, go_sem, pr]) rfl ⟨rfl, hB⟩
theorem frAdd_long (p q : Rat) (bx : Bool) (ax : Option Addr) (kx cx : Nat) (dx : Bool) (ex : Option Addr) (lx mx : Nat) (bY : Bool) (ay : Option Addr) (ky cy : Nat) (dy : Bool) (ey : Option Addr) (ly my : Nat) (hp : Fz 256 256 p) (hq : Fz 256 256 q) (hz : ¬ Fz 256 256 (p + q)) (w : World) (fx : Fra w (.agg #[.bool bx, .slice ax kx cx, .bool dx, .slice ex lx mx]) p) (fy : Fra w (.agg #[.bool bY, .slice ay ky cy, .bool dy, .slice ey ly my]) q) :
  Calls Tryz.prog 43 #[.agg #[.bool bx, .slice ax kx cx, .bool dx, .slice ex lx mx], .agg #[.bool bY, .slice ay ky cy, .bool dy, .slice ey ly my]] w fun e w' => e = .returned (.tuple #[zeroF, .int .i64 3]) ∧ Below w.heap.size w w' := by
 have HJ := Lib.hid (fun W (hW : Below w.heap.size w W) => frjoin_sum_long p q bx ax kx cx dx ex lx mx bY ay ky cy dy ey ly my hp hq hz W (fx.below hW (Nat.le_refl _)) (fy.below hW (Nat.le_refl _)))
 clear fx fy hp hq hz
 have hB := Below.refl w.heap.size w
 obtain ⟨al, xa, hN⟩ := mk hB #[.bool bx, .slice ax kx cx, .bool dx, .slice ex lx mx] 39
 replace hB := hN; clear al hN
 try simp only [World.size_alloc] at xa
 obtain ⟨al, xb, hN⟩ := mk hB #[.bool bY, .slice ay ky cy, .bool dy, .slice ey ly my] 39
 replace xa := xa.on al; replace hB := hN; clear al hN
 try simp only [World.size_alloc] at xb
 obtain ⟨al, xr, hN⟩ := mk hB #[.bool false, .slice none 0 0, .bool false, .slice none 0 0] 39
 replace xa := xa.on al; replace xb := xb.on al; replace hB := hN; clear al hN
 try simp only [World.size_alloc] at xr
 go_enter Tryz.func43, Tryz.ntmps43
 go_wp2_with fail
 refine (HJ.out _ hB).mono ?_
 rintro e w1 ⟨rfl, hb⟩
 replace xa := xa.on hb; replace xb := xb.on hb; replace xr := xr.on hb
 have hz1 := hb.size
 try simp at hz1
 replace hB := hB.trans (hb.mono hB.size); clear hb
 have pa := xa.all4
 have pb := xb.all4
 have pr := xr.all4
 go_wp2_with fail
 clear pa pb pr xa xb; replace xr := xr.put4 (.bool false) (.slice none 0 0) (.bool false) (.slice none 0 0); replace hB := below4 hB (w.heap.size + 1 + 1) (by first | omega | (simp; omega) | simp) (.bool false) (.slice none 0 0) (.bool false) (.slice none 0 0)
 generalize ((((w1.setCell ⟨w.heap.size + 1 + 1, 0, none⟩ (.bool false)).setCell ⟨w.heap.size + 1 + 1, 1, none⟩ (.slice none 0 0)).setCell ⟨w.heap.size + 1 + 1, 2, none⟩ (.bool false)).setCell ⟨w.heap.size + 1 + 1, 3, none⟩ (.slice none 0 0)) = WF at *
 have pr := xr.all4
 exact bodyPost_ret (v := .tuple #[.agg #[.bool false, .slice none 0 0, .bool false, .slice none 0 0], .int .i64 3]) (by simp [results, Tryz.results43, go_sem, pr]) rfl ⟨rfl, hB⟩
end Go.Proofs.YtmbcnfogjncdaaaGreat
namespace Go.Proofs.YtmbcnfogjncdaaaGreat
open Go.RowKit Wh
theorem frjoin_product_ok (p q : Rat) (bx : Bool) (ax : Option Addr) (kx cx : Nat) (dx : Bool) (ex : Option Addr) (lx mx : Nat) (bY : Bool) (ay : Option Addr) (ky cy : Nat) (dy : Bool) (ey : Option Addr) (ly my : Nat) (hp : Fz 256 256 p) (hq : Fz 256 256 q) (hz : Fz 256 256 (p * q)) (w : World) (fx : Fra w (.agg #[.bool bx, .slice ax kx cx, .bool dx, .slice ex lx mx]) p) (fy : Fra w (.agg #[.bool bY, .slice ay ky cy, .bool dy, .slice ey ly my]) q) :
    Calls Tryz.prog 125 #[.func (.func 127) #[] #[], .agg #[.bool bx, .slice ax kx cx, .bool dx, .slice ex lx mx], .agg #[.bool bY, .slice ay ky cy, .bool dy, .slice ey ly my]] w fun e w' => (∃ v, e = .returned (.tuple #[v, .int .i64 0]) ∧ FraF w.heap.size w' v (p * q)) ∧ Below w.heap.size w w' := by
  have HV1 := Lib.hid (fun W (hW : Below w.heap.size w W) => valid_ok (.agg #[.bool bx, .slice ax kx cx, .bool dx, .slice ex lx mx]) p hp W (fx.below hW (Nat.le_refl _)))
  have HV2 := Lib.hid (fun W (hW : Below w.heap.size w W) => valid_ok (.agg #[.bool bY, .slice ay ky cy, .bool dy, .slice ey ly my]) q hq W (fy.below hW (Nat.le_refl _)))
  have HO := Lib.hid (fun W (hW : Below w.heap.size w W) => frproduct_any p q bx ax kx cx dx ex lx mx bY ay ky cy dy ey ly my hp hq W (fx.below hW (Nat.le_refl _)) (fy.below hW (Nat.le_refl _)))
  obtain ⟨h1, h1d⟩ := hp
  obtain ⟨h2, h2d⟩ := hq
  have HM := Lib.hid (fun bn an kn cn bd ad kd cd W h g => Make_okk bn an kn cn bd ad kd cd (p.num * q.num) ((p.den : Int) * q.den) (p * q) ((Fq.mul_eq p q).symm) ((Sz.mul h1 h2).mono (by decide)) ((Sz.mul h1d h2d).mono (by decide)) (dd_ne p q) hz W h g)
  clear fx fy h1 h1d h2 h2d hz
  have hB := (((Below.refl w.heap.size w).alloc (Nat.le_refl _) (.cells #[.bool bx, .slice ax kx cx, .bool dx, .slice ex lx mx] 39)).alloc (by simp) (.cells #[.bool bY, .slice ay ky cy, .bool dy, .slice ey ly my] 39)).alloc (by simp <;> omega) (.cells #[.bool false, .slice none 0 0, .bool false, .slice none 0 0] 39)
  have xa := ((Bk.new w #[.bool bx, .slice ax kx cx, .bool dx, .slice ex lx mx] 39).alloc (.cells #[.bool bY, .slice ay ky cy, .bool dy, .slice ey ly my] 39)).alloc (.cells #[.bool false, .slice none 0 0, .bool false, .slice none 0 0] 39)
  have xb := (Bk.new (w.alloc (.cells #[.bool bx, .slice ax kx cx, .bool dx, .slice ex lx mx] 39)) #[.bool bY, .slice ay ky cy, .bool dy, .slice ey ly my] 39).alloc (.cells #[.bool false, .slice none 0 0, .bool false, .slice none 0 0] 39)
  have xr := Bk.new ((w.alloc (.cells #[.bool bx, .slice ax kx cx, .bool dx, .slice ex lx mx] 39)).alloc (.cells #[.bool bY, .slice ay ky cy, .bool dy, .slice ey ly my] 39)) #[.bool false, .slice none 0 0, .bool false, .slice none 0 0] 39
  simp only [World.size_alloc] at xb xr
  have hsz : (((w.alloc (.cells #[.bool bx, .slice ax kx cx, .bool dx, .slice ex lx mx] 39)).alloc (.cells #[.bool bY, .slice ay ky cy, .bool dy, .slice ey ly my] 39)).alloc (.cells #[.bool false, .slice none 0 0, .bool false, .slice none 0 0] 39)).heap.size = w.heap.size + 1 + 1 + 1 := by simp only [World.size_alloc]
  obtain ⟨W0, hW0⟩ : ∃ W0, W0 = (((w.alloc (.cells #[.bool bx, .slice ax kx cx, .bool dx, .slice ex lx mx] 39)).alloc (.cells #[.bool bY, .slice ay ky cy, .bool dy, .slice ey ly my] 39)).alloc (.cells #[.bool false, .slice none 0 0, .bool false, .slice none 0 0] 39)) := ⟨_, rfl⟩
  rw [← hW0] at hB xa xb xr hsz
  go_enter Tryz.func125, Tryz.ntmps125
  go_upto_region 1 with fail
  rw [← hW0]
  clear hW0
  have q0 : w.heap.size < W0.heap.size := by omega
  have q1 : w.heap.size + 1 < W0.heap.size := by omega
  have q2 : w.heap.size + 1 + 1 < W0.heap.size := by omega
  have q3 : w.heap.size ≤ W0.heap.size := by omega
  clear hsz
  obtain ⟨a0, a1, a2, a3⟩ := xa.cells4
  obtain ⟨b0, b1, b2, b3⟩ := xb.cells4
  clear xa xb
  go_cut [8, 9] (fun s8 s9 wx => ∃ BX BY : Nat, s8 = .pointer (some ⟨BX, 0, none⟩) ∧ s9 = .pointer (some ⟨BY, 0, none⟩) ∧ Bk wx BX #[.bool bx, .slice ax kx cx, .bool dx, .slice ex lx mx] 101 ∧ Bk wx BY #[.bool bY, .slice ay ky cy, .bool dy, .slice ey ly my] 101 ∧ Below W0.heap.size W0 wx)
  case first =>
    go_region
    all_goals (go_wp2_with fail; go_meet)
    · obtain ⟨t1, t2, t3⟩ := frpair_new W0 #[.bool bx, .slice ax kx cx, .bool dx, .slice ex lx mx] #[.bool bY, .slice ay ky cy, .bool dy, .slice ey ly my] 101
      exact ⟨_, _, rfl, rfl, t1, t2, t3⟩
    · obtain ⟨t1, t2, t3⟩ := frpair_new W0 #[.bool bY, .slice ay ky cy, .bool dy, .slice ey ly my] #[.bool bx, .slice ax kx cx, .bool dx, .slice ex lx mx] 101
      exact ⟨_, _, rfl, rfl, t2, t1, t3⟩
  case rest =>
    obtain ⟨BX, BY, rfl, rfl, xx, xy, hb⟩ := hcut
    replace xr := xr.on hb; replace hB := hB.trans (hb.mono hB.size)
    have hz0 := hb.size
    clear hb a0 a1 a2 a3 b0 b1 b2 b3
    have px := xx.all4
    have py := xy.all4
    have pr := xr.all4
    go_wp2_with fail
    clear px py pr
    refine (HV1.out _ hB).mono ?_
    rintro e w1 ⟨rfl, hb⟩
    replace xx := xx.on hb; replace xy := xy.on hb; replace xr := xr.on hb
    have hz1 := hb.size
    try simp at hz1
    replace hB := hB.trans (hb.mono hB.size); clear hb
    have px := xx.all4
    have py := xy.all4
    have pr := xr.all4
    go_wp2_with fail
    clear px py pr
    refine (HV2.out _ hB).mono ?_
    rintro e w2 ⟨rfl, hb⟩
    replace xx := xx.on hb; replace xy := xy.on hb; replace xr := xr.on hb
    have hz2 := hb.size
    try simp at hz2
    replace hB := hB.trans (hb.mono hB.size); clear hb
    have px := xx.all4
    have py := xy.all4
    have pr := xr.all4
    go_wp2_with fail
    clear px py pr
    refine (HO.out _ hB).mono ?_
    rintro e w3 ⟨⟨vn, vd, rfl, on, od⟩, hb⟩
    obtain ⟨b1, u1, k1, c1, rfl⟩ := on.num.opened
    obtain ⟨b2, u2, k2, c2, rfl⟩ := od.num.opened
    replace xx := xx.on hb; replace xy := xy.on hb; replace xr := xr.on hb
    have hz3 := hb.size
    try simp at hz3
    replace hB := hB.trans (hb.mono hB.size); clear hb
    have hl := Nat.le_trans q3 (Nat.le_trans hz0 (Nat.le_trans hz1 (Nat.le_trans hz2 hz3)))
    go_wp2_with fail
    refine (HM.out _ _ _ _ _ _ _ _ _ on.num od.num).mono ?_
    rintro e w4 ⟨⟨v, rfl, on⟩, hb⟩
    obtain ⟨b5, a5, k5, c5, b6, a6, k6, c6, rfl⟩ := on.fra.opened
    replace xx := xx.on hb; replace xy := xy.on hb; replace xr := xr.on hb
    have hz4 := hb.size
    try simp at hz4
    replace hB := hB.trans (hb.mono hB.size); clear hb
    have px := xx.all4
    have py := xy.all4
    have pr := xr.all4
    go_wp2_with fail
    clear px py pr xx xy; replace xr := xr.put4 (.bool b5) (.slice a5 k5 c5) (.bool b6) (.slice a6 k6 c6); replace on := on.set4 (w.heap.size + 1 + 1) (by first | omega | (simp; omega) | simp) (.bool b5) (.slice a5 k5 c5) (.bool b6) (.slice a6 k6 c6); replace hB := below4 hB (w.heap.size + 1 + 1) (by first | omega | (simp; omega) | simp) (.bool b5) (.slice a5 k5 c5) (.bool b6) (.slice a6 k6 c6); replace on := on.mono hl
    generalize ((((w4.setCell ⟨w.heap.size + 1 + 1, 0, none⟩ (.bool b5)).setCell ⟨w.heap.size + 1 + 1, 1, none⟩ (.slice a5 k5 c5)).setCell ⟨w.heap.size + 1 + 1, 2, none⟩ (.bool b6)).setCell ⟨w.heap.size + 1 + 1, 3, none⟩ (.slice a6 k6 c6)) = WF at *
    have pr := xr.all4
    exact bodyPost_ret (v := .tuple #[.agg #[.bool b5, .slice a5 k5 c5, .bool b6, .slice a6 k6 c6], .int .i64 0]) (by simp [results, Tryz.results125, go_sem, pr]) rfl ⟨⟨_, rfl, on⟩, hB⟩
theorem frMul_ok (p q : Rat) (bx : Bool) (ax : Option Addr) (kx cx : Nat) (dx : Bool) (ex : Option Addr) (lx mx : Nat) (bY : Bool) (ay : Option Addr) (ky cy : Nat) (dy : Bool) (ey : Option Addr) (ly my : Nat) (hp : Fz 256 256 p) (hq : Fz 256 256 q) (hz : Fz 256 256 (p * q)) (w : World) (fx : Fra w (.agg #[.bool bx, .slice ax kx cx, .bool dx, .slice ex lx mx]) p) (fy : Fra w (.agg #[.bool bY, .slice ay ky cy, .bool dy, .slice ey ly my]) q) :
  Calls Tryz.prog 45 #[.agg #[.bool bx, .slice ax kx cx, .bool dx, .slice ex lx mx], .agg #[.bool bY, .slice ay ky cy, .bool dy, .slice ey ly my]] w fun e w' => (∃ v, e = .returned (.tuple #[v, .int .i64 0]) ∧ FraF w.heap.size w' v (p * q)) ∧ Below w.heap.size w w' := by
 have HJ := Lib.hid (fun W (hW : Below w.heap.size w W) => frjoin_product_ok p q bx ax kx cx dx ex lx mx bY ay ky cy dy ey ly my hp hq hz W (fx.below hW (Nat.le_refl _)) (fy.below hW (Nat.le_refl _)))
 clear fx fy hp hq hz
 have hB := Below.refl w.heap.size w
 obtain ⟨al, xa, hN⟩ := mk hB #[.bool bx, .slice ax kx cx, .bool dx, .slice ex lx mx] 39
 replace hB := hN; clear al hN
 try simp only [World.size_alloc] at xa
 obtain ⟨al, xb, hN⟩ := mk hB #[.bool bY, .slice ay ky cy, .bool dy, .slice ey ly my] 39
 replace xa := xa.on al; replace hB := hN; clear al hN
 try simp only [World.size_alloc] at xb
 obtain ⟨al, xr, hN⟩ := mk hB #[.bool false, .slice none 0 0, .bool false, .slice none 0 0] 39
 replace xa := xa.on al; replace xb := xb.on al; replace hB := hN; clear al hN
 try simp only [World.size_alloc] at xr
 go_enter Tryz.func45, Tryz.ntmps45
 go_wp2_with fail
 refine (HJ.out _ hB).mono ?_
 rintro e w1 ⟨⟨v, rfl, on⟩, hb⟩
 obtain ⟨b5, a5, k5, c5, b6, a6, k6, c6, rfl⟩ := on.fra.opened
 replace xa := xa.on hb; replace xb := xb.on hb; replace xr := xr.on hb
 have hz1 := hb.size
 try simp at hz1
 replace hB := hB.trans (hb.mono hB.size); clear hb
 have pa := xa.all4
 have pb := xb.all4
 have pr := xr.all4
 go_wp2_with fail
 clear pa pb pr xa xb; replace xr := xr.put4 (.bool b5) (.slice a5 k5 c5) (.bool b6) (.slice a6 k6 c6); replace on := on.set4 (w.heap.size + 1 + 1) (by first | omega | (simp; omega) | simp) (.bool b5) (.slice a5 k5 c5) (.bool b6) (.slice a6 k6 c6); replace hB := below4 hB (w.heap.size + 1 + 1) (by first | omega | (simp; omega) | simp) (.bool b5) (.slice a5 k5 c5) (.bool b6) (.slice a6 k6 c6)
 replace on := on.mono (show w.heap.size ≤ _ by first | omega | (simp; omega) | simp)
 generalize ((((w1.setCell ⟨w.heap.size + 1 + 1, 0, none⟩ (.bool b5)).setCell ⟨w.heap.size + 1 + 1, 1, none⟩ (.slice a5 k5 c5)).setCell ⟨w.heap.size + 1 + 1, 2, none⟩ (.bool b6)).setCell ⟨w.heap.size + 1 + 1, 3, none⟩ (.slice a6 k6 c6)) = WF at *
 have pr := xr.all4
 exact bodyPost_ret (v := .tuple #[.agg #[.bool b5, .slice a5 k5 c5, .bool b6, .slice a6 k6 c6], .int .i64 0]) (by simp [results, Tryz.results45, go_sem, pr]) rfl ⟨⟨_, rfl, on⟩, hB⟩
theorem frjoin_product_long (p q : Rat) (bx : Bool) (ax : Option Addr) (kx cx : Nat) (dx : Bool) (ex : Option Addr) (lx mx : Nat) (bY : Bool) (ay : Option Addr) (ky cy : Nat) (dy : Bool) (ey : Option Addr) (ly my : Nat) (hp : Fz 256 256 p) (hq : Fz 256 256 q) (hz : ¬ Fz 256 256 (p * q)) (w : World) (fx : Fra w (.agg #[.bool bx, .slice ax kx cx, .bool dx, .slice ex lx mx]) p) (fy : Fra w (.agg #[.bool bY, .slice ay ky cy, .bool dy, .slice ey ly my]) q) :
    Calls Tryz.prog 125 #[.func (.func 127) #[] #[], .agg #[.bool bx, .slice ax kx cx, .bool dx, .slice ex lx mx], .agg #[.bool bY, .slice ay ky cy, .bool dy, .slice ey ly my]] w fun e w' => e = .returned (.tuple #[zeroF, .int .i64 3]) ∧ Below w.heap.size w w' := by
  have HV1 := Lib.hid (fun W (hW : Below w.heap.size w W) => valid_ok (.agg #[.bool bx, .slice ax kx cx, .bool dx, .slice ex lx mx]) p hp W (fx.below hW (Nat.le_refl _)))
  have HV2 := Lib.hid (fun W (hW : Below w.heap.size w W) => valid_ok (.agg #[.bool bY, .slice ay ky cy, .bool dy, .slice ey ly my]) q hq W (fy.below hW (Nat.le_refl _)))
  have HO := Lib.hid (fun W (hW : Below w.heap.size w W) => frproduct_any p q bx ax kx cx dx ex lx mx bY ay ky cy dy ey ly my hp hq W (fx.below hW (Nat.le_refl _)) (fy.below hW (Nat.le_refl _)))
  obtain ⟨h1, h1d⟩ := hp
  obtain ⟨h2, h2d⟩ := hq
  have HM := Lib.hid (fun bn an kn cn bd ad kd cd W h g => Make_long bn an kn cn bd ad kd cd (p.num * q.num) ((p.den : Int) * q.den) ((Sz.mul h1 h2).mono (by decide)) ((Sz.mul h1d h2d).mono (by decide)) (dd_ne p q) (by rw [show Rat.divInt (p.num * q.num) ((p.den : Int) * q.den) = p * q from (Fq.mul_eq p q).symm]; exact hz) W h g)
  clear fx fy h1 h1d h2 h2d hz
  have hB := (((Below.refl w.heap.size w).alloc (Nat.le_refl _) (.cells #[.bool bx, .slice ax kx cx, .bool dx, .slice ex lx mx] 39)).alloc (by simp) (.cells #[.bool bY, .slice ay ky cy, .bool dy, .slice ey ly my] 39)).alloc (by simp <;> omega) (.cells #[.bool false, .slice none 0 0, .bool false, .slice none 0 0] 39)
  have xa := ((Bk.new w #[.bool bx, .slice ax kx cx, .bool dx, .slice ex lx mx] 39).alloc (.cells #[.bool bY, .slice ay ky cy, .bool dy, .slice ey ly my] 39)).alloc (.cells #[.bool false, .slice none 0 0, .bool false, .slice none 0 0] 39)
  have xb := (Bk.new (w.alloc (.cells #[.bool bx, .slice ax kx cx, .bool dx, .slice ex lx mx] 39)) #[.bool bY, .slice ay ky cy, .bool dy, .slice ey ly my] 39).alloc (.cells #[.bool false, .slice none 0 0, .bool false, .slice none 0 0] 39)
  have xr := Bk.new ((w.alloc (.cells #[.bool bx, .slice ax kx cx, .bool dx, .slice ex lx mx] 39)).alloc (.cells #[.bool bY, .slice ay ky cy, .bool dy, .slice ey ly my] 39)) #[.bool false, .slice none 0 0, .bool false, .slice none 0 0] 39
  simp only [World.size_alloc] at xb xr
  have hsz : (((w.alloc (.cells #[.bool bx, .slice ax kx cx, .bool dx, .slice ex lx mx] 39)).alloc (.cells #[.bool bY, .slice ay ky cy, .bool dy, .slice ey ly my] 39)).alloc (.cells #[.bool false, .slice none 0 0, .bool false, .slice none 0 0] 39)).heap.size = w.heap.size + 1 + 1 + 1 := by simp only [World.size_alloc]
  obtain ⟨W0, hW0⟩ : ∃ W0, W0 = (((w.alloc (.cells #[.bool bx, .slice ax kx cx, .bool dx, .slice ex lx mx] 39)).alloc (.cells #[.bool bY, .slice ay ky cy, .bool dy, .slice ey ly my] 39)).alloc (.cells #[.bool false, .slice none 0 0, .bool false, .slice none 0 0] 39)) := ⟨_, rfl⟩
  rw [← hW0] at hB xa xb xr hsz
  go_enter Tryz.func125, Tryz.ntmps125
  go_upto_region 1 with fail
  rw [← hW0]
  clear hW0
  have q0 : w.heap.size < W0.heap.size := by omega
  have q1 : w.heap.size + 1 < W0.heap.size := by omega
  have q2 : w.heap.size + 1 + 1 < W0.heap.size := by omega
  have q3 : w.heap.size ≤ W0.heap.size := by omega
  clear hsz
  obtain ⟨a0, a1, a2, a3⟩ := xa.cells4
  obtain ⟨b0, b1, b2, b3⟩ := xb.cells4
  clear xa xb
  go_cut [8, 9] (fun s8 s9 wx => ∃ BX BY : Nat, s8 = .pointer (some ⟨BX, 0, none⟩) ∧ s9 = .pointer (some ⟨BY, 0, none⟩) ∧ Bk wx BX #[.bool bx, .slice ax kx cx, .bool dx, .slice ex lx mx] 101 ∧ Bk wx BY #[.bool bY, .slice ay ky cy, .bool dy, .slice ey ly my] 101 ∧ Below W0.heap.size W0 wx)
  case first =>
    go_region
    all_goals (go_wp2_with fail; go_meet)
    · obtain ⟨t1, t2, t3⟩ := frpair_new W0 #[.bool bx, .slice ax kx cx, .bool dx, .slice ex lx mx] #[.bool bY, .slice ay ky cy, .bool dy, .slice ey ly my] 101
      exact ⟨_, _, rfl, rfl, t1, t2, t3⟩
    · obtain ⟨t1, t2, t3⟩ := frpair_new W0 #[.bool bY, .slice ay ky cy, .bool dy, .slice ey ly my] #[.bool bx, .slice ax kx cx, .bool dx, .slice ex lx mx] 101
      exact ⟨_, _, rfl, rfl, t2, t1, t3⟩
  case rest =>
    obtain ⟨BX, BY, rfl, rfl, xx, xy, hb⟩ := hcut
    replace xr := xr.on hb; replace hB := hB.trans (hb.mono hB.size)
    have hz0 := hb.size
    clear hb a0 a1 a2 a3 b0 b1 b2 b3
    have px := xx.all4
    have py := xy.all4
    have pr := xr.all4
    go_wp2_with fail
    clear px py pr
    refine (HV1.out _ hB).mono ?_
    rintro e w1 ⟨rfl, hb⟩
    replace xx := xx.on hb; replace xy := xy.on hb; replace xr := xr.on hb
    have hz1 := hb.size
    try simp at hz1
    replace hB := hB.trans (hb.mono hB.size); clear hb
    have px := xx.all4
    have py := xy.all4
    have pr := xr.all4
    go_wp2_with fail
    clear px py pr
    refine (HV2.out _ hB).mono ?_
    rintro e w2 ⟨rfl, hb⟩
    replace xx := xx.on hb; replace xy := xy.on hb; replace xr := xr.on hb
    have hz2 := hb.size
    try simp at hz2
    replace hB := hB.trans (hb.mono hB.size); clear hb
    have px := xx.all4
    have py := xy.all4
    have pr := xr.all4
    go_wp2_with fail
    clear px py pr
    refine (HO.out _ hB).mono ?_
    rintro e w3 ⟨⟨vn, vd, rfl, on, od⟩, hb⟩
    obtain ⟨b1, u1, k1, c1, rfl⟩ := on.num.opened
    obtain ⟨b2, u2, k2, c2, rfl⟩ := od.num.opened
    replace xx := xx.on hb; replace xy := xy.on hb; replace xr := xr.on hb
    have hz3 := hb.size
    try simp at hz3
    replace hB := hB.trans (hb.mono hB.size); clear hb
    have hl := Nat.le_trans q3 (Nat.le_trans hz0 (Nat.le_trans hz1 (Nat.le_trans hz2 hz3)))
    go_wp2_with fail
    refine (HM.out _ _ _ _ _ _ _ _ _ on.num od.num).mono ?_
    rintro e w4 ⟨rfl, hb⟩
    replace xx := xx.on hb; replace xy := xy.on hb; replace xr := xr.on hb
    have hz4 := hb.size
    try simp at hz4
    replace hB := hB.trans (hb.mono hB.size); clear hb
    have px := xx.all4
    have py := xy.all4
    have pr := xr.all4
    go_wp2_with fail
    clear px py pr xx xy; replace xr := xr.put4 (.bool false) (.slice none 0 0) (.bool false) (.slice none 0 0); replace hB := below4 hB (w.heap.size + 1 + 1) (by first | omega | (simp; omega) | simp) (.bool false) (.slice none 0 0) (.bool false) (.slice none 0 0)
    generalize ((((w4.setCell ⟨w.heap.size + 1 + 1, 0, none⟩ (.bool false)).setCell ⟨w.heap.size + 1 + 1, 1, none⟩ (.slice none 0 0)).setCell ⟨w.heap.size + 1 + 1, 2, none⟩ (.bool false)).setCell ⟨w.heap.size + 1 + 1, 3, none⟩ (.slice none 0 0)) = WF at *
    have pr := xr.all4
    exact bodyPost_ret (v := .tuple #[.agg #[.bool false, .slice none 0 0, .bool false, .slice none 0 0], .int .i64 3]) (by simp [results, Tryz.results125, go_sem, pr]) rfl ⟨rfl, hB⟩
theorem frMul_long (p q : Rat) (bx : Bool) (ax : Option Addr) (kx cx : Nat) (dx : Bool) (ex : Option Addr) (lx mx : Nat) (bY : Bool) (ay : Option Addr) (ky cy : Nat) (dy : Bool) (ey : Option Addr) (ly my : Nat) (hp : Fz 256 256 p) (hq : Fz 256 256 q) (hz : ¬ Fz 256 256 (p * q)) (w : World) (fx : Fra w (.agg #[.bool bx, .slice ax kx cx, .bool dx, .slice ex lx mx]) p) (fy : Fra w (.agg #[.bool bY, .slice ay ky cy, .bool dy, .slice ey ly my]) q) :
  Calls Tryz.prog 45 #[.agg #[.bool bx, .slice ax kx cx, .bool dx, .slice ex lx mx], .agg #[.bool bY, .slice ay ky cy, .bool dy, .slice ey ly my]] w fun e w' => e = .returned (.tuple #[zeroF, .int .i64 3]) ∧ Below w.heap.size w w' := by
 have HJ := Lib.hid (fun W (hW : Below w.heap.size w W) => frjoin_product_long p q bx ax kx cx dx ex lx mx bY ay ky cy dy ey ly my hp hq hz W (fx.below hW (Nat.le_refl _)) (fy.below hW (Nat.le_refl _)))
 clear fx fy hp hq hz
 have hB := Below.refl w.heap.size w
 obtain ⟨al, xa, hN⟩ := mk hB #[.bool bx, .slice ax kx cx, .bool dx, .slice ex lx mx] 39
 replace hB := hN; clear al hN
 try simp only [World.size_alloc] at xa
 obtain ⟨al, xb, hN⟩ := mk hB #[.bool bY, .slice ay ky cy, .bool dy, .slice ey ly my] 39
 replace xa := xa.on al; replace hB := hN; clear al hN
 try simp only [World.size_alloc] at xb
 obtain ⟨al, xr, hN⟩ := mk hB #[.bool false, .slice none 0 0, .bool false, .slice none 0 0] 39
 replace xa := xa.on al; replace xb := xb.on al; replace hB := hN; clear al hN
 try simp only [World.size_alloc] at xr
 go_enter Tryz.func45, Tryz.ntmps45
 go_wp2_with fail
 refine (HJ.out _ hB).mono ?_
 rintro e w1 ⟨rfl, hb⟩
 replace xa := xa.on hb; replace xb := xb.on hb; replace xr := xr.on hb
 have hz1 := hb.size
 try simp at hz1
 replace hB := hB.trans (hb.mono hB.size); clear hb
 have pa := xa.all4
 have pb := xb.all4
 have pr := xr.all4
 go_wp2_with fail
 clear pa pb pr xa xb; replace xr := xr.put4 (.bool false) (.slice none 0 0) (.bool false) (.slice none 0 0); replace hB := below4 hB (w.heap.size + 1 + 1) (by first | omega | (simp; omega) | simp) (.bool false) (.slice none 0 0) (.bool false) (.slice none 0 0)
 generalize ((((w1.setCell ⟨w.heap.size + 1 + 1, 0, none⟩ (.bool false)).setCell ⟨w.heap.size + 1 + 1, 1, none⟩ (.slice none 0 0)).setCell ⟨w.heap.size + 1 + 1, 2, none⟩ (.bool false)).setCell ⟨w.heap.size + 1 + 1, 3, none⟩ (.slice none 0 0)) = WF at *
 have pr := xr.all4
 exact bodyPost_ret (v := .tuple #[.agg #[.bool false, .slice none 0 0, .bool false, .slice none 0 0], .int .i64 3]) (by simp [results, Tryz.results45, go_sem, pr]) rfl ⟨rfl, hB⟩
end Go.Proofs.YtmbcnfogjncdaaaGreat
namespace Go.Proofs.YtmbcnfogjncdaaaGreat
open Go.RowKit Wh
theorem Fz.zero : Fz 1 1 (0 : Rat) := ⟨Sz.small (by decide), Sz.small (by decide)⟩
theorem Fz.one : Fz 1 1 (1 : Rat) := ⟨Sz.small (by decide), Sz.small (by decide)⟩
end Go.Proofs.YtmbcnfogjncdaaaGreat
