/- A part of the proofs about fractions. -/
import Derived.Deep.DeepCutAuto
import Derived.Deep.RegionHeld3
import Derived.Outline
import Derived.Tactics2
import Derived.WalkKit
import Derived.Test.YtmbcnfogjncdaaaGreatQFl1
import Derived.Test.YtmbcnfogjncdaaaGreatQFl18
import Derived.Test.YtmbcnfogjncdaaaGreatQFl24
set_option maxRecDepth 100000
set_option maxHeartbeats 8000000
namespace Go.Proofs.YtmbcnfogjncdaaaGreat
open Go.RowKit Wh
def AtF (W wx : World) (v6 v7 : Value) (q : Rat) : Prop := ∃ A b a k c b' a' k' c', v6 = .pointer (some ⟨A, 0, none⟩) ∧ v7 = .int .i64 0 ∧ Bk wx A #[.bool b, .slice a k c, .bool b', .slice a' k' c'] 39 ∧ Fra wx (.agg #[.bool b, .slice a k c, .bool b', .slice a' k' c']) q ∧ W.heap.size ≤ A ∧ Below W.heap.size W wx
theorem atF_old {W wm : World} {b : Bool} {a : Option Addr} {k c : Nat} {b' : Bool} {a' : Option Addr} {k' c' : Nat} {q : Rat} {X : Nat} (hB : Below W.heap.size W wm) (hX : W.heap.size ≤ X) (x : Bk wm X #[.bool false, .slice none 0 0, .bool false, .slice none 0 0] 39) (g : Fra wm (.agg #[.bool b, .slice a k c, .bool b', .slice a' k' c']) q) :
  AtF W ((((wm.setCell ⟨X, 0, none⟩ (.bool b)).setCell ⟨X, 1, none⟩ (.slice a k c)).setCell ⟨X, 2, none⟩ (.bool b')).setCell ⟨X, 3, none⟩ (.slice a' k' c')) (.pointer (some ⟨X, 0, none⟩)) (.int .i64 0) q :=
 ⟨_, _, _, _, _, _, _, _, _, rfl, rfl, (((x.put 0 _).put 1 _).put 2 _).put 3 _,
  (((g.setB x rfl 0 _).setB (x.put 0 _) rfl 1 _).setB ((x.put 0 _).put 1 _) rfl 2 _).setB (((x.put 0 _).put 1 _).put 2 _) rfl 3 _, hX,
  (((hB.setCell (p := ⟨X, 0, none⟩) hX _).setCell (p := ⟨X, 1, none⟩) hX _).setCell (p := ⟨X, 2, none⟩) hX _).setCell (p := ⟨X, 3, none⟩) hX _⟩
theorem rounds_any (bx : Bool) (ax : Option Addr) (kx cx : Nat) (dx : Bool) (ex : Option Addr) (lx mx : Nat) (q r0 r1 r2 r3 r4 r5 : Rat) (z0 z1 z2 z3 z4 z5 : Int) (hq : Fz 256 256 q) (hr0 : rnd q 1 1 = r0) (hf0 : Fz 256 256 r0) (hz0 : r0 = Rat.divInt z0 1) (hb0 : -9223372036854775808 ≤ z0 ∧ z0 ≤ 9223372036854775807) (hr1 : rnd q 1 2 = r1) (hf1 : Fz 256 256 r1) (hz1 : r1 = Rat.divInt z1 1) (hb1 : -9223372036854775808 ≤ z1 ∧ z1 ≤ 9223372036854775807) (hr2 : rnd q 1 3 = r2) (hf2 : Fz 256 256 r2) (hz2 : r2 = Rat.divInt z2 1) (hb2 : -9223372036854775808 ≤ z2 ∧ z2 ≤ 9223372036854775807) (hr3 : rnd q 1 4 = r3) (hf3 : Fz 256 256 r3) (hz3 : r3 = Rat.divInt z3 1) (hb3 : -9223372036854775808 ≤ z3 ∧ z3 ≤ 9223372036854775807) (hr4 : rnd q 1 5 = r4) (hf4 : Fz 256 256 r4) (hz4 : r4 = Rat.divInt z4 1) (hb4 : -9223372036854775808 ≤ z4 ∧ z4 ≤ 9223372036854775807) (hr5 : rnd q 1 6 = r5) (hf5 : Fz 256 256 r5) (hz5 : r5 = Rat.divInt z5 1) (hb5 : -9223372036854775808 ≤ z5 ∧ z5 ≤ 9223372036854775807) (w : World) (h : Fra w (.agg #[.bool bx, .slice ax kx cx, .bool dx, .slice ex lx mx]) q) :
  Calls Tryz.prog 81 #[.agg #[.bool bx, .slice ax kx cx, .bool dx, .slice ex lx mx], .agg #[.int .i64 z0, .int .i64 z1, .int .i64 z2, .int .i64 z3, .int .i64 z4, .int .i64 z5]] w fun e w' => e = .returned (.bool true) ∧ Below w.heap.size w w' := by
 have HQ := Lib.hid (fun W => quick_lit 1 1 1 (by decide +kernel) (by decide) (by decide) (by decide) (by decide) W)
 have HR0 := Lib.hid (fun va vb W h g => frRound_lit va vb q 1 _ 1 1 rfl hr0 (by decide) (by decide) hq (Fz.one.mono (by decide) (by decide)) (by decide +kernel) hf0 W h g)
 have HI0 := Lib.hid (fun va W h => is_lit va r0 z0 1 hz0 hb0.1 hb0.2 (by decide) (by decide) W h)
 clear hr0 hf0 hz0 hb0
 have HR1 := Lib.hid (fun va vb W h g => frRound_lit va vb q 1 _ 2 2 rfl hr1 (by decide) (by decide) hq (Fz.one.mono (by decide) (by decide)) (by decide +kernel) hf1 W h g)
 have HI1 := Lib.hid (fun va W h => is_lit va r1 z1 1 hz1 hb1.1 hb1.2 (by decide) (by decide) W h)
 clear hr1 hf1 hz1 hb1
 have HR2 := Lib.hid (fun va vb W h g => frRound_lit va vb q 1 _ 3 3 rfl hr2 (by decide) (by decide) hq (Fz.one.mono (by decide) (by decide)) (by decide +kernel) hf2 W h g)
 have HI2 := Lib.hid (fun va W h => is_lit va r2 z2 1 hz2 hb2.1 hb2.2 (by decide) (by decide) W h)
 clear hr2 hf2 hz2 hb2
 have HR3 := Lib.hid (fun va vb W h g => frRound_lit va vb q 1 _ 4 4 rfl hr3 (by decide) (by decide) hq (Fz.one.mono (by decide) (by decide)) (by decide +kernel) hf3 W h g)
 have HI3 := Lib.hid (fun va W h => is_lit va r3 z3 1 hz3 hb3.1 hb3.2 (by decide) (by decide) W h)
 clear hr3 hf3 hz3 hb3
 have HR4 := Lib.hid (fun va vb W h g => frRound_lit va vb q 1 _ 5 5 rfl hr4 (by decide) (by decide) hq (Fz.one.mono (by decide) (by decide)) (by decide +kernel) hf4 W h g)
 have HI4 := Lib.hid (fun va W h => is_lit va r4 z4 1 hz4 hb4.1 hb4.2 (by decide) (by decide) W h)
 clear hr4 hf4 hz4 hb4
 have HR5 := Lib.hid (fun va vb W h g => frRound_lit va vb q 1 _ 6 6 rfl hr5 (by decide) (by decide) hq (Fz.one.mono (by decide) (by decide)) (by decide +kernel) hf5 W h g)
 have HI5 := Lib.hid (fun va W h => is_lit va r5 z5 1 hz5 hb5.1 hb5.2 (by decide) (by decide) W h)
 clear hr5 hf5 hz5 hb5 hq
 have wi1 : IntKind.i64.wrap 1 = 1 := by decide
 have wu1 : IntKind.u8.wrap 1 = 1 := by decide
 have wi2 : IntKind.i64.wrap 2 = 2 := by decide
 have wu2 : IntKind.u8.wrap 2 = 2 := by decide
 have wi3 : IntKind.i64.wrap 3 = 3 := by decide
 have wu3 : IntKind.u8.wrap 3 = 3 := by decide
 have wi4 : IntKind.i64.wrap 4 = 4 := by decide
 have wu4 : IntKind.u8.wrap 4 = 4 := by decide
 have wi5 : IntKind.i64.wrap 5 = 5 := by decide
 have wu5 : IntKind.u8.wrap 5 = 5 := by decide
 have wi6 : IntKind.i64.wrap 6 = 6 := by decide
 have wu6 : IntKind.u8.wrap 6 = 6 := by decide
 have hB := Below.refl w.heap.size w
 obtain ⟨al, xa, hN⟩ := mk hB #[.bool bx, .slice ax kx cx, .bool dx, .slice ex lx mx] 39
 replace h := h.on al; replace hB := hN; clear al hN
 try simp only [World.size_alloc] at xa
 obtain ⟨al, xwt, hN⟩ := mk hB #[.int .i64 z0, .int .i64 z1, .int .i64 z2, .int .i64 z3, .int .i64 z4, .int .i64 z5] 86
 replace xa := xa.on al; replace h := h.on al; replace hB := hN; clear al hN
 try simp only [World.size_alloc] at xwt
 go_enter Tryz.func81, Tryz.ntmps81
 have pa := xa.all4
 have pwt := xwt.all6
 have lta := xa.lt
 have ltwt := xwt.lt
 go_wp2_with fail
 clear lta ltwt pa pwt
 refine wp_loop_rounds 7 ?_
 rw [rounds_succ]
 have pa := xa.all4
 have pwt := xwt.all6
 have lta := xa.lt
 have ltwt := xwt.lt
 go_wp2_with fail
 clear lta ltwt pa pwt
 obtain ⟨wa0, hwa0⟩ : ∃ W, W = ((w.alloc (.cells #[.bool bx, .slice ax kx cx, .bool dx, .slice ex lx mx] 39)).alloc (.cells #[.int .i64 z0, .int .i64 z1, .int .i64 z2, .int .i64 z3, .int .i64 z4, .int .i64 z5] 86)) := ⟨_, rfl⟩
 rw [← hwa0] at hB xa xwt h ⊢
 clear hwa0
 go_cut [6, 7] (fun s6 s7 wx => AtF wa0 wx s6 s7 r0)
 case first =>
  have hM : Below wa0.heap.size wa0 wa0.drew := (Below.refl wa0.heap.size wa0).drew
  obtain ⟨ga0, ga1, ga2, ga3⟩ := xa.cells4
  replace h := h.below hM (Nat.le_refl _); replace xa := xa.on hM; replace xwt := xwt.on hM
  refine wp_region_noPanic ?_
  refine wp_region_held_drew (S := (fun w' => w'.cell? ⟨w.heap.size, 0, none⟩ = some (.bool bx) ∧ w'.cell? ⟨w.heap.size, 1, none⟩ = some (.slice ax kx cx) ∧ w'.cell? ⟨w.heap.size, 2, none⟩ = some (.bool dx) ∧ w'.cell? ⟨w.heap.size, 3, none⟩ = some (.slice ex lx mx))) (by kernel_rfl) ⟨ga0, ga1, ga2, ga3⟩ (fun hR0 => ?_)
  change wpAnyH _ _ _ _ _ 12 #[false, false, false, false, false, false, false, false, false, false, false, false] _ _
  clear ga0 ga1 ga2 ga3
  generalize wa0.drew = wd at *
  refine tz 0 ?_
  (try simp only [Act.put, sa, List.set])
  refine tz 2 ?_
  (try simp only [Act.put, sa, List.set])
  refine tz 3 ?_
  (try simp only [Act.put, sa, List.set])
  refine tz 4 ?_
  (try simp only [Act.put, sa, List.set])
  have qa := xa.lt
  refine rd2 (i := 1) (j := 9) (by kernel_rfl) rfl rfl (fun K hK => ?_) (fun K hK => ?_)
  ·
   go_simp
   go_at_call 38; refine (HQ.out _).mono ?_; rintro e wn ⟨⟨v, rfl, gq⟩, hb⟩; replace xa := xa.on hb; replace xwt := xwt.on hb; replace h := h.on hb; replace hM := hM.trans (hb.mono hM.size)
   (try go_wp2_with fail)
   refine hK.out _ _ (keep4 hb qa hR0) (fun hR1 => ?_)
   clear hK K hR0
   (try simp only [Act.put, sa, List.set])
   clear hb qa
   have qa := xa.lt
   refine rd2 (i := 5) (j := 9) (by kernel_rfl) rfl rfl (fun K hK => ?_) (fun K hK => ?_)
   ·
    go_simp
    go_at_call 34; refine (HR0.out _ _ _ h gq).mono ?_; rintro e wq ⟨⟨v, rfl, gr⟩, hb⟩; obtain ⟨br, ar, kr, cr, dr, er, lr, mr, rfl⟩ := gr.opened; replace xa := xa.on hb; replace xwt := xwt.on hb; replace h := h.on hb; replace gq := gq.on hb; replace hM := hM.trans (hb.mono hM.size)
    (try go_wp2_with fail)
    refine hK.out _ _ (keep4 hb qa hR1) (fun hR2 => ?_)
    clear hK K hR1
    (try simp only [Act.put, sa, List.set])
    clear hb qa
    have qa := xa.lt
    refine tz 6 ?_
    (try simp only [Act.put, sa, List.set])
    refine tz 7 ?_
    (try simp only [Act.put, sa, List.set])
    refine tz 8 ?_
    (try simp only [Act.put, sa, List.set])
    have na : wq.heap.size ≠ w.heap.size := (by have := xa.lt; omega)
    have hb := (Below.refl wq.heap.size wq).alloc (Nat.le_refl _) (.cells #[.bool false, .slice none 0 0, .bool false, .slice none 0 0] 39)
    refine rz 9 fun K hK => ?_
    go_simp
    refine hK.out _ _ (keep4 hb qa hR2) (fun hR3 => ?_)
    clear hK K hR2
    (try simp only [Act.put, sa, List.set])
    have xz := Bk.new wq #[.bool false, .slice none 0 0, .bool false, .slice none 0 0] 39
    have lz := hM.size
    replace xa := xa.on hb; replace xwt := xwt.on hb; replace h := h.on hb; replace gq := gq.on hb; replace gr := gr.on hb; replace hM := hM.trans (hb.mono hM.size); clear hb qa
    generalize hA : wq.heap.size = AZ at *
    generalize wq.alloc (.cells #[.bool false, .slice none 0 0, .bool false, .slice none 0 0] 39) = wz at *
    clear hA
    have qa := xa.lt
    have pz := xz.all4
    refine rz 10 fun K hK => ?_
    go_simp
    refine hK.out _ _ (stay4 hR3 na) (fun hR4 => ?_)
    clear hK K hR3
    (try simp only [Act.put, sa, List.set])
    refine tz 11 ?_
    (try simp only [Act.put, sa, List.set])
    refine wpAnyH_done (by kernel_rfl) ?_ _
    refine NoPanic.normal ?_
    clear hR4
    go_wp2_with fail
    go_meet
    exact atF_old hM lz xz gr
   ·
    have na : wn.heap.size ≠ w.heap.size := (by have := xa.lt; omega)
    have hb := (Below.refl wn.heap.size wn).alloc (Nat.le_refl _) (.cells #[.bool false, .slice none 0 0, .bool false, .slice none 0 0] 39)
    go_simp
    refine hK.out _ _ (keep4 hb qa hR1) (fun hR2 => ?_)
    clear hK K hR1
    (try simp only [Act.put, sa, List.set])
    have xz := Bk.new wn #[.bool false, .slice none 0 0, .bool false, .slice none 0 0] 39
    have lz := hM.size
    replace xa := xa.on hb; replace xwt := xwt.on hb; replace h := h.on hb; replace gq := gq.on hb; replace hM := hM.trans (hb.mono hM.size); clear hb qa
    generalize hA : wn.heap.size = AZ at *
    generalize wn.alloc (.cells #[.bool false, .slice none 0 0, .bool false, .slice none 0 0] 39) = wz at *
    clear hA
    have qa := xa.lt
    refine rz 5 fun K hK => ?_
    go_simp
    go_at_call 34; refine (HR0.out _ _ _ h gq).mono ?_; rintro e wq ⟨⟨v, rfl, gr⟩, hb⟩; obtain ⟨br, ar, kr, cr, dr, er, lr, mr, rfl⟩ := gr.opened; replace xa := xa.on hb; replace xwt := xwt.on hb; replace xz := xz.on hb; replace h := h.on hb; replace gq := gq.on hb; replace hM := hM.trans (hb.mono hM.size)
    (try go_wp2_with fail)
    refine hK.out _ _ (keep4 hb qa hR2) (fun hR3 => ?_)
    clear hK K hR2
    (try simp only [Act.put, sa, List.set])
    clear hb qa
    have qa := xa.lt
    refine tz 6 ?_
    (try simp only [Act.put, sa, List.set])
    refine tz 7 ?_
    (try simp only [Act.put, sa, List.set])
    refine tz 8 ?_
    (try simp only [Act.put, sa, List.set])
    have pz := xz.all4
    refine rz 10 fun K hK => ?_
    go_simp
    refine hK.out _ _ (stay4 hR3 na) (fun hR4 => ?_)
    clear hK K hR3
    (try simp only [Act.put, sa, List.set])
    refine tz 11 ?_
    (try simp only [Act.put, sa, List.set])
    refine wpAnyH_done (by kernel_rfl) ?_ _
    refine NoPanic.normal ?_
    clear hR4
    go_wp2_with fail
    go_meet
    exact atF_old hM lz xz gr
  ·
   have na : wd.heap.size ≠ w.heap.size := (by have := xa.lt; omega)
   have hb := (Below.refl wd.heap.size wd).alloc (Nat.le_refl _) (.cells #[.bool false, .slice none 0 0, .bool false, .slice none 0 0] 39)
   go_simp
   refine hK.out _ _ (keep4 hb qa hR0) (fun hR1 => ?_)
   clear hK K hR0
   (try simp only [Act.put, sa, List.set])
   have xz := Bk.new wd #[.bool false, .slice none 0 0, .bool false, .slice none 0 0] 39
   have lz := hM.size
   replace xa := xa.on hb; replace xwt := xwt.on hb; replace h := h.on hb; replace hM := hM.trans (hb.mono hM.size); clear hb qa
   generalize hA : wd.heap.size = AZ at *
   generalize wd.alloc (.cells #[.bool false, .slice none 0 0, .bool false, .slice none 0 0] 39) = wz at *
   clear hA
   have qa := xa.lt
   refine rz 1 fun K hK => ?_
   go_simp
   go_at_call 38; refine (HQ.out _).mono ?_; rintro e wn ⟨⟨v, rfl, gq⟩, hb⟩; replace xa := xa.on hb; replace xwt := xwt.on hb; replace xz := xz.on hb; replace h := h.on hb; replace hM := hM.trans (hb.mono hM.size)
   (try go_wp2_with fail)
   refine hK.out _ _ (keep4 hb qa hR1) (fun hR2 => ?_)
   clear hK K hR1
   (try simp only [Act.put, sa, List.set])
   clear hb qa
   have qa := xa.lt
   refine rz 5 fun K hK => ?_
   go_simp
   go_at_call 34; refine (HR0.out _ _ _ h gq).mono ?_; rintro e wq ⟨⟨v, rfl, gr⟩, hb⟩; obtain ⟨br, ar, kr, cr, dr, er, lr, mr, rfl⟩ := gr.opened; replace xa := xa.on hb; replace xwt := xwt.on hb; replace xz := xz.on hb; replace h := h.on hb; replace gq := gq.on hb; replace hM := hM.trans (hb.mono hM.size)
   (try go_wp2_with fail)
   refine hK.out _ _ (keep4 hb qa hR2) (fun hR3 => ?_)
   clear hK K hR2
   (try simp only [Act.put, sa, List.set])
   clear hb qa
   have qa := xa.lt
   refine tz 6 ?_
   (try simp only [Act.put, sa, List.set])
   refine tz 7 ?_
   (try simp only [Act.put, sa, List.set])
   refine tz 8 ?_
   (try simp only [Act.put, sa, List.set])
   have pz := xz.all4
   refine rz 10 fun K hK => ?_
   go_simp
   refine hK.out _ _ (stay4 hR3 na) (fun hR4 => ?_)
   clear hK K hR3
   (try simp only [Act.put, sa, List.set])
   refine tz 11 ?_
   (try simp only [Act.put, sa, List.set])
   refine wpAnyH_done (by kernel_rfl) ?_ _
   refine NoPanic.normal ?_
   clear hR4
   go_wp2_with fail
   go_meet
   exact atF_old hM lz xz gr
 case rest =>
  obtain ⟨AA, br, ar, kr, cr, dr, er, lr, mr, rfl, rfl, xr, gr, lA, hb⟩ := hcut
  obtain ⟨w1, hwc⟩ : ∃ W : World, W = wc := ⟨_, rfl⟩
  subst hwc
  replace lA := Nat.le_trans hB.size lA; replace xa := xa.on hb; replace xwt := xwt.on hb; replace h := h.on hb; replace hB := hB.trans (hb.mono hB.size); clear hb
  go_wp2_with fail
  have qr := xr.lt
  have qwt := xwt.lt
  obtain ⟨gr0, gr1, gr2, gr3⟩ := xr.cells4
  obtain ⟨gwt0, gwt1, gwt2, gwt3, gwt4, gwt5⟩ := xwt.cells6
  refine wp_region_noPanic ?_
  refine wp_region_held_drew (S := (fun w' => (w'.cell? ⟨AA, 0, none⟩ = some (.bool br) ∧ w'.cell? ⟨AA, 1, none⟩ = some (.slice ar kr cr) ∧ w'.cell? ⟨AA, 2, none⟩ = some (.bool dr) ∧ w'.cell? ⟨AA, 3, none⟩ = some (.slice er lr mr)) ∧ (w'.cell? ⟨w.heap.size + 1, 0, none⟩ = some (.int .i64 z0) ∧ w'.cell? ⟨w.heap.size + 1, 1, none⟩ = some (.int .i64 z1) ∧ w'.cell? ⟨w.heap.size + 1, 2, none⟩ = some (.int .i64 z2) ∧ w'.cell? ⟨w.heap.size + 1, 3, none⟩ = some (.int .i64 z3)) ∧ w'.cell? ⟨w.heap.size + 1, 4, none⟩ = some (.int .i64 z4) ∧ w'.cell? ⟨w.heap.size + 1, 5, none⟩ = some (.int .i64 z5))) (by kernel_rfl) ⟨⟨gr0, gr1, gr2, gr3⟩, ⟨gwt0, gwt1, gwt2, gwt3⟩, gwt4, gwt5⟩ (fun hR0 => ?_)
  change wpAnyH _ _ _ _ _ 7 #[false, false, false, false, false, false, false] _ _
  clear gr0 gr1 gr2 gr3 gwt0 gwt1 gwt2 gwt3 gwt4 gwt5
  refine tz 0 ?_
  (try simp only [Act.put, sa, List.set])
  refine tz 1 ?_
  (try simp only [Act.put, sa, List.set])
  refine tz 2 ?_
  (try simp only [Act.put, sa, List.set])
  refine tz 3 ?_
  (try simp only [Act.put, sa, List.set])
  refine tz 4 ?_
  (try simp only [Act.put, sa, List.set])
  refine rz 5 fun K hK => ?_
  go_simp
  go_at_call 80; have hBd := hB.drew; refine (HI0.out _ _ (by exact gr)).mono ?_; rintro e w2 ⟨rfl, hb⟩; replace hb := (Below.refl w1.heap.size w1).drew.trans hb; replace xa := xa.on hb; replace xwt := xwt.on hb; replace xr := xr.on hb; replace h := h.on hb; replace gr := gr.on hb; replace hB := hB.trans (hb.mono hB.size); have hz2 := hb.size
  (try go_wp2_with fail)
  refine hK.out _ _ (⟨keep4 hb qr hR0.1, keep4 hb qwt hR0.2.1, (hb.cell (p := ⟨w.heap.size + 1, 4, none⟩) qwt).trans hR0.2.2.1, (hb.cell (p := ⟨w.heap.size + 1, 5, none⟩) qwt).trans hR0.2.2.2⟩) (fun hR1 => ?_)
  clear hK K hR0
  (try simp only [Act.put, sa, List.set])
  replace qr := Nat.lt_of_lt_of_le qr hz2; replace qwt := Nat.lt_of_lt_of_le qwt hz2; clear hb hBd
  refine tz 6 ?_
  (try simp only [Act.put, sa, List.set])
  refine wpAnyH_done (by kernel_rfl) ?_ _
  refine NoPanic.normal ?_
  clear hR1 qr qwt xr gr lA
  have pa := xa.all4
  have pwt := xwt.all6
  have lta := xa.lt
  have ltwt := xwt.lt
  go_wp2_with fail
  clear lta ltwt pa pwt
  rw [rounds_succ]
  have pa := xa.all4
  have pwt := xwt.all6
  have lta := xa.lt
  have ltwt := xwt.lt
  go_wp2_with fail
  clear lta ltwt pa pwt
  obtain ⟨wa1, hwa1⟩ : ∃ W, W = w2 := ⟨_, rfl⟩
  rw [← hwa1] at hB xa xwt h ⊢
  clear hwa1
  go_cut [6, 7] (fun s6 s7 wx => AtF wa1 wx s6 s7 r1)
  case first =>
   have hM : Below wa1.heap.size wa1 wa1.drew := (Below.refl wa1.heap.size wa1).drew
   obtain ⟨ga0, ga1, ga2, ga3⟩ := xa.cells4
   replace h := h.below hM (Nat.le_refl _); replace xa := xa.on hM; replace xwt := xwt.on hM
   refine wp_region_noPanic ?_
   refine wp_region_held_drew (S := (fun w' => w'.cell? ⟨w.heap.size, 0, none⟩ = some (.bool bx) ∧ w'.cell? ⟨w.heap.size, 1, none⟩ = some (.slice ax kx cx) ∧ w'.cell? ⟨w.heap.size, 2, none⟩ = some (.bool dx) ∧ w'.cell? ⟨w.heap.size, 3, none⟩ = some (.slice ex lx mx))) (by kernel_rfl) ⟨ga0, ga1, ga2, ga3⟩ (fun hR0 => ?_)
   change wpAnyH _ _ _ _ _ 12 #[false, false, false, false, false, false, false, false, false, false, false, false] _ _
   clear ga0 ga1 ga2 ga3
   generalize wa1.drew = wd at *
   refine tz 0 ?_
   (try simp only [Act.put, sa, List.set])
   refine tz 2 ?_
   (try simp only [Act.put, sa, List.set])
   refine tz 3 ?_
   (try simp only [Act.put, sa, List.set])
   refine tz 4 ?_
   (try simp only [Act.put, sa, List.set])
   have qa := xa.lt
   refine rd2 (i := 1) (j := 9) (by kernel_rfl) rfl rfl (fun K hK => ?_) (fun K hK => ?_)
   ·
    go_simp
    go_at_call 38; refine (HQ.out _).mono ?_; rintro e wn ⟨⟨v, rfl, gq⟩, hb⟩; replace xa := xa.on hb; replace xwt := xwt.on hb; replace h := h.on hb; replace hM := hM.trans (hb.mono hM.size)
    (try go_wp2_with fail)
    refine hK.out _ _ (keep4 hb qa hR0) (fun hR1 => ?_)
    clear hK K hR0
    (try simp only [Act.put, sa, List.set])
    clear hb qa
    have qa := xa.lt
    refine rd2 (i := 5) (j := 9) (by kernel_rfl) rfl rfl (fun K hK => ?_) (fun K hK => ?_)
    ·
     go_simp
     go_at_call 34; refine (HR1.out _ _ _ h gq).mono ?_; rintro e wq ⟨⟨v, rfl, gr⟩, hb⟩; obtain ⟨br, ar, kr, cr, dr, er, lr, mr, rfl⟩ := gr.opened; replace xa := xa.on hb; replace xwt := xwt.on hb; replace h := h.on hb; replace gq := gq.on hb; replace hM := hM.trans (hb.mono hM.size)
     (try go_wp2_with fail)
     refine hK.out _ _ (keep4 hb qa hR1) (fun hR2 => ?_)
     clear hK K hR1
     (try simp only [Act.put, sa, List.set])
     clear hb qa
     have qa := xa.lt
     refine tz 6 ?_
     (try simp only [Act.put, sa, List.set])
     refine tz 7 ?_
     (try simp only [Act.put, sa, List.set])
     refine tz 8 ?_
     (try simp only [Act.put, sa, List.set])
     have na : wq.heap.size ≠ w.heap.size := (by have := xa.lt; omega)
     have hb := (Below.refl wq.heap.size wq).alloc (Nat.le_refl _) (.cells #[.bool false, .slice none 0 0, .bool false, .slice none 0 0] 39)
     refine rz 9 fun K hK => ?_
     go_simp
     refine hK.out _ _ (keep4 hb qa hR2) (fun hR3 => ?_)
     clear hK K hR2
     (try simp only [Act.put, sa, List.set])
     have xz := Bk.new wq #[.bool false, .slice none 0 0, .bool false, .slice none 0 0] 39
     have lz := hM.size
     replace xa := xa.on hb; replace xwt := xwt.on hb; replace h := h.on hb; replace gq := gq.on hb; replace gr := gr.on hb; replace hM := hM.trans (hb.mono hM.size); clear hb qa
     generalize hA : wq.heap.size = AZ at *
     generalize wq.alloc (.cells #[.bool false, .slice none 0 0, .bool false, .slice none 0 0] 39) = wz at *
     clear hA
     have qa := xa.lt
     have pz := xz.all4
     refine rz 10 fun K hK => ?_
     go_simp
     refine hK.out _ _ (stay4 hR3 na) (fun hR4 => ?_)
     clear hK K hR3
     (try simp only [Act.put, sa, List.set])
     refine tz 11 ?_
     (try simp only [Act.put, sa, List.set])
     refine wpAnyH_done (by kernel_rfl) ?_ _
     refine NoPanic.normal ?_
     clear hR4
     go_wp2_with fail
     go_meet
     exact atF_old hM lz xz gr
    ·
     have na : wn.heap.size ≠ w.heap.size := (by have := xa.lt; omega)
     have hb := (Below.refl wn.heap.size wn).alloc (Nat.le_refl _) (.cells #[.bool false, .slice none 0 0, .bool false, .slice none 0 0] 39)
     go_simp
     refine hK.out _ _ (keep4 hb qa hR1) (fun hR2 => ?_)
     clear hK K hR1
     (try simp only [Act.put, sa, List.set])
     have xz := Bk.new wn #[.bool false, .slice none 0 0, .bool false, .slice none 0 0] 39
     have lz := hM.size
     replace xa := xa.on hb; replace xwt := xwt.on hb; replace h := h.on hb; replace gq := gq.on hb; replace hM := hM.trans (hb.mono hM.size); clear hb qa
     generalize hA : wn.heap.size = AZ at *
     generalize wn.alloc (.cells #[.bool false, .slice none 0 0, .bool false, .slice none 0 0] 39) = wz at *
     clear hA
     have qa := xa.lt
     refine rz 5 fun K hK => ?_
     go_simp
     go_at_call 34; refine (HR1.out _ _ _ h gq).mono ?_; rintro e wq ⟨⟨v, rfl, gr⟩, hb⟩; obtain ⟨br, ar, kr, cr, dr, er, lr, mr, rfl⟩ := gr.opened; replace xa := xa.on hb; replace xwt := xwt.on hb; replace xz := xz.on hb; replace h := h.on hb; replace gq := gq.on hb; replace hM := hM.trans (hb.mono hM.size)
     (try go_wp2_with fail)
     refine hK.out _ _ (keep4 hb qa hR2) (fun hR3 => ?_)
     clear hK K hR2
     (try simp only [Act.put, sa, List.set])
     clear hb qa
     have qa := xa.lt
     refine tz 6 ?_
     (try simp only [Act.put, sa, List.set])
     refine tz 7 ?_
     (try simp only [Act.put, sa, List.set])
     refine tz 8 ?_
     (try simp only [Act.put, sa, List.set])
     have pz := xz.all4
     refine rz 10 fun K hK => ?_
     go_simp
     refine hK.out _ _ (stay4 hR3 na) (fun hR4 => ?_)
     clear hK K hR3
     (try simp only [Act.put, sa, List.set])
     refine tz 11 ?_
     (try simp only [Act.put, sa, List.set])
     refine wpAnyH_done (by kernel_rfl) ?_ _
     refine NoPanic.normal ?_
     clear hR4
     go_wp2_with fail
     go_meet
     exact atF_old hM lz xz gr
   ·
    have na : wd.heap.size ≠ w.heap.size := (by have := xa.lt; omega)
    have hb := (Below.refl wd.heap.size wd).alloc (Nat.le_refl _) (.cells #[.bool false, .slice none 0 0, .bool false, .slice none 0 0] 39)
    go_simp
    refine hK.out _ _ (keep4 hb qa hR0) (fun hR1 => ?_)
    clear hK K hR0
    (try simp only [Act.put, sa, List.set])
    have xz := Bk.new wd #[.bool false, .slice none 0 0, .bool false, .slice none 0 0] 39
    have lz := hM.size
    replace xa := xa.on hb; replace xwt := xwt.on hb; replace h := h.on hb; replace hM := hM.trans (hb.mono hM.size); clear hb qa
    generalize hA : wd.heap.size = AZ at *
    generalize wd.alloc (.cells #[.bool false, .slice none 0 0, .bool false, .slice none 0 0] 39) = wz at *
    clear hA
    have qa := xa.lt
    refine rz 1 fun K hK => ?_
    go_simp
    go_at_call 38; refine (HQ.out _).mono ?_; rintro e wn ⟨⟨v, rfl, gq⟩, hb⟩; replace xa := xa.on hb; replace xwt := xwt.on hb; replace xz := xz.on hb; replace h := h.on hb; replace hM := hM.trans (hb.mono hM.size)
    (try go_wp2_with fail)
    refine hK.out _ _ (keep4 hb qa hR1) (fun hR2 => ?_)
    clear hK K hR1
    (try simp only [Act.put, sa, List.set])
    clear hb qa
    have qa := xa.lt
    refine rz 5 fun K hK => ?_
    go_simp
    go_at_call 34; refine (HR1.out _ _ _ h gq).mono ?_; rintro e wq ⟨⟨v, rfl, gr⟩, hb⟩; obtain ⟨br, ar, kr, cr, dr, er, lr, mr, rfl⟩ := gr.opened; replace xa := xa.on hb; replace xwt := xwt.on hb; replace xz := xz.on hb; replace h := h.on hb; replace gq := gq.on hb; replace hM := hM.trans (hb.mono hM.size)
    (try go_wp2_with fail)
    refine hK.out _ _ (keep4 hb qa hR2) (fun hR3 => ?_)
    clear hK K hR2
    (try simp only [Act.put, sa, List.set])
    clear hb qa
    have qa := xa.lt
    refine tz 6 ?_
    (try simp only [Act.put, sa, List.set])
    refine tz 7 ?_
    (try simp only [Act.put, sa, List.set])
    refine tz 8 ?_
    (try simp only [Act.put, sa, List.set])
    have pz := xz.all4
    refine rz 10 fun K hK => ?_
    go_simp
    refine hK.out _ _ (stay4 hR3 na) (fun hR4 => ?_)
    clear hK K hR3
    (try simp only [Act.put, sa, List.set])
    refine tz 11 ?_
    (try simp only [Act.put, sa, List.set])
    refine wpAnyH_done (by kernel_rfl) ?_ _
    refine NoPanic.normal ?_
    clear hR4
    go_wp2_with fail
    go_meet
    exact atF_old hM lz xz gr
  case rest =>
   obtain ⟨AA, br, ar, kr, cr, dr, er, lr, mr, rfl, rfl, xr, gr, lA, hb⟩ := hcut
   obtain ⟨w3, hwc⟩ : ∃ W : World, W = wc := ⟨_, rfl⟩
   subst hwc
   replace lA := Nat.le_trans hB.size lA; replace xa := xa.on hb; replace xwt := xwt.on hb; replace h := h.on hb; replace hB := hB.trans (hb.mono hB.size); clear hb
   go_wp2_with fail
   have qr := xr.lt
   have qwt := xwt.lt
   obtain ⟨gr0, gr1, gr2, gr3⟩ := xr.cells4
   obtain ⟨gwt0, gwt1, gwt2, gwt3, gwt4, gwt5⟩ := xwt.cells6
   refine wp_region_noPanic ?_
   refine wp_region_held_drew (S := (fun w' => (w'.cell? ⟨AA, 0, none⟩ = some (.bool br) ∧ w'.cell? ⟨AA, 1, none⟩ = some (.slice ar kr cr) ∧ w'.cell? ⟨AA, 2, none⟩ = some (.bool dr) ∧ w'.cell? ⟨AA, 3, none⟩ = some (.slice er lr mr)) ∧ (w'.cell? ⟨w.heap.size + 1, 0, none⟩ = some (.int .i64 z0) ∧ w'.cell? ⟨w.heap.size + 1, 1, none⟩ = some (.int .i64 z1) ∧ w'.cell? ⟨w.heap.size + 1, 2, none⟩ = some (.int .i64 z2) ∧ w'.cell? ⟨w.heap.size + 1, 3, none⟩ = some (.int .i64 z3)) ∧ w'.cell? ⟨w.heap.size + 1, 4, none⟩ = some (.int .i64 z4) ∧ w'.cell? ⟨w.heap.size + 1, 5, none⟩ = some (.int .i64 z5))) (by kernel_rfl) ⟨⟨gr0, gr1, gr2, gr3⟩, ⟨gwt0, gwt1, gwt2, gwt3⟩, gwt4, gwt5⟩ (fun hR0 => ?_)
   change wpAnyH _ _ _ _ _ 7 #[false, false, false, false, false, false, false] _ _
   clear gr0 gr1 gr2 gr3 gwt0 gwt1 gwt2 gwt3 gwt4 gwt5
   refine tz 0 ?_
   (try simp only [Act.put, sa, List.set])
   refine tz 1 ?_
   (try simp only [Act.put, sa, List.set])
   refine tz 2 ?_
   (try simp only [Act.put, sa, List.set])
   refine tz 3 ?_
   (try simp only [Act.put, sa, List.set])
   refine tz 4 ?_
   (try simp only [Act.put, sa, List.set])
   refine rz 5 fun K hK => ?_
   go_simp
   go_at_call 80; have hBd := hB.drew; refine (HI1.out _ _ (by exact gr)).mono ?_; rintro e w4 ⟨rfl, hb⟩; replace hb := (Below.refl w3.heap.size w3).drew.trans hb; replace xa := xa.on hb; replace xwt := xwt.on hb; replace xr := xr.on hb; replace h := h.on hb; replace gr := gr.on hb; replace hB := hB.trans (hb.mono hB.size); have hz4 := hb.size
   (try go_wp2_with fail)
   refine hK.out _ _ (⟨keep4 hb qr hR0.1, keep4 hb qwt hR0.2.1, (hb.cell (p := ⟨w.heap.size + 1, 4, none⟩) qwt).trans hR0.2.2.1, (hb.cell (p := ⟨w.heap.size + 1, 5, none⟩) qwt).trans hR0.2.2.2⟩) (fun hR1 => ?_)
   clear hK K hR0
   (try simp only [Act.put, sa, List.set])
   replace qr := Nat.lt_of_lt_of_le qr hz4; replace qwt := Nat.lt_of_lt_of_le qwt hz4; clear hb hBd
   refine tz 6 ?_
   (try simp only [Act.put, sa, List.set])
   refine wpAnyH_done (by kernel_rfl) ?_ _
   refine NoPanic.normal ?_
   clear hR1 qr qwt xr gr lA
   have pa := xa.all4
   have pwt := xwt.all6
   have lta := xa.lt
   have ltwt := xwt.lt
   go_wp2_with fail
   clear lta ltwt pa pwt
   rw [rounds_succ]
   have pa := xa.all4
   have pwt := xwt.all6
   have lta := xa.lt
   have ltwt := xwt.lt
   go_wp2_with fail
   clear lta ltwt pa pwt
   obtain ⟨wa2, hwa2⟩ : ∃ W, W = w4 := ⟨_, rfl⟩
   rw [← hwa2] at hB xa xwt h ⊢
   clear hwa2
   go_cut [6, 7] (fun s6 s7 wx => AtF wa2 wx s6 s7 r2)
   case first =>
    have hM : Below wa2.heap.size wa2 wa2.drew := (Below.refl wa2.heap.size wa2).drew
    obtain ⟨ga0, ga1, ga2, ga3⟩ := xa.cells4
    replace h := h.below hM (Nat.le_refl _); replace xa := xa.on hM; replace xwt := xwt.on hM
    refine wp_region_noPanic ?_
    refine wp_region_held_drew (S := (fun w' => w'.cell? ⟨w.heap.size, 0, none⟩ = some (.bool bx) ∧ w'.cell? ⟨w.heap.size, 1, none⟩ = some (.slice ax kx cx) ∧ w'.cell? ⟨w.heap.size, 2, none⟩ = some (.bool dx) ∧ w'.cell? ⟨w.heap.size, 3, none⟩ = some (.slice ex lx mx))) (by kernel_rfl) ⟨ga0, ga1, ga2, ga3⟩ (fun hR0 => ?_)
    change wpAnyH _ _ _ _ _ 12 #[false, false, false, false, false, false, false, false, false, false, false, false] _ _
    clear ga0 ga1 ga2 ga3
    generalize wa2.drew = wd at *
    refine tz 0 ?_
    (try simp only [Act.put, sa, List.set])
    refine tz 2 ?_
    (try simp only [Act.put, sa, List.set])
    refine tz 3 ?_
    (try simp only [Act.put, sa, List.set])
    refine tz 4 ?_
    (try simp only [Act.put, sa, List.set])
    have qa := xa.lt
    refine rd2 (i := 1) (j := 9) (by kernel_rfl) rfl rfl (fun K hK => ?_) (fun K hK => ?_)
    ·
     go_simp
     go_at_call 38; refine (HQ.out _).mono ?_; rintro e wn ⟨⟨v, rfl, gq⟩, hb⟩; replace xa := xa.on hb; replace xwt := xwt.on hb; replace h := h.on hb; replace hM := hM.trans (hb.mono hM.size)
     (try go_wp2_with fail)
     refine hK.out _ _ (keep4 hb qa hR0) (fun hR1 => ?_)
     clear hK K hR0
     (try simp only [Act.put, sa, List.set])
     clear hb qa
     have qa := xa.lt
     refine rd2 (i := 5) (j := 9) (by kernel_rfl) rfl rfl (fun K hK => ?_) (fun K hK => ?_)
     ·
      go_simp
      go_at_call 34; refine (HR2.out _ _ _ h gq).mono ?_; rintro e wq ⟨⟨v, rfl, gr⟩, hb⟩; obtain ⟨br, ar, kr, cr, dr, er, lr, mr, rfl⟩ := gr.opened; replace xa := xa.on hb; replace xwt := xwt.on hb; replace h := h.on hb; replace gq := gq.on hb; replace hM := hM.trans (hb.mono hM.size)
      (try go_wp2_with fail)
      refine hK.out _ _ (keep4 hb qa hR1) (fun hR2 => ?_)
      clear hK K hR1
      (try simp only [Act.put, sa, List.set])
      clear hb qa
      have qa := xa.lt
      refine tz 6 ?_
      (try simp only [Act.put, sa, List.set])
      refine tz 7 ?_
      (try simp only [Act.put, sa, List.set])
      refine tz 8 ?_
      (try simp only [Act.put, sa, List.set])
      have na : wq.heap.size ≠ w.heap.size := (by have := xa.lt; omega)
      have hb := (Below.refl wq.heap.size wq).alloc (Nat.le_refl _) (.cells #[.bool false, .slice none 0 0, .bool false, .slice none 0 0] 39)
      refine rz 9 fun K hK => ?_
      go_simp
      refine hK.out _ _ (keep4 hb qa hR2) (fun hR3 => ?_)
      clear hK K hR2
      (try simp only [Act.put, sa, List.set])
      have xz := Bk.new wq #[.bool false, .slice none 0 0, .bool false, .slice none 0 0] 39
      have lz := hM.size
      replace xa := xa.on hb; replace xwt := xwt.on hb; replace h := h.on hb; replace gq := gq.on hb; replace gr := gr.on hb; replace hM := hM.trans (hb.mono hM.size); clear hb qa
      generalize hA : wq.heap.size = AZ at *
      generalize wq.alloc (.cells #[.bool false, .slice none 0 0, .bool false, .slice none 0 0] 39) = wz at *
      clear hA
      have qa := xa.lt
      have pz := xz.all4
      refine rz 10 fun K hK => ?_
      go_simp
      refine hK.out _ _ (stay4 hR3 na) (fun hR4 => ?_)
      clear hK K hR3
      (try simp only [Act.put, sa, List.set])
      refine tz 11 ?_
      (try simp only [Act.put, sa, List.set])
      refine wpAnyH_done (by kernel_rfl) ?_ _
      refine NoPanic.normal ?_
      clear hR4
      go_wp2_with fail
      go_meet
      exact atF_old hM lz xz gr
     ·
      have na : wn.heap.size ≠ w.heap.size := (by have := xa.lt; omega)
      have hb := (Below.refl wn.heap.size wn).alloc (Nat.le_refl _) (.cells #[.bool false, .slice none 0 0, .bool false, .slice none 0 0] 39)
      go_simp
      refine hK.out _ _ (keep4 hb qa hR1) (fun hR2 => ?_)
      clear hK K hR1
      (try simp only [Act.put, sa, List.set])
      have xz := Bk.new wn #[.bool false, .slice none 0 0, .bool false, .slice none 0 0] 39
      have lz := hM.size
      replace xa := xa.on hb; replace xwt := xwt.on hb; replace h := h.on hb; replace gq := gq.on hb; replace hM := hM.trans (hb.mono hM.size); clear hb qa
      generalize hA : wn.heap.size = AZ at *
      generalize wn.alloc (.cells #[.bool false, .slice none 0 0, .bool false, .slice none 0 0] 39) = wz at *
      clear hA
      have qa := xa.lt
      refine rz 5 fun K hK => ?_
      go_simp
      go_at_call 34; refine (HR2.out _ _ _ h gq).mono ?_; rintro e wq ⟨⟨v, rfl, gr⟩, hb⟩; obtain ⟨br, ar, kr, cr, dr, er, lr, mr, rfl⟩ := gr.opened; replace xa := xa.on hb; replace xwt := xwt.on hb; replace xz := xz.on hb; replace h := h.on hb; replace gq := gq.on hb; replace hM := hM.trans (hb.mono hM.size)
      (try go_wp2_with fail)
      refine hK.out _ _ (keep4 hb qa hR2) (fun hR3 => ?_)
      clear hK K hR2
      (try simp only [Act.put, sa, List.set])
      clear hb qa
      have qa := xa.lt
      refine tz 6 ?_
      (try simp only [Act.put, sa, List.set])
      refine tz 7 ?_
      (try simp only [Act.put, sa, List.set])
      refine tz 8 ?_
      (try simp only [Act.put, sa, List.set])
      have pz := xz.all4
      refine rz 10 fun K hK => ?_
      go_simp
      refine hK.out _ _ (stay4 hR3 na) (fun hR4 => ?_)
      clear hK K hR3
      (try simp only [Act.put, sa, List.set])
      refine tz 11 ?_
      (try simp only [Act.put, sa, List.set])
      refine wpAnyH_done (by kernel_rfl) ?_ _
      refine NoPanic.normal ?_
      clear hR4
      go_wp2_with fail
      go_meet
      exact atF_old hM lz xz gr
    ·
     have na : wd.heap.size ≠ w.heap.size := (by have := xa.lt; omega)
     have hb := (Below.refl wd.heap.size wd).alloc (Nat.le_refl _) (.cells #[.bool false, .slice none 0 0, .bool false, .slice none 0 0] 39)
     go_simp
     refine hK.out _ _ (keep4 hb qa hR0) (fun hR1 => ?_)
     clear hK K hR0
     (try simp only [Act.put, sa, List.set])
     have xz := Bk.new wd #[.bool false, .slice none 0 0, .bool false, .slice none 0 0] 39
     have lz := hM.size
     replace xa := xa.on hb; replace xwt := xwt.on hb; replace h := h.on hb; replace hM := hM.trans (hb.mono hM.size); clear hb qa
     generalize hA : wd.heap.size = AZ at *
     generalize wd.alloc (.cells #[.bool false, .slice none 0 0, .bool false, .slice none 0 0] 39) = wz at *
     clear hA
     have qa := xa.lt
     refine rz 1 fun K hK => ?_
     go_simp
     go_at_call 38; refine (HQ.out _).mono ?_; rintro e wn ⟨⟨v, rfl, gq⟩, hb⟩; replace xa := xa.on hb; replace xwt := xwt.on hb; replace xz := xz.on hb; replace h := h.on hb; replace hM := hM.trans (hb.mono hM.size)
     (try go_wp2_with fail)
     refine hK.out _ _ (keep4 hb qa hR1) (fun hR2 => ?_)
     clear hK K hR1
     (try simp only [Act.put, sa, List.set])
     clear hb qa
     have qa := xa.lt
     refine rz 5 fun K hK => ?_
     go_simp
     go_at_call 34; refine (HR2.out _ _ _ h gq).mono ?_; rintro e wq ⟨⟨v, rfl, gr⟩, hb⟩; obtain ⟨br, ar, kr, cr, dr, er, lr, mr, rfl⟩ := gr.opened; replace xa := xa.on hb; replace xwt := xwt.on hb; replace xz := xz.on hb; replace h := h.on hb; replace gq := gq.on hb; replace hM := hM.trans (hb.mono hM.size)
     (try go_wp2_with fail)
     refine hK.out _ _ (keep4 hb qa hR2) (fun hR3 => ?_)
     clear hK K hR2
     (try simp only [Act.put, sa, List.set])
     clear hb qa
     have qa := xa.lt
     refine tz 6 ?_
     (try simp only [Act.put, sa, List.set])
     refine tz 7 ?_
     (try simp only [Act.put, sa, List.set])
     refine tz 8 ?_
     (try simp only [Act.put, sa, List.set])
     have pz := xz.all4
     refine rz 10 fun K hK => ?_
     go_simp
     refine hK.out _ _ (stay4 hR3 na) (fun hR4 => ?_)
     clear hK K hR3
     (try simp only [Act.put, sa, List.set])
     refine tz 11 ?_
     (try simp only [Act.put, sa, List.set])
     refine wpAnyH_done (by kernel_rfl) ?_ _
     refine NoPanic.normal ?_
     clear hR4
     go_wp2_with fail
     go_meet
     exact atF_old hM lz xz gr
   case rest =>
    obtain ⟨AA, br, ar, kr, cr, dr, er, lr, mr, rfl, rfl, xr, gr, lA, hb⟩ := hcut
    obtain ⟨w5, hwc⟩ : ∃ W : World, W = wc := ⟨_, rfl⟩
    subst hwc
    replace lA := Nat.le_trans hB.size lA; replace xa := xa.on hb; replace xwt := xwt.on hb; replace h := h.on hb; replace hB := hB.trans (hb.mono hB.size); clear hb
    go_wp2_with fail
    have qr := xr.lt
    have qwt := xwt.lt
    obtain ⟨gr0, gr1, gr2, gr3⟩ := xr.cells4
    obtain ⟨gwt0, gwt1, gwt2, gwt3, gwt4, gwt5⟩ := xwt.cells6
    refine wp_region_noPanic ?_
    refine wp_region_held_drew (S := (fun w' => (w'.cell? ⟨AA, 0, none⟩ = some (.bool br) ∧ w'.cell? ⟨AA, 1, none⟩ = some (.slice ar kr cr) ∧ w'.cell? ⟨AA, 2, none⟩ = some (.bool dr) ∧ w'.cell? ⟨AA, 3, none⟩ = some (.slice er lr mr)) ∧ (w'.cell? ⟨w.heap.size + 1, 0, none⟩ = some (.int .i64 z0) ∧ w'.cell? ⟨w.heap.size + 1, 1, none⟩ = some (.int .i64 z1) ∧ w'.cell? ⟨w.heap.size + 1, 2, none⟩ = some (.int .i64 z2) ∧ w'.cell? ⟨w.heap.size + 1, 3, none⟩ = some (.int .i64 z3)) ∧ w'.cell? ⟨w.heap.size + 1, 4, none⟩ = some (.int .i64 z4) ∧ w'.cell? ⟨w.heap.size + 1, 5, none⟩ = some (.int .i64 z5))) (by kernel_rfl) ⟨⟨gr0, gr1, gr2, gr3⟩, ⟨gwt0, gwt1, gwt2, gwt3⟩, gwt4, gwt5⟩ (fun hR0 => ?_)
    change wpAnyH _ _ _ _ _ 7 #[false, false, false, false, false, false, false] _ _
    clear gr0 gr1 gr2 gr3 gwt0 gwt1 gwt2 gwt3 gwt4 gwt5
    refine tz 0 ?_
    (try simp only [Act.put, sa, List.set])
    refine tz 1 ?_
    (try simp only [Act.put, sa, List.set])
    refine tz 2 ?_
    (try simp only [Act.put, sa, List.set])
    refine tz 3 ?_
    (try simp only [Act.put, sa, List.set])
    refine tz 4 ?_
    (try simp only [Act.put, sa, List.set])
    refine rz 5 fun K hK => ?_
    go_simp
    go_at_call 80; have hBd := hB.drew; refine (HI2.out _ _ (by exact gr)).mono ?_; rintro e w6 ⟨rfl, hb⟩; replace hb := (Below.refl w5.heap.size w5).drew.trans hb; replace xa := xa.on hb; replace xwt := xwt.on hb; replace xr := xr.on hb; replace h := h.on hb; replace gr := gr.on hb; replace hB := hB.trans (hb.mono hB.size); have hz6 := hb.size
    (try go_wp2_with fail)
    refine hK.out _ _ (⟨keep4 hb qr hR0.1, keep4 hb qwt hR0.2.1, (hb.cell (p := ⟨w.heap.size + 1, 4, none⟩) qwt).trans hR0.2.2.1, (hb.cell (p := ⟨w.heap.size + 1, 5, none⟩) qwt).trans hR0.2.2.2⟩) (fun hR1 => ?_)
    clear hK K hR0
    (try simp only [Act.put, sa, List.set])
    replace qr := Nat.lt_of_lt_of_le qr hz6; replace qwt := Nat.lt_of_lt_of_le qwt hz6; clear hb hBd
    refine tz 6 ?_
    (try simp only [Act.put, sa, List.set])
    refine wpAnyH_done (by kernel_rfl) ?_ _
    refine NoPanic.normal ?_
    clear hR1 qr qwt xr gr lA
    have pa := xa.all4
    have pwt := xwt.all6
    have lta := xa.lt
    have ltwt := xwt.lt
    go_wp2_with fail
    clear lta ltwt pa pwt
    rw [rounds_succ]
    have pa := xa.all4
    have pwt := xwt.all6
    have lta := xa.lt
    have ltwt := xwt.lt
    go_wp2_with fail
    clear lta ltwt pa pwt
    obtain ⟨wa3, hwa3⟩ : ∃ W, W = w6 := ⟨_, rfl⟩
    rw [← hwa3] at hB xa xwt h ⊢
    clear hwa3
    go_cut [6, 7] (fun s6 s7 wx => AtF wa3 wx s6 s7 r3)
    case first =>
     have hM : Below wa3.heap.size wa3 wa3.drew := (Below.refl wa3.heap.size wa3).drew
     obtain ⟨ga0, ga1, ga2, ga3⟩ := xa.cells4
     replace h := h.below hM (Nat.le_refl _); replace xa := xa.on hM; replace xwt := xwt.on hM
     refine wp_region_noPanic ?_
     refine wp_region_held_drew (S := (fun w' => w'.cell? ⟨w.heap.size, 0, none⟩ = some (.bool bx) ∧ w'.cell? ⟨w.heap.size, 1, none⟩ = some (.slice ax kx cx) ∧ w'.cell? ⟨w.heap.size, 2, none⟩ = some (.bool dx) ∧ w'.cell? ⟨w.heap.size, 3, none⟩ = some (.slice ex lx mx))) (by kernel_rfl) ⟨ga0, ga1, ga2, ga3⟩ (fun hR0 => ?_)
     change wpAnyH _ _ _ _ _ 12 #[false, false, false, false, false, false, false, false, false, false, false, false] _ _
     clear ga0 ga1 ga2 ga3
     generalize wa3.drew = wd at *
     refine tz 0 ?_
     (try simp only [Act.put, sa, List.set])
     refine tz 2 ?_
     (try simp only [Act.put, sa, List.set])
     refine tz 3 ?_
     (try simp only [Act.put, sa, List.set])
     refine tz 4 ?_
     (try simp only [Act.put, sa, List.set])
     have qa := xa.lt
     refine rd2 (i := 1) (j := 9) (by kernel_rfl) rfl rfl (fun K hK => ?_) (fun K hK => ?_)
     ·
      go_simp
      go_at_call 38; refine (HQ.out _).mono ?_; rintro e wn ⟨⟨v, rfl, gq⟩, hb⟩; replace xa := xa.on hb; replace xwt := xwt.on hb; replace h := h.on hb; replace hM := hM.trans (hb.mono hM.size)
      (try go_wp2_with fail)
      refine hK.out _ _ (keep4 hb qa hR0) (fun hR1 => ?_)
      clear hK K hR0
      (try simp only [Act.put, sa, List.set])
      clear hb qa
      have qa := xa.lt
      refine rd2 (i := 5) (j := 9) (by kernel_rfl) rfl rfl (fun K hK => ?_) (fun K hK => ?_)
      ·
       go_simp
       go_at_call 34; refine (HR3.out _ _ _ h gq).mono ?_; rintro e wq ⟨⟨v, rfl, gr⟩, hb⟩; obtain ⟨br, ar, kr, cr, dr, er, lr, mr, rfl⟩ := gr.opened; replace xa := xa.on hb; replace xwt := xwt.on hb; replace h := h.on hb; replace gq := gq.on hb; replace hM := hM.trans (hb.mono hM.size)
       (try go_wp2_with fail)
       refine hK.out _ _ (keep4 hb qa hR1) (fun hR2 => ?_)
       clear hK K hR1
       (try simp only [Act.put, sa, List.set])
       clear hb qa
       have qa := xa.lt
       refine tz 6 ?_
       (try simp only [Act.put, sa, List.set])
       refine tz 7 ?_
       (try simp only [Act.put, sa, List.set])
       refine tz 8 ?_
       (try simp only [Act.put, sa, List.set])
       have na : wq.heap.size ≠ w.heap.size := (by have := xa.lt; omega)
       have hb := (Below.refl wq.heap.size wq).alloc (Nat.le_refl _) (.cells #[.bool false, .slice none 0 0, .bool false, .slice none 0 0] 39)
       refine rz 9 fun K hK => ?_
       go_simp
       refine hK.out _ _ (keep4 hb qa hR2) (fun hR3 => ?_)
       clear hK K hR2
       (try simp only [Act.put, sa, List.set])
       have xz := Bk.new wq #[.bool false, .slice none 0 0, .bool false, .slice none 0 0] 39
       have lz := hM.size
       replace xa := xa.on hb; replace xwt := xwt.on hb; replace h := h.on hb; replace gq := gq.on hb; replace gr := gr.on hb; replace hM := hM.trans (hb.mono hM.size); clear hb qa
       generalize hA : wq.heap.size = AZ at *
       generalize wq.alloc (.cells #[.bool false, .slice none 0 0, .bool false, .slice none 0 0] 39) = wz at *
       clear hA
       have qa := xa.lt
       have pz := xz.all4
       refine rz 10 fun K hK => ?_
       go_simp
       refine hK.out _ _ (stay4 hR3 na) (fun hR4 => ?_)
       clear hK K hR3
       (try simp only [Act.put, sa, List.set])
       refine tz 11 ?_
       (try simp only [Act.put, sa, List.set])
       refine wpAnyH_done (by kernel_rfl) ?_ _
       refine NoPanic.normal ?_
       clear hR4
       go_wp2_with fail
       go_meet
       exact atF_old hM lz xz gr
      ·
       have na : wn.heap.size ≠ w.heap.size := (by have := xa.lt; omega)
       have hb := (Below.refl wn.heap.size wn).alloc (Nat.le_refl _) (.cells #[.bool false, .slice none 0 0, .bool false, .slice none 0 0] 39)
       go_simp
       refine hK.out _ _ (keep4 hb qa hR1) (fun hR2 => ?_)
       clear hK K hR1
       (try simp only [Act.put, sa, List.set])
       have xz := Bk.new wn #[.bool false, .slice none 0 0, .bool false, .slice none 0 0] 39
       have lz := hM.size
       replace xa := xa.on hb; replace xwt := xwt.on hb; replace h := h.on hb; replace gq := gq.on hb; replace hM := hM.trans (hb.mono hM.size); clear hb qa
       generalize hA : wn.heap.size = AZ at *
       generalize wn.alloc (.cells #[.bool false, .slice none 0 0, .bool false, .slice none 0 0] 39) = wz at *
       clear hA
       have qa := xa.lt
       refine rz 5 fun K hK => ?_
       go_simp
       go_at_call 34; refine (HR3.out _ _ _ h gq).mono ?_; rintro e wq ⟨⟨v, rfl, gr⟩, hb⟩; obtain ⟨br, ar, kr, cr, dr, er, lr, mr, rfl⟩ := gr.opened; replace xa := xa.on hb; replace xwt := xwt.on hb; replace xz := xz.on hb; replace h := h.on hb; replace gq := gq.on hb; replace hM := hM.trans (hb.mono hM.size)
       (try go_wp2_with fail)
       refine hK.out _ _ (keep4 hb qa hR2) (fun hR3 => ?_)
       clear hK K hR2
       (try simp only [Act.put, sa, List.set])
       clear hb qa
       have qa := xa.lt
       refine tz 6 ?_
       (try simp only [Act.put, sa, List.set])
       refine tz 7 ?_
       (try simp only [Act.put, sa, List.set])
       refine tz 8 ?_
       (try simp only [Act.put, sa, List.set])
       have pz := xz.all4
       refine rz 10 fun K hK => ?_
       go_simp
       refine hK.out _ _ (stay4 hR3 na) (fun hR4 => ?_)
       clear hK K hR3
       (try simp only [Act.put, sa, List.set])
       refine tz 11 ?_
       (try simp only [Act.put, sa, List.set])
       refine wpAnyH_done (by kernel_rfl) ?_ _
       refine NoPanic.normal ?_
       clear hR4
       go_wp2_with fail
       go_meet
       exact atF_old hM lz xz gr
     ·
      have na : wd.heap.size ≠ w.heap.size := (by have := xa.lt; omega)
      have hb := (Below.refl wd.heap.size wd).alloc (Nat.le_refl _) (.cells #[.bool false, .slice none 0 0, .bool false, .slice none 0 0] 39)
      go_simp
      refine hK.out _ _ (keep4 hb qa hR0) (fun hR1 => ?_)
      clear hK K hR0
      (try simp only [Act.put, sa, List.set])
      have xz := Bk.new wd #[.bool false, .slice none 0 0, .bool false, .slice none 0 0] 39
      have lz := hM.size
      replace xa := xa.on hb; replace xwt := xwt.on hb; replace h := h.on hb; replace hM := hM.trans (hb.mono hM.size); clear hb qa
      generalize hA : wd.heap.size = AZ at *
      generalize wd.alloc (.cells #[.bool false, .slice none 0 0, .bool false, .slice none 0 0] 39) = wz at *
      clear hA
      have qa := xa.lt
      refine rz 1 fun K hK => ?_
      go_simp
      go_at_call 38; refine (HQ.out _).mono ?_; rintro e wn ⟨⟨v, rfl, gq⟩, hb⟩; replace xa := xa.on hb; replace xwt := xwt.on hb; replace xz := xz.on hb; replace h := h.on hb; replace hM := hM.trans (hb.mono hM.size)
      (try go_wp2_with fail)
      refine hK.out _ _ (keep4 hb qa hR1) (fun hR2 => ?_)
      clear hK K hR1
      (try simp only [Act.put, sa, List.set])
      clear hb qa
      have qa := xa.lt
      refine rz 5 fun K hK => ?_
      go_simp
      go_at_call 34; refine (HR3.out _ _ _ h gq).mono ?_; rintro e wq ⟨⟨v, rfl, gr⟩, hb⟩; obtain ⟨br, ar, kr, cr, dr, er, lr, mr, rfl⟩ := gr.opened; replace xa := xa.on hb; replace xwt := xwt.on hb; replace xz := xz.on hb; replace h := h.on hb; replace gq := gq.on hb; replace hM := hM.trans (hb.mono hM.size)
      (try go_wp2_with fail)
      refine hK.out _ _ (keep4 hb qa hR2) (fun hR3 => ?_)
      clear hK K hR2
      (try simp only [Act.put, sa, List.set])
      clear hb qa
      have qa := xa.lt
      refine tz 6 ?_
      (try simp only [Act.put, sa, List.set])
      refine tz 7 ?_
      (try simp only [Act.put, sa, List.set])
      refine tz 8 ?_
      (try simp only [Act.put, sa, List.set])
      have pz := xz.all4
      refine rz 10 fun K hK => ?_
      go_simp
      refine hK.out _ _ (stay4 hR3 na) (fun hR4 => ?_)
      clear hK K hR3
      (try simp only [Act.put, sa, List.set])
      refine tz 11 ?_
      (try simp only [Act.put, sa, List.set])
      refine wpAnyH_done (by kernel_rfl) ?_ _
      refine NoPanic.normal ?_
      clear hR4
      go_wp2_with fail
      go_meet
      exact atF_old hM lz xz gr
    case rest =>
     obtain ⟨AA, br, ar, kr, cr, dr, er, lr, mr, rfl, rfl, xr, gr, lA, hb⟩ := hcut
     obtain ⟨w7, hwc⟩ : ∃ W : World, W = wc := ⟨_, rfl⟩
     subst hwc
     replace lA := Nat.le_trans hB.size lA; replace xa := xa.on hb; replace xwt := xwt.on hb; replace h := h.on hb; replace hB := hB.trans (hb.mono hB.size); clear hb
     go_wp2_with fail
     have qr := xr.lt
     have qwt := xwt.lt
     obtain ⟨gr0, gr1, gr2, gr3⟩ := xr.cells4
     obtain ⟨gwt0, gwt1, gwt2, gwt3, gwt4, gwt5⟩ := xwt.cells6
     refine wp_region_noPanic ?_
     refine wp_region_held_drew (S := (fun w' => (w'.cell? ⟨AA, 0, none⟩ = some (.bool br) ∧ w'.cell? ⟨AA, 1, none⟩ = some (.slice ar kr cr) ∧ w'.cell? ⟨AA, 2, none⟩ = some (.bool dr) ∧ w'.cell? ⟨AA, 3, none⟩ = some (.slice er lr mr)) ∧ (w'.cell? ⟨w.heap.size + 1, 0, none⟩ = some (.int .i64 z0) ∧ w'.cell? ⟨w.heap.size + 1, 1, none⟩ = some (.int .i64 z1) ∧ w'.cell? ⟨w.heap.size + 1, 2, none⟩ = some (.int .i64 z2) ∧ w'.cell? ⟨w.heap.size + 1, 3, none⟩ = some (.int .i64 z3)) ∧ w'.cell? ⟨w.heap.size + 1, 4, none⟩ = some (.int .i64 z4) ∧ w'.cell? ⟨w.heap.size + 1, 5, none⟩ = some (.int .i64 z5))) (by kernel_rfl) ⟨⟨gr0, gr1, gr2, gr3⟩, ⟨gwt0, gwt1, gwt2, gwt3⟩, gwt4, gwt5⟩ (fun hR0 => ?_)
     change wpAnyH _ _ _ _ _ 7 #[false, false, false, false, false, false, false] _ _
     clear gr0 gr1 gr2 gr3 gwt0 gwt1 gwt2 gwt3 gwt4 gwt5
     refine tz 0 ?_
     (try simp only [Act.put, sa, List.set])
     refine tz 1 ?_
     (try simp only [Act.put, sa, List.set])
     refine tz 2 ?_
     (try simp only [Act.put, sa, List.set])
     refine tz 3 ?_
     (try simp only [Act.put, sa, List.set])
     refine tz 4 ?_
     (try simp only [Act.put, sa, List.set])
     refine rz 5 fun K hK => ?_
     go_simp
     go_at_call 80; have hBd := hB.drew; refine (HI3.out _ _ (by exact gr)).mono ?_; rintro e w8 ⟨rfl, hb⟩; replace hb := (Below.refl w7.heap.size w7).drew.trans hb; replace xa := xa.on hb; replace xwt := xwt.on hb; replace xr := xr.on hb; replace h := h.on hb; replace gr := gr.on hb; replace hB := hB.trans (hb.mono hB.size); have hz8 := hb.size
     (try go_wp2_with fail)
     refine hK.out _ _ (⟨keep4 hb qr hR0.1, keep4 hb qwt hR0.2.1, (hb.cell (p := ⟨w.heap.size + 1, 4, none⟩) qwt).trans hR0.2.2.1, (hb.cell (p := ⟨w.heap.size + 1, 5, none⟩) qwt).trans hR0.2.2.2⟩) (fun hR1 => ?_)
     clear hK K hR0
     (try simp only [Act.put, sa, List.set])
     replace qr := Nat.lt_of_lt_of_le qr hz8; replace qwt := Nat.lt_of_lt_of_le qwt hz8; clear hb hBd
     refine tz 6 ?_
     (try simp only [Act.put, sa, List.set])
     refine wpAnyH_done (by kernel_rfl) ?_ _
     refine NoPanic.normal ?_
     clear hR1 qr qwt xr gr lA
     have pa := xa.all4
     have pwt := xwt.all6
     have lta := xa.lt
     have ltwt := xwt.lt
     go_wp2_with fail
     clear lta ltwt pa pwt
     rw [rounds_succ]
     have pa := xa.all4
     have pwt := xwt.all6
     have lta := xa.lt
     have ltwt := xwt.lt
     go_wp2_with fail
     clear lta ltwt pa pwt
     obtain ⟨wa4, hwa4⟩ : ∃ W, W = w8 := ⟨_, rfl⟩
     rw [← hwa4] at hB xa xwt h ⊢
     clear hwa4
     go_cut [6, 7] (fun s6 s7 wx => AtF wa4 wx s6 s7 r4)
     case first =>
      have hM : Below wa4.heap.size wa4 wa4.drew := (Below.refl wa4.heap.size wa4).drew
      obtain ⟨ga0, ga1, ga2, ga3⟩ := xa.cells4
      replace h := h.below hM (Nat.le_refl _); replace xa := xa.on hM; replace xwt := xwt.on hM
      refine wp_region_noPanic ?_
      refine wp_region_held_drew (S := (fun w' => w'.cell? ⟨w.heap.size, 0, none⟩ = some (.bool bx) ∧ w'.cell? ⟨w.heap.size, 1, none⟩ = some (.slice ax kx cx) ∧ w'.cell? ⟨w.heap.size, 2, none⟩ = some (.bool dx) ∧ w'.cell? ⟨w.heap.size, 3, none⟩ = some (.slice ex lx mx))) (by kernel_rfl) ⟨ga0, ga1, ga2, ga3⟩ (fun hR0 => ?_)
      change wpAnyH _ _ _ _ _ 12 #[false, false, false, false, false, false, false, false, false, false, false, false] _ _
      clear ga0 ga1 ga2 ga3
      generalize wa4.drew = wd at *
      refine tz 0 ?_
      (try simp only [Act.put, sa, List.set])
      refine tz 2 ?_
      (try simp only [Act.put, sa, List.set])
      refine tz 3 ?_
      (try simp only [Act.put, sa, List.set])
      refine tz 4 ?_
      (try simp only [Act.put, sa, List.set])
      have qa := xa.lt
      refine rd2 (i := 1) (j := 9) (by kernel_rfl) rfl rfl (fun K hK => ?_) (fun K hK => ?_)
      ·
       go_simp
       go_at_call 38; refine (HQ.out _).mono ?_; rintro e wn ⟨⟨v, rfl, gq⟩, hb⟩; replace xa := xa.on hb; replace xwt := xwt.on hb; replace h := h.on hb; replace hM := hM.trans (hb.mono hM.size)
       (try go_wp2_with fail)
       refine hK.out _ _ (keep4 hb qa hR0) (fun hR1 => ?_)
       clear hK K hR0
       (try simp only [Act.put, sa, List.set])
       clear hb qa
       have qa := xa.lt
       refine rd2 (i := 5) (j := 9) (by kernel_rfl) rfl rfl (fun K hK => ?_) (fun K hK => ?_)
       ·
        go_simp
        go_at_call 34; refine (HR4.out _ _ _ h gq).mono ?_; rintro e wq ⟨⟨v, rfl, gr⟩, hb⟩; obtain ⟨br, ar, kr, cr, dr, er, lr, mr, rfl⟩ := gr.opened; replace xa := xa.on hb; replace xwt := xwt.on hb; replace h := h.on hb; replace gq := gq.on hb; replace hM := hM.trans (hb.mono hM.size)
        (try go_wp2_with fail)
        refine hK.out _ _ (keep4 hb qa hR1) (fun hR2 => ?_)
        clear hK K hR1
        (try simp only [Act.put, sa, List.set])
        clear hb qa
        have qa := xa.lt
        refine tz 6 ?_
        (try simp only [Act.put, sa, List.set])
        refine tz 7 ?_
        (try simp only [Act.put, sa, List.set])
        refine tz 8 ?_
        (try simp only [Act.put, sa, List.set])
        have na : wq.heap.size ≠ w.heap.size := (by have := xa.lt; omega)
        have hb := (Below.refl wq.heap.size wq).alloc (Nat.le_refl _) (.cells #[.bool false, .slice none 0 0, .bool false, .slice none 0 0] 39)
        refine rz 9 fun K hK => ?_
        go_simp
        refine hK.out _ _ (keep4 hb qa hR2) (fun hR3 => ?_)
        clear hK K hR2
        (try simp only [Act.put, sa, List.set])
        have xz := Bk.new wq #[.bool false, .slice none 0 0, .bool false, .slice none 0 0] 39
        have lz := hM.size
        replace xa := xa.on hb; replace xwt := xwt.on hb; replace h := h.on hb; replace gq := gq.on hb; replace gr := gr.on hb; replace hM := hM.trans (hb.mono hM.size); clear hb qa
        generalize hA : wq.heap.size = AZ at *
        generalize wq.alloc (.cells #[.bool false, .slice none 0 0, .bool false, .slice none 0 0] 39) = wz at *
        clear hA
        have qa := xa.lt
        have pz := xz.all4
        refine rz 10 fun K hK => ?_
        go_simp
        refine hK.out _ _ (stay4 hR3 na) (fun hR4 => ?_)
        clear hK K hR3
        (try simp only [Act.put, sa, List.set])
        refine tz 11 ?_
        (try simp only [Act.put, sa, List.set])
        refine wpAnyH_done (by kernel_rfl) ?_ _
        refine NoPanic.normal ?_
        clear hR4
        go_wp2_with fail
        go_meet
        exact atF_old hM lz xz gr
       ·
        have na : wn.heap.size ≠ w.heap.size := (by have := xa.lt; omega)
        have hb := (Below.refl wn.heap.size wn).alloc (Nat.le_refl _) (.cells #[.bool false, .slice none 0 0, .bool false, .slice none 0 0] 39)
        go_simp
        refine hK.out _ _ (keep4 hb qa hR1) (fun hR2 => ?_)
        clear hK K hR1
        (try simp only [Act.put, sa, List.set])
        have xz := Bk.new wn #[.bool false, .slice none 0 0, .bool false, .slice none 0 0] 39
        have lz := hM.size
        replace xa := xa.on hb; replace xwt := xwt.on hb; replace h := h.on hb; replace gq := gq.on hb; replace hM := hM.trans (hb.mono hM.size); clear hb qa
        generalize hA : wn.heap.size = AZ at *
        generalize wn.alloc (.cells #[.bool false, .slice none 0 0, .bool false, .slice none 0 0] 39) = wz at *
        clear hA
        have qa := xa.lt
        refine rz 5 fun K hK => ?_
        go_simp
        go_at_call 34; refine (HR4.out _ _ _ h gq).mono ?_; rintro e wq ⟨⟨v, rfl, gr⟩, hb⟩; obtain ⟨br, ar, kr, cr, dr, er, lr, mr, rfl⟩ := gr.opened; replace xa := xa.on hb; replace xwt := xwt.on hb; replace xz := xz.on hb; replace h := h.on hb; replace gq := gq.on hb; replace hM := hM.trans (hb.mono hM.size)
        (try go_wp2_with fail)
        refine hK.out _ _ (keep4 hb qa hR2) (fun hR3 => ?_)
        clear hK K hR2
        (try simp only [Act.put, sa, List.set])
        clear hb qa
        have qa := xa.lt
        refine tz 6 ?_
        (try simp only [Act.put, sa, List.set])
        refine tz 7 ?_
        (try simp only [Act.put, sa, List.set])
        refine tz 8 ?_
        (try simp only [Act.put, sa, List.set])
        have pz := xz.all4
        refine rz 10 fun K hK => ?_
        go_simp
        refine hK.out _ _ (stay4 hR3 na) (fun hR4 => ?_)
        clear hK K hR3
        (try simp only [Act.put, sa, List.set])
        refine tz 11 ?_
        (try simp only [Act.put, sa, List.set])
        refine wpAnyH_done (by kernel_rfl) ?_ _
        refine NoPanic.normal ?_
        clear hR4
        go_wp2_with fail
        go_meet
        exact atF_old hM lz xz gr
      ·
       have na : wd.heap.size ≠ w.heap.size := (by have := xa.lt; omega)
       have hb := (Below.refl wd.heap.size wd).alloc (Nat.le_refl _) (.cells #[.bool false, .slice none 0 0, .bool false, .slice none 0 0] 39)
       go_simp
       refine hK.out _ _ (keep4 hb qa hR0) (fun hR1 => ?_)
       clear hK K hR0
       (try simp only [Act.put, sa, List.set])
       have xz := Bk.new wd #[.bool false, .slice none 0 0, .bool false, .slice none 0 0] 39
       have lz := hM.size
       replace xa := xa.on hb; replace xwt := xwt.on hb; replace h := h.on hb; replace hM := hM.trans (hb.mono hM.size); clear hb qa
       generalize hA : wd.heap.size = AZ at *
       generalize wd.alloc (.cells #[.bool false, .slice none 0 0, .bool false, .slice none 0 0] 39) = wz at *
       clear hA
       have qa := xa.lt
       refine rz 1 fun K hK => ?_
       go_simp
       go_at_call 38; refine (HQ.out _).mono ?_; rintro e wn ⟨⟨v, rfl, gq⟩, hb⟩; replace xa := xa.on hb; replace xwt := xwt.on hb; replace xz := xz.on hb; replace h := h.on hb; replace hM := hM.trans (hb.mono hM.size)
       (try go_wp2_with fail)
       refine hK.out _ _ (keep4 hb qa hR1) (fun hR2 => ?_)
       clear hK K hR1
       (try simp only [Act.put, sa, List.set])
       clear hb qa
       have qa := xa.lt
       refine rz 5 fun K hK => ?_
       go_simp
       go_at_call 34; refine (HR4.out _ _ _ h gq).mono ?_; rintro e wq ⟨⟨v, rfl, gr⟩, hb⟩; obtain ⟨br, ar, kr, cr, dr, er, lr, mr, rfl⟩ := gr.opened; replace xa := xa.on hb; replace xwt := xwt.on hb; replace xz := xz.on hb; replace h := h.on hb; replace gq := gq.on hb; replace hM := hM.trans (hb.mono hM.size)
       (try go_wp2_with fail)
       refine hK.out _ _ (keep4 hb qa hR2) (fun hR3 => ?_)
       clear hK K hR2
       (try simp only [Act.put, sa, List.set])
       clear hb qa
       have qa := xa.lt
       refine tz 6 ?_
       (try simp only [Act.put, sa, List.set])
       refine tz 7 ?_
       (try simp only [Act.put, sa, List.set])
       refine tz 8 ?_
       (try simp only [Act.put, sa, List.set])
       have pz := xz.all4
       refine rz 10 fun K hK => ?_
       go_simp
       refine hK.out _ _ (stay4 hR3 na) (fun hR4 => ?_)
       clear hK K hR3
       (try simp only [Act.put, sa, List.set])
       refine tz 11 ?_
       (try simp only [Act.put, sa, List.set])
       refine wpAnyH_done (by kernel_rfl) ?_ _
       refine NoPanic.normal ?_
       clear hR4
       go_wp2_with fail
       go_meet
       exact atF_old hM lz xz gr
     case rest =>
      obtain ⟨AA, br, ar, kr, cr, dr, er, lr, mr, rfl, rfl, xr, gr, lA, hb⟩ := hcut
      obtain ⟨w9, hwc⟩ : ∃ W : World, W = wc := ⟨_, rfl⟩
      subst hwc
      replace lA := Nat.le_trans hB.size lA; replace xa := xa.on hb; replace xwt := xwt.on hb; replace h := h.on hb; replace hB := hB.trans (hb.mono hB.size); clear hb
      go_wp2_with fail
      have qr := xr.lt
      have qwt := xwt.lt
      obtain ⟨gr0, gr1, gr2, gr3⟩ := xr.cells4
      obtain ⟨gwt0, gwt1, gwt2, gwt3, gwt4, gwt5⟩ := xwt.cells6
      refine wp_region_noPanic ?_
      refine wp_region_held_drew (S := (fun w' => (w'.cell? ⟨AA, 0, none⟩ = some (.bool br) ∧ w'.cell? ⟨AA, 1, none⟩ = some (.slice ar kr cr) ∧ w'.cell? ⟨AA, 2, none⟩ = some (.bool dr) ∧ w'.cell? ⟨AA, 3, none⟩ = some (.slice er lr mr)) ∧ (w'.cell? ⟨w.heap.size + 1, 0, none⟩ = some (.int .i64 z0) ∧ w'.cell? ⟨w.heap.size + 1, 1, none⟩ = some (.int .i64 z1) ∧ w'.cell? ⟨w.heap.size + 1, 2, none⟩ = some (.int .i64 z2) ∧ w'.cell? ⟨w.heap.size + 1, 3, none⟩ = some (.int .i64 z3)) ∧ w'.cell? ⟨w.heap.size + 1, 4, none⟩ = some (.int .i64 z4) ∧ w'.cell? ⟨w.heap.size + 1, 5, none⟩ = some (.int .i64 z5))) (by kernel_rfl) ⟨⟨gr0, gr1, gr2, gr3⟩, ⟨gwt0, gwt1, gwt2, gwt3⟩, gwt4, gwt5⟩ (fun hR0 => ?_)
      change wpAnyH _ _ _ _ _ 7 #[false, false, false, false, false, false, false] _ _
      clear gr0 gr1 gr2 gr3 gwt0 gwt1 gwt2 gwt3 gwt4 gwt5
      refine tz 0 ?_
      (try simp only [Act.put, sa, List.set])
      refine tz 1 ?_
      (try simp only [Act.put, sa, List.set])
      refine tz 2 ?_
      (try simp only [Act.put, sa, List.set])
      refine tz 3 ?_
      (try simp only [Act.put, sa, List.set])
      refine tz 4 ?_
      (try simp only [Act.put, sa, List.set])
      refine rz 5 fun K hK => ?_
      go_simp
      go_at_call 80; have hBd := hB.drew; refine (HI4.out _ _ (by exact gr)).mono ?_; rintro e w10 ⟨rfl, hb⟩; replace hb := (Below.refl w9.heap.size w9).drew.trans hb; replace xa := xa.on hb; replace xwt := xwt.on hb; replace xr := xr.on hb; replace h := h.on hb; replace gr := gr.on hb; replace hB := hB.trans (hb.mono hB.size); have hz10 := hb.size
      (try go_wp2_with fail)
      refine hK.out _ _ (⟨keep4 hb qr hR0.1, keep4 hb qwt hR0.2.1, (hb.cell (p := ⟨w.heap.size + 1, 4, none⟩) qwt).trans hR0.2.2.1, (hb.cell (p := ⟨w.heap.size + 1, 5, none⟩) qwt).trans hR0.2.2.2⟩) (fun hR1 => ?_)
      clear hK K hR0
      (try simp only [Act.put, sa, List.set])
      replace qr := Nat.lt_of_lt_of_le qr hz10; replace qwt := Nat.lt_of_lt_of_le qwt hz10; clear hb hBd
      refine tz 6 ?_
      (try simp only [Act.put, sa, List.set])
      refine wpAnyH_done (by kernel_rfl) ?_ _
      refine NoPanic.normal ?_
      clear hR1 qr qwt xr gr lA
      have pa := xa.all4
      have pwt := xwt.all6
      have lta := xa.lt
      have ltwt := xwt.lt
      go_wp2_with fail
      clear lta ltwt pa pwt
      rw [rounds_succ]
      have pa := xa.all4
      have pwt := xwt.all6
      have lta := xa.lt
      have ltwt := xwt.lt
      go_wp2_with fail
      clear lta ltwt pa pwt
      obtain ⟨wa5, hwa5⟩ : ∃ W, W = w10 := ⟨_, rfl⟩
      rw [← hwa5] at hB xa xwt h ⊢
      clear hwa5
      go_cut [6, 7] (fun s6 s7 wx => AtF wa5 wx s6 s7 r5)
      case first =>
       have hM : Below wa5.heap.size wa5 wa5.drew := (Below.refl wa5.heap.size wa5).drew
       obtain ⟨ga0, ga1, ga2, ga3⟩ := xa.cells4
       replace h := h.below hM (Nat.le_refl _); replace xa := xa.on hM; replace xwt := xwt.on hM
       refine wp_region_noPanic ?_
       refine wp_region_held_drew (S := (fun w' => w'.cell? ⟨w.heap.size, 0, none⟩ = some (.bool bx) ∧ w'.cell? ⟨w.heap.size, 1, none⟩ = some (.slice ax kx cx) ∧ w'.cell? ⟨w.heap.size, 2, none⟩ = some (.bool dx) ∧ w'.cell? ⟨w.heap.size, 3, none⟩ = some (.slice ex lx mx))) (by kernel_rfl) ⟨ga0, ga1, ga2, ga3⟩ (fun hR0 => ?_)
       change wpAnyH _ _ _ _ _ 12 #[false, false, false, false, false, false, false, false, false, false, false, false] _ _
       clear ga0 ga1 ga2 ga3
       generalize wa5.drew = wd at *
       refine tz 0 ?_
       (try simp only [Act.put, sa, List.set])
       refine tz 2 ?_
       (try simp only [Act.put, sa, List.set])
       refine tz 3 ?_
       (try simp only [Act.put, sa, List.set])
       refine tz 4 ?_
       (try simp only [Act.put, sa, List.set])
       have qa := xa.lt
       refine rd2 (i := 1) (j := 9) (by kernel_rfl) rfl rfl (fun K hK => ?_) (fun K hK => ?_)
       ·
        go_simp
        go_at_call 38; refine (HQ.out _).mono ?_; rintro e wn ⟨⟨v, rfl, gq⟩, hb⟩; replace xa := xa.on hb; replace xwt := xwt.on hb; replace h := h.on hb; replace hM := hM.trans (hb.mono hM.size)
        (try go_wp2_with fail)
        refine hK.out _ _ (keep4 hb qa hR0) (fun hR1 => ?_)
        clear hK K hR0
        (try simp only [Act.put, sa, List.set])
        clear hb qa
        have qa := xa.lt
        refine rd2 (i := 5) (j := 9) (by kernel_rfl) rfl rfl (fun K hK => ?_) (fun K hK => ?_)
        ·
         go_simp
         go_at_call 34; refine (HR5.out _ _ _ h gq).mono ?_; rintro e wq ⟨⟨v, rfl, gr⟩, hb⟩; obtain ⟨br, ar, kr, cr, dr, er, lr, mr, rfl⟩ := gr.opened; replace xa := xa.on hb; replace xwt := xwt.on hb; replace h := h.on hb; replace gq := gq.on hb; replace hM := hM.trans (hb.mono hM.size)
         (try go_wp2_with fail)
         refine hK.out _ _ (keep4 hb qa hR1) (fun hR2 => ?_)
         clear hK K hR1
         (try simp only [Act.put, sa, List.set])
         clear hb qa
         have qa := xa.lt
         refine tz 6 ?_
         (try simp only [Act.put, sa, List.set])
         refine tz 7 ?_
         (try simp only [Act.put, sa, List.set])
         refine tz 8 ?_
         (try simp only [Act.put, sa, List.set])
         have na : wq.heap.size ≠ w.heap.size := (by have := xa.lt; omega)
         have hb := (Below.refl wq.heap.size wq).alloc (Nat.le_refl _) (.cells #[.bool false, .slice none 0 0, .bool false, .slice none 0 0] 39)
         refine rz 9 fun K hK => ?_
         go_simp
         refine hK.out _ _ (keep4 hb qa hR2) (fun hR3 => ?_)
         clear hK K hR2
         (try simp only [Act.put, sa, List.set])
         have xz := Bk.new wq #[.bool false, .slice none 0 0, .bool false, .slice none 0 0] 39
         have lz := hM.size
         replace xa := xa.on hb; replace xwt := xwt.on hb; replace h := h.on hb; replace gq := gq.on hb; replace gr := gr.on hb; replace hM := hM.trans (hb.mono hM.size); clear hb qa
         generalize hA : wq.heap.size = AZ at *
         generalize wq.alloc (.cells #[.bool false, .slice none 0 0, .bool false, .slice none 0 0] 39) = wz at *
         clear hA
         have qa := xa.lt
         have pz := xz.all4
         refine rz 10 fun K hK => ?_
         go_simp
         refine hK.out _ _ (stay4 hR3 na) (fun hR4 => ?_)
         clear hK K hR3
         (try simp only [Act.put, sa, List.set])
         refine tz 11 ?_
         (try simp only [Act.put, sa, List.set])
         refine wpAnyH_done (by kernel_rfl) ?_ _
         refine NoPanic.normal ?_
         clear hR4
         go_wp2_with fail
         go_meet
         exact atF_old hM lz xz gr
        ·
         have na : wn.heap.size ≠ w.heap.size := (by have := xa.lt; omega)
         have hb := (Below.refl wn.heap.size wn).alloc (Nat.le_refl _) (.cells #[.bool false, .slice none 0 0, .bool false, .slice none 0 0] 39)
         go_simp
         refine hK.out _ _ (keep4 hb qa hR1) (fun hR2 => ?_)
         clear hK K hR1
         (try simp only [Act.put, sa, List.set])
         have xz := Bk.new wn #[.bool false, .slice none 0 0, .bool false, .slice none 0 0] 39
         have lz := hM.size
         replace xa := xa.on hb; replace xwt := xwt.on hb; replace h := h.on hb; replace gq := gq.on hb; replace hM := hM.trans (hb.mono hM.size); clear hb qa
         generalize hA : wn.heap.size = AZ at *
         generalize wn.alloc (.cells #[.bool false, .slice none 0 0, .bool false, .slice none 0 0] 39) = wz at *
         clear hA
         have qa := xa.lt
         refine rz 5 fun K hK => ?_
         go_simp
         go_at_call 34; refine (HR5.out _ _ _ h gq).mono ?_; rintro e wq ⟨⟨v, rfl, gr⟩, hb⟩; obtain ⟨br, ar, kr, cr, dr, er, lr, mr, rfl⟩ := gr.opened; replace xa := xa.on hb; replace xwt := xwt.on hb; replace xz := xz.on hb; replace h := h.on hb; replace gq := gq.on hb; replace hM := hM.trans (hb.mono hM.size)
         (try go_wp2_with fail)
         refine hK.out _ _ (keep4 hb qa hR2) (fun hR3 => ?_)
         clear hK K hR2
         (try simp only [Act.put, sa, List.set])
         clear hb qa
         have qa := xa.lt
         refine tz 6 ?_
         (try simp only [Act.put, sa, List.set])
         refine tz 7 ?_
         (try simp only [Act.put, sa, List.set])
         refine tz 8 ?_
         (try simp only [Act.put, sa, List.set])
         have pz := xz.all4
         refine rz 10 fun K hK => ?_
         go_simp
         refine hK.out _ _ (stay4 hR3 na) (fun hR4 => ?_)
         clear hK K hR3
         (try simp only [Act.put, sa, List.set])
         refine tz 11 ?_
         (try simp only [Act.put, sa, List.set])
         refine wpAnyH_done (by kernel_rfl) ?_ _
         refine NoPanic.normal ?_
         clear hR4
         go_wp2_with fail
         go_meet
         exact atF_old hM lz xz gr
       ·
        have na : wd.heap.size ≠ w.heap.size := (by have := xa.lt; omega)
        have hb := (Below.refl wd.heap.size wd).alloc (Nat.le_refl _) (.cells #[.bool false, .slice none 0 0, .bool false, .slice none 0 0] 39)
        go_simp
        refine hK.out _ _ (keep4 hb qa hR0) (fun hR1 => ?_)
        clear hK K hR0
        (try simp only [Act.put, sa, List.set])
        have xz := Bk.new wd #[.bool false, .slice none 0 0, .bool false, .slice none 0 0] 39
        have lz := hM.size
        replace xa := xa.on hb; replace xwt := xwt.on hb; replace h := h.on hb; replace hM := hM.trans (hb.mono hM.size); clear hb qa
        generalize hA : wd.heap.size = AZ at *
        generalize wd.alloc (.cells #[.bool false, .slice none 0 0, .bool false, .slice none 0 0] 39) = wz at *
        clear hA
        have qa := xa.lt
        refine rz 1 fun K hK => ?_
        go_simp
        go_at_call 38; refine (HQ.out _).mono ?_; rintro e wn ⟨⟨v, rfl, gq⟩, hb⟩; replace xa := xa.on hb; replace xwt := xwt.on hb; replace xz := xz.on hb; replace h := h.on hb; replace hM := hM.trans (hb.mono hM.size)
        (try go_wp2_with fail)
        refine hK.out _ _ (keep4 hb qa hR1) (fun hR2 => ?_)
        clear hK K hR1
        (try simp only [Act.put, sa, List.set])
        clear hb qa
        have qa := xa.lt
        refine rz 5 fun K hK => ?_
        go_simp
        go_at_call 34; refine (HR5.out _ _ _ h gq).mono ?_; rintro e wq ⟨⟨v, rfl, gr⟩, hb⟩; obtain ⟨br, ar, kr, cr, dr, er, lr, mr, rfl⟩ := gr.opened; replace xa := xa.on hb; replace xwt := xwt.on hb; replace xz := xz.on hb; replace h := h.on hb; replace gq := gq.on hb; replace hM := hM.trans (hb.mono hM.size)
        (try go_wp2_with fail)
        refine hK.out _ _ (keep4 hb qa hR2) (fun hR3 => ?_)
        clear hK K hR2
        (try simp only [Act.put, sa, List.set])
        clear hb qa
        have qa := xa.lt
        refine tz 6 ?_
        (try simp only [Act.put, sa, List.set])
        refine tz 7 ?_
        (try simp only [Act.put, sa, List.set])
        refine tz 8 ?_
        (try simp only [Act.put, sa, List.set])
        have pz := xz.all4
        refine rz 10 fun K hK => ?_
        go_simp
        refine hK.out _ _ (stay4 hR3 na) (fun hR4 => ?_)
        clear hK K hR3
        (try simp only [Act.put, sa, List.set])
        refine tz 11 ?_
        (try simp only [Act.put, sa, List.set])
        refine wpAnyH_done (by kernel_rfl) ?_ _
        refine NoPanic.normal ?_
        clear hR4
        go_wp2_with fail
        go_meet
        exact atF_old hM lz xz gr
      case rest =>
       obtain ⟨AA, br, ar, kr, cr, dr, er, lr, mr, rfl, rfl, xr, gr, lA, hb⟩ := hcut
       obtain ⟨w11, hwc⟩ : ∃ W : World, W = wc := ⟨_, rfl⟩
       subst hwc
       replace lA := Nat.le_trans hB.size lA; replace xa := xa.on hb; replace xwt := xwt.on hb; replace h := h.on hb; replace hB := hB.trans (hb.mono hB.size); clear hb
       go_wp2_with fail
       have qr := xr.lt
       have qwt := xwt.lt
       obtain ⟨gr0, gr1, gr2, gr3⟩ := xr.cells4
       obtain ⟨gwt0, gwt1, gwt2, gwt3, gwt4, gwt5⟩ := xwt.cells6
       refine wp_region_noPanic ?_
       refine wp_region_held_drew (S := (fun w' => (w'.cell? ⟨AA, 0, none⟩ = some (.bool br) ∧ w'.cell? ⟨AA, 1, none⟩ = some (.slice ar kr cr) ∧ w'.cell? ⟨AA, 2, none⟩ = some (.bool dr) ∧ w'.cell? ⟨AA, 3, none⟩ = some (.slice er lr mr)) ∧ (w'.cell? ⟨w.heap.size + 1, 0, none⟩ = some (.int .i64 z0) ∧ w'.cell? ⟨w.heap.size + 1, 1, none⟩ = some (.int .i64 z1) ∧ w'.cell? ⟨w.heap.size + 1, 2, none⟩ = some (.int .i64 z2) ∧ w'.cell? ⟨w.heap.size + 1, 3, none⟩ = some (.int .i64 z3)) ∧ w'.cell? ⟨w.heap.size + 1, 4, none⟩ = some (.int .i64 z4) ∧ w'.cell? ⟨w.heap.size + 1, 5, none⟩ = some (.int .i64 z5))) (by kernel_rfl) ⟨⟨gr0, gr1, gr2, gr3⟩, ⟨gwt0, gwt1, gwt2, gwt3⟩, gwt4, gwt5⟩ (fun hR0 => ?_)
       change wpAnyH _ _ _ _ _ 7 #[false, false, false, false, false, false, false] _ _
       clear gr0 gr1 gr2 gr3 gwt0 gwt1 gwt2 gwt3 gwt4 gwt5
       refine tz 0 ?_
       (try simp only [Act.put, sa, List.set])
       refine tz 1 ?_
       (try simp only [Act.put, sa, List.set])
       refine tz 2 ?_
       (try simp only [Act.put, sa, List.set])
       refine tz 3 ?_
       (try simp only [Act.put, sa, List.set])
       refine tz 4 ?_
       (try simp only [Act.put, sa, List.set])
       refine rz 5 fun K hK => ?_
       go_simp
       go_at_call 80; have hBd := hB.drew; refine (HI5.out _ _ (by exact gr)).mono ?_; rintro e w12 ⟨rfl, hb⟩; replace hb := (Below.refl w11.heap.size w11).drew.trans hb; replace xa := xa.on hb; replace xwt := xwt.on hb; replace xr := xr.on hb; replace h := h.on hb; replace gr := gr.on hb; replace hB := hB.trans (hb.mono hB.size); have hz12 := hb.size
       (try go_wp2_with fail)
       refine hK.out _ _ (⟨keep4 hb qr hR0.1, keep4 hb qwt hR0.2.1, (hb.cell (p := ⟨w.heap.size + 1, 4, none⟩) qwt).trans hR0.2.2.1, (hb.cell (p := ⟨w.heap.size + 1, 5, none⟩) qwt).trans hR0.2.2.2⟩) (fun hR1 => ?_)
       clear hK K hR0
       (try simp only [Act.put, sa, List.set])
       replace qr := Nat.lt_of_lt_of_le qr hz12; replace qwt := Nat.lt_of_lt_of_le qwt hz12; clear hb hBd
       refine tz 6 ?_
       (try simp only [Act.put, sa, List.set])
       refine wpAnyH_done (by kernel_rfl) ?_ _
       refine NoPanic.normal ?_
       clear hR1 qr qwt xr gr lA
       have pa := xa.all4
       have pwt := xwt.all6
       have lta := xa.lt
       have ltwt := xwt.lt
       go_wp2_with fail
       clear lta ltwt pa pwt
       rw [rounds_succ]
       go_wp2
       go_ret
       exact ⟨rfl, hB⟩
end Go.Proofs.YtmbcnfogjncdaaaGreat
