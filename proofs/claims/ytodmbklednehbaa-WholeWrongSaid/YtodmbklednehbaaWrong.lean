/-
'WholeWrong'.
-/
import Derived.Test.YtodmbklednehbaaSz
import Derived.Outline
namespace Go.Proofs.Ytodmbklednehbaa
open Go.RowKit Wh

theorem num_zero (W : World) : Num W zeroW 0 := ⟨_, rfl, by rw [show (0 : Int).natAbs = 0 from rfl, dig_zero]; exact Lim.nil W⟩

set_option maxRecDepth 100000 in
set_option maxHeartbeats 32000000 in
theorem WholeWrong_both (bia : Bool) (aia : Option Addr) (cia : Nat) (lia : List Nat) (bib : Bool) (aib : Option Addr) (cib : Nat) (lib : List Nat) (w : World) (hia : Lim w (.slice aia lia.length cia) lia) (hib : Lim w (.slice aib lib.length cib) lib) (va : vld bia lia = true) (vb : vld bib lib = true) :
    Calls Try.prog 11 #[.agg #[.bool bia, .slice aia lia.length cia], .agg #[.bool bib, .slice aib lib.length cib]] w fun e w' => e = .returned (.bool true) ∧ Below w.heap.size w w' := by
  have hVA := fun W (hW : Below w.heap.size w W) => Valid_any bia _ lia W (hia.below hW (Nat.le_refl _))
  rw [va] at hVA
  have hVB := fun W (hW : Below w.heap.size w W) => Valid_any bib _ lib W (hib.below hW (Nat.le_refl _))
  rw [vb] at hVB
  obtain ⟨kia, hkia⟩ : ∃ n, n = lia.length := ⟨_, rfl⟩
  obtain ⟨kib, hkib⟩ : ∃ n, n = lib.length := ⟨_, rfl⟩
  rw [← hkia] at hVA
  rw [← hkib] at hVB
  rw [← hkia, ← hkib]
  have HhVA := Lib.hid hVA
  have HhVB := Lib.hid hVB
  clear hVA hVB hkia hkib hia hib va vb
  have hB := ((Below.refl w.heap.size w).alloc (by simp <;> omega) (.cells #[.bool bia, .slice aia kia cia] 26)).alloc (by simp <;> omega) (.cells #[.bool bib, .slice aib kib cib] 26)
  have xia := (Bx.new w (.bool bia) (.slice aia kia cia)).alloc (.cells #[.bool bib, .slice aib kib cib] 26)
  have xib := Bx.new (w.alloc (.cells #[.bool bia, .slice aia kia cia] 26)) (.bool bib) (.slice aib kib cib)
  simp only [World.size_alloc] at xib
  go_enter Try.func11, Try.ntmps11
  go_wp2_with fail
  refine (awake_any _).mono ?_
  rintro e v1 ⟨rfl, hb⟩
  replace xia := xia.on hb
  replace xib := xib.on hb
  replace hB := hB.trans (hb.mono hB.size)
  clear hb
  obtain ⟨u0, u0'⟩ := xia.cells
  obtain ⟨u1, u1'⟩ := xib.cells
  go_wp2_with fail
  refine (HhVA.out _ hB).mono ?_
  rintro e v2 ⟨rfl, hb⟩
  clear u0 u0' u1 u1'
  replace xia := xia.on hb
  replace xib := xib.on hb
  replace hB := hB.trans (hb.mono hB.size)
  clear hb
  obtain ⟨u0, u0'⟩ := xia.cells
  obtain ⟨u1, u1'⟩ := xib.cells
  go_wp2_with fail
  refine (HhVB.out _ hB).mono ?_
  rintro e v3 ⟨rfl, hb⟩
  clear u0 u0' u1 u1'
  replace xia := xia.on hb
  replace xib := xib.on hb
  replace hB := hB.trans (hb.mono hB.size)
  clear hb
  obtain ⟨u0, u0'⟩ := xia.cells
  obtain ⟨u1, u1'⟩ := xib.cells
  go_wp2
  go_ret
  exact ⟨rfl, hB⟩

set_option maxRecDepth 100000 in
set_option maxHeartbeats 32000000 in
theorem WholeWrong_tf_a (bia : Bool) (aia : Option Addr) (cia : Nat) (lia : List Nat) (bib : Bool) (aib : Option Addr) (cib : Nat) (lib : List Nat) (w : World) (hia : Lim w (.slice aia lia.length cia) lia) (hib : Lim w (.slice aib lib.length cib) lib) (va : vld bia lia = true) (vb : vld bib lib = false) (la : 2000 < lia.length) :
    Calls Try.prog 11 #[.agg #[.bool bia, .slice aia lia.length cia], .agg #[.bool bib, .slice aib lib.length cib]] w fun e w' => e = .returned (.bool true) ∧ Below w.heap.size w w' := by
  have hVA := fun W (hW : Below w.heap.size w W) => Valid_any bia _ lia W (hia.below hW (Nat.le_refl _))
  rw [va] at hVA
  have hVB := fun W (hW : Below w.heap.size w W) => Valid_any bib _ lib W (hib.below hW (Nat.le_refl _))
  rw [vb] at hVB
  have la0 : (2000 : Int) < (lia.length : Int) := by omega
  obtain ⟨kia, hkia⟩ : ∃ n, n = lia.length := ⟨_, rfl⟩
  obtain ⟨kib, hkib⟩ : ∃ n, n = lib.length := ⟨_, rfl⟩
  rw [← hkia] at hVA
  rw [← hkib] at hVB
  rw [← hkia] at la0
  rw [← hkia, ← hkib]
  have HhVA := Lib.hid hVA
  have HhVB := Lib.hid hVB
  clear hVA hVB hkia hkib hia hib va vb la
  have hB := ((Below.refl w.heap.size w).alloc (by simp <;> omega) (.cells #[.bool bia, .slice aia kia cia] 26)).alloc (by simp <;> omega) (.cells #[.bool bib, .slice aib kib cib] 26)
  have xia := (Bx.new w (.bool bia) (.slice aia kia cia)).alloc (.cells #[.bool bib, .slice aib kib cib] 26)
  have xib := Bx.new (w.alloc (.cells #[.bool bia, .slice aia kia cia] 26)) (.bool bib) (.slice aib kib cib)
  simp only [World.size_alloc] at xib
  go_enter Try.func11, Try.ntmps11
  go_wp2_with fail
  refine (awake_any _).mono ?_
  rintro e v1 ⟨rfl, hb⟩
  replace xia := xia.on hb
  replace xib := xib.on hb
  replace hB := hB.trans (hb.mono hB.size)
  clear hb
  obtain ⟨u0, u0'⟩ := xia.cells
  obtain ⟨u1, u1'⟩ := xib.cells
  go_wp2_with fail
  refine (HhVA.out _ hB).mono ?_
  rintro e v2 ⟨rfl, hb⟩
  clear u0 u0' u1 u1'
  replace xia := xia.on hb
  replace xib := xib.on hb
  replace hB := hB.trans (hb.mono hB.size)
  clear hb
  obtain ⟨u0, u0'⟩ := xia.cells
  obtain ⟨u1, u1'⟩ := xib.cells
  go_wp2_with fail
  refine (HhVB.out _ hB).mono ?_
  rintro e v3 ⟨rfl, hb⟩
  clear u0 u0' u1 u1'
  replace xia := xia.on hb
  replace xib := xib.on hb
  replace hB := hB.trans (hb.mono hB.size)
  clear hb
  obtain ⟨u0, u0'⟩ := xia.cells
  obtain ⟨u1, u1'⟩ := xib.cells
  go_wp2
  go_ret
  exact ⟨rfl, hB⟩

set_option maxRecDepth 100000 in
set_option maxHeartbeats 32000000 in
theorem WholeWrong_tf_b (bia : Bool) (aia : Option Addr) (cia : Nat) (lia : List Nat) (bib : Bool) (aib : Option Addr) (cib : Nat) (lib : List Nat) (w : World) (hia : Lim w (.slice aia lia.length cia) lia) (hib : Lim w (.slice aib lib.length cib) lib) (va : vld bia lia = true) (vb : vld bib lib = false) (la : lia.length ≤ 2000) (lb : 2000 < lib.length) :
    Calls Try.prog 11 #[.agg #[.bool bia, .slice aia lia.length cia], .agg #[.bool bib, .slice aib lib.length cib]] w fun e w' => e = .returned (.bool true) ∧ Below w.heap.size w w' := by
  have hVA := fun W (hW : Below w.heap.size w W) => Valid_any bia _ lia W (hia.below hW (Nat.le_refl _))
  rw [va] at hVA
  have hVB := fun W (hW : Below w.heap.size w W) => Valid_any bib _ lib W (hib.below hW (Nat.le_refl _))
  rw [vb] at hVB
  have la0 : ¬ (2000 : Int) < (lia.length : Int) := by omega
  have lb0 : (2000 : Int) < (lib.length : Int) := by omega
  obtain ⟨kia, hkia⟩ : ∃ n, n = lia.length := ⟨_, rfl⟩
  obtain ⟨kib, hkib⟩ : ∃ n, n = lib.length := ⟨_, rfl⟩
  rw [← hkia] at hVA
  rw [← hkib] at hVB
  rw [← hkia] at la0
  rw [← hkib] at lb0
  rw [← hkia, ← hkib]
  have HhVA := Lib.hid hVA
  have HhVB := Lib.hid hVB
  clear hVA hVB hkia hkib hia hib va vb la lb
  have hB := ((Below.refl w.heap.size w).alloc (by simp <;> omega) (.cells #[.bool bia, .slice aia kia cia] 26)).alloc (by simp <;> omega) (.cells #[.bool bib, .slice aib kib cib] 26)
  have xia := (Bx.new w (.bool bia) (.slice aia kia cia)).alloc (.cells #[.bool bib, .slice aib kib cib] 26)
  have xib := Bx.new (w.alloc (.cells #[.bool bia, .slice aia kia cia] 26)) (.bool bib) (.slice aib kib cib)
  simp only [World.size_alloc] at xib
  go_enter Try.func11, Try.ntmps11
  go_wp2_with fail
  refine (awake_any _).mono ?_
  rintro e v1 ⟨rfl, hb⟩
  replace xia := xia.on hb
  replace xib := xib.on hb
  replace hB := hB.trans (hb.mono hB.size)
  clear hb
  obtain ⟨u0, u0'⟩ := xia.cells
  obtain ⟨u1, u1'⟩ := xib.cells
  go_wp2_with fail
  refine (HhVA.out _ hB).mono ?_
  rintro e v2 ⟨rfl, hb⟩
  clear u0 u0' u1 u1'
  replace xia := xia.on hb
  replace xib := xib.on hb
  replace hB := hB.trans (hb.mono hB.size)
  clear hb
  obtain ⟨u0, u0'⟩ := xia.cells
  obtain ⟨u1, u1'⟩ := xib.cells
  go_wp2_with fail
  refine (HhVB.out _ hB).mono ?_
  rintro e v3 ⟨rfl, hb⟩
  clear u0 u0' u1 u1'
  replace xia := xia.on hb
  replace xib := xib.on hb
  replace hB := hB.trans (hb.mono hB.size)
  clear hb
  obtain ⟨u0, u0'⟩ := xia.cells
  obtain ⟨u1, u1'⟩ := xib.cells
  go_wp2
  go_ret
  exact ⟨rfl, hB⟩

set_option maxRecDepth 100000 in
set_option maxHeartbeats 32000000 in
theorem WholeWrong_tf_m (bia : Bool) (aia : Option Addr) (cia : Nat) (lia : List Nat) (bib : Bool) (aib : Option Addr) (cib : Nat) (lib : List Nat) (w : World) (hia : Lim w (.slice aia lia.length cia) lia) (hib : Lim w (.slice aib lib.length cib) lib) (va : vld bia lia = true) (vb : vld bib lib = false) (la : lia.length ≤ 2000) (lb : lib.length ≤ 2000) :
    Calls Try.prog 11 #[.agg #[.bool bia, .slice aia lia.length cia], .agg #[.bool bib, .slice aib lib.length cib]] w fun e w' => e = .returned (.bool true) ∧ Below w.heap.size w w' := by
  have hVA := fun W (hW : Below w.heap.size w W) => Valid_any bia _ lia W (hia.below hW (Nat.le_refl _))
  rw [va] at hVA
  have hVB := fun W (hW : Below w.heap.size w W) => Valid_any bib _ lib W (hib.below hW (Nat.le_refl _))
  rw [vb] at hVB
  have hv : (vld bia lia && vld bib lib) = false := by rw [va, vb]; rfl
  have hv2 : (vld bib lib && vld bia lia) = false := by rw [Bool.and_comm]; exact hv
  have hAdd := fun W (hW : Below w.heap.size w W) => Add_bad bia _ lia bib _ lib W (hia.below hW (Nat.le_refl _)) (hib.below hW (Nat.le_refl _)) hv
  have hSub := fun W (hW : Below w.heap.size w W) => Sub_bad bia _ lia bib _ lib W (hia.below hW (Nat.le_refl _)) (hib.below hW (Nat.le_refl _)) hv
  have hMul := fun W (hW : Below w.heap.size w W) => Mul_bad bia _ lia bib _ lib W (hia.below hW (Nat.le_refl _)) (hib.below hW (Nat.le_refl _)) hv
  have hDivMod := fun W (hW : Below w.heap.size w W) => DivMod_bad bia _ lia bib _ lib W (hia.below hW (Nat.le_refl _)) (hib.below hW (Nat.le_refl _)) hv
  have hGcd := fun W (hW : Below w.heap.size w W) => Gcd_bad bia _ lia bib _ lib W (hia.below hW (Nat.le_refl _)) (hib.below hW (Nat.le_refl _)) hv
  have hCmp := fun W (hW : Below w.heap.size w W) => Cmp_bad bia _ lia bib _ lib W (hia.below hW (Nat.le_refl _)) (hib.below hW (Nat.le_refl _)) hv
  have hCmp2 := fun W (hW : Below w.heap.size w W) => Cmp_bad bib _ lib bia _ lia W (hib.below hW (Nat.le_refl _)) (hia.below hW (Nat.le_refl _)) hv2
  clear hv hv2
  have la0 : ¬ (2000 : Int) < (lia.length : Int) := by omega
  have lb0 : ¬ (2000 : Int) < (lib.length : Int) := by omega
  obtain ⟨kia, hkia⟩ : ∃ n, n = lia.length := ⟨_, rfl⟩
  obtain ⟨kib, hkib⟩ : ∃ n, n = lib.length := ⟨_, rfl⟩
  rw [← hkia] at hVA
  rw [← hkib] at hVB
  rw [← hkia] at hAdd
  rw [← hkib] at hAdd
  rw [← hkia] at hSub
  rw [← hkib] at hSub
  rw [← hkia] at hMul
  rw [← hkib] at hMul
  rw [← hkia] at hDivMod
  rw [← hkib] at hDivMod
  rw [← hkia] at hGcd
  rw [← hkib] at hGcd
  rw [← hkia] at hCmp
  rw [← hkib] at hCmp
  rw [← hkia] at hCmp2
  rw [← hkib] at hCmp2
  rw [← hkia] at la0
  rw [← hkib] at lb0
  rw [← hkia, ← hkib]
  have HhVA := Lib.hid hVA
  have HhVB := Lib.hid hVB
  have HhAdd := Lib.hid hAdd
  have HhSub := Lib.hid hSub
  have HhMul := Lib.hid hMul
  have HhDivMod := Lib.hid hDivMod
  have HhGcd := Lib.hid hGcd
  have HhCmp := Lib.hid hCmp
  have HhCmp2 := Lib.hid hCmp2
  clear hVA hVB hAdd hSub hMul hDivMod hGcd hCmp hCmp2 hkia hkib hia hib va vb la lb
  have hB := ((Below.refl w.heap.size w).alloc (by simp <;> omega) (.cells #[.bool bia, .slice aia kia cia] 26)).alloc (by simp <;> omega) (.cells #[.bool bib, .slice aib kib cib] 26)
  have xia := (Bx.new w (.bool bia) (.slice aia kia cia)).alloc (.cells #[.bool bib, .slice aib kib cib] 26)
  have xib := Bx.new (w.alloc (.cells #[.bool bia, .slice aia kia cia] 26)) (.bool bib) (.slice aib kib cib)
  simp only [World.size_alloc] at xib
  go_enter Try.func11, Try.ntmps11
  go_wp2_with fail
  refine (awake_any _).mono ?_
  rintro e v1 ⟨rfl, hb⟩
  replace xia := xia.on hb
  replace xib := xib.on hb
  replace hB := hB.trans (hb.mono hB.size)
  clear hb
  obtain ⟨u0, u0'⟩ := xia.cells
  obtain ⟨u1, u1'⟩ := xib.cells
  go_wp2_with fail
  refine (HhVA.out _ hB).mono ?_
  rintro e v2 ⟨rfl, hb⟩
  clear u0 u0' u1 u1'
  replace xia := xia.on hb
  replace xib := xib.on hb
  replace hB := hB.trans (hb.mono hB.size)
  clear hb
  obtain ⟨u0, u0'⟩ := xia.cells
  obtain ⟨u1, u1'⟩ := xib.cells
  go_wp2_with fail
  refine (HhVB.out _ hB).mono ?_
  rintro e v3 ⟨rfl, hb⟩
  clear u0 u0' u1 u1'
  replace xia := xia.on hb
  replace xib := xib.on hb
  replace hB := hB.trans (hb.mono hB.size)
  clear hb
  obtain ⟨u0, u0'⟩ := xia.cells
  obtain ⟨u1, u1'⟩ := xib.cells
  go_wp2_with fail
  refine (HhAdd.out _ hB).mono ?_
  rintro e v4 ⟨rfl, hb⟩
  clear u0 u0' u1 u1'
  replace xia := xia.on hb
  replace xib := xib.on hb
  replace hB := hB.trans (hb.mono hB.size)
  clear hb
  have al := (Below.refl v4.heap.size v4).alloc (Nat.le_refl _) (.cells #[.bool false, .slice none 0 0] 26)
  have y1 := Bx.new v4 (.bool false) (.slice none 0 0)
  replace xia := xia.on al
  replace xib := xib.on al
  replace hB := hB.alloc hB.size (.cells #[.bool false, .slice none 0 0] 26)
  clear al
  obtain ⟨u0, u0'⟩ := xia.cells
  obtain ⟨u1, u1'⟩ := xib.cells
  go_wp2_with fail
  refine (HhSub.out _ hB).mono ?_
  rintro e v5 ⟨rfl, hb⟩
  clear u0 u0' u1 u1'
  replace xia := xia.on hb
  replace xib := xib.on hb
  replace y1 := y1.on hb
  replace hB := hB.trans (hb.mono hB.size)
  clear hb
  have al := (Below.refl v5.heap.size v5).alloc (Nat.le_refl _) (.cells #[.bool false, .slice none 0 0] 26)
  have y2 := Bx.new v5 (.bool false) (.slice none 0 0)
  replace xia := xia.on al
  replace xib := xib.on al
  replace y1 := y1.on al
  replace hB := hB.alloc hB.size (.cells #[.bool false, .slice none 0 0] 26)
  clear al
  obtain ⟨u0, u0'⟩ := xia.cells
  obtain ⟨u1, u1'⟩ := xib.cells
  go_wp2_with fail
  refine (HhMul.out _ hB).mono ?_
  rintro e v6 ⟨rfl, hb⟩
  clear u0 u0' u1 u1'
  replace xia := xia.on hb
  replace xib := xib.on hb
  replace y1 := y1.on hb
  replace y2 := y2.on hb
  replace hB := hB.trans (hb.mono hB.size)
  clear hb
  have al := (Below.refl v6.heap.size v6).alloc (Nat.le_refl _) (.cells #[.bool false, .slice none 0 0] 26)
  have y3 := Bx.new v6 (.bool false) (.slice none 0 0)
  replace xia := xia.on al
  replace xib := xib.on al
  replace y1 := y1.on al
  replace y2 := y2.on al
  replace hB := hB.alloc hB.size (.cells #[.bool false, .slice none 0 0] 26)
  clear al
  obtain ⟨u0, u0'⟩ := xia.cells
  obtain ⟨u1, u1'⟩ := xib.cells
  go_wp2_with fail
  refine (HhDivMod.out _ hB).mono ?_
  rintro e v7 ⟨rfl, hb⟩
  clear u0 u0' u1 u1'
  replace xia := xia.on hb
  replace xib := xib.on hb
  replace y1 := y1.on hb
  replace y2 := y2.on hb
  replace y3 := y3.on hb
  replace hB := hB.trans (hb.mono hB.size)
  clear hb
  have al := (Below.refl v7.heap.size v7).alloc (Nat.le_refl _) (.cells #[.bool false, .slice none 0 0] 26)
  have y4 := Bx.new v7 (.bool false) (.slice none 0 0)
  replace xia := xia.on al
  replace xib := xib.on al
  replace y1 := y1.on al
  replace y2 := y2.on al
  replace y3 := y3.on al
  replace hB := hB.alloc hB.size (.cells #[.bool false, .slice none 0 0] 26)
  clear al
  have al := (Below.refl (v7.alloc (.cells #[.bool false, .slice none 0 0] 26)).heap.size (v7.alloc (.cells #[.bool false, .slice none 0 0] 26))).alloc (Nat.le_refl _) (.cells #[.bool false, .slice none 0 0] 26)
  have y5 := Bx.new (v7.alloc (.cells #[.bool false, .slice none 0 0] 26)) (.bool false) (.slice none 0 0)
  simp only [World.size_alloc] at y5
  replace xia := xia.on al
  replace xib := xib.on al
  replace y1 := y1.on al
  replace y2 := y2.on al
  replace y3 := y3.on al
  replace y4 := y4.on al
  replace hB := hB.alloc hB.size (.cells #[.bool false, .slice none 0 0] 26)
  clear al
  obtain ⟨u0, u0'⟩ := xia.cells
  obtain ⟨u1, u1'⟩ := xib.cells
  go_wp2_with fail
  refine (HhGcd.out _ hB).mono ?_
  rintro e v8 ⟨rfl, hb⟩
  clear u0 u0' u1 u1'
  replace xia := xia.on hb
  replace xib := xib.on hb
  replace y1 := y1.on hb
  replace y2 := y2.on hb
  replace y3 := y3.on hb
  replace y4 := y4.on hb
  replace y5 := y5.on hb
  replace hB := hB.trans (hb.mono hB.size)
  clear hb
  have al := (Below.refl v8.heap.size v8).alloc (Nat.le_refl _) (.cells #[.bool false, .slice none 0 0] 26)
  have y6 := Bx.new v8 (.bool false) (.slice none 0 0)
  replace xia := xia.on al
  replace xib := xib.on al
  replace y1 := y1.on al
  replace y2 := y2.on al
  replace y3 := y3.on al
  replace y4 := y4.on al
  replace y5 := y5.on al
  replace hB := hB.alloc hB.size (.cells #[.bool false, .slice none 0 0] 26)
  clear al
  have al := (Below.refl (v8.alloc (.cells #[.bool false, .slice none 0 0] 26)).heap.size (v8.alloc (.cells #[.bool false, .slice none 0 0] 26))).alloc (Nat.le_refl _) (.cells #[.bool false, .slice none 0 0] 26)
  have y7 := Bx.new (v8.alloc (.cells #[.bool false, .slice none 0 0] 26)) (.bool false) (.slice none 0 0)
  simp only [World.size_alloc] at y7
  replace xia := xia.on al
  replace xib := xib.on al
  replace y1 := y1.on al
  replace y2 := y2.on al
  replace y3 := y3.on al
  replace y4 := y4.on al
  replace y5 := y5.on al
  replace y6 := y6.on al
  replace hB := hB.alloc hB.size (.cells #[.bool false, .slice none 0 0] 26)
  clear al
  obtain ⟨u0, u0'⟩ := xia.cells
  obtain ⟨u1, u1'⟩ := xib.cells
  go_wp2_with fail
  refine (HhCmp.out _ hB).mono ?_
  rintro e v9 ⟨rfl, hb⟩
  clear u0 u0' u1 u1'
  replace xia := xia.on hb
  replace xib := xib.on hb
  replace y1 := y1.on hb
  replace y2 := y2.on hb
  replace y3 := y3.on hb
  replace y4 := y4.on hb
  replace y5 := y5.on hb
  replace y6 := y6.on hb
  replace y7 := y7.on hb
  replace hB := hB.trans (hb.mono hB.size)
  clear hb
  obtain ⟨u0, u0'⟩ := xia.cells
  obtain ⟨u1, u1'⟩ := xib.cells
  go_wp2_with fail
  refine (HhCmp2.out _ hB).mono ?_
  rintro e v10 ⟨rfl, hb⟩
  clear u0 u0' u1 u1'
  replace xia := xia.on hb
  replace xib := xib.on hb
  replace y1 := y1.on hb
  replace y2 := y2.on hb
  replace y3 := y3.on hb
  replace y4 := y4.on hb
  replace y5 := y5.on hb
  replace y6 := y6.on hb
  replace y7 := y7.on hb
  replace hB := hB.trans (hb.mono hB.size)
  clear hb
  obtain ⟨u0, u0'⟩ := y1.cells
  obtain ⟨u1, u1'⟩ := y7.cells
  go_wp2_with fail
  refine (equal_any zeroW zeroW 0 (by simp [dig_zero]) _ (num_zero _) (num_zero _)).mono ?_
  rintro e v11 ⟨rfl, hb⟩
  clear u0 u0' u1 u1'
  replace xia := xia.on hb
  replace xib := xib.on hb
  replace y1 := y1.on hb
  replace y2 := y2.on hb
  replace y3 := y3.on hb
  replace y4 := y4.on hb
  replace y5 := y5.on hb
  replace y6 := y6.on hb
  replace y7 := y7.on hb
  replace hB := hB.trans (hb.mono hB.size)
  clear hb
  obtain ⟨u0, u0'⟩ := y2.cells
  obtain ⟨u1, u1'⟩ := y7.cells
  go_wp2_with fail
  refine (equal_any zeroW zeroW 0 (by simp [dig_zero]) _ (num_zero _) (num_zero _)).mono ?_
  rintro e v12 ⟨rfl, hb⟩
  clear u0 u0' u1 u1'
  replace xia := xia.on hb
  replace xib := xib.on hb
  replace y1 := y1.on hb
  replace y2 := y2.on hb
  replace y3 := y3.on hb
  replace y4 := y4.on hb
  replace y5 := y5.on hb
  replace y6 := y6.on hb
  replace y7 := y7.on hb
  replace hB := hB.trans (hb.mono hB.size)
  clear hb
  obtain ⟨u0, u0'⟩ := y3.cells
  obtain ⟨u1, u1'⟩ := y7.cells
  go_wp2_with fail
  refine (equal_any zeroW zeroW 0 (by simp [dig_zero]) _ (num_zero _) (num_zero _)).mono ?_
  rintro e v13 ⟨rfl, hb⟩
  clear u0 u0' u1 u1'
  replace xia := xia.on hb
  replace xib := xib.on hb
  replace y1 := y1.on hb
  replace y2 := y2.on hb
  replace y3 := y3.on hb
  replace y4 := y4.on hb
  replace y5 := y5.on hb
  replace y6 := y6.on hb
  replace y7 := y7.on hb
  replace hB := hB.trans (hb.mono hB.size)
  clear hb
  obtain ⟨u0, u0'⟩ := y4.cells
  obtain ⟨u1, u1'⟩ := y7.cells
  go_wp2_with fail
  refine (equal_any zeroW zeroW 0 (by simp [dig_zero]) _ (num_zero _) (num_zero _)).mono ?_
  rintro e v14 ⟨rfl, hb⟩
  clear u0 u0' u1 u1'
  replace xia := xia.on hb
  replace xib := xib.on hb
  replace y1 := y1.on hb
  replace y2 := y2.on hb
  replace y3 := y3.on hb
  replace y4 := y4.on hb
  replace y5 := y5.on hb
  replace y6 := y6.on hb
  replace y7 := y7.on hb
  replace hB := hB.trans (hb.mono hB.size)
  clear hb
  obtain ⟨u0, u0'⟩ := y5.cells
  obtain ⟨u1, u1'⟩ := y7.cells
  go_wp2_with fail
  refine (equal_any zeroW zeroW 0 (by simp [dig_zero]) _ (num_zero _) (num_zero _)).mono ?_
  rintro e v15 ⟨rfl, hb⟩
  clear u0 u0' u1 u1'
  replace xia := xia.on hb
  replace xib := xib.on hb
  replace y1 := y1.on hb
  replace y2 := y2.on hb
  replace y3 := y3.on hb
  replace y4 := y4.on hb
  replace y5 := y5.on hb
  replace y6 := y6.on hb
  replace y7 := y7.on hb
  replace hB := hB.trans (hb.mono hB.size)
  clear hb
  obtain ⟨u0, u0'⟩ := y6.cells
  obtain ⟨u1, u1'⟩ := y7.cells
  go_wp2_with fail
  refine (equal_any zeroW zeroW 0 (by simp [dig_zero]) _ (num_zero _) (num_zero _)).mono ?_
  rintro e v16 ⟨rfl, hb⟩
  clear u0 u0' u1 u1'
  replace xia := xia.on hb
  replace xib := xib.on hb
  replace y1 := y1.on hb
  replace y2 := y2.on hb
  replace y3 := y3.on hb
  replace y4 := y4.on hb
  replace y5 := y5.on hb
  replace y6 := y6.on hb
  replace y7 := y7.on hb
  replace hB := hB.trans (hb.mono hB.size)
  clear hb
  obtain ⟨u0, u0'⟩ := xia.cells
  obtain ⟨u1, u1'⟩ := xib.cells
  go_wp2_with fail
  refine (HhVA.out _ hB).mono ?_
  rintro e v17 ⟨rfl, hb⟩
  clear u0 u0' u1 u1'
  replace xia := xia.on hb
  replace xib := xib.on hb
  replace y1 := y1.on hb
  replace y2 := y2.on hb
  replace y3 := y3.on hb
  replace y4 := y4.on hb
  replace y5 := y5.on hb
  replace y6 := y6.on hb
  replace y7 := y7.on hb
  replace hB := hB.trans (hb.mono hB.size)
  clear hb
  obtain ⟨u0, u0'⟩ := xia.cells
  obtain ⟨u1, u1'⟩ := xib.cells
  go_wp2
  go_ret
  exact ⟨rfl, hB⟩

set_option maxRecDepth 100000 in
set_option maxHeartbeats 32000000 in
theorem WholeWrong_f_a (bia : Bool) (aia : Option Addr) (cia : Nat) (lia : List Nat) (bib : Bool) (aib : Option Addr) (cib : Nat) (lib : List Nat) (w : World) (hia : Lim w (.slice aia lia.length cia) lia) (_hib : Lim w (.slice aib lib.length cib) lib) (va : vld bia lia = false) (la : 2000 < lia.length) :
    Calls Try.prog 11 #[.agg #[.bool bia, .slice aia lia.length cia], .agg #[.bool bib, .slice aib lib.length cib]] w fun e w' => e = .returned (.bool true) ∧ Below w.heap.size w w' := by
  have hVA := fun W (hW : Below w.heap.size w W) => Valid_any bia _ lia W (hia.below hW (Nat.le_refl _))
  rw [va] at hVA
  have la0 : (2000 : Int) < (lia.length : Int) := by omega
  obtain ⟨kia, hkia⟩ : ∃ n, n = lia.length := ⟨_, rfl⟩
  obtain ⟨kib, hkib⟩ : ∃ n, n = lib.length := ⟨_, rfl⟩
  rw [← hkia] at hVA
  rw [← hkia] at la0
  rw [← hkia, ← hkib]
  have HhVA := Lib.hid hVA
  clear hVA hkia hkib hia _hib va la
  have hB := ((Below.refl w.heap.size w).alloc (by simp <;> omega) (.cells #[.bool bia, .slice aia kia cia] 26)).alloc (by simp <;> omega) (.cells #[.bool bib, .slice aib kib cib] 26)
  have xia := (Bx.new w (.bool bia) (.slice aia kia cia)).alloc (.cells #[.bool bib, .slice aib kib cib] 26)
  have xib := Bx.new (w.alloc (.cells #[.bool bia, .slice aia kia cia] 26)) (.bool bib) (.slice aib kib cib)
  simp only [World.size_alloc] at xib
  go_enter Try.func11, Try.ntmps11
  go_wp2_with fail
  refine (awake_any _).mono ?_
  rintro e v1 ⟨rfl, hb⟩
  replace xia := xia.on hb
  replace xib := xib.on hb
  replace hB := hB.trans (hb.mono hB.size)
  clear hb
  obtain ⟨u0, u0'⟩ := xia.cells
  obtain ⟨u1, u1'⟩ := xib.cells
  go_wp2_with fail
  refine (HhVA.out _ hB).mono ?_
  rintro e v2 ⟨rfl, hb⟩
  clear u0 u0' u1 u1'
  replace xia := xia.on hb
  replace xib := xib.on hb
  replace hB := hB.trans (hb.mono hB.size)
  clear hb
  obtain ⟨u0, u0'⟩ := xia.cells
  obtain ⟨u1, u1'⟩ := xib.cells
  go_wp2
  go_ret
  exact ⟨rfl, hB⟩

set_option maxRecDepth 100000 in
set_option maxHeartbeats 32000000 in
theorem WholeWrong_f_b (bia : Bool) (aia : Option Addr) (cia : Nat) (lia : List Nat) (bib : Bool) (aib : Option Addr) (cib : Nat) (lib : List Nat) (w : World) (hia : Lim w (.slice aia lia.length cia) lia) (_hib : Lim w (.slice aib lib.length cib) lib) (va : vld bia lia = false) (la : lia.length ≤ 2000) (lb : 2000 < lib.length) :
    Calls Try.prog 11 #[.agg #[.bool bia, .slice aia lia.length cia], .agg #[.bool bib, .slice aib lib.length cib]] w fun e w' => e = .returned (.bool true) ∧ Below w.heap.size w w' := by
  have hVA := fun W (hW : Below w.heap.size w W) => Valid_any bia _ lia W (hia.below hW (Nat.le_refl _))
  rw [va] at hVA
  have la0 : ¬ (2000 : Int) < (lia.length : Int) := by omega
  have lb0 : (2000 : Int) < (lib.length : Int) := by omega
  obtain ⟨kia, hkia⟩ : ∃ n, n = lia.length := ⟨_, rfl⟩
  obtain ⟨kib, hkib⟩ : ∃ n, n = lib.length := ⟨_, rfl⟩
  rw [← hkia] at hVA
  rw [← hkia] at la0
  rw [← hkib] at lb0
  rw [← hkia, ← hkib]
  have HhVA := Lib.hid hVA
  clear hVA hkia hkib hia _hib va la lb
  have hB := ((Below.refl w.heap.size w).alloc (by simp <;> omega) (.cells #[.bool bia, .slice aia kia cia] 26)).alloc (by simp <;> omega) (.cells #[.bool bib, .slice aib kib cib] 26)
  have xia := (Bx.new w (.bool bia) (.slice aia kia cia)).alloc (.cells #[.bool bib, .slice aib kib cib] 26)
  have xib := Bx.new (w.alloc (.cells #[.bool bia, .slice aia kia cia] 26)) (.bool bib) (.slice aib kib cib)
  simp only [World.size_alloc] at xib
  go_enter Try.func11, Try.ntmps11
  go_wp2_with fail
  refine (awake_any _).mono ?_
  rintro e v1 ⟨rfl, hb⟩
  replace xia := xia.on hb
  replace xib := xib.on hb
  replace hB := hB.trans (hb.mono hB.size)
  clear hb
  obtain ⟨u0, u0'⟩ := xia.cells
  obtain ⟨u1, u1'⟩ := xib.cells
  go_wp2_with fail
  refine (HhVA.out _ hB).mono ?_
  rintro e v2 ⟨rfl, hb⟩
  clear u0 u0' u1 u1'
  replace xia := xia.on hb
  replace xib := xib.on hb
  replace hB := hB.trans (hb.mono hB.size)
  clear hb
  obtain ⟨u0, u0'⟩ := xia.cells
  obtain ⟨u1, u1'⟩ := xib.cells
  go_wp2
  go_ret
  exact ⟨rfl, hB⟩

set_option maxRecDepth 100000 in
set_option maxHeartbeats 32000000 in
theorem WholeWrong_f_m (bia : Bool) (aia : Option Addr) (cia : Nat) (lia : List Nat) (bib : Bool) (aib : Option Addr) (cib : Nat) (lib : List Nat) (w : World) (hia : Lim w (.slice aia lia.length cia) lia) (hib : Lim w (.slice aib lib.length cib) lib) (va : vld bia lia = false) (la : lia.length ≤ 2000) (lb : lib.length ≤ 2000) :
    Calls Try.prog 11 #[.agg #[.bool bia, .slice aia lia.length cia], .agg #[.bool bib, .slice aib lib.length cib]] w fun e w' => e = .returned (.bool true) ∧ Below w.heap.size w w' := by
  have hVA := fun W (hW : Below w.heap.size w W) => Valid_any bia _ lia W (hia.below hW (Nat.le_refl _))
  rw [va] at hVA
  have hv : (vld bia lia && vld bib lib) = false := by rw [va]; rfl
  have hv2 : (vld bib lib && vld bia lia) = false := by rw [Bool.and_comm]; exact hv
  have hAdd := fun W (hW : Below w.heap.size w W) => Add_bad bia _ lia bib _ lib W (hia.below hW (Nat.le_refl _)) (hib.below hW (Nat.le_refl _)) hv
  have hSub := fun W (hW : Below w.heap.size w W) => Sub_bad bia _ lia bib _ lib W (hia.below hW (Nat.le_refl _)) (hib.below hW (Nat.le_refl _)) hv
  have hMul := fun W (hW : Below w.heap.size w W) => Mul_bad bia _ lia bib _ lib W (hia.below hW (Nat.le_refl _)) (hib.below hW (Nat.le_refl _)) hv
  have hDivMod := fun W (hW : Below w.heap.size w W) => DivMod_bad bia _ lia bib _ lib W (hia.below hW (Nat.le_refl _)) (hib.below hW (Nat.le_refl _)) hv
  have hGcd := fun W (hW : Below w.heap.size w W) => Gcd_bad bia _ lia bib _ lib W (hia.below hW (Nat.le_refl _)) (hib.below hW (Nat.le_refl _)) hv
  have hCmp := fun W (hW : Below w.heap.size w W) => Cmp_bad bia _ lia bib _ lib W (hia.below hW (Nat.le_refl _)) (hib.below hW (Nat.le_refl _)) hv
  have hCmp2 := fun W (hW : Below w.heap.size w W) => Cmp_bad bib _ lib bia _ lia W (hib.below hW (Nat.le_refl _)) (hia.below hW (Nat.le_refl _)) hv2
  have hInt := fun W (hW : Below w.heap.size w W) => Int_bad bia _ lia W (hia.below hW (Nat.le_refl _)) va
  have hText := fun W (hW : Below w.heap.size w W) => Text_bad bia _ lia W (hia.below hW (Nat.le_refl _)) va
  clear hv hv2
  have la0 : ¬ (2000 : Int) < (lia.length : Int) := by omega
  have lb0 : ¬ (2000 : Int) < (lib.length : Int) := by omega
  obtain ⟨kia, hkia⟩ : ∃ n, n = lia.length := ⟨_, rfl⟩
  obtain ⟨kib, hkib⟩ : ∃ n, n = lib.length := ⟨_, rfl⟩
  rw [← hkia] at hVA
  rw [← hkia] at hAdd
  rw [← hkib] at hAdd
  rw [← hkia] at hSub
  rw [← hkib] at hSub
  rw [← hkia] at hMul
  rw [← hkib] at hMul
  rw [← hkia] at hDivMod
  rw [← hkib] at hDivMod
  rw [← hkia] at hGcd
  rw [← hkib] at hGcd
  rw [← hkia] at hCmp
  rw [← hkib] at hCmp
  rw [← hkia] at hCmp2
  rw [← hkib] at hCmp2
  rw [← hkia] at hInt
  rw [← hkia] at hText
  rw [← hkia] at la0
  rw [← hkib] at lb0
  rw [← hkia, ← hkib]
  have HhVA := Lib.hid hVA
  have HhAdd := Lib.hid hAdd
  have HhSub := Lib.hid hSub
  have HhMul := Lib.hid hMul
  have HhDivMod := Lib.hid hDivMod
  have HhGcd := Lib.hid hGcd
  have HhCmp := Lib.hid hCmp
  have HhCmp2 := Lib.hid hCmp2
  have HhInt := Lib.hid hInt
  have HhText := Lib.hid hText
  clear hVA hAdd hSub hMul hDivMod hGcd hCmp hCmp2 hInt hText hkia hkib hia hib va la lb
  have hB := ((Below.refl w.heap.size w).alloc (by simp <;> omega) (.cells #[.bool bia, .slice aia kia cia] 26)).alloc (by simp <;> omega) (.cells #[.bool bib, .slice aib kib cib] 26)
  have xia := (Bx.new w (.bool bia) (.slice aia kia cia)).alloc (.cells #[.bool bib, .slice aib kib cib] 26)
  have xib := Bx.new (w.alloc (.cells #[.bool bia, .slice aia kia cia] 26)) (.bool bib) (.slice aib kib cib)
  simp only [World.size_alloc] at xib
  go_enter Try.func11, Try.ntmps11
  go_wp2_with fail
  refine (awake_any _).mono ?_
  rintro e v1 ⟨rfl, hb⟩
  replace xia := xia.on hb
  replace xib := xib.on hb
  replace hB := hB.trans (hb.mono hB.size)
  clear hb
  obtain ⟨u0, u0'⟩ := xia.cells
  obtain ⟨u1, u1'⟩ := xib.cells
  go_wp2_with fail
  refine (HhVA.out _ hB).mono ?_
  rintro e v2 ⟨rfl, hb⟩
  clear u0 u0' u1 u1'
  replace xia := xia.on hb
  replace xib := xib.on hb
  replace hB := hB.trans (hb.mono hB.size)
  clear hb
  obtain ⟨u0, u0'⟩ := xia.cells
  obtain ⟨u1, u1'⟩ := xib.cells
  go_wp2_with fail
  refine (HhAdd.out _ hB).mono ?_
  rintro e v3 ⟨rfl, hb⟩
  clear u0 u0' u1 u1'
  replace xia := xia.on hb
  replace xib := xib.on hb
  replace hB := hB.trans (hb.mono hB.size)
  clear hb
  have al := (Below.refl v3.heap.size v3).alloc (Nat.le_refl _) (.cells #[.bool false, .slice none 0 0] 26)
  have y1 := Bx.new v3 (.bool false) (.slice none 0 0)
  replace xia := xia.on al
  replace xib := xib.on al
  replace hB := hB.alloc hB.size (.cells #[.bool false, .slice none 0 0] 26)
  clear al
  obtain ⟨u0, u0'⟩ := xia.cells
  obtain ⟨u1, u1'⟩ := xib.cells
  go_wp2_with fail
  refine (HhSub.out _ hB).mono ?_
  rintro e v4 ⟨rfl, hb⟩
  clear u0 u0' u1 u1'
  replace xia := xia.on hb
  replace xib := xib.on hb
  replace y1 := y1.on hb
  replace hB := hB.trans (hb.mono hB.size)
  clear hb
  have al := (Below.refl v4.heap.size v4).alloc (Nat.le_refl _) (.cells #[.bool false, .slice none 0 0] 26)
  have y2 := Bx.new v4 (.bool false) (.slice none 0 0)
  replace xia := xia.on al
  replace xib := xib.on al
  replace y1 := y1.on al
  replace hB := hB.alloc hB.size (.cells #[.bool false, .slice none 0 0] 26)
  clear al
  obtain ⟨u0, u0'⟩ := xia.cells
  obtain ⟨u1, u1'⟩ := xib.cells
  go_wp2_with fail
  refine (HhMul.out _ hB).mono ?_
  rintro e v5 ⟨rfl, hb⟩
  clear u0 u0' u1 u1'
  replace xia := xia.on hb
  replace xib := xib.on hb
  replace y1 := y1.on hb
  replace y2 := y2.on hb
  replace hB := hB.trans (hb.mono hB.size)
  clear hb
  have al := (Below.refl v5.heap.size v5).alloc (Nat.le_refl _) (.cells #[.bool false, .slice none 0 0] 26)
  have y3 := Bx.new v5 (.bool false) (.slice none 0 0)
  replace xia := xia.on al
  replace xib := xib.on al
  replace y1 := y1.on al
  replace y2 := y2.on al
  replace hB := hB.alloc hB.size (.cells #[.bool false, .slice none 0 0] 26)
  clear al
  obtain ⟨u0, u0'⟩ := xia.cells
  obtain ⟨u1, u1'⟩ := xib.cells
  go_wp2_with fail
  refine (HhDivMod.out _ hB).mono ?_
  rintro e v6 ⟨rfl, hb⟩
  clear u0 u0' u1 u1'
  replace xia := xia.on hb
  replace xib := xib.on hb
  replace y1 := y1.on hb
  replace y2 := y2.on hb
  replace y3 := y3.on hb
  replace hB := hB.trans (hb.mono hB.size)
  clear hb
  have al := (Below.refl v6.heap.size v6).alloc (Nat.le_refl _) (.cells #[.bool false, .slice none 0 0] 26)
  have y4 := Bx.new v6 (.bool false) (.slice none 0 0)
  replace xia := xia.on al
  replace xib := xib.on al
  replace y1 := y1.on al
  replace y2 := y2.on al
  replace y3 := y3.on al
  replace hB := hB.alloc hB.size (.cells #[.bool false, .slice none 0 0] 26)
  clear al
  have al := (Below.refl (v6.alloc (.cells #[.bool false, .slice none 0 0] 26)).heap.size (v6.alloc (.cells #[.bool false, .slice none 0 0] 26))).alloc (Nat.le_refl _) (.cells #[.bool false, .slice none 0 0] 26)
  have y5 := Bx.new (v6.alloc (.cells #[.bool false, .slice none 0 0] 26)) (.bool false) (.slice none 0 0)
  simp only [World.size_alloc] at y5
  replace xia := xia.on al
  replace xib := xib.on al
  replace y1 := y1.on al
  replace y2 := y2.on al
  replace y3 := y3.on al
  replace y4 := y4.on al
  replace hB := hB.alloc hB.size (.cells #[.bool false, .slice none 0 0] 26)
  clear al
  obtain ⟨u0, u0'⟩ := xia.cells
  obtain ⟨u1, u1'⟩ := xib.cells
  go_wp2_with fail
  refine (HhGcd.out _ hB).mono ?_
  rintro e v7 ⟨rfl, hb⟩
  clear u0 u0' u1 u1'
  replace xia := xia.on hb
  replace xib := xib.on hb
  replace y1 := y1.on hb
  replace y2 := y2.on hb
  replace y3 := y3.on hb
  replace y4 := y4.on hb
  replace y5 := y5.on hb
  replace hB := hB.trans (hb.mono hB.size)
  clear hb
  have al := (Below.refl v7.heap.size v7).alloc (Nat.le_refl _) (.cells #[.bool false, .slice none 0 0] 26)
  have y6 := Bx.new v7 (.bool false) (.slice none 0 0)
  replace xia := xia.on al
  replace xib := xib.on al
  replace y1 := y1.on al
  replace y2 := y2.on al
  replace y3 := y3.on al
  replace y4 := y4.on al
  replace y5 := y5.on al
  replace hB := hB.alloc hB.size (.cells #[.bool false, .slice none 0 0] 26)
  clear al
  have al := (Below.refl (v7.alloc (.cells #[.bool false, .slice none 0 0] 26)).heap.size (v7.alloc (.cells #[.bool false, .slice none 0 0] 26))).alloc (Nat.le_refl _) (.cells #[.bool false, .slice none 0 0] 26)
  have y7 := Bx.new (v7.alloc (.cells #[.bool false, .slice none 0 0] 26)) (.bool false) (.slice none 0 0)
  simp only [World.size_alloc] at y7
  replace xia := xia.on al
  replace xib := xib.on al
  replace y1 := y1.on al
  replace y2 := y2.on al
  replace y3 := y3.on al
  replace y4 := y4.on al
  replace y5 := y5.on al
  replace y6 := y6.on al
  replace hB := hB.alloc hB.size (.cells #[.bool false, .slice none 0 0] 26)
  clear al
  obtain ⟨u0, u0'⟩ := xia.cells
  obtain ⟨u1, u1'⟩ := xib.cells
  go_wp2_with fail
  refine (HhCmp.out _ hB).mono ?_
  rintro e v8 ⟨rfl, hb⟩
  clear u0 u0' u1 u1'
  replace xia := xia.on hb
  replace xib := xib.on hb
  replace y1 := y1.on hb
  replace y2 := y2.on hb
  replace y3 := y3.on hb
  replace y4 := y4.on hb
  replace y5 := y5.on hb
  replace y6 := y6.on hb
  replace y7 := y7.on hb
  replace hB := hB.trans (hb.mono hB.size)
  clear hb
  obtain ⟨u0, u0'⟩ := xia.cells
  obtain ⟨u1, u1'⟩ := xib.cells
  go_wp2_with fail
  refine (HhCmp2.out _ hB).mono ?_
  rintro e v9 ⟨rfl, hb⟩
  clear u0 u0' u1 u1'
  replace xia := xia.on hb
  replace xib := xib.on hb
  replace y1 := y1.on hb
  replace y2 := y2.on hb
  replace y3 := y3.on hb
  replace y4 := y4.on hb
  replace y5 := y5.on hb
  replace y6 := y6.on hb
  replace y7 := y7.on hb
  replace hB := hB.trans (hb.mono hB.size)
  clear hb
  obtain ⟨u0, u0'⟩ := y1.cells
  obtain ⟨u1, u1'⟩ := y7.cells
  go_wp2_with fail
  refine (equal_any zeroW zeroW 0 (by simp [dig_zero]) _ (num_zero _) (num_zero _)).mono ?_
  rintro e v10 ⟨rfl, hb⟩
  clear u0 u0' u1 u1'
  replace xia := xia.on hb
  replace xib := xib.on hb
  replace y1 := y1.on hb
  replace y2 := y2.on hb
  replace y3 := y3.on hb
  replace y4 := y4.on hb
  replace y5 := y5.on hb
  replace y6 := y6.on hb
  replace y7 := y7.on hb
  replace hB := hB.trans (hb.mono hB.size)
  clear hb
  obtain ⟨u0, u0'⟩ := y2.cells
  obtain ⟨u1, u1'⟩ := y7.cells
  go_wp2_with fail
  refine (equal_any zeroW zeroW 0 (by simp [dig_zero]) _ (num_zero _) (num_zero _)).mono ?_
  rintro e v11 ⟨rfl, hb⟩
  clear u0 u0' u1 u1'
  replace xia := xia.on hb
  replace xib := xib.on hb
  replace y1 := y1.on hb
  replace y2 := y2.on hb
  replace y3 := y3.on hb
  replace y4 := y4.on hb
  replace y5 := y5.on hb
  replace y6 := y6.on hb
  replace y7 := y7.on hb
  replace hB := hB.trans (hb.mono hB.size)
  clear hb
  obtain ⟨u0, u0'⟩ := y3.cells
  obtain ⟨u1, u1'⟩ := y7.cells
  go_wp2_with fail
  refine (equal_any zeroW zeroW 0 (by simp [dig_zero]) _ (num_zero _) (num_zero _)).mono ?_
  rintro e v12 ⟨rfl, hb⟩
  clear u0 u0' u1 u1'
  replace xia := xia.on hb
  replace xib := xib.on hb
  replace y1 := y1.on hb
  replace y2 := y2.on hb
  replace y3 := y3.on hb
  replace y4 := y4.on hb
  replace y5 := y5.on hb
  replace y6 := y6.on hb
  replace y7 := y7.on hb
  replace hB := hB.trans (hb.mono hB.size)
  clear hb
  obtain ⟨u0, u0'⟩ := y4.cells
  obtain ⟨u1, u1'⟩ := y7.cells
  go_wp2_with fail
  refine (equal_any zeroW zeroW 0 (by simp [dig_zero]) _ (num_zero _) (num_zero _)).mono ?_
  rintro e v13 ⟨rfl, hb⟩
  clear u0 u0' u1 u1'
  replace xia := xia.on hb
  replace xib := xib.on hb
  replace y1 := y1.on hb
  replace y2 := y2.on hb
  replace y3 := y3.on hb
  replace y4 := y4.on hb
  replace y5 := y5.on hb
  replace y6 := y6.on hb
  replace y7 := y7.on hb
  replace hB := hB.trans (hb.mono hB.size)
  clear hb
  obtain ⟨u0, u0'⟩ := y5.cells
  obtain ⟨u1, u1'⟩ := y7.cells
  go_wp2_with fail
  refine (equal_any zeroW zeroW 0 (by simp [dig_zero]) _ (num_zero _) (num_zero _)).mono ?_
  rintro e v14 ⟨rfl, hb⟩
  clear u0 u0' u1 u1'
  replace xia := xia.on hb
  replace xib := xib.on hb
  replace y1 := y1.on hb
  replace y2 := y2.on hb
  replace y3 := y3.on hb
  replace y4 := y4.on hb
  replace y5 := y5.on hb
  replace y6 := y6.on hb
  replace y7 := y7.on hb
  replace hB := hB.trans (hb.mono hB.size)
  clear hb
  obtain ⟨u0, u0'⟩ := y6.cells
  obtain ⟨u1, u1'⟩ := y7.cells
  go_wp2_with fail
  refine (equal_any zeroW zeroW 0 (by simp [dig_zero]) _ (num_zero _) (num_zero _)).mono ?_
  rintro e v15 ⟨rfl, hb⟩
  clear u0 u0' u1 u1'
  replace xia := xia.on hb
  replace xib := xib.on hb
  replace y1 := y1.on hb
  replace y2 := y2.on hb
  replace y3 := y3.on hb
  replace y4 := y4.on hb
  replace y5 := y5.on hb
  replace y6 := y6.on hb
  replace y7 := y7.on hb
  replace hB := hB.trans (hb.mono hB.size)
  clear hb
  obtain ⟨u0, u0'⟩ := xia.cells
  obtain ⟨u1, u1'⟩ := xib.cells
  go_wp2_with fail
  refine (HhVA.out _ hB).mono ?_
  rintro e v16 ⟨rfl, hb⟩
  clear u0 u0' u1 u1'
  replace xia := xia.on hb
  replace xib := xib.on hb
  replace y1 := y1.on hb
  replace y2 := y2.on hb
  replace y3 := y3.on hb
  replace y4 := y4.on hb
  replace y5 := y5.on hb
  replace y6 := y6.on hb
  replace y7 := y7.on hb
  replace hB := hB.trans (hb.mono hB.size)
  clear hb
  obtain ⟨u0, u0'⟩ := xia.cells
  obtain ⟨u1, u1'⟩ := xib.cells
  go_wp2_with fail
  refine (HhInt.out _ hB).mono ?_
  rintro e v17 ⟨rfl, hb⟩
  clear u0 u0' u1 u1'
  replace xia := xia.on hb
  replace xib := xib.on hb
  replace y1 := y1.on hb
  replace y2 := y2.on hb
  replace y3 := y3.on hb
  replace y4 := y4.on hb
  replace y5 := y5.on hb
  replace y6 := y6.on hb
  replace y7 := y7.on hb
  replace hB := hB.trans (hb.mono hB.size)
  clear hb
  obtain ⟨u0, u0'⟩ := xia.cells
  obtain ⟨u1, u1'⟩ := xib.cells
  go_wp2_with fail
  refine (HhText.out _ hB).mono ?_
  rintro e v18 ⟨rfl, hb⟩
  clear u0 u0' u1 u1'
  replace xia := xia.on hb
  replace xib := xib.on hb
  replace y1 := y1.on hb
  replace y2 := y2.on hb
  replace y3 := y3.on hb
  replace y4 := y4.on hb
  replace y5 := y5.on hb
  replace y6 := y6.on hb
  replace y7 := y7.on hb
  replace hB := hB.trans (hb.mono hB.size)
  clear hb
  obtain ⟨u0, u0'⟩ := xia.cells
  obtain ⟨u1, u1'⟩ := xib.cells
  go_wp2
  go_ret
  exact ⟨rfl, hB⟩

end Go.Proofs.Ytodmbklednehbaa
