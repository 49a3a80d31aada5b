/-
'SpanCounts': how many days the union, the meet and the differences have.
-/
import Derived.Test.YtppihnliimbakaaNumbers
namespace Go.Proofs.Ytppihnliimbakaa
open Go.RowKit Go.Shelf Sp

theorem memB_comb {op : Bool → Bool → Bool} (h0 : op false false = false) {a b : L} (ha : IsSet a) (hb : IsSet b) (d : Int) : memB (comb op a b) d = op (memB a d) (memB b d) := by
  rw [Bool.eq_iff_iff, memB_iff, (comb_spec op h0 ha hb).2]
theorem days_comb {op : Bool → Bool → Bool} (h0 : op false false = false) {a b : L} (ha : IsSet a) (hb : IsSet b) : beforeN (comb op a b) 65536 = cnt (fun d => op (memB a d) (memB b d)) 65536 := by
  rw [beforeN_all (comb_spec op h0 ha hb).1 (Int.le_refl _)]
  exact cnt_congr fun d _ _ => memB_comb h0 ha hb d
theorem cnt_zero {p : Int → Bool} : ∀ {n : Nat}, cnt p n = 0 → ∀ d : Int, 0 ≤ d → d < n → p d = false := by
  intro n
  induction n with
  | zero => intro _ d h0 h1; omega
  | succ n ih =>
    intro h d h0 h1
    simp only [cnt] at h
    have := cnt_le p n
    split at h
    · omega
    · rename_i hp
      rcases Int.lt_or_le d n with hd | hd
      · exact ih (by omega) d h0 hd
      · rw [show d = (n : Int) from by omega]; simpa using hp

structure CountFacts (a b : L) : Prop where
  c1 : beforeN (comb opU a b) 65536 + beforeN (comb opM a b) 65536 = beforeN a 65536 + beforeN b 65536
  c2 : beforeN (comb opD a b) 65536 + beforeN (comb opD b a) 65536 + beforeN (comb opM a b) 65536 = beforeN (comb opU a b) 65536
  w1 : withinB (comb opM a b) a = true
  w2 : withinB a (comb opU a b) = true
  w3 : withinB a b = (((comb opD a b).length : Int) == 0)
  w4 : withinB b a = (beforeN (comb opM a b) 65536 == beforeN b 65536)

theorem count_facts {a b : L} (ha : IsSet a) (hb : IsSet b) : CountFacts a b := by
  have eU := days_comb (op := opU) rfl ha hb
  have eM := days_comb (op := opM) rfl ha hb
  have eD := days_comb (op := opD) rfl ha hb
  have eE := days_comb (op := opD) rfl hb ha
  have eA := beforeN_all ha (Int.le_refl 65536)
  have eB := beforeN_all hb (Int.le_refl 65536)
  have k1 := cnt_or_and (memB a) (memB b) 65536
  have k2 := cnt_minus (memB a) (memB b) 65536
  have k3 := cnt_minus (memB b) (memB a) 65536
  have k4 : cnt (fun d => memB b d && memB a d) 65536 = cnt (fun d => memB a d && memB b d) 65536 := cnt_congr fun d _ _ => Bool.and_comm _ _
  simp only [opU] at eU
  simp only [opM] at eM
  simp only [opD] at eD eE
  obtain ⟨n, hn⟩ : ∃ n : Nat, n = 65536 := ⟨_, rfl⟩
  rw [← hn] at eU eM eD eE k1 k2 k3 k4
  replace eA : beforeN a 65536 = cnt (memB a) n := by rw [hn]; exact eA
  replace eB : beforeN b 65536 = cnt (memB b) n := by rw [hn]; exact eB
  refine ⟨by omega, by omega, ?_, ?_, ?_, ?_⟩
  · rw [withinB_iff]
    intro d hd
    rw [← memB_iff, memB_comb rfl ha hb] at hd
    rw [← memB_iff]
    cases h1 : memB a d <;> simp_all [opM]
  · rw [withinB_iff]
    intro d hd
    rw [← memB_iff] at hd
    rw [← memB_iff, memB_comb rfl ha hb, hd]
    simp [opU]
  · rw [Bool.eq_iff_iff, withinB_iff]
    constructor
    · intro h
      have : comb opD a b = [] := by
        refine set_ext (comb_spec opD rfl ha hb).1 trivial fun d => ?_
        rw [← memB_iff, memB_comb rfl ha hb]
        constructor
        · intro hx
          have := h d
          rw [← memB_iff, ← memB_iff] at this
          simp only [opD, Bool.and_eq_true, Bool.not_eq_true'] at hx
          rw [this hx.1] at hx
          cases hx.2
        · intro hx; exact absurd hx (mem_nil d)
      simp [this]
    · intro h d hd
      have hn : comb opD a b = [] := List.eq_nil_of_length_eq_zero (by simpa using h)
      rw [← memB_iff] at hd ⊢
      have := memB_comb (op := opD) rfl ha hb d
      rw [hn, memB_nil, hd] at this
      cases hq : memB b d
      · rw [hq] at this; cases this
      · rfl
  · rw [Bool.eq_iff_iff, withinB_iff]
    constructor
    · intro h
      have : cnt (fun d => memB b d && !memB a d) n = 0 := cnt_none fun d _ _ => by
        have := h d
        rw [← memB_iff, ← memB_iff] at this
        cases hq : memB b d
        · rfl
        · rw [this hq]; rfl
      simp only [beq_iff_eq]
      omega
    · intro h d hd
      simp only [beq_iff_eq] at h
      have h0 : cnt (fun d => memB b d && !memB a d) n = 0 := by omega
      have h1 := cnt_zero h0 d (by have := hb.lo hd; omega) (by have := hb.hi hd; omega)
      rw [← memB_iff] at hd ⊢
      rw [hd] at h1
      simpa using h1

theorem Within_is {va vb : Value} {a b : L} {r : Bool} {w : World} (ha : IsSet a) (hb : IsSet b) (hr : withinB a b = r) (hla : Spn w va a) (hlb : Spn w vb b) : Calls Try.prog 23 #[va, vb] w (Says (.bool r) w) := by
  have := Within_yes va vb a b ha hb w hla hlb
  rwa [hr] at this

set_option maxRecDepth 100000 in
set_option maxHeartbeats 40000000 in
theorem SpanCounts_walk (s t : Value) (m n : List Nat) (w : World) (hm : Lm m) (h : Lim w s m) (hn : Lm n) (g : Lim w t n) :
    Calls Try.prog 6 #[s, t] w (Says (.bool true) w) := by
  have HB := Lib.hid (Below.refl w.heap.size w)
  have HM := Lib.hid hm
  have HN := Lib.hid hn
  have HI := Lib.hid h
  have HJ := Lib.hid g
  obtain ⟨aa, cc, rfl, -⟩ := h
  obtain ⟨bb, dd, rfl, -⟩ := g
  clear hm hn
  go_enter Try.func6, Try.ntmps6
  go_wp2_with fail
  refine (awake_any _).mono ?_
  rintro e w1 ⟨rfl, hb⟩
  replace HB := Lib.hid (HB.out.trans (hb.mono HB.out.size))
  clear hb
  go_wp2_with fail
  refine (Built_any _ _ HM.out w1 (HI.out.below HB.out (Nat.le_refl _))).mono ?_
  rintro e w2 ⟨⟨va, la, rfl, hset, h60, hown⟩, hb⟩
  replace HB := Lib.hid (HB.out.trans (hb.mono HB.out.size))
  have HSa := Lib.hid hset
  have Ha := Lib.hid (Spn.of_owns hown (by omega))
  have HLa := Lib.hid h60
  clear hset hown h60
  clear hb
  obtain ⟨aa, ca, rfl⟩ := spn_slice Ha.out
  go_wp2_with fail
  refine (Built_any _ _ HN.out w2 (HJ.out.below HB.out (Nat.le_refl _))).mono ?_
  rintro e w3 ⟨⟨vb, lb, rfl, hset, h60, hown⟩, hb⟩
  replace Ha := Lib.hid (Ha.out.below hb (Nat.le_refl _))
  replace HB := Lib.hid (HB.out.trans (hb.mono HB.out.size))
  have HSb := Lib.hid hset
  have Hb := Lib.hid (Spn.of_owns hown (by omega))
  have HLb := Lib.hid h60
  clear hset hown h60
  clear hb
  obtain ⟨ab, cb, rfl⟩ := spn_slice Hb.out
  have hcf := count_facts HSa.out HSb.out
  have hbU := beforeN_bd (comb_spec opU rfl HSa.out HSb.out).1 65536
  have hbM := beforeN_bd (comb_spec opM rfl HSa.out HSb.out).1 65536
  have hbD := beforeN_bd (comb_spec opD rfl HSa.out HSb.out).1 65536
  have hbE := beforeN_bd (comb_spec opD rfl HSb.out HSa.out).1 65536
  have hbA := beforeN_bd HSa.out 65536
  have hbB := beforeN_bd HSb.out 65536
  have cU := Union_ok (a := la) (b := lb)
  have cM := Meet_ok (a := la) (b := lb)
  have cD := Minus_ok (a := la) (b := lb)
  have cE := Minus_ok (a := lb) (b := la)
  have sU := (comb_spec opU rfl HSa.out HSb.out).1
  have sM := (comb_spec opM rfl HSa.out HSb.out).1
  have sD := (comb_spec opD rfl HSa.out HSb.out).1
  have sE := (comb_spec opD rfl HSb.out HSa.out).1
  obtain ⟨f1, f2, f3, f4, f5, f6⟩ := hcf
  obtain ⟨lu, hu⟩ : ∃ x, x = comb opU la lb := ⟨_, rfl⟩
  obtain ⟨lv, hv⟩ : ∃ x, x = comb opM la lb := ⟨_, rfl⟩
  obtain ⟨lw, hw⟩ : ∃ x, x = comb opD la lb := ⟨_, rfl⟩
  obtain ⟨lx, hx⟩ : ∃ x, x = comb opD lb la := ⟨_, rfl⟩
  rw [← hu] at f1 f2 f4 hbU sU cU
  rw [← hv] at f1 f2 f3 f6 hbM sM cM
  rw [← hw] at f2 f5 hbD sD cD
  rw [← hx] at f2 hbE sE cE
  obtain ⟨U, hU⟩ : ∃ x, beforeN lu 65536 = x := ⟨_, rfl⟩
  obtain ⟨M, hM⟩ : ∃ x, beforeN lv 65536 = x := ⟨_, rfl⟩
  obtain ⟨D, hD⟩ : ∃ x, beforeN lw 65536 = x := ⟨_, rfl⟩
  obtain ⟨E, hE⟩ : ∃ x, beforeN lx 65536 = x := ⟨_, rfl⟩
  obtain ⟨A, hA⟩ : ∃ x, beforeN la 65536 = x := ⟨_, rfl⟩
  obtain ⟨B, hB⟩ : ∃ x, beforeN lb 65536 = x := ⟨_, rfl⟩
  rw [hU] at f1 f2 hbU
  rw [hM] at f1 f2 f6 hbM
  rw [hD] at f2 hbD
  rw [hE] at f2 hbE
  rw [hA] at f1 hbA
  rw [hB] at f1 f6 hbB
  have HU := Lib.hid hU
  have HMM := Lib.hid hM
  have HD := Lib.hid hD
  have HE := Lib.hid hE
  have HA := Lib.hid hA
  have HBB := Lib.hid hB
  have SU := Lib.hid sU
  have SM := Lib.hid sM
  have SD := Lib.hid sD
  have SE := Lib.hid sE
  have CU := Lib.hid cU
  have CM := Lib.hid cM
  have CD := Lib.hid cD
  have CE := Lib.hid cE
  have F3 := Lib.hid f3
  have F4 := Lib.hid f4
  have F5 := Lib.hid f5
  have F6 := Lib.hid f6
  clear hu hv hw hx hU hM hD hE hA hB sU sM sD sE cU cM cD cE f3 f4 f5 f6
  obtain ⟨u0, u1⟩ := hbU
  obtain ⟨v0, v1⟩ := hbM
  obtain ⟨x0, x1⟩ := hbD
  obtain ⟨y0, y1⟩ := hbE
  obtain ⟨z0, z1⟩ := hbA
  obtain ⟨t0, t1⟩ := hbB
  have q1 : (U + M != A + B) = false := by simp; omega
  have q2 : (D + E + M != U) = false := by simp; omega
  clear f1 f2
  go_wp2_with fail
  refine (CU.out _ _ HSa.out HSb.out _ Ha.out Hb.out).mono ?_
  rintro e w4 ⟨⟨vu, rfl, hown⟩, hb⟩
  replace Ha := Lib.hid (Ha.out.below hb (Nat.le_refl _))
  replace Hb := Lib.hid (Hb.out.below hb (Nat.le_refl _))
  replace HB := Lib.hid (HB.out.trans (hb.mono HB.out.size))
  have Hu := Lib.hid (Spn.of_owns hown (by have := SU.out.length; omega))
  clear hown
  clear hb
  obtain ⟨au, cu, rfl⟩ := spn_slice Hu.out
  go_wp2_with fail
  refine (CM.out _ _ HSa.out HSb.out _ Ha.out Hb.out).mono ?_
  rintro e w5 ⟨⟨vv, rfl, hown⟩, hb⟩
  replace Ha := Lib.hid (Ha.out.below hb (Nat.le_refl _))
  replace Hb := Lib.hid (Hb.out.below hb (Nat.le_refl _))
  replace Hu := Lib.hid (Hu.out.below hb (Nat.le_refl _))
  replace HB := Lib.hid (HB.out.trans (hb.mono HB.out.size))
  have Hv := Lib.hid (Spn.of_owns hown (by have := SM.out.length; omega))
  clear hown
  clear hb
  obtain ⟨av, cv, rfl⟩ := spn_slice Hv.out
  go_wp2_with fail
  refine (CD.out _ _ HSa.out HSb.out _ Ha.out Hb.out).mono ?_
  rintro e w6 ⟨⟨vw, rfl, hown⟩, hb⟩
  replace Ha := Lib.hid (Ha.out.below hb (Nat.le_refl _))
  replace Hb := Lib.hid (Hb.out.below hb (Nat.le_refl _))
  replace Hu := Lib.hid (Hu.out.below hb (Nat.le_refl _))
  replace Hv := Lib.hid (Hv.out.below hb (Nat.le_refl _))
  replace HB := Lib.hid (HB.out.trans (hb.mono HB.out.size))
  have Hw := Lib.hid (Spn.of_owns hown (by have := SD.out.length; omega))
  clear hown
  clear hb
  obtain ⟨aw, cw, rfl⟩ := spn_slice Hw.out
  go_wp2_with fail
  refine (CE.out _ _ HSb.out HSa.out _ Hb.out Ha.out).mono ?_
  rintro e w7 ⟨⟨vx, rfl, hown⟩, hb⟩
  replace Ha := Lib.hid (Ha.out.below hb (Nat.le_refl _))
  replace Hb := Lib.hid (Hb.out.below hb (Nat.le_refl _))
  replace Hu := Lib.hid (Hu.out.below hb (Nat.le_refl _))
  replace Hv := Lib.hid (Hv.out.below hb (Nat.le_refl _))
  replace Hw := Lib.hid (Hw.out.below hb (Nat.le_refl _))
  replace HB := Lib.hid (HB.out.trans (hb.mono HB.out.size))
  have Hx := Lib.hid (Spn.of_owns hown (by have := SE.out.length; omega))
  clear hown
  clear hb
  obtain ⟨ax, cx, rfl⟩ := spn_slice Hx.out
  go_wp2_with fail
  refine (Days_is SU.out HU.out Hu.out).mono ?_
  rintro e w8 ⟨rfl, hb⟩
  replace Ha := Lib.hid (Ha.out.below hb (Nat.le_refl _))
  replace Hb := Lib.hid (Hb.out.below hb (Nat.le_refl _))
  replace Hu := Lib.hid (Hu.out.below hb (Nat.le_refl _))
  replace Hv := Lib.hid (Hv.out.below hb (Nat.le_refl _))
  replace Hw := Lib.hid (Hw.out.below hb (Nat.le_refl _))
  replace Hx := Lib.hid (Hx.out.below hb (Nat.le_refl _))
  replace HB := Lib.hid (HB.out.trans (hb.mono HB.out.size))
  clear hb
  go_wp2_with fail
  refine (Days_is SM.out HMM.out Hv.out).mono ?_
  rintro e w9 ⟨rfl, hb⟩
  replace Ha := Lib.hid (Ha.out.below hb (Nat.le_refl _))
  replace Hb := Lib.hid (Hb.out.below hb (Nat.le_refl _))
  replace Hu := Lib.hid (Hu.out.below hb (Nat.le_refl _))
  replace Hv := Lib.hid (Hv.out.below hb (Nat.le_refl _))
  replace Hw := Lib.hid (Hw.out.below hb (Nat.le_refl _))
  replace Hx := Lib.hid (Hx.out.below hb (Nat.le_refl _))
  replace HB := Lib.hid (HB.out.trans (hb.mono HB.out.size))
  clear hb
  go_wp2_with fail
  refine (Days_is HSa.out HA.out Ha.out).mono ?_
  rintro e w10 ⟨rfl, hb⟩
  replace Ha := Lib.hid (Ha.out.below hb (Nat.le_refl _))
  replace Hb := Lib.hid (Hb.out.below hb (Nat.le_refl _))
  replace Hu := Lib.hid (Hu.out.below hb (Nat.le_refl _))
  replace Hv := Lib.hid (Hv.out.below hb (Nat.le_refl _))
  replace Hw := Lib.hid (Hw.out.below hb (Nat.le_refl _))
  replace Hx := Lib.hid (Hx.out.below hb (Nat.le_refl _))
  replace HB := Lib.hid (HB.out.trans (hb.mono HB.out.size))
  clear hb
  go_wp2_with fail
  refine (Days_is HSb.out HBB.out Hb.out).mono ?_
  rintro e w11 ⟨rfl, hb⟩
  replace Ha := Lib.hid (Ha.out.below hb (Nat.le_refl _))
  replace Hb := Lib.hid (Hb.out.below hb (Nat.le_refl _))
  replace Hu := Lib.hid (Hu.out.below hb (Nat.le_refl _))
  replace Hv := Lib.hid (Hv.out.below hb (Nat.le_refl _))
  replace Hw := Lib.hid (Hw.out.below hb (Nat.le_refl _))
  replace Hx := Lib.hid (Hx.out.below hb (Nat.le_refl _))
  replace HB := Lib.hid (HB.out.trans (hb.mono HB.out.size))
  clear hb
  go_wp2_with fail
  refine (Days_is SD.out HD.out Hw.out).mono ?_
  rintro e w12 ⟨rfl, hb⟩
  replace Ha := Lib.hid (Ha.out.below hb (Nat.le_refl _))
  replace Hb := Lib.hid (Hb.out.below hb (Nat.le_refl _))
  replace Hu := Lib.hid (Hu.out.below hb (Nat.le_refl _))
  replace Hv := Lib.hid (Hv.out.below hb (Nat.le_refl _))
  replace Hw := Lib.hid (Hw.out.below hb (Nat.le_refl _))
  replace Hx := Lib.hid (Hx.out.below hb (Nat.le_refl _))
  replace HB := Lib.hid (HB.out.trans (hb.mono HB.out.size))
  clear hb
  go_wp2_with fail
  refine (Days_is SE.out HE.out Hx.out).mono ?_
  rintro e w13 ⟨rfl, hb⟩
  replace Ha := Lib.hid (Ha.out.below hb (Nat.le_refl _))
  replace Hb := Lib.hid (Hb.out.below hb (Nat.le_refl _))
  replace Hu := Lib.hid (Hu.out.below hb (Nat.le_refl _))
  replace Hv := Lib.hid (Hv.out.below hb (Nat.le_refl _))
  replace Hw := Lib.hid (Hw.out.below hb (Nat.le_refl _))
  replace Hx := Lib.hid (Hx.out.below hb (Nat.le_refl _))
  replace HB := Lib.hid (HB.out.trans (hb.mono HB.out.size))
  clear hb
  go_wp2_with fail
  refine (Days_is SM.out HMM.out Hv.out).mono ?_
  rintro e w14 ⟨rfl, hb⟩
  replace Ha := Lib.hid (Ha.out.below hb (Nat.le_refl _))
  replace Hb := Lib.hid (Hb.out.below hb (Nat.le_refl _))
  replace Hu := Lib.hid (Hu.out.below hb (Nat.le_refl _))
  replace Hv := Lib.hid (Hv.out.below hb (Nat.le_refl _))
  replace Hw := Lib.hid (Hw.out.below hb (Nat.le_refl _))
  replace Hx := Lib.hid (Hx.out.below hb (Nat.le_refl _))
  replace HB := Lib.hid (HB.out.trans (hb.mono HB.out.size))
  clear hb
  go_wp2_with fail
  refine (Days_is SU.out HU.out Hu.out).mono ?_
  rintro e w15 ⟨rfl, hb⟩
  replace Ha := Lib.hid (Ha.out.below hb (Nat.le_refl _))
  replace Hb := Lib.hid (Hb.out.below hb (Nat.le_refl _))
  replace Hu := Lib.hid (Hu.out.below hb (Nat.le_refl _))
  replace Hv := Lib.hid (Hv.out.below hb (Nat.le_refl _))
  replace Hw := Lib.hid (Hw.out.below hb (Nat.le_refl _))
  replace Hx := Lib.hid (Hx.out.below hb (Nat.le_refl _))
  replace HB := Lib.hid (HB.out.trans (hb.mono HB.out.size))
  clear hb
  go_wp2_with fail
  refine (Within_is SM.out HSa.out F3.out Hv.out Ha.out).mono ?_
  rintro e w16 ⟨rfl, hb⟩
  replace Ha := Lib.hid (Ha.out.below hb (Nat.le_refl _))
  replace Hb := Lib.hid (Hb.out.below hb (Nat.le_refl _))
  replace Hu := Lib.hid (Hu.out.below hb (Nat.le_refl _))
  replace Hv := Lib.hid (Hv.out.below hb (Nat.le_refl _))
  replace Hw := Lib.hid (Hw.out.below hb (Nat.le_refl _))
  replace Hx := Lib.hid (Hx.out.below hb (Nat.le_refl _))
  replace HB := Lib.hid (HB.out.trans (hb.mono HB.out.size))
  clear hb
  go_wp2_with fail
  refine (Within_is HSa.out SU.out F4.out Ha.out Hu.out).mono ?_
  rintro e w17 ⟨rfl, hb⟩
  replace Ha := Lib.hid (Ha.out.below hb (Nat.le_refl _))
  replace Hb := Lib.hid (Hb.out.below hb (Nat.le_refl _))
  replace Hu := Lib.hid (Hu.out.below hb (Nat.le_refl _))
  replace Hv := Lib.hid (Hv.out.below hb (Nat.le_refl _))
  replace Hw := Lib.hid (Hw.out.below hb (Nat.le_refl _))
  replace Hx := Lib.hid (Hx.out.below hb (Nat.le_refl _))
  replace HB := Lib.hid (HB.out.trans (hb.mono HB.out.size))
  clear hb
  obtain ⟨r1, h1⟩ : ∃ r, (((lw.length : Int) == 0)) = r := ⟨_, rfl⟩
  obtain ⟨r2, h2⟩ : ∃ r, (M == B) = r := ⟨_, rfl⟩
  rw [h1] at F5
  rw [h2] at F6
  have e1 : ∀ r : Bool, (r == r) = true := fun r => by simp
  go_wp2_with fail
  refine (Within_is HSa.out HSb.out F5.out Ha.out Hb.out).mono ?_
  rintro e w18 ⟨rfl, hb⟩
  replace Ha := Lib.hid (Ha.out.below hb (Nat.le_refl _))
  replace Hb := Lib.hid (Hb.out.below hb (Nat.le_refl _))
  replace Hu := Lib.hid (Hu.out.below hb (Nat.le_refl _))
  replace Hv := Lib.hid (Hv.out.below hb (Nat.le_refl _))
  replace Hw := Lib.hid (Hw.out.below hb (Nat.le_refl _))
  replace Hx := Lib.hid (Hx.out.below hb (Nat.le_refl _))
  replace HB := Lib.hid (HB.out.trans (hb.mono HB.out.size))
  clear hb
  go_wp2_with fail
  refine (Within_is HSb.out HSa.out F6.out Hb.out Ha.out).mono ?_
  rintro e w19 ⟨rfl, hb⟩
  replace Ha := Lib.hid (Ha.out.below hb (Nat.le_refl _))
  replace Hb := Lib.hid (Hb.out.below hb (Nat.le_refl _))
  replace Hu := Lib.hid (Hu.out.below hb (Nat.le_refl _))
  replace Hv := Lib.hid (Hv.out.below hb (Nat.le_refl _))
  replace Hw := Lib.hid (Hw.out.below hb (Nat.le_refl _))
  replace Hx := Lib.hid (Hx.out.below hb (Nat.le_refl _))
  replace HB := Lib.hid (HB.out.trans (hb.mono HB.out.size))
  clear hb
  go_wp2_with fail
  refine (Days_is SM.out HMM.out Hv.out).mono ?_
  rintro e w20 ⟨rfl, hb⟩
  replace Ha := Lib.hid (Ha.out.below hb (Nat.le_refl _))
  replace Hb := Lib.hid (Hb.out.below hb (Nat.le_refl _))
  replace Hu := Lib.hid (Hu.out.below hb (Nat.le_refl _))
  replace Hv := Lib.hid (Hv.out.below hb (Nat.le_refl _))
  replace Hw := Lib.hid (Hw.out.below hb (Nat.le_refl _))
  replace Hx := Lib.hid (Hx.out.below hb (Nat.le_refl _))
  replace HB := Lib.hid (HB.out.trans (hb.mono HB.out.size))
  clear hb
  go_wp2_with fail
  refine (Days_is HSb.out HBB.out Hb.out).mono ?_
  rintro e w21 ⟨rfl, hb⟩
  replace Ha := Lib.hid (Ha.out.below hb (Nat.le_refl _))
  replace Hb := Lib.hid (Hb.out.below hb (Nat.le_refl _))
  replace Hu := Lib.hid (Hu.out.below hb (Nat.le_refl _))
  replace Hv := Lib.hid (Hv.out.below hb (Nat.le_refl _))
  replace Hw := Lib.hid (Hw.out.below hb (Nat.le_refl _))
  replace Hx := Lib.hid (Hx.out.below hb (Nat.le_refl _))
  replace HB := Lib.hid (HB.out.trans (hb.mono HB.out.size))
  clear hb
  go_wp2
  go_ret
  exact ⟨rfl, HB.out⟩

end Go.Proofs.Ytppihnliimbakaa
