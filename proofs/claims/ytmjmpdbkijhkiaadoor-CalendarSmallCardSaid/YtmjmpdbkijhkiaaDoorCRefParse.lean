/-
The reference's 'value' and 'Parse'.
-/
import Derived.Test.YtmjmpdbkijhkiaaDoorCParse
import Derived.Test.YtmjmpdbkijhkiaaDoorCTells
namespace Go.Proofs.YtmjmpdbkijhkiaaDoor
open Go.RowKit

/-- What 'value' answers. -/
def valR (l : List UInt8) : Int := if l.all CalT.isD = true then CalT.val l else -1

theorem valR_no {l : List UInt8} {k : Nat} (h : k < l.length) (hd : CalT.isD l[k] = false) : valR l = -1 := by
  unfold valR
  rw [if_neg]
  intro ha
  have := List.all_eq_true.1 ha l[k] (List.getElem_mem h)
  rw [hd] at this
  cases this

theorem valR_all {l : List UInt8} (h : ∀ i (hi : i < l.length), CalT.isD l[i] = true) : valR l = CalT.val l := by
  unfold valR
  rw [if_pos]
  rw [List.all_eq_true]
  intro c hc
  obtain ⟨i, hi, rfl⟩ := List.mem_iff_getElem.1 hc
  exact h i hi

set_option maxHeartbeats 1000000 in
theorem value_any (s : ByteArray) (hs : s.size ≤ 10) : Pure 46 #[.string s] (.int .i64 (valR s.data.toList)) := by
  intro w
  go_enter Tryd.func46, Tryd.ntmps46
  go_wp2
  go_loop [3, 4] (fun v3 v4 => ∃ k : Nat, k ≤ s.size ∧ v4 = .int .i64 (k : Int) ∧ (∀ i (h : i < s.data.toList.length), i < k → CalT.isD s.data.toList[i] = true) ∧ v3 = .int .i64 (CalT.val (s.data.toList.take k))) (fun _ v4 => s.size - (intOf v4).toNat)
  case atStart => exact ⟨0, Nat.zero_le _, rfl, fun i h1 h2 => absurd h2 (Nat.not_lt_zero _), rfl⟩
  case round =>
    obtain ⟨k, hk, rfl, hdig, rfl⟩ := hrel
    have hvb := CalT.val_take_bd s.data.toList k (by omega) hdig
    have HD := Lib.hid hdig
    clear hdig
    obtain ⟨V, HV⟩ : ∃ V, Hid (V = CalT.val (s.data.toList.take k)) := ⟨_, Lib.hid rfl⟩
    rw [← HV.out] at hvb ⊢
    by_cases hlt : k < s.size
    · by_cases h48 : (s[k].toNat : Int) < 48
      · have HR := Lib.hid (valR_no (l := s.data.toList) (k := k) (by simpa using hlt) (isD_no (c := s[k]) (by omega)))
        go_wp2
        go_ret
        exact ⟨by rw [HR.out]; rfl, rfl⟩
      · by_cases h57 : (57 : Int) < (s[k].toNat : Int)
        · have HR := Lib.hid (valR_no (l := s.data.toList) (k := k) (by simpa using hlt) (isD_no (c := s[k]) (by omega)))
          go_wp2
          go_ret
          exact ⟨by rw [HR.out]; rfl, rfl⟩
        · have h48' : (48 : Int) ≤ (s[k].toNat : Int) := by omega
          have h57' : (s[k].toNat : Int) ≤ 57 := by omega
          go_wp2
          go_round
          case rel =>
            refine ⟨k + 1, by omega, by go_num, fun i h1 h2 => ?_, ?_⟩
            · by_cases e : i = k
              · subst e; exact isD_yes h48' h57'
              · exact HD.out i h1 (by omega)
            · have e : CalT.val (s.data.toList.take (k + 1)) = V * 10 + ((s[k].toNat : Int) - 48) := by
                rw [List.take_succ_eq_append_getElem (by simpa using hlt), CalT.val_snoc, ← HV.out]; rfl
              rw [e]
              congr 1
              omega
          case measure => simp [intOf]; omega
    · obtain rfl : k = s.size := by omega
      have HR := Lib.hid (valR_all (l := s.data.toList) (fun i hi => HD.out i hi (by simpa using hi)))
      have HT := Lib.hid (show s.data.toList.take s.size = s.data.toList from List.take_of_length_le (by simp))
      go_wp2
      go_ret
      exact ⟨by rw [HR.out, HV.out, HT.out]; rfl, rfl⟩

theorem refParse_short (s : ByteArray) (h : ((s.size : Int) == 10) = false) : Pure 25 #[.string s] (.tuple #[.int .i64 0, .int .i64 2]) := by
  intro w
  have h' : ((s.size : Int) != 10) = true := by simp [bne, h]
  go_enter Tryd.func25, Tryd.ntmps25
  go_wp2
  go_ret2
  exact ⟨rfl, rfl⟩

theorem Pure.quiet {f : Nat} {args : Array Value} {v : Value} (h : Pure f args v) (w : World) (n : Nat) : Calls Tryd.prog f args (w.drewN n) fun e w'' => e = .returned v ∧ ∃ m, w'' = w.drewN m :=
  Calls.quiet_of_same ((h.go _).mono fun _ _ ⟨he, hw⟩ => ⟨he, hw.symm⟩)

theorem St.drewN {w0 w : World} (h : St w0 w) (n : Nat) : St w0 (w.drewN n) := ⟨h.lens, below_drewN h.below n⟩

set_option maxRecDepth 100000 in
set_option maxHeartbeats 2000000 in
theorem refParse_noday (s : ByteArray) (h : s.size = 10) (y m d : Int)
    (H1 : Pure 46 #[.string (s.extract 0 4)] (.int .i64 y)) (H2 : Pure 46 #[.string (s.extract 5 7)] (.int .i64 m)) (H3 : Pure 46 #[.string (s.extract 8 s.size)] (.int .i64 d))
    (HD : Pure 16 #[.int .i64 y, .int .i64 m, .int .i64 d] (.tuple #[.int .i64 0, .int .i64 2])) : Ret 25 #[.string s] (.tuple #[.int .i64 0, .int .i64 2]) := by
  intro w0 w hS
  have HS := Lib.hid hS
  have h' : ((s.size : Int) != 10) = false := by simp [h]
  have hsz : 10 ≤ s.size := by omega
  clear hS h
  go_enter Tryd.func25, Tryd.ntmps25
  go_wp2
  go_quiet (first
    | (go_at_call 46; with_reducible exact H1.quiet _ _)
    | (go_at_call 46; with_reducible exact H2.quiet _ _)
    | (go_at_call 46; with_reducible exact H3.quiet _ _)
    | (go_at_call 16; with_reducible exact HD.quiet _ _))
  go_wp2
  go_ret2
  exact ⟨rfl, HS.out.drewN _⟩

set_option maxRecDepth 100000 in
set_option maxHeartbeats 2000000 in
theorem refParse_other (s : ByteArray) (h : s.size = 10) (y m d x : Int)
    (H1 : Pure 46 #[.string (s.extract 0 4)] (.int .i64 y)) (H2 : Pure 46 #[.string (s.extract 5 7)] (.int .i64 m)) (H3 : Pure 46 #[.string (s.extract 8 s.size)] (.int .i64 d))
    (HD : Pure 16 #[.int .i64 y, .int .i64 m, .int .i64 d] (.tuple #[.int .i64 x, .int .i64 0])) (t : ByteArray) (HT : Ret 41 #[.int .i64 x] (.string t)) (hne : t ≠ s) : Ret 25 #[.string s] (.tuple #[.int .i64 0, .int .i64 2]) := by
  intro w0 w hS
  have HS := Lib.hid hS
  have h' : ((s.size : Int) != 10) = false := by simp [h]
  have hsz : 10 ≤ s.size := by omega
  have hn1 : (!t.toList == s.toList) = true := by simp [str_ne hne]
  clear hne
  clear hS h
  go_enter Tryd.func25, Tryd.ntmps25
  go_wp2
  go_quiet (first
    | (go_at_call 46; with_reducible exact H1.quiet _ _)
    | (go_at_call 46; with_reducible exact H2.quiet _ _)
    | (go_at_call 46; with_reducible exact H3.quiet _ _)
    | (go_at_call 16; with_reducible exact HD.quiet _ _))
  go_wp2_with (go_at_call 41; ((with_reducible refine (HT.go (HS.out.drewN _)).mono ?_); rintro e w3 ⟨rfl, hs⟩; have HS3 := Lib.hid hs; clear hs))
  go_ret2
  exact ⟨rfl, HS3.out⟩

set_option maxRecDepth 100000 in
set_option maxHeartbeats 2000000 in
theorem refParse_same (s : ByteArray) (h : s.size = 10) (y m d x : Int)
    (H1 : Pure 46 #[.string (s.extract 0 4)] (.int .i64 y)) (H2 : Pure 46 #[.string (s.extract 5 7)] (.int .i64 m)) (H3 : Pure 46 #[.string (s.extract 8 s.size)] (.int .i64 d))
    (HD : Pure 16 #[.int .i64 y, .int .i64 m, .int .i64 d] (.tuple #[.int .i64 x, .int .i64 0])) (HT : Ret 41 #[.int .i64 x] (.string s)) : Ret 25 #[.string s] (.tuple #[.int .i64 x, .int .i64 0]) := by
  intro w0 w hS
  have HS := Lib.hid hS
  have h' : ((s.size : Int) != 10) = false := by simp [h]
  have hsz : 10 ≤ s.size := by omega
  clear hS h
  go_enter Tryd.func25, Tryd.ntmps25
  go_wp2
  go_quiet (first
    | (go_at_call 46; with_reducible exact H1.quiet _ _)
    | (go_at_call 46; with_reducible exact H2.quiet _ _)
    | (go_at_call 46; with_reducible exact H3.quiet _ _)
    | (go_at_call 16; with_reducible exact HD.quiet _ _))
  go_wp2_with (go_at_call 41; ((with_reducible refine (HT.go (HS.out.drewN _)).mono ?_); rintro e w3 ⟨rfl, hs⟩; have HS3 := Lib.hid hs; clear hs))
  go_ret2
  exact ⟨rfl, HS3.out⟩

theorem valR_four {a b c e : UInt8} (ha : CalT.isD a = true) (hb : CalT.isD b = true) (hc : CalT.isD c = true) (he : CalT.isD e = true) : valR [a, b, c, e] = ((((a.toNat : Int) - 48) * 10 + ((b.toNat : Int) - 48)) * 10 + ((c.toNat : Int) - 48)) * 10 + ((e.toNat : Int) - 48) := by
  unfold valR
  rw [if_pos (by simp [ha, hb, hc, he])]
  simp [CalT.val]
theorem valR_two {a b : UInt8} (ha : CalT.isD a = true) (hb : CalT.isD b = true) : valR [a, b] = ((a.toNat : Int) - 48) * 10 + ((b.toNat : Int) - 48) := by
  unfold valR
  rw [if_pos (by simp [ha, hb])]
  simp [CalT.val]

theorem vals_txt (y m d : Int) (hy : 0 ≤ y ∧ y < 10000) (hm : 0 ≤ m ∧ m < 100) (hd : 0 ≤ d ∧ d < 100) :
    valR ((strOfNums (txtI y m d)).extract 0 4).data.toList = y ∧ valR ((strOfNums (txtI y m d)).extract 5 7).data.toList = m ∧ valR ((strOfNums (txtI y m d)).extract 8 (strOfNums (txtI y m d)).size).data.toList = d := by
  rw [Lib.extract_data, Lib.extract_data, Lib.extract_data, txt_size, txt_bytes]
  have f := valR_four (dg_isD (q := y / 10 / 10 / 10 % 10) (by omega) (by omega)) (dg_isD (q := y / 10 / 10 % 10) (by omega) (by omega)) (dg_isD (q := y / 10 % 10) (by omega) (by omega)) (dg_isD (q := y % 10) (by omega) (by omega))
  have g := valR_two (dg_isD (q := m / 10 % 10) (by omega) (by omega)) (dg_isD (q := m % 10) (by omega) (by omega))
  have k := valR_two (dg_isD (q := d / 10 % 10) (by omega) (by omega)) (dg_isD (q := d % 10) (by omega) (by omega))
  rw [dg_toNat (by omega) (by omega), dg_toNat (by omega) (by omega), dg_toNat (by omega) (by omega), dg_toNat (by omega) (by omega)] at f
  rw [dg_toNat (by omega) (by omega), dg_toNat (by omega) (by omega)] at g k
  refine ⟨?_, ?_, ?_⟩
  · show valR [_, _, _, _] = y
    rw [f]; omega
  · show valR [_, _] = m
    rw [g]; omega
  · show valR [_, _] = d
    rw [k]; omega

theorem ext_size (s : ByteArray) (a b : Nat) : (s.extract a b).size ≤ s.size := by
  simp
  omega

theorem refparse_is {s : ByteArray} {day : Int} (h0 : 0 ≤ day) (h1 : day < 65536) (h : s = txt day) : Ret 25 #[.string s] (.tuple #[.int .i64 day, .int .i64 0]) := by
  obtain ⟨m0, m1, _, _⟩ := Cal.mon_spec h0 h1
  have hy := Cal.yr_bd m0 (show Cal.mon day ≤ 2159 by omega)
  have hm := Cal.mo_bd (Cal.mon day)
  have hd := Cal.dom_bd h0 h1
  obtain ⟨n0, n1, n2⟩ := vals_txt (Cal.yr (Cal.mon day)) (Cal.mo (Cal.mon day)) (Cal.dom day) (by omega) (by omega) (by omega)
  subst h
  have hb := Cal.date_back h0 h1
  have hD : Pure 16 #[.int .i64 (Cal.yr (Cal.mon day)), .int .i64 (Cal.mo (Cal.mon day)), .int .i64 (Cal.dom day)] (.tuple #[.int .i64 day, .int .i64 0]) := fun w => by
    have := refDay_yes _ _ _ hb.1 w
    rwa [hb.2] at this
  have z := txt_ten day
  have v1 := value_any ((txt day).extract 0 4) (by have := ext_size (txt day) 0 4; omega)
  have v2 := value_any ((txt day).extract 5 7) (by have := ext_size (txt day) 5 7; omega)
  have v3 := value_any ((txt day).extract 8 (txt day).size) (by have := ext_size (txt day) 8 (txt day).size; omega)
  rw [show valR ((txt day).extract 0 4).data.toList = Cal.yr (Cal.mon day) from n0] at v1
  rw [show valR ((txt day).extract 5 7).data.toList = Cal.mo (Cal.mon day) from n1] at v2
  rw [show valR ((txt day).extract 8 (txt day).size).data.toList = Cal.dom day from n2] at v3
  exact refParse_same (txt day) z _ _ _ day v1 v2 v3 hD (fun _ _ hS => refText_yes day h0 h1 hS)

theorem refparse_not {s : ByteArray} (h : ∀ day : Int, 0 ≤ day → day < 65536 → s ≠ txt day) : Ret 25 #[.string s] (.tuple #[.int .i64 0, .int .i64 2]) := by
  by_cases h10 : s.size = 10
  · have v1 := value_any (s.extract 0 4) (by have := ext_size s 0 4; omega)
    have v2 := value_any (s.extract 5 7) (by have := ext_size s 5 7; omega)
    have v3 := value_any (s.extract 8 s.size) (by have := ext_size s 8 s.size; omega)
    generalize valR (s.extract 0 4).data.toList = y at v1
    generalize valR (s.extract 5 7).data.toList = m at v2
    generalize valR (s.extract 8 s.size).data.toList = d at v3
    rcases Bool.eq_false_or_eq_true (Cal.dateB y m d) with hd | hd
    · have bd := Cal.date_bd hd
      exact refParse_other s h10 _ _ _ _ v1 v2 v3 (fun w => refDay_yes _ _ _ hd w) _ (fun _ _ hS => refText_yes _ bd.2.2.2.2.2.2.1 bd.2.2.2.2.2.2.2 hS) (fun e => h _ bd.2.2.2.2.2.2.1 bd.2.2.2.2.2.2.2 e.symm)
    · exact refParse_noday s h10 _ _ _ v1 v2 v3 (fun w => refDay_no _ _ _ hd w)
  · exact (refParse_short s (by simp; omega)).ret

/-- Both answer alike. -/
theorem parse_both (s : ByteArray) : ∃ x e : Int, Ret 24 #[.string s] (.tuple #[.int .i64 x, .int .i64 e]) ∧ Ret 25 #[.string s] (.tuple #[.int .i64 x, .int .i64 e]) := by
  by_cases h : ∃ day : Int, 0 ≤ day ∧ day < 65536 ∧ s = txt day
  · obtain ⟨day, h0, h1, h⟩ := h
    exact ⟨_, _, parse_is h0 h1 h, refparse_is h0 h1 h⟩
  · have h' : ∀ day : Int, 0 ≤ day → day < 65536 → s ≠ txt day := fun day h0 h1 e => h ⟨day, h0, h1, e⟩
    exact ⟨_, _, parse_not h', refparse_not h'⟩

theorem Reads_short (s : ByteArray) (hs : s.size ≤ 100) (x e : Int) (H1 : Ret 24 #[.string s] (.tuple #[.int .i64 x, .int .i64 e])) (H2 : Ret 25 #[.string s] (.tuple #[.int .i64 x, .int .i64 e])) : Ret 6 #[.string s] (.bool true) := by
  intro w0 w hS
  have HS := Lib.hid hS
  clear hS
  go_enter Tryd.func6, Tryd.ntmps6
  go_wp2_with (first
    | (go_at_call 24; ((with_reducible refine (H1.go HS.out).mono ?_); rintro e w' ⟨rfl, hs⟩; replace HS := Lib.hid hs; clear hs))
    | (go_at_call 25; ((with_reducible refine (H2.go HS.out).mono ?_); rintro e w' ⟨rfl, hs⟩; replace HS := Lib.hid hs; clear hs))
    | (go_at_call 21; ((with_reducible refine (r_awake.go HS.out).mono ?_); rintro e w' ⟨rfl, hs⟩; replace HS := Lib.hid hs; clear hs)))
  go_ret
  exact ⟨rfl, HS.out⟩

theorem Reads_long (s : ByteArray) (hs : 100 < s.size) : Ret 6 #[.string s] (.bool true) := by
  intro w0 w hS
  have HS := Lib.hid hS
  clear hS
  go_enter Tryd.func6, Tryd.ntmps6
  go_wp2_with (go_at_call 21; ((with_reducible refine (r_awake.go HS.out).mono ?_); rintro e w' ⟨rfl, hs⟩; replace HS := Lib.hid hs; clear hs))
  go_ret
  exact ⟨rfl, HS.out⟩

theorem r_reads (s : ByteArray) : Ret 6 #[.string s] (.bool true) := by
  rcases Nat.lt_or_ge 100 s.size with h | h
  · exact Reads_long s h
  · obtain ⟨x, e, h1, h2⟩ := parse_both s
    exact Reads_short s h x e h1 h2

end Go.Proofs.YtmjmpdbkijhkiaaDoor
