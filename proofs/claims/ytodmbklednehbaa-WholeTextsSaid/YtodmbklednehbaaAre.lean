/-
'areDigits'.
-/
import Derived.Test.YtodmbklednehbaaText
import Derived.Outline
namespace Go.Proofs.Ytodmbklednehbaa
open Go.RowKit Wh

def isDig (c : UInt8) : Bool := decide (48 ≤ c.toNat) && decide (c.toNat ≤ 57)

def AreRel (s : ByteArray) (v6 : Value) : Prop := ∃ k : Nat, k ≤ s.size ∧ v6 = .int .i64 (k : Int) ∧ ∀ j (h : j < s.size), j < k → isDig s[j] = true

theorem all_of (s : ByteArray) (h : ∀ j (h : j < s.size), isDig s[j] = true) : s.data.toList.all isDig = true := by
  rw [List.all_eq_true]
  intro c hc
  obtain ⟨j, hj, rfl⟩ := List.mem_iff_getElem.1 hc
  exact h j (by simpa using hj)
theorem not_all_of (s : ByteArray) (j : Nat) (h : j < s.size) (hd : isDig s[j] = false) : s.data.toList.all isDig = false := by
  rw [List.all_eq_false]
  exact ⟨s[j], List.getElem_mem (l := s.data.toList) (by simpa using h), by simp [hd]⟩

set_option maxRecDepth 100000 in
set_option maxHeartbeats 1000000 in
theorem areDigits_any (s : ByteArray) (hs : s.size ≤ maxLen) (w : World) :
    Calls Try.prog 50 #[.string s] w fun e w' => e = .returned (.bool (s.data.toList.all isDig && decide (0 < s.size))) ∧ w = w' := by
  unfold maxLen at hs
  obtain ⟨r, hr⟩ : ∃ r, r = (s.data.toList.all isDig && decide (0 < s.size)) := ⟨_, rfl⟩
  rw [← hr]
  have HR := Lib.hid hr
  clear hr
  go_enter Try.func50, Try.ntmps50
  go_wp2
  go_loop [6] (fun v6 => AreRel s v6) (fun v6 => s.size - (intOf v6).toNat)
  case atStart => exact ⟨0, Nat.zero_le _, rfl, fun j _ h => absurd h (Nat.not_lt_zero _)⟩
  case round =>
    obtain ⟨k, hk, rfl, hz⟩ := hrel
    have HZ := Lib.hid hz
    clear hz
    rcases Nat.lt_or_ge k s.size with hlt | hge
    · rcases Nat.lt_or_ge s[k].toNat 48 with h1 | h1
      · have HX := Lib.hid (not_all_of s k hlt (by simp [isDig]; omega))
        have h1' : (s[k].toNat : Int) < 48 := by omega
        go_wp2
        go_ret
        exact ⟨by rw [HR.out, HX.out]; rfl, rfl⟩
      · rcases Nat.lt_or_ge 57 s[k].toNat with h2 | h2
        · have HX := Lib.hid (not_all_of s k hlt (by simp [isDig]; omega))
          have h1' : ¬ (s[k].toNat : Int) < 48 := by omega
          have h2' : (57 : Int) < (s[k].toNat : Int) := by omega
          go_wp2
          go_ret
          exact ⟨by rw [HR.out, HX.out]; rfl, rfl⟩
        · have HX := Lib.hid (show isDig s[k] = true by simp [isDig]; omega)
          have h1' : ¬ (s[k].toNat : Int) < 48 := by omega
          have h2' : ¬ (57 : Int) < (s[k].toNat : Int) := by omega
          go_wp2
          case roundEnd =>
            refine ⟨⟨k + 1, by omega, by go_num, fun j h hj => ?_⟩, by simp [intOf]; omega⟩
            by_cases e : j = k
            · subst e; exact HX.out
            · exact HZ.out j h (by omega)
    · have HX := Lib.hid (all_of s fun j h => HZ.out j h (by omega))
      go_wp2
      go_ret
      exact ⟨by rw [HR.out, HX.out]; rfl, rfl⟩

set_option maxRecDepth 100000 in
set_option maxHeartbeats 1000000 in
theorem Parse_007 (w : World) :
    Calls Try.prog 23 #[.string ⟨#[48, 48, 55]⟩] w fun e w' => e = .returned (.tuple #[zeroW, .int .i64 10]) ∧ Below w.heap.size w w' := by
  have hw1 := fun W => areDigits_any ⟨#[48, 48, 55]⟩ (by decide) W
  rw [show ((⟨#[48, 48, 55]⟩ : ByteArray).data.toList.all isDig && decide (0 < (⟨#[48, 48, 55]⟩ : ByteArray).size)) = true by decide] at hw1
  have HW1 := Lib.hid hw1
  clear hw1
  have hz := (Below.refl w.heap.size w).alloc (Nat.le_refl _) (.cells #[.bool false, .slice none 0 0] 26)
  go_enter Try.func23, Try.ntmps23
  go_wp2_with (go_at_call 50; refine (HW1.out _).mono ?_; rintro e w2 ⟨rfl, rfl⟩)
  exact bodyPost_ret (v := .tuple #[zeroW, .int .i64 10]) (by simp [results, Try.results23, go_sem]) rfl ⟨rfl, hz⟩

end Go.Proofs.Ytodmbklednehbaa
