/-
Laws on machine numbers that the walks of this seat want.
-/
import Derived.WalkKit
import Derived.Laws.Bits64b
import Derived.Laws.BitsAllLaws
namespace Wh
open Go Go.RowKit

theorem wrap_u64_nat (n : Nat) : IntKind.u64.wrap (n : Int) = ((n % 18446744073709551616 : Nat) : Int) := by
  rw [IntKind.wrap_u64]; omega
theorem wrap_u16_nat (n : Nat) : IntKind.u16.wrap (n : Int) = ((n % 65536 : Nat) : Int) := by
  rw [IntKind.wrap_u16]; omega

theorem shl_or (q u : Nat) (hu : u < 65536) : bits .or .u64 (IntKind.u64.wrap ((q : Int) * 65536)) (u : Int) = (((q * 65536 + u) % 18446744073709551616 : Nat) : Int) := by
  rw [show (q : Int) * 65536 = ((q * 65536 : Nat) : Int) from by omega, wrap_u64_nat, bits_or_u64_nat _ _ (by omega) (by omega)]
  congr 1
  have e : q * 65536 % 18446744073709551616 = 2 ^ 16 * (q % 281474976710656) := by omega
  rw [e, ← Nat.two_pow_add_eq_or_of_lt (i := 16) (by omega)]
  omega

end Wh
