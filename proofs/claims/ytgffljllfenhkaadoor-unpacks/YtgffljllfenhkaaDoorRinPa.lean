import Derived.Test.YtgffljllfenhkaaDoorRinD
import Derived.Laws.Bits64b
namespace Go.Proofs.YtgffljllfenhkaaDoor
open Go.RowKit

theorem mask32 (c : Nat) (hc : c ≤ 400) : bits .and .u64 (c : Int) 4294967295 = (c : Int) := by
  have h := bits_and_u64_nat c 4294967295 (by omega) (by omega)
  have e : c &&& 4294967295 = c % 4294967296 := Nat.and_two_pow_sub_one_eq_mod c 32
  rw [e, Nat.mod_eq_of_lt (by omega)] at h
  exact h

set_option maxHeartbeats 1000000 in
set_option maxRecDepth 100000 in
theorem mul64_one (w : World) (c : Nat) (hc : c ≤ 400) :
    Calls Tryd.prog 56 #[.int .u64 1, .int .u64 (c : Int)] w fun e w' => e = .returned (.tuple #[.int .u64 0, .int .u64 (c : Int)]) ∧ w = w' := by
  have h1 := mask32 c hc
  have h2 : (c : Int) / 4294967296 = 0 := by omega
  have h3 : bits .and .u64 1 4294967295 = 1 := mask32 1 (by omega)
  have h4 : bits .and .u64 0 4294967295 = 0 := mask32 0 (by omega)
  go_enter Tryd.func56, Tryd.ntmps56
  go_wp2_with fail
  go_ret2
  exact ⟨rfl, rfl⟩

set_option maxHeartbeats 1000000 in
set_option maxRecDepth 100000 in
theorem mul_one' (w : World) (c : Nat) (hc : c ≤ 400) :
    Calls Tryd.prog 53 #[.int .u64 1, .int .u64 (c : Int)] w fun e w' => e = .returned (.tuple #[.int .u64 0, .int .u64 (c : Int)]) ∧ w = w' := by
  go_enter Tryd.func53, Tryd.ntmps53
  go_wp2_with (go_at_call 56; refine (mul64_one _ c hc).mono ?_; rintro e w1 ⟨rfl, rfl⟩)
  go_ret2
  exact ⟨rfl, rfl⟩
end Go.Proofs.YtgffljllfenhkaaDoor
