import Derived.WalkKit
namespace Go.Proofs.YtgffljllfenhkaaDoor
open Go.RowKit

theorem wraps_i64 (n : Int) (h₀ : 0 ≤ n) (h₁ : n < 2 ^ 62) : IntKind.i64.wrap n = n := by rw [IntKind.wrap_i64]; omega
theorem wrap64_id (n : Int) (h₀ : -9223372036854775808 ≤ n) (h₁ : n < 9223372036854775808) : wrap64 n = n := by unfold wrap64; omega

/-- The bit number p of a text. -/
def bitOf (s : ByteArray) (p : Nat) : Nat := ((s.data.toList.getD (p / 8) 0).toNat >>> (p % 8)) % 2
theorem bitOf_lt (s : ByteArray) (p : Nat) : bitOf s p < 2 := Nat.mod_lt _ (by decide)

theorem and_one_i64 (x : Nat) (k : Nat) (hx : x < 256) : bits .and .i64 (wrap64 ((x : Int) / 2 ^ k)) 1 = (((x >>> k) % 2 : Nat) : Int) := by
  have e : ((x : Int) / 2 ^ k) = ((x >>> k : Nat) : Int) := by
    rw [Nat.shiftRight_eq_div_pow]; simp
  have hle : x >>> k ≤ x := by rw [Nat.shiftRight_eq_div_pow]; exact Nat.div_le_self _ _
  rw [e]
  generalize x >>> k = y at *
  clear e
  rw [wrap64_id _ (by omega) (by omega)]
  have := bits_mask .i64 62 (by decide) wraps_i64 1 (by decide) (y : Int) (by omega) (by omega)
  simp only [Int.pow_succ, Int.pow_zero, Int.one_mul] at this
  rw [show (2 : Int) - 1 = 1 from rfl] at this
  rw [this]; omega

theorem bit_value (s : ByteArray) (p : Nat) (h : p / 8 < s.data.size) :
    bits .and .i64 (wrap64 (((s.data[p / 8]).toNat : Int) / 2 ^ (p % 8))) 1 = ((bitOf s p : Nat) : Int) := by
  rw [and_one_i64 _ _ (UInt8.toNat_lt _)]
  unfold bitOf
  rw [List.getD_eq_getElem?_getD, Array.getElem?_toList, Array.getElem?_eq_getElem h]
  rfl

/-- One bit more of a number, the lowest first. -/
theorem or_bit (x b i : Nat) (hx : x < 2 ^ i) (hi : i ≤ 32) (hb : b < 2) : bits .or .i64 (x : Int) (((b * 2 ^ i : Nat)) : Int) = ((x + b * 2 ^ i : Nat) : Int) := by
  have hp : 2 ^ i ≤ 2 ^ 32 := Nat.pow_le_pow_right (by decide) hi
  have hb2 : b * 2 ^ i ≤ 1 * 2 ^ i := Nat.mul_le_mul_right _ (by omega)
  rw [(bits_nat .i64 62 (by decide) wraps_i64 x (b * 2 ^ i) (by omega) (by omega)).2]
  congr 1
  rw [Nat.or_comm, Nat.mul_comm b, ← Nat.two_pow_add_eq_or_of_lt hx b, Nat.add_comm]

theorem or_bit' (x b i : Nat) (hx : x < 2 ^ i) (hi : i ≤ 32) (hb : b < 2) : bits .or .i64 (x : Int) (wrap64 ((b : Int) * 2 ^ i)) = ((x + b * 2 ^ i : Nat) : Int) := by
  have hp : 2 ^ i ≤ 2 ^ 32 := Nat.pow_le_pow_right (by decide) hi
  have hb2 : b * 2 ^ i ≤ 1 * 2 ^ i := Nat.mul_le_mul_right _ (by omega)
  have e : (b : Int) * 2 ^ i = ((b * 2 ^ i : Nat) : Int) := by simp
  rw [e, wrap64_id _ (by omega) (by omega), or_bit x b i hx hi hb]
end Go.Proofs.YtgffljllfenhkaaDoor
