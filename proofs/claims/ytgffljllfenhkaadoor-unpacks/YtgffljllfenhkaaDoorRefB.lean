import Derived.Test.YtgffljllfenhkaaDoorRefA
import Derived.Test.YtgffljllfenhkaaDoorSpec
namespace Go.Proofs.YtgffljllfenhkaaDoor
open Go.RowKit

/-- The bits' state behind one more read: 'over': too few were left. -/
def over (s : ByteArray) (p n : Nat) : Bool := decide (8 * s.size < p + n)

theorem bit_any (w : World) (B : Nat) (s : ByteArray) (p : Nat) (bad : Bool) (o : Value) (h : Bt w B s p bad o) (hs : s.size ≤ 9000) (hp : p ≤ 72000) :
    Calls Tryd.prog 11 #[.pointer (some ⟨B, 0, none⟩)] w fun e w' => ∃ x q bad' : _, e = .returned (.int .i64 ((x : Nat) : Int)) ∧ Bt w' B s q bad' o ∧ w.grownBy w' (some B) ∧
      x < 2 ∧ q ≤ 72000 ∧ bad' = (bad || over s p 1) ∧ (bad' = false → x = bitOf s p ∧ q = p + 1) := by
  cases bad with
  | true =>
    refine (bit_bad w B s p o h).mono ?_
    rintro e w' ⟨rfl, hb, hg⟩
    exact ⟨0, p, true, rfl, hb, hg, by omega, hp, rfl, by simp⟩
  | false =>
    by_cases hlt : p < 8 * s.size
    · refine (bit_ok w B s p o h hs hlt).mono ?_
      rintro e w' ⟨rfl, hb, hg⟩
      exact ⟨bitOf s p, p + 1, false, rfl, hb, hg, bitOf_lt s p, by omega, by simp [over]; omega, fun _ => ⟨rfl, rfl⟩⟩
    · refine (bit_end w B s p o h hs (by omega) (by omega)).mono ?_
      rintro e w' ⟨rfl, hb, hg⟩
      exact ⟨0, p, true, rfl, hb, hg, by omega, hp, by simp [over]; omega, by simp⟩

theorem over_succ (s : ByteArray) (p k : Nat) : (over s p k || over s (p + k) 1) = over s p (k + 1) := by
  unfold over
  rw [Bool.eq_iff_iff]; simp; omega

theorem over_step {s : ByteArray} {p q k : Nat} {bad bd bd1 : Bool} (h : bd = (bad || over s p k)) (hv : bd = false → q = p + k) (h1 : bd1 = (bd || over s q 1)) : bd1 = (bad || over s p (k + 1)) := by
  rw [h1, ← over_succ s p k, ← Bool.or_assoc, ← h]
  cases bd with
  | true => rfl
  | false => rw [hv rfl]

set_option maxHeartbeats 400000 in
theorem bits_any (w : World) (B : Nat) (s : ByteArray) (p n : Nat) (bad : Bool) (o : Value) (h : Bt w B s p bad o) (hs : s.size ≤ 9000) (hp : p ≤ 72000) (hn : n ≤ 16) (hpb : bad = false → p ≤ 8 * s.size) :
    Calls Tryd.prog 12 #[.pointer (some ⟨B, 0, none⟩), .int .i64 (n : Int)] w fun e w' => ∃ x q bad' : _, e = .returned (.int .i64 ((x : Nat) : Int)) ∧ Bt w' B s q bad' o ∧ w.grownBy w' (some B) ∧
      x < 2 ^ n ∧ q ≤ 72000 ∧ bad' = (bad || over s p n) ∧ (bad' = false → x = numOf s p n ∧ q = p + n) := by
  go_enter Tryd.func12, Tryd.ntmps12
  go_wp2
  go_loopw [5, 6] (fun xv i wr => ∃ (k x q : Nat) (bd : Bool), k ≤ n ∧ i = .int .i64 (k : Int) ∧ xv = .int .i64 (x : Int) ∧ Bt wr B s q bd o ∧ w.grownBy wr (some B) ∧ x < 2 ^ k ∧ q ≤ 72000 ∧ bd = (bad || over s p k) ∧ (bd = false → x = numOf s p k ∧ q = p + k))
    (fun _ i _ => n - (intOf i).toNat)
  case atStart =>
    refine ⟨0, 0, p, bad, by omega, rfl, rfl, h, grownBy_refl _ _, by simp, hp, ?_, fun _ => ⟨rfl, rfl⟩⟩
    cases bad with
    | true => rfl
    | false => have := hpb rfl; simp [over]; omega
  case round =>
    obtain ⟨k, x, q, bd, hk, rfl, rfl, hB, hg, hx, hq, hbd, hv⟩ := hrel
    have HBD : Hid (bd = (bad || over s p k)) := hbd
    have HV : Hid (bd = false → x = numOf s p k ∧ q = p + k) := hv
    clear hbd hv
    clear hpb
    by_cases hlt : k < n
    · go_wp2_with (go_at_call 11; refine (bit_any _ B s q bd o hB hs hq).mono ?_; rintro e w1 ⟨x1, q1, bd1, rfl, hB1, hg1, hx1, hq1, hbd1, hv1⟩)
      have hpow : 2 ^ (k + 1) = 2 ^ k + 2 ^ k := by rw [Nat.pow_succ]; omega
      have hle : x1 * 2 ^ k ≤ 1 * 2 ^ k := Nat.mul_le_mul_right _ (by omega)
      refine ⟨⟨k + 1, x + x1 * 2 ^ k, q1, bd1, by omega, by go_num, congrArg (Value.int .i64) (or_bit' x x1 k hx (by omega) hx1), hB1, grownBy_trans hg hg1, by omega, hq1, ?_, ?_⟩, by simp [intOf]; omega⟩
      · exact over_step HBD.out (fun e => (HV.out e).2) hbd1
      · intro hf
        have hb : bd = false := by rw [hf] at hbd1; revert hbd1; cases bd <;> simp
        obtain ⟨e1, e2⟩ := HV.out hb
        obtain ⟨e3, e4⟩ := hv1 hf
        exact ⟨by rw [e1, e3, e2]; rfl, by omega⟩
    · go_wp2
      go_ret
      have : k = n := by omega
      subst this
      exact ⟨x, q, bd, rfl, hB, hg, hx, hq, HBD.out, HV.out⟩
end Go.Proofs.YtgffljllfenhkaaDoor
