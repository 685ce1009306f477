import Derived.Test.YtgffljllfenhkaaDoorRefN
namespace Go.Proofs.YtgffljllfenhkaaDoor
open Go.RowKit


/-- The blocks from a state on. -/
def blocksS (s : ByteArray) (bd : Bool) (last : Nat) (f p : Nat) (out : List UInt8) : Option (Nat × List UInt8) := if bd then none else if last = 1 then some (p, out) else blocks s f p out

def blockStep (s : ByteArray) (k : Nat → List UInt8 → Option (Nat × List UInt8)) (p : Nat) (out : List UInt8) : Option (Nat × List UInt8) :=
  if p + 3 ≤ 8 * s.size then
    match block s (numOf s (p + 1) 2) (p + 3) out with
    | none => none
    | some (q, out') => if numOf s p 1 = 1 then some (q, out') else k q out'
  else none
set_option maxRecDepth 100000 in
theorem blocks_succ (s : ByteArray) (f p : Nat) (out : List UInt8) : blocks s (f + 1) p out = blockStep s (blocks s f) p out := by
  delta blockStep
  exact rfl

theorem numOf_one (s : ByteArray) (p : Nat) : numOf s p 1 = bitOf s p := by simp [numOf]

/-- What a block's head and body come to, from a state on. -/
theorem blocks_step {s : ByteArray} {f p x y q1 q2 q3 : Nat} {b1 b2 b3 : Bool} {out out3 : List UInt8} (h1 : b1 = (false || over s p 1)) (v1 : b1 = false → x = bitOf s p ∧ q1 = p + 1)
    (h2 : b2 = (b1 || over s q1 2)) (v2 : b2 = false → y = numOf s q1 2 ∧ q2 = q1 + 2) (hx : x < 2)
    (h3 : st b3 q3 out3 = (st b2 q2 out).bind (fun z => block s y z.1 z.2)) (hb : b2 = true → b3 = true) : blocksS s b3 x f q3 out3 = blocksS s false 0 (f + 1) p out := by
  have hR : blocksS s false 0 (f + 1) p out = blocks s (f + 1) p out := by unfold blocksS; simp
  rw [hR, blocks_succ, blockStep]
  cases b2 with
  | true =>
    rw [if_neg]
    · rw [hb rfl]; rfl
    · intro hle
      have e1 : b1 = false := by rw [h1]; simp [over]; omega
      rw [e1, (v1 e1).2] at h2
      simp [over] at h2
      omega
  | false =>
    have e2 := Bool.or_eq_false_iff.1 h2.symm
    obtain ⟨rfl, rfl⟩ := v1 e2.1
    obtain ⟨rfl, rfl⟩ := v2 rfl
    have e3 := e2.2
    simp only [over, decide_eq_false_iff_not] at e3
    rw [if_pos (by omega)]
    simp only [st_false, Option.bind_some] at h3
    rw [show p + 1 + 2 = p + 3 by omega] at h3
    rw [← h3, numOf_one]
    cases b3 with
    | true => rfl
    | false =>
      simp only [st_false]
      unfold blocksS
      simp

/-- The fixed codes' block. -/
theorem block_one (s : ByteArray) (p : Nat) (out : List UInt8) : block s 1 p out = blk fixL fixD s (8 * s.size + 1 - p) p out := by unfold block; simp
theorem block_zero (s : ByteArray) (p : Nat) (out : List UInt8) : block s 0 p out = stored s p out := by unfold block; simp
theorem block_two (s : ByteArray) (p : Nat) (out : List UInt8) : block s 2 p out = ownS s p out := by
  unfold block ownS; rw [if_neg (by omega), if_neg (by omega), if_pos rfl]; cases ownLens s p <;> rfl
theorem block_three (s : ByteArray) (y p : Nat) (out : List UInt8) (h : 3 ≤ y) : block s y p out = none := by unfold block; rw [if_neg (by omega), if_neg (by omega), if_neg (by omega)]

/-- Every block goes on. -/
theorem storeN_pos {s : ByteArray} : ∀ {n p q : Nat} {out o : List UInt8}, storeN s n p out = some (q, o) → p ≤ q
  | 0, p, q, out, o, h => by simp [storeN] at h; omega
  | n + 1, p, q, out, o, h => by
    rw [storeN_succ] at h
    split at h
    · split at h
      · have := storeN_pos h; omega
      · cases h
    · cases h
theorem blk_pos {l dl : List Nat} {s : ByteArray} : ∀ {f p q : Nat} {out o : List UInt8}, blk l dl s f p out = some (q, o) → p ≤ q
  | 0, _, _, _, _, h => by cases h
  | f + 1, p, q, out, o, h => by
    rw [blk_succ, blkStep] at h
    split at h
    · cases h
    · rename_i g p1 hd
      have := decode_some hd
      split at h
      · split at h
        · have := blk_pos h; omega
        · cases h
      · split at h
        · simp at h; omega
        · split at h
          · cases h
          · rename_i p2 o2 hc
            have := copied_pos hc
            have := blk_pos h
            omega
theorem readL_pos {cl : List Nat} {s : ByteArray} {many : Nat} : ∀ {f p q : Nat} {l all : List Nat}, readL cl s many f p l = some (q, all) → p ≤ q
  | 0, _, _, _, _, h => by cases h
  | f + 1, p, q, l, all, h => by
    rw [readL_succ] at h
    unfold readStep at h
    split at h
    · split at h
      · cases h
      · rename_i g p1 hd
        have := decode_some hd
        split at h
        · have := readL_pos h; omega
        · split at h
          · split at h
            · cases h
            · split at h
              · cases h
              · rename_i hr; have := rd_some hr; have := readL_pos h; omega
          · split at h
            · split at h
              · cases h
              · rename_i hr; have := rd_some hr; have := readL_pos h; omega
            · split at h
              · cases h
              · rename_i hr; have := rd_some hr; have := readL_pos h; omega
    · split at h
      · simp at h; omega
      · cases h
theorem block_pos {s : ByteArray} {y p q : Nat} {out o : List UInt8} (h : block s y p out = some (q, o)) : p ≤ q := by
  unfold block at h
  split at h
  · unfold stored at h
    split at h
    · split at h
      · have := storeN_pos h; omega
      · cases h
    · cases h
  · split at h
    · exact blk_pos h
    · split at h
      · split at h
        · cases h
        · rename_i q1 l dl ho
          have h2 := blk_pos h
          unfold ownLens at ho
          split at ho
          · simp only at ho
            split at ho
            · split at ho
              · split at ho
                · cases ho
                · rename_i hr
                  have := readL_pos hr
                  split at ho
                  · simp at ho; omega
                  · cases ho
              · cases ho
            · cases ho
          · cases ho
      · cases h

end Go.Proofs.YtgffljllfenhkaaDoor
