import Derived.Test.YtgffljllfenhkaaDoorNumA
namespace Go.Proofs.YtgffljllfenhkaaDoor

/-! What a packing stands for, in plain mathematics. -/
def numOf (s : ByteArray) (p : Nat) : Nat → Nat
  | 0 => 0
  | n + 1 => numOf s p n + bitOf s (p + n) * 2 ^ n
theorem numOf_lt (s : ByteArray) (p : Nat) : ∀ n, numOf s p n < 2 ^ n
  | 0 => by simp [numOf]
  | n + 1 => by
    have := numOf_lt s p n
    have hb := bitOf_lt s (p + n)
    have : bitOf s (p + n) * 2 ^ n ≤ 1 * 2 ^ n := Nat.mul_le_mul_right _ (by omega)
    simp only [numOf, Nat.pow_succ]; omega

def rd (s : ByteArray) (n p : Nat) : Option (Nat × Nat) := if p + n ≤ 8 * s.size then some (numOf s p n, p + n) else none

/-- The signs of a length, in their order. -/
def idxs (n : Nat) (l : List Nat) : List Nat := (List.range l.length).filter (fun i => l.getD i 0 == n)
def cnt (n : Nat) (l : List Nat) : Nat := (idxs n l).length
/-- How many signs have a shorter one (from length 1 on). -/
def start (l : List Nat) : Nat → Nat
  | 0 => 0
  | 1 => 0
  | n + 1 => start l n + cnt n l
def used (l : List Nat) : Nat := start l 16
def kraftTo (l : List Nat) : Nat → Nat
  | 0 => 0
  | n + 1 => kraftTo l n + cnt (n + 1) l * 2 ^ (14 - n)
def whole (l : List Nat) : Bool := decide (kraftTo l 15 = 32768)
def single (l : List Nat) : Bool := decide (used l = 1) && decide (cnt 1 l = 1)
def goodB (l : List Nat) : Bool := whole l || single l
def goodD (l : List Nat) : Bool := whole l || single l || decide (used l = 0)

def decodeFrom (l : List Nat) (s : ByteArray) : Nat → Nat → Nat → Option (Nat × Nat)
  | 0, _, _ => none
  | r + 1, p, above =>
    if p < 8 * s.size then
      if 2 * above + bitOf s p < cnt (15 - r) l then some ((idxs (15 - r) l).getD (2 * above + bitOf s p) 0, p + 1)
      else decodeFrom l s r (p + 1) (2 * above + bitOf s p - cnt (15 - r) l)
    else none
def decode (l : List Nat) (s : ByteArray) (p : Nat) : Option (Nat × Nat) := decodeFrom l s 15 p 0

def baseT : List Nat := [3, 4, 5, 6, 7, 8, 9, 10, 11, 13, 15, 17, 19, 23, 27, 31, 35, 43, 51, 59, 67, 83, 99, 115, 131, 163, 195, 227, 258]
def extraT : List Nat := [0, 0, 0, 0, 0, 0, 0, 0, 1, 1, 1, 1, 2, 2, 2, 2, 3, 3, 3, 3, 4, 4, 4, 4, 5, 5, 5, 5, 0]
def farT : List Nat := [1, 2, 3, 4, 5, 7, 9, 13, 17, 25, 33, 49, 65, 97, 129, 193, 257, 385, 513, 769, 1025, 1537, 2049, 3073, 4097, 6145, 8193, 12289, 16385, 24577]
def moreT : List Nat := [0, 0, 0, 0, 1, 1, 2, 2, 3, 3, 4, 4, 5, 5, 6, 6, 7, 7, 8, 8, 9, 9, 10, 10, 11, 11, 12, 12, 13, 13]
def orderT : List Nat := [16, 17, 18, 0, 8, 7, 9, 6, 10, 5, 11, 4, 12, 3, 13, 2, 14, 1, 15]

def copyN (back : Nat) : Nat → List UInt8 → Option (List UInt8)
  | 0, out => some out
  | n + 1, out => if out.length < 2000 then copyN back n (out ++ [out.getD (out.length - back) 0]) else none

def storeN (s : ByteArray) : Nat → Nat → List UInt8 → Option (Nat × List UInt8)
  | 0, p, out => some (p, out)
  | n + 1, p, out => if p + 8 ≤ 8 * s.size then (if out.length < 2000 then storeN s n (p + 8) (out ++ [UInt8.ofNat (numOf s p 8)]) else none) else none

def stored (s : ByteArray) (p : Nat) (out : List UInt8) : Option (Nat × List UInt8) :=
  if (p + 7) / 8 * 8 + 32 ≤ 8 * s.size then
    (if numOf s ((p + 7) / 8 * 8) 16 + numOf s ((p + 7) / 8 * 8 + 16) 16 = 65535 then storeN s (numOf s ((p + 7) / 8 * 8) 16) ((p + 7) / 8 * 8 + 32) out else none)
  else none

def copied (dl : List Nat) (s : ByteArray) (k p : Nat) (out : List UInt8) : Option (Nat × List UInt8) :=
  if k < 29 then
    match rd s (extraT.getD k 0) p with
    | none => none
    | some (x, p1) =>
      match decode dl s p1 with
      | none => none
      | some (d, p2) =>
        if d < 30 then
          match rd s (moreT.getD d 0) p2 with
          | none => none
          | some (y, p3) =>
            if farT.getD d 0 + y ≤ out.length then (copyN (farT.getD d 0 + y) (baseT.getD k 0 + x) out).map (fun o => (p3, o)) else none
        else none
  else none

def blk (l dl : List Nat) (s : ByteArray) : Nat → Nat → List UInt8 → Option (Nat × List UInt8)
  | 0, _, _ => none
  | f + 1, p, out =>
    match decode l s p with
    | none => none
    | some (g, p1) =>
      if g < 256 then (if out.length < 2000 then blk l dl s f p1 (out ++ [UInt8.ofNat g]) else none)
      else if g = 256 then some (p1, out)
      else
        match copied dl s (g - 257) p1 out with
        | none => none
        | some (p2, out2) => blk l dl s f p2 out2

def readL (cl : List Nat) (s : ByteArray) (many : Nat) : Nat → Nat → List Nat → Option (Nat × List Nat)
  | 0, _, _ => none
  | f + 1, p, l =>
    if l.length < many then
      match decode cl s p with
      | none => none
      | some (g, p1) =>
        if g < 16 then readL cl s many f p1 (l ++ [g])
        else if g = 16 then
          (if l = [] then none
          else match rd s 2 p1 with
            | none => none
            | some (n, p2) => readL cl s many f p2 (l ++ List.replicate (3 + n) (l.getLastD 0)))
        else if g = 17 then
          match rd s 3 p1 with
          | none => none
          | some (n, p2) => readL cl s many f p2 (l ++ List.replicate (3 + n) 0)
        else
          match rd s 7 p1 with
          | none => none
          | some (n, p2) => readL cl s many f p2 (l ++ List.replicate (11 + n) 0)
    else if l.length = many then some (p, l) else none

/-- The lengths of the code of lengths: so many told. -/
def clens (s : ByteArray) (p : Nat) : Nat → List Nat
  | 0 => List.replicate 19 0
  | n + 1 => (clens s p n).set (orderT.getD n 0) (numOf s (p + 3 * n) 3)

def ownLens (s : ByteArray) (p : Nat) : Option (Nat × List Nat × List Nat) :=
  if p + 14 ≤ 8 * s.size then
    let a := numOf s p 5
    let b := numOf s (p + 5) 5
    let n := 4 + numOf s (p + 10) 4
    if p + 14 + 3 * n ≤ 8 * s.size then
      if a ≤ 29 ∧ b ≤ 29 ∧ whole (clens s (p + 14) n) = true then
        match readL (clens s (p + 14) n) s (258 + a + b) (259 + a + b) (p + 14 + 3 * n) [] with
        | none => none
        | some (q, all) =>
          if all.getD 256 0 ≠ 0 ∧ goodB (all.take (257 + a)) = true ∧ goodD (all.drop (257 + a)) = true then some (q, all.take (257 + a), all.drop (257 + a)) else none
      else none
    else none
  else none

def fixL : List Nat := List.replicate 144 8 ++ List.replicate 112 9 ++ List.replicate 24 7 ++ List.replicate 8 8
def fixD : List Nat := List.replicate 32 5

def block (s : ByteArray) (k p : Nat) (out : List UInt8) : Option (Nat × List UInt8) :=
  if k = 0 then stored s p out
  else if k = 1 then blk fixL fixD s (8 * s.size + 1 - p) p out
  else if k = 2 then
    match ownLens s p with
    | none => none
    | some (q, l, dl) => blk l dl s (8 * s.size + 1 - q) q out
  else none

def blocks (s : ByteArray) : Nat → Nat → List UInt8 → Option (Nat × List UInt8)
  | 0, _, _ => none
  | f + 1, p, out =>
    if p + 3 ≤ 8 * s.size then
      match block s (numOf s (p + 1) 2) (p + 3) out with
      | none => none
      | some (q, out') => if numOf s p 1 = 1 then some (q, out') else blocks s f q out'
    else none

def unpackS (s : ByteArray) : Option (List UInt8) :=
  match blocks s (8 * s.size + 1) 0 [] with
  | none => none
  | some (q, out) => if (q + 7) / 8 = s.size then some out else none

/-! Small laws. -/
theorem rd_some {s : ByteArray} {n p x q : Nat} (h : rd s n p = some (x, q)) : p + n ≤ 8 * s.size ∧ x = numOf s p n ∧ q = p + n := by
  unfold rd at h; split at h
  · simp at h; exact ⟨by assumption, h.1.symm, h.2.symm⟩
  · simp at h
theorem rd_pos {s : ByteArray} {n p : Nat} (h : p + n ≤ 8 * s.size) : rd s n p = some (numOf s p n, p + n) := by simp [rd, h]
theorem rd_neg {s : ByteArray} {n p : Nat} (h : ¬ p + n ≤ 8 * s.size) : rd s n p = none := by simp [rd, h]

theorem decodeFrom_some {l : List Nat} {s : ByteArray} : ∀ {r p a g q : Nat}, decodeFrom l s r p a = some (g, q) → p < q ∧ q ≤ 8 * s.size ∧ g < l.length
  | 0, _, _, _, _, h => by simp [decodeFrom] at h
  | r + 1, p, a, g, q, h => by
    unfold decodeFrom at h
    split at h
    · split at h
      · rename_i h1 h2
        simp only [Option.some.injEq, Prod.mk.injEq] at h
        refine ⟨by omega, by omega, ?_⟩
        have hm : g ∈ idxs (15 - r) l := by
          rw [← h.1, List.getD_eq_getElem?_getD, List.getElem?_eq_getElem (by exact h2)]
          exact List.getElem_mem _
        unfold idxs at hm
        simp at hm
        exact hm.1
      · have := decodeFrom_some h
        omega
    · simp at h
theorem decode_some {l : List Nat} {s : ByteArray} {p g q : Nat} (h : decode l s p = some (g, q)) : p < q ∧ q ≤ 8 * s.size ∧ g < l.length := decodeFrom_some h

end Go.Proofs.YtgffljllfenhkaaDoor
