import Derived.Test.YtgffljllfenhkaaDoorRefM
namespace Go.Proofs.YtgffljllfenhkaaDoor
open Go.RowKit

theorem Tryd.mk19 (w : World) : (Instr.makeSlice 40 (.int .i64 19) (.int .i64 19)).run Tryd.prog w = .ok (.slice (some ⟨w.heap.size, 0, none⟩) 19 19) (w.alloc (.cells #[.int .i64 0, .int .i64 0, .int .i64 0, .int .i64 0, .int .i64 0, .int .i64 0, .int .i64 0, .int .i64 0, .int .i64 0, .int .i64 0, .int .i64 0, .int .i64 0, .int .i64 0, .int .i64 0, .int .i64 0, .int .i64 0, .int .i64 0, .int .i64 0, .int .i64 0] 3)) := by kernel_rfl

/-- A whole struct or array, read out of its block, by an operation that is guarded and wanted. -/
theorem load_whole_g {P : Program} {ops : Array Oper} {rest : List Oper} {o : Oper} {a : Act} {w : World} {Q : Exit → Act → World → Prop} (ty : TypeId) (x : Operand) (ho : o.op = .load ty x) (hw : Region.wanted o (yielded ops a.tmps) = true)
    (g : Nat) (hx : a.eval x = .pointer (some ⟨g, 0, none⟩)) (t : TypeId) (cs : Array Value) (fr : Nat × Nat) (hg : w.heap[g]? = some (.cells cs t fr))
    (hu : (P.underlying ty).map isAgg = some true) (hi : (P.info? ty).map (·.size) = some cs.size)
    (h : wpList P ops Q rest (a.put o.dst (.agg cs)) w) : wpList P ops Q (o :: rest) a w := by
  obtain ⟨d, h1, h2⟩ := structured hu
  unfold wpList
  rw [if_pos hw]
  left
  refine wp_load_row ty x ho g hx t cs fr d hg h1 ?_ hi h
  cases d <;> first | rfl | cases h2
theorem below_none {w w' : World} (h : Below w.heap.size w w') : w.grownBy w' none := ⟨h.os, h.tape, h.output, h.size, fun k hk _ => h.block k hk⟩
theorem SgN.below {w w' : World} {base : Nat} {sg : Value} {l : List Nat} (h : SgN w base sg l) (hb : Below w.heap.size w w') : SgN w' base sg l := by
  rcases h with h | ⟨g, cap, h1, h2, h3, h4⟩
  · exact .inl h
  · exact .inr ⟨g, cap, h1, h2, Nat.lt_of_lt_of_le h3 hb.size, fun n a hn hn' ha => (hb.cell (p := ⟨g, start l n + a, none⟩) h3).trans (h4 n a hn hn' ha)⟩
/-- A code laid into a new variable. -/
theorem laid_code (w : World) (old carr : Array Value) (_h : carr.size = 18) : ∃ W6, (w.alloc (.cells old 46)).setRow w.heap.size carr = W6 ∧ W6.heap[w.heap.size]? = some (.cells carr 46 (0, 0)) ∧ Below w.heap.size w W6 :=
  ⟨_, rfl, setRow_heap _ _ _ _ _ _ (World.alloc_heap_new w _), ((Below.refl _ w).alloc (Nat.le_refl _) _).grown (grownBy_setRow _ _ _) (by simp) (fun k e => by simp at e; omega)⟩
theorem none_or (x : Option Nat) : x = Option.none ∨ x ≠ Option.none := by cases x <;> simp
theorem SgN.grown {w w' : World} {base : Nat} {sg : Value} {l : List Nat} (h : SgN w base sg l) (hg : w.grownBy w' Option.none) : SgN w' base sg l :=
  h.below ⟨hg.os, hg.tape, hg.output, hg.size, fun k hk => hg.block k hk (by simp)⟩
theorem grownBy_drew (w : World) (r : Option Nat) : w.grownBy w.drew r := ⟨rfl, rfl, rfl, Nat.le_refl _, fun _ _ _ => rfl⟩
/-- Nineteen numbers, in block L. -/
structure L19 (w : World) (L : Nat) (lst : List Nat) (arr : Array Value) : Prop where
  blk : w.heap[L]? = some (.cells arr 3 (0, 0))
  size : arr.size = 19
  len : lst.length = 19
  c : ∀ j, j < 19 → arr[j]? = some (intV (nth lst j))
theorem L19.nums {w : World} {L : Nat} {lst : List Nat} {arr : Array Value} (h : L19 w L lst arr) : Nums w L 0 lst := by
  refine ⟨(Array.getElem?_eq_some_iff.1 h.blk).1, fun i hi => ?_⟩
  rw [h.len] at hi
  simp only [World.cell?, h.blk]
  simpa [intV] using h.c i hi
theorem L19.set {w : World} {L : Nat} {lst : List Nat} {arr : Array Value} (h : L19 w L lst arr) {j : Nat} (_hj : j < 19) (x : Nat) : L19 (w.setCell ⟨L, j, none⟩ (.int .i64 (x : Int))) L (lst.set j x) (arr.setIfInBounds j (intV x)) := by
  have hs := h.size
  have hl := h.len
  refine ⟨heap_setCell_same w L j arr _ _ h.blk, by simp [hs], by simp [hl], fun i hi => ?_⟩
  rw [Array.getElem?_setIfInBounds]
  unfold nth
  rw [List.getD_eq_getElem?_getD, List.getElem?_set]
  by_cases e : j = i
  · subst e; simp [hs, hl, hi]
  · rw [if_neg e, if_neg e]; have := h.c i hi; unfold nth at this; rw [List.getD_eq_getElem?_getD] at this; exact this
theorem L19.kept {w w' : World} {L : Nat} {lst : List Nat} {arr : Array Value} {r : Option Nat} (h : L19 w L lst arr) (hg : w.grownBy w' r) (hne : r ≠ some L) : L19 w' L lst arr :=
  ⟨by rw [hg.block L (Array.getElem?_eq_some_iff.1 h.blk).1 (fun e => hne e.symm)]; exact h.blk, h.size, h.len, h.c⟩

theorem order_lt (i : Nat) (h : i < 19) : nth orderT i < 19 := by revert i; decide
theorem clens_len (s : ByteArray) (p : Nat) : ∀ n, (clens s p n).length = 19
  | 0 => by simp [clens]
  | n + 1 => by simp [clens, clens_len s p n]
theorem over_more {s : ByteArray} {p q a b : Nat} {bad bd bd1 : Bool} (h : bd = (bad || over s p a)) (hv : bd = false → q = p + a) (h1 : bd1 = (bd || over s q b)) : bd1 = (bad || over s p (a + b)) := by
  subst h1
  cases bd with
  | true =>
    have : over s p (a + b) = true ∨ bad = true := by
      cases bad with
      | true => exact .inr rfl
      | false => left; simp only [Bool.false_or, over] at h ⊢; have := of_decide_eq_true h.symm; exact decide_eq_true (by omega)
    rcases this with e | e <;> simp [e]
  | false =>
    have e := Bool.or_eq_false_iff.1 h.symm
    rw [e.1, hv rfl]; simp [over, Nat.add_assoc]


/-- A code out of a list of lengths, laid into a variable. -/
theorem CodeA.put {w : World} {arr old : Array Value} {l : List Nat} {sg : Value} (_h : CodeA arr l sg) (g : Nat) (hg : w.heap[g]? = some (.cells old 46 (0, 0))) : (w.setRow g arr).heap[g]? = some (.cells arr 46 (0, 0)) := setRow_heap w g old arr _ _ hg

/-- What a block with codes of its own comes to. -/
def ownS (s : ByteArray) (p : Nat) (out : List UInt8) : Option (Nat × List UInt8) :=
  match ownLens s p with
  | none => none
  | some (q, l, dl) => blk l dl s (8 * s.size + 1 - q) q out

def ownB (bad : Bool) (s : ByteArray) (p : Nat) (out : List UInt8) : Option (Nat × List UInt8) := if bad then none else ownS s p out
theorem own_no {s : ByteArray} {p x y z i : Nat} {bad bd : Bool} {out : List UInt8} {lst : List Nat} (h : bd = (bad || over s p (14 + 3 * i))) 
    (v : bd = false → x = numOf s p 5 ∧ y = numOf s (p + 5) 5 ∧ z = numOf s (p + 10) 4 ∧ i = 4 + z ∧ lst = clens s (p + 14) i)
    (hno : bd = true ∨ ¬ x ≤ 29 ∨ ¬ y ≤ 29 ∨ ¬ whole lst = true) (hi : bad = false → over s p 14 = false → z = numOf s (p + 10) 4 ∧ i = 4 + z) : ownB bad s p out = none := by
  cases bad with
  | true => rfl
  | false =>
    unfold ownB ownS ownLens
    simp only [Bool.false_eq_true, if_false]
    by_cases h14 : p + 14 ≤ 8 * s.size
    · rw [if_pos h14]
      obtain ⟨hz, hiz⟩ := hi rfl (by simp [over]; omega)
      by_cases hl : p + 14 + 3 * (4 + numOf s (p + 10) 4) ≤ 8 * s.size
      · have hbd : bd = false := by rw [h]; simp [over]; rw [← hz, ← hiz] at hl; omega
        obtain ⟨rfl, rfl, _, _, rfl⟩ := v hbd
        rw [if_pos hl, if_neg]
        rw [hbd, ← hz, ← hiz] at *
        rintro ⟨h1, h2, h3⟩
        rcases hno with hno | hno | hno | hno
        · cases hno
        · exact hno h1
        · exact hno h2
        · exact hno h3
      · rw [if_neg hl]
    · rw [if_neg h14]
/-- The three numbers, and then so many lengths, have been read. -/
theorem own_read {s : ByteArray} {p x y z q1 q2 q3 : Nat} {bad b1 b2 b3 : Bool} (h1 : b1 = (bad || over s p 5)) (v1 : b1 = false → x = numOf s p 5 ∧ q1 = p + 5)
    (h2 : b2 = (b1 || over s q1 5)) (v2 : b2 = false → y = numOf s q1 5 ∧ q2 = q1 + 5) (h3 : b3 = (b2 || over s q2 4)) (v3 : b3 = false → z = numOf s q2 4 ∧ q3 = q2 + 4) :
    b3 = (bad || over s p 14) ∧ (b3 = false → x = numOf s p 5 ∧ y = numOf s (p + 5) 5 ∧ z = numOf s (p + 10) 4 ∧ q3 = p + 14) := by
  have e2 := over_more h1 (fun e => (v1 e).2) h2
  have hb12 : b2 = false → b1 = false := fun e => (Bool.or_eq_false_iff.1 (h2.symm.trans e)).1
  have hb23 : b3 = false → b2 = false := fun e => (Bool.or_eq_false_iff.1 (h3.symm.trans e)).1
  have hq2 : b2 = false → q2 = p + (5 + 5) := fun e => by have := (v2 e).2; have := (v1 (hb12 e)).2; omega
  have e3 := over_more e2 hq2 h3
  refine ⟨e3, fun e => ?_⟩
  obtain ⟨rfl, rfl⟩ := v1 (hb12 (hb23 e))
  obtain ⟨rfl, rfl⟩ := v2 (hb23 e)
  obtain ⟨rfl, rfl⟩ := v3 e
  exact ⟨rfl, rfl, rfl, by omega⟩

theorem code_n (w : World) (g off cap n : Nat) (l : List Nat) (hl : Nums w g off l) (hlen : l.length ≤ 400) (hn : n = l.length) :
    Calls Tryd.prog 16 #[.slice (some ⟨g, off, none⟩) n cap] w fun e w' => ∃ arr sg, e = .returned (.agg arr) ∧ CodeA arr l sg ∧ SgN w' w.heap.size sg l ∧ Below w.heap.size w w' ∧ arr.all (·.oneCell') = true := by
  subst hn; exact code_walk w g off cap l hl hlen

/-- What is left when the lengths have been read. -/
def ownC (r : Option (Nat × List Nat)) (a : Nat) (s : ByteArray) (out : List UInt8) : Option (Nat × List UInt8) :=
  match r with
  | none => none
  | some (q, all) => if all.getD 256 0 ≠ 0 ∧ goodB (all.take (257 + a)) = true ∧ goodD (all.drop (257 + a)) = true then blk (all.take (257 + a)) (all.drop (257 + a)) s (8 * s.size + 1 - q) q out else none
theorem own_go {s : ByteArray} {p x y z i q : Nat} {bad : Bool} {out : List UInt8} {lst : List Nat} (h : false = (bad || over s p (14 + 3 * i)))
    (v : x = numOf s p 5 ∧ y = numOf s (p + 5) 5 ∧ z = numOf s (p + 10) 4 ∧ i = 4 + z ∧ lst = clens s (p + 14) i) (hq : q = p + 14 + 3 * i) (hx : x ≤ 29) (hy : y ≤ 29) (hw : whole lst = true) :
    ownB bad s p out = ownC (readL lst s (258 + x + y) (258 + x + y + 1) q []) x s out := by
  have e := Bool.or_eq_false_iff.1 h.symm
  have eo := e.2
  simp only [over, decide_eq_false_iff_not] at eo
  obtain ⟨rfl, rfl, rfl, rfl, rfl⟩ := v
  subst hq
  unfold ownB ownS ownLens
  rw [e.1]
  simp only [Bool.false_eq_true, if_false]
  rw [if_pos (by omega), if_pos (by omega), if_pos ⟨hx, hy, hw⟩, show 259 + numOf s p 5 + numOf s (p + 5) 5 = 258 + numOf s p 5 + numOf s (p + 5) 5 + 1 by omega]
  unfold ownC
  cases readL (clens s (p + 14) (4 + numOf s (p + 10) 4)) s (258 + numOf s p 5 + numOf s (p + 5) 5) (258 + numOf s p 5 + numOf s (p + 5) 5 + 1) (p + 14 + 3 * (4 + numOf s (p + 10) 4)) [] with
  | none => rfl
  | some r =>
    obtain ⟨q, all⟩ := r
    simp only
    by_cases hc : all.getD 256 0 ≠ 0 ∧ goodB (all.take (257 + numOf s p 5)) = true ∧ goodD (all.drop (257 + numOf s p 5)) = true
    · rw [if_pos hc, if_pos hc]
    · rw [if_neg hc, if_neg hc]
theorem readL_len {cl : List Nat} {s : ByteArray} {many : Nat} : ∀ {f p q : Nat} {l all : List Nat}, readL cl s many f p l = some (q, all) → all.length = many
  | 0, _, _, _, _, h => by cases h
  | f + 1, p, q, l, all, h => by
    rw [readL_succ] at h
    unfold readStep at h
    split at h
    · split at h
      · cases h
      · split at h
        · exact readL_len h
        · split at h
          · split at h
            · cases h
            · split at h
              · cases h
              · exact readL_len h
          · split at h
            · split at h
              · cases h
              · exact readL_len h
            · split at h
              · cases h
              · exact readL_len h
    · split at h
      · rename_i h2; simp at h; rw [← h.2]; exact h2
      · cases h
theorem Nums.take {w : World} {g off : Nat} {l : List Nat} (h : Nums w g off l) (n : Nat) : Nums w g off (l.take n) := by
  refine ⟨h.1, fun i hi => ?_⟩
  rw [List.length_take] at hi
  rw [h.2 i (by omega)]
  unfold nth
  rw [List.getD_eq_getElem?_getD, List.getD_eq_getElem?_getD, List.getElem?_take, if_pos (by omega)]
theorem Nums.drop {w : World} {g off : Nat} {l : List Nat} (h : Nums w g off l) (n : Nat) : Nums w g (off + n) (l.drop n) := by
  refine ⟨h.1, fun i hi => ?_⟩
  rw [List.length_drop] at hi
  rw [Nat.add_assoc, h.2 (n + i) (by omega)]
  unfold nth
  rw [List.getD_eq_getElem?_getD, List.getD_eq_getElem?_getD, List.getElem?_drop]

theorem cnt_used (l : List Nat) {n : Nat} (h1 : 1 ≤ n) (h2 : n ≤ 15) : cnt n l ≤ used l := by
  have := start_mono l (show 1 ≤ n + 1 by omega) (show n + 1 ≤ 16 by omega)
  rw [start_succ l h1] at this
  unfold used; omega
theorem kraft_zero (l : List Nat) (h : used l = 0) : ∀ n, n ≤ 15 → kraftTo l n = 0
  | 0, _ => rfl
  | n + 1, hn => by
    have := cnt_used l (show 1 ≤ n + 1 by omega) hn
    simp only [kraftTo, kraft_zero l h n (by omega), show cnt (n + 1) l = 0 by omega]; simp
theorem good_b (l : List Nat) : (if used l = 0 then false else (whole l || single l)) = goodB l := by
  unfold goodB
  by_cases h : used l = 0
  · rw [if_pos h]; simp [whole, single, kraft_zero l h 15 (by omega), h]
  · rw [if_neg h]
theorem good_d (l : List Nat) : (if used l = 0 then true else (whole l || single l)) = goodD l := by
  unfold goodD
  by_cases h : used l = 0
  · rw [if_pos h]; simp [h]
  · rw [if_neg h]; simp [h]

set_option maxHeartbeats 4000000 in
set_option maxRecDepth 100000 in
theorem own_walk (w : World) (B : Nat) (s : ByteArray) (p : Nat) (bad : Bool) (o : Value) (out : List UInt8) (h : Rf w B s o p bad out) (hs : s.size ≤ 9000) (hT : RTabs w) (hB20 : 9 ≤ B) :
    Calls Tryd.prog 17 #[.pointer (some ⟨B, 0, none⟩)] w (BlkQ w B s o (ownB bad s p out)) := by
  have hlt := h.bt.lt
  have hoo : ∀ k, o.ownBlock = some k → k < w.heap.size := fun k e => (World.ownsRow.lt h.row k e).2
  have hmk := Tryd.mk19
  go_enter Tryd.func17, Tryd.ntmps17
  go_wp2_with fail
  refine (bits_rf _ B s p 5 _ bad o out h hs rfl (by omega)).mono ?_
  rintro e w1 ⟨x, q1, b1, rfl, hR1, k1, hx, hb1, hv1⟩
  go_wp2_with fail
  refine (bits_rf _ B s q1 5 _ b1 o out hR1 hs rfl (by omega)).mono ?_
  rintro e w2 ⟨y, q2, b2, rfl, hR2, k2, hy, hb2, hv2⟩
  go_wp2_with fail
  refine (bits_rf _ B s q2 4 _ b2 o out hR2 hs rfl (by omega)).mono ?_
  rintro e w3 ⟨z, q3, b3, rfl, hR3, k3, hz, hb3, hv3⟩
  obtain ⟨hb, hv⟩ := own_read hb1 hv1 hb2 hv2 hb3 hv3
  have hF3 : Fr B o w o w3 := (Fr.of_grown o k1).trans ((Fr.of_grown o k2).trans (Fr.of_grown o k3))
  have HB := hide hb
  have HV := hide hv
  have hx' : x < 32 := by simpa using hx
  have hy' : y < 32 := by simpa using hy
  have hz' : z < 16 := by simpa using hz
  clear hb hv hb1 hv1 hb2 hv2 hb3 hv3 hR1 hR2 k1 k2 k3 hx hy hz
  go_wp2_with fail
  obtain ⟨W0, hW0⟩ : ∃ W0, w3.alloc (.cells #[.int .i64 0, .int .i64 0, .int .i64 0, .int .i64 0, .int .i64 0, .int .i64 0, .int .i64 0, .int .i64 0, .int .i64 0, .int .i64 0, .int .i64 0, .int .i64 0, .int .i64 0, .int .i64 0, .int .i64 0, .int .i64 0, .int .i64 0, .int .i64 0, .int .i64 0] 3) = W0 := ⟨_, rfl⟩
  rw [hW0]
  have hL0 : L19 W0 w3.heap.size (clens s (p + 14) 0) #[.int .i64 0, .int .i64 0, .int .i64 0, .int .i64 0, .int .i64 0, .int .i64 0, .int .i64 0, .int .i64 0, .int .i64 0, .int .i64 0, .int .i64 0, .int .i64 0, .int .i64 0, .int .i64 0, .int .i64 0, .int .i64 0, .int .i64 0, .int .i64 0, .int .i64 0] := by
    refine ⟨by rw [← hW0]; exact World.alloc_heap_new _ _, rfl, rfl, fun j hj => ?_⟩
    match j, hj with
    | 0, _ | 1, _ | 2, _ | 3, _ | 4, _ | 5, _ | 6, _ | 7, _ | 8, _ | 9, _ | 10, _ | 11, _ | 12, _ | 13, _ | 14, _ | 15, _ | 16, _ | 17, _ | 18, _ => rfl
    | n + 19, hj => exact absurd hj (by omega)
  have hR0 : Rf W0 B s o q3 b3 out := by rw [← hW0]; exact hR3.alloc _
  have hF0 : Fr B o w o W0 := by rw [← hW0]; exact hF3.trans (Fr.alloc _ _ _ _)
  have hlt3 : w.heap.size ≤ w3.heap.size := hF3.size
  clear hW0 hmk
  go_loopw [6] (fun iv wr => ∃ (i q : Nat) (bd : Bool) (lst : List Nat) (arr : Array Value), iv = .int .i64 (i : Int) ∧ i ≤ 4 + z ∧ Rf wr B s o q bd out ∧ Fr B o w o wr ∧ L19 wr w3.heap.size lst arr ∧ bd = (bad || over s p (14 + 3 * i)) ∧ (bd = false → lst = clens s (p + 14) i ∧ q = p + 14 + 3 * i))
    (fun iv _ => 19 - (intOf iv).toNat)
  case atStart => exact ⟨0, q3, b3, _, _, rfl, by omega, hR0, hF0, hL0, unhide HB, fun e => ⟨rfl, by have := (unhide HV e).2.2.2; omega⟩⟩
  case round =>
    clear hL0 hR0 hF0
    obtain ⟨i, q, bd, lst, arr, rfl, hi, hR, hF, hL, hbd, hvd⟩ := hrel
    have HBD := hide hbd
    have HVD := hide hvd
    clear hbd hvd
    by_cases hlt : i < 4 + z
    · have hTi := hT.kept hF hB20 h.bt.lt h.own
      have co := hTi.order i (by simp [orderT]; omega)
      have hoi := order_lt i (by omega)
      obtain ⟨oi, hoi2⟩ : ∃ oi, nth orderT i = oi := ⟨_, rfl⟩
      rw [hoi2] at co hoi
      have HOI := hide hoi2
      clear hoi2
      have hltL := (Array.getElem?_eq_some_iff.1 hL.blk).1
      have hoiI : (oi : Int) < 19 := by omega
      have hiI : (i : Int) < 19 := by omega
      have hlt' : (i : Int) < 4 + (z : Int) := by omega
      have fL : ∀ (w' : World) (r : Option Nat), wr.grownBy w' r → r ≠ some w3.heap.size → w'.frozen? ⟨w3.heap.size, oi, none⟩ = false ∧ ∃ v, w'.cell? ⟨w3.heap.size, oi, none⟩ = some v := fun w' r hg hne => by
        have := (hL.kept hg hne)
        exact ⟨by simp [World.frozen?, this.blk], _, by simp only [World.cell?, this.blk]; simpa using this.c oi hoi⟩
      go_wp2_with fail
      go_region_with (go_at_call 12; (refine (bits_rf _ B s q 3 _ bd o out (by exact hR.drew) hs rfl (by omega)).mono ?_; rintro e w5 ⟨v, q5, b5, rfl, hR5, k5, hv5, hb5, hw5⟩; have hTi2 := hTi.kept ((Fr.drew B o wr).trans (Fr.of_grown o k5)) hB20 (by exact hR.bt.lt) hR.own; have co2 := hTi2.order i (by simp [orderT]; omega); rw [unhide HOI] at co2; have hgk : wr.grownBy w5 (some B) := grownBy_trans (grownBy_drew wr (some B)) k5; obtain ⟨ff, vv, cv⟩ := fL w5 (some B) hgk (by simp; omega)))
      all_goals
        have hgs := grownBy_setCell w5 w3.heap.size oi (.int .i64 (v : Int))
        have hL5 := (hL.kept hgk (by simp; omega)).set hoi v
        have hR6 := hR5.byGrown hgs (by simp; omega) (by cases eo : o.ownBlock with | none => exact .inl rfl | some k => right; have := hoo k eo; simp; omega)
        have hF6 : Fr B o w o (w5.setCell ⟨w3.heap.size, oi, none⟩ (.int .i64 (v : Int))) := ((hF.trans (Fr.drew B o wr)).trans (Fr.of_grown o k5)).grow hgs (fun k e => by simp at e; omega)
        have hb6 : b5 = (bad || over s p (14 + 3 * (i + 1))) := by
          have := over_more (unhide HBD) (fun e => by have := (unhide HVD e).2; omega) hb5
          rw [this, show 14 + 3 * (i + 1) = 14 + 3 * i + 3 by omega]
        have hv6 : b5 = false → lst.set oi v = clens s (p + 14) (i + 1) ∧ q5 = p + 14 + 3 * (i + 1) := fun e => by
          have e0 : bd = false := (Bool.or_eq_false_iff.1 (hb5.symm.trans e)).1
          obtain ⟨e1, e2⟩ := unhide HVD e0
          obtain ⟨e3, e4⟩ := hw5 e
          refine ⟨?_, by omega⟩
          rw [e1, e3, e2, ← unhide HOI]; rfl
        have HB6 := hide hb6
        have HV6 := hide hv6
        clear hb6 hv6 hb5 hw5
        go_wp2_with fail
        have hms : 19 - (i + 1) < 19 - i := by omega
        first
          | exact ⟨⟨i + 1, q5, b5, _, _, by go_num, by omega, hR6, hF6, hL5, unhide HB6, unhide HV6⟩, by simp [intOf]; omega⟩
          | (refine ⟨?_, by simp [intOf]; omega⟩; (repeat apply Exists.intro); exact ⟨⟨i + 1, q5, b5, _, _, by go_num, by omega, hR6, hF6, hL5, unhide HB6, unhide HV6⟩, rfl⟩)
    · have ei : i = 4 + z := by omega
      have VD : Hid (bd = false → x = numOf s p 5 ∧ y = numOf s (p + 5) 5 ∧ z = numOf s (p + 10) 4 ∧ i = 4 + z ∧ lst = clens s (p + 14) i) := fun e => by
        have e0 : b3 = false := by
          have h1 := Bool.or_eq_false_iff.1 ((unhide HBD).symm.trans e)
          have h2 := h1.2
          simp [over] at h2
          rw [unhide HB, h1.1]; simp [over]; omega
        obtain ⟨a1, a2, a3, _⟩ := unhide HV e0
        exact ⟨a1, a2, a3, ei, (unhide HVD e).1⟩
      have ZZ : Hid (bad = false → over s p 14 = false → z = numOf s (p + 10) 4 ∧ i = 4 + z) := fun e1 e2 => by
        have e0 : b3 = false := by rw [unhide HB, e1, e2]; rfl
        exact ⟨(unhide HV e0).2.2.1, ei⟩
      have hlst := hL.len
      have hQ : Hid (bd = false → q = p + 14 + 3 * i) := fun e => (unhide HVD e).2
      have hltL := (Array.getElem?_eq_some_iff.1 hL.blk).1
      have hlt' : ¬ (i : Int) < 4 + (z : Int) := by omega
      go_wp2_with fail
      refine (code_n wr w3.heap.size 0 19 19 lst hL.nums (by omega) hlst.symm).mono ?_
      rintro e w5 ⟨carr, csg, rfl, hca, hcs, hB5, hone⟩
      have hwh : ∀ m : Nat, m = kraftTo lst 15 → ((m : Int) == 32768) = whole lst := fun m e => by unfold whole; rw [e, Bool.eq_iff_iff]; simp; omega
      cases bd with
      | true =>
        have FIN : Hid (ownB bad s p out = none) := own_no (unhide HBD) (unhide VD) (.inl rfl) (unhide ZZ)
        clear HBD HVD VD ZZ hQ hwh
        go_wp2_with (first | (go_at_call 28; refine (over_any _ carr lst csg hca).mono ?_; rintro e w7 ⟨rfl, x7, rfl⟩) | (refine load_whole_g 46 _ rfl (by rfl) w5.heap.size rfl 46 carr (0, 0) (by assumption) Tryd.aggCode (Tryd.infoCode carr hca.size) ?_) | (refine wpList_store_row rfl 46 _ _ rfl w5.heap.size _ rfl rfl 46 _ (World.alloc_heap_new w5 _) (Tryd.infoCode _ hca.size) (by rw [hca.size]; rfl) hone ?_; obtain ⟨W6, hW6, hX6, hB6⟩ := laid_code w5 _ carr (hca.size); rw [hW6]; clear hW6; have hBw := hB5.trans (hB6.mono hB5.size); have hR6 := hR.byGrown (below_none hBw) (by simp) (none_or _); have hF6 : Fr B o w o W6 := hF.grow (below_none hBw) (fun k e => by cases e); have c26 := hR6.bt.c2; have f26 := hR6.bt.fr 2))
        first | go_end0 | refine bodyPost_ret (results_none rfl _ _ _) rfl ?_
        exact ⟨rfl, o, q, true, out, hR6.setBad, hF6.trans (Fr.of_grown o (grownBy_setCell _ _ _ _)), FIN.out.symm⟩
      | false =>
        have VD' := unhide VD rfl
        have hQ' := unhide hQ rfl
        by_cases hx29 : x ≤ 29
        · by_cases hy29 : y ≤ 29
          · by_cases hwl : whole lst = true
            · have GO : Hid (ownB bad s p out = ownC (readL lst s (258 + x + y) (258 + x + y + 1) q []) x s out) := own_go (unhide HBD) VD' hQ' hx29 hy29 hwl
              have hk := hwh _ rfl
              have hne : ((kraftTo lst 15 : Int) != 32768) = false := by
                have : ((kraftTo lst 15 : Int) == 32768) = true := by rw [hk]; simpa using hwl
                simpa [bne] using this
              have d1 : decide ((286 : Int) < 257 + (x : Int)) = false := by simp; omega
              have d2 : decide ((30 : Int) < 1 + (y : Int)) = false := by simp; omega
              clear HBD HVD VD ZZ hQ hwh hk hwl VD' hQ'
              go_wp2_with (first | (go_at_call 28; refine (over_any _ carr lst csg hca).mono ?_; rintro e w7 ⟨rfl, x7, rfl⟩; have c27 := (hR6.alloc x7).bt.c2; have f27 := (hR6.alloc x7).bt.fr 2; have hX7 := (Below.heap_alloc W6 x7 w5.heap.size (Array.getElem?_eq_some_iff.1 hX6).1).trans hX6) | (refine load_whole rfl 46 _ rfl w5.heap.size rfl 46 carr (0, 0) hX7 Tryd.aggCode (Tryd.infoCode carr hca.size) ?_) | (refine load_whole_g 46 _ rfl ?_ w5.heap.size rfl 46 carr (0, 0) hX6 Tryd.aggCode (Tryd.infoCode carr hca.size) ?_; (next => first | rfl | simp [Region.wanted, yielded])) | (refine wpList_store_row rfl 46 _ _ rfl w5.heap.size _ rfl rfl 46 _ (World.alloc_heap_new w5 _) (Tryd.infoCode _ hca.size) (by rw [hca.size]; rfl) hone ?_; obtain ⟨W6, hW6, hX6, hB6⟩ := laid_code w5 _ carr (hca.size); rw [hW6]; clear hW6; have hBw := hB5.trans (hB6.mono hB5.size); have hR6 := hR.byGrown (below_none hBw) (by simp) (none_or _); have hF6 : Fr B o w o W6 := hF.grow (below_none hBw) (fun k e => by cases e); have c26 := hR6.bt.c2; have f26 := hR6.bt.fr 2))
              have hBwr : B < wr.heap.size := hR.bt.lt
              have hsg7 : Sg (W6.alloc x7) B o csg lst := ((hcs.below hB6).below ((Below.refl _ _).alloc (Nat.le_refl _) _)).sg hBwr (fun k e => by have := hoo k e; have := hF.size; omega)
              refine (lengths_walk _ B s q (258 + x + y) _ o out carr lst csg (hR6.alloc x7) hs hca hsg7 (by omega) (by omega)).mono ?_
              rintro e w8 ⟨v, q4, b4, all, rfl, hRow, hR8, hF8, hE8⟩
              rw [← hE8] at GO
              have hF8w : Fr B o w o w8 := (hF6.trans (Fr.alloc _ _ _ _)).trans hF8
              have c28 := hR8.bt.c2
              have f28 := hR8.bt.fr 2
              have hs7 : (W6.alloc x7).heap.size = W6.heap.size + 1 := by simp
              rw [hs7] at hRow
              cases b4 with
              | true =>
                have FIN : Hid (ownB bad s p out = none) := GO
                clear GO hE8
                obtain ⟨a8, cp8, rfl⟩ := hRow.shape
                go_wp2_with fail
                first | go_end0 | refine bodyPost_ret (results_none rfl _ _ _) rfl ?_
                exact ⟨rfl, o, q4, true, out, hR8.setBad, hF8w.trans (Fr.of_grown o (grownBy_setCell _ _ _ _)), FIN.out.symm⟩
              | false =>
                have hal := readL_len hE8.symm
                have GO2 : Hid (ownB bad s p out = ownC (some (q4, all)) x s out) := GO
                clear GO hE8
                obtain ⟨g8, cp8, rfl, hb8, hn8⟩ := hRow.nums (by omega)
                have hcp : all.length ≤ cp8 := by
                  rcases hRow.2 with ⟨e, _⟩ | ⟨g, cap, cur, e, _, _, hc, _⟩
                  · simp at e
                  · simp at e; omega
                have hc256 := hn8.2 256 (by omega)
                have hall := hal
                rw [hal] at hcp ⊢
                by_cases hz256 : nth all 256 = 0
                · have FIN : Hid (ownB bad s p out = none) := by
                    refine GO2.out.trans ?_
                    unfold ownC; simp only; rw [if_neg]; rintro ⟨h1, _⟩; exact h1 hz256
                  have hzz : ((nth all 256 : Int) == 0) = true := by rw [hz256]; rfl
                  have HZ := hide hz256
                  have HAL := hide hal
                  clear hz256 hal hall GO2
                  simp only [Nat.zero_add] at hc256
                  go_wp2_with fail
                  first | go_end0 | refine bodyPost_ret (results_none rfl _ _ _) rfl ?_
                  exact ⟨rfl, o, q4, true, out, hR8.setBad, hF8w.trans (Fr.of_grown o (grownBy_setCell _ _ _ _)), FIN.out.symm⟩
                · have hzz : ((nth all 256 : Int) == 0) = false := by rw [beq_eq_false_iff_ne]; omega
                  have HZ := hide hz256
                  have HAL := hide hal
                  clear hz256 hal hall
                  simp only [Nat.zero_add] at hc256
                  go_wp2_with fail
                  refine (code_n w8 g8 0 cp8 (257 + x) (all.take (257 + x)) (hn8.take _) (by have := unhide HAL; simp; omega) (by have := unhide HAL; simp; omega)).mono ?_
                  rintro e w9 ⟨a1, s1, rfl, hc1, hs1, hB9, ho1⟩
                  go_wp2_with (refine wpList_store_row rfl 46 _ _ rfl w9.heap.size _ rfl rfl 46 _ (World.alloc_heap_new w9 _) (Tryd.infoCode _ hc1.size) (by rw [hc1.size]; rfl) ho1 ?_; obtain ⟨W10, hW10, hX10, hB10⟩ := laid_code w9 _ a1 (hc1.size); rw [hW10]; clear hW10)
                  have hB8 : Below w8.heap.size w8 W10 := hB9.trans (hB10.mono hB9.size)
                  have hn10 := (hn8.below hB8).drop (257 + x)
                  rw [Nat.zero_add] at hn10
                  refine (code_n W10 g8 (257 + x) _ _ (all.drop (257 + x)) hn10 (by have := unhide HAL; simp; omega) (by have := unhide HAL; simp; omega)).mono ?_
                  rintro e w11 ⟨a2, s2, rfl, hc2, hs2, hB11, ho2⟩
                  have HB1 : Hid ((if used (all.take (257 + x)) = 0 then false else (whole (all.take (257 + x)) || single (all.take (257 + x)))) = goodB (all.take (257 + x))) := good_b _
                  have HB2 : Hid ((if used (all.drop (257 + x)) = 0 then true else (whole (all.drop (257 + x)) || single (all.drop (257 + x)))) = goodD (all.drop (257 + x))) := good_d _
                  obtain ⟨l1, hl1⟩ : ∃ l1, all.take (257 + x) = l1 := ⟨_, rfl⟩
                  obtain ⟨l2, hl2⟩ : ∃ l2, all.drop (257 + x) = l2 := ⟨_, rfl⟩
                  rw [hl1] at hc1 hs1 HB1
                  rw [hl2] at hc2 hs2 HB2
                  have GO3 : Hid (ownB bad s p out = if goodB l1 = true ∧ goodD l2 = true then blk l1 l2 s (8 * s.size + 1 - q4) q4 out else none) := by
                    refine GO2.out.trans ?_
                    unfold ownC; simp only; rw [hl1, hl2]
                    by_cases hg : goodB l1 = true ∧ goodD l2 = true
                    · rw [if_pos hg, if_pos ⟨unhide HZ, hg.1, hg.2⟩]
                    · rw [if_neg hg, if_neg (fun h => hg h.2)]
                  clear hl1 hl2 GO2 hn10 hc256 hzz HZ HAL hn8 hRow
                  obtain ⟨gb, hgb⟩ : ∃ gb, goodB l1 = gb := ⟨_, rfl⟩
                  obtain ⟨gd, hgd⟩ : ∃ gd, goodD l2 = gd := ⟨_, rfl⟩
                  rw [hgb] at HB1 GO3
                  rw [hgd] at HB2 GO3
                  clear hgb hgd
                  have hR8l := hR8.bt.lt
                  have good1 : ∀ W : World, Calls Tryd.prog 30 #[.agg a1, .bool false] W fun e w' => e = .returned (.bool gb) ∧ W.grownBy w' none := fun W => by
                    have := good_any W a1 l1 s1 false hc1
                    rw [unhide HB1] at this; exact this
                  have good2 : ∀ W : World, Calls Tryd.prog 30 #[.agg a2, .bool true] W fun e w' => e = .returned (.bool gd) ∧ W.grownBy w' none := fun W => by
                    have := good_any W a2 l2 s2 true hc2
                    rw [unhide HB2] at this; exact this
                  have G1 : Hid (∀ W : World, Calls Tryd.prog 30 #[.agg a1, .bool false] W fun e w' => e = .returned (.bool gb) ∧ W.grownBy w' none) := good1
                  have G2 : Hid (∀ W : World, Calls Tryd.prog 30 #[.agg a2, .bool true] W fun e w' => e = .returned (.bool gd) ∧ W.grownBy w' none) := good2
                  clear good1 good2 HB1 HB2
                  go_wp2_with (first | (refine load_whole rfl 46 _ rfl w9.heap.size rfl 46 a1 (0, 0) hX12a Tryd.aggCode (Tryd.infoCode a1 hc1.size) ?_) | (refine wpList_store_row rfl 46 _ _ rfl w11.heap.size _ rfl rfl 46 _ (World.alloc_heap_new w11 _) (Tryd.infoCode _ hc2.size) (by rw [hc2.size]; rfl) ho2 ?_; obtain ⟨W12, hW12, hX12, hB12⟩ := laid_code w11 _ a2 (hc2.size); rw [hW12]; clear hW12; have hB10w := hB11.trans (hB12.mono hB11.size); have hX12a := (hB10w.block w9.heap.size (Array.getElem?_eq_some_iff.1 hX10).1).trans hX10))
                  refine (unhide G1 _).mono ?_
                  rintro e w13 ⟨rfl, hg13⟩
                  have hB8w : Below w8.heap.size w8 W12 := hB8.trans (hB10w.mono hB8.size)
                  have hg8 := grownBy_trans (below_none hB8w) hg13
                  have hR13 := hR8.byGrown hg8 (by simp) (none_or _)
                  have hF13 : Fr B o w o w13 := hF8w.grow hg8 (fun k e => by cases e)
                  have c13 := hR13.bt.c2
                  have f13 := hR13.bt.fr 2
                  have hXa := (hg13.block w9.heap.size (Array.getElem?_eq_some_iff.1 hX12a).1 (by simp)).trans hX12a
                  have hXb := (hg13.block w11.heap.size (Array.getElem?_eq_some_iff.1 hX12).1 (by simp)).trans hX12
                  cases gb with
                  | false =>
                    have FIN : Hid (ownB bad s p out = none) := GO3.out.trans (by simp)
                    clear GO3
                    go_wp2_with fail
                    first | go_end0 | refine bodyPost_ret (results_none rfl _ _ _) rfl ?_
                    exact ⟨rfl, o, q4, true, out, hR13.setBad, hF13.trans (Fr.of_grown o (grownBy_setCell _ _ _ _)), FIN.out.symm⟩
                  | true =>
                    have GO4 : Hid (ownB bad s p out = if gd = true then blk l1 l2 s (8 * s.size + 1 - q4) q4 out else none) := GO3.out.trans (by simp)
                    clear GO3
                    go_wp2_with (refine load_whole_g 46 _ rfl ?_ w11.heap.size rfl 46 a2 (0, 0) hXb Tryd.aggCode (Tryd.infoCode a2 hc2.size) ?_; (next => first | rfl | simp [Region.wanted, yielded]))
                    refine (unhide G2 _).mono ?_
                    rintro e w14 ⟨rfl, hg14⟩
                    have hR14 := hR13.byGrown hg14 (by simp) (none_or _)
                    have hF14 : Fr B o w o w14 := hF13.grow hg14 (fun k e => by cases e)
                    have c14 := hR14.bt.c2
                    have f14 := hR14.bt.fr 2
                    have hXa4 := (hg14.block w9.heap.size (Array.getElem?_eq_some_iff.1 hXa).1 (by simp)).trans hXa
                    have hXb4 := (hg14.block w11.heap.size (Array.getElem?_eq_some_iff.1 hXb).1 (by simp)).trans hXb
                    cases gd with
                    | false =>
                      have FIN : Hid (ownB bad s p out = none) := GO4.out.trans (by simp)
                      clear GO4
                      go_wp2_with fail
                      first | go_end0 | refine bodyPost_ret (results_none rfl _ _ _) rfl ?_
                      exact ⟨rfl, o, q4, true, out, hR14.setBad, hF14.trans (Fr.of_grown o (grownBy_setCell _ _ _ _)), FIN.out.symm⟩
                    | true =>
                      have FIN : Hid (ownB bad s p out = blk l1 l2 s (8 * s.size + 1 - q4) q4 out) := GO4.out.trans (by simp)
                      clear GO4
                      go_wp2_with (first | (refine load_whole rfl 46 _ rfl w9.heap.size rfl 46 a1 (0, 0) hXa4 Tryd.aggCode (Tryd.infoCode a1 hc1.size) ?_) | (refine load_whole rfl 46 _ rfl w11.heap.size rfl 46 a2 (0, 0) hXb4 Tryd.aggCode (Tryd.infoCode a2 hc2.size) ?_))
                      have s1' : SgN w14 w8.heap.size s1 l1 := (((hs1.below hB10).below hB10w).grown hg13).grown hg14
                      have s2' : SgN w14 W10.heap.size s2 l2 := ((hs2.below hB12).grown hg13).grown hg14
                      have hoo8 : ∀ k, o.ownBlock = some k → k < w8.heap.size := fun k e => (World.ownsRow.lt hR8.row k e).2
                      refine (block_walk w14 B s q4 false o out a1 a2 l1 l2 s1 s2 hR14 hs hc1 (s1'.sg hR8l hoo8) hc2 (s2'.sg (by have := hB8.size; omega) (fun k e => by have := hoo8 k e; have := hB8.size; omega)) (hT.kept hF14 hB20 h.bt.lt h.own) hB20).mono ?_
                      rintro e w15 ⟨rfl, o', q', b', out', hR', hF', hE'⟩
                      have FIN2 : Hid (st b' q' out' = ownB bad s p out) := hE'.trans FIN.out.symm
                      clear hE' FIN
                      go_wp2_with fail
                      first | go_end0 | refine bodyPost_ret (results_none rfl _ _ _) rfl ?_
                      exact ⟨rfl, o', q', b', out', hR', hF14.trans hF', FIN2.out⟩
            · have FIN : Hid (ownB bad s p out = none) := own_no (unhide HBD) (unhide VD) (.inr (.inr (.inr hwl))) (unhide ZZ)
              have hk := hwh _ rfl
              have hne : ((kraftTo lst 15 : Int) != 32768) = true := by
                have : ((kraftTo lst 15 : Int) == 32768) = false := by rw [hk]; simpa using hwl
                simpa [bne] using this
              have d1 : decide ((286 : Int) < 257 + (x : Int)) = false := by simp; omega
              have d2 : decide ((30 : Int) < 1 + (y : Int)) = false := by simp; omega
              clear HBD HVD VD ZZ hQ hwh hk hwl VD' hQ'
              go_wp2_with (first | (go_at_call 28; refine (over_any _ carr lst csg hca).mono ?_; rintro e w7 ⟨rfl, x7, rfl⟩; have c27 := (hR6.alloc x7).bt.c2; have f27 := (hR6.alloc x7).bt.fr 2) | (refine load_whole_g 46 _ rfl ?_ w5.heap.size rfl 46 carr (0, 0) hX6 Tryd.aggCode (Tryd.infoCode carr hca.size) ?_; (next => first | rfl | simp [Region.wanted, yielded])) | (refine wpList_store_row rfl 46 _ _ rfl w5.heap.size _ rfl rfl 46 _ (World.alloc_heap_new w5 _) (Tryd.infoCode _ hca.size) (by rw [hca.size]; rfl) hone ?_; obtain ⟨W6, hW6, hX6, hB6⟩ := laid_code w5 _ carr (hca.size); rw [hW6]; clear hW6; have hBw := hB5.trans (hB6.mono hB5.size); have hR6 := hR.byGrown (below_none hBw) (by simp) (none_or _); have hF6 : Fr B o w o W6 := hF.grow (below_none hBw) (fun k e => by cases e); have c26 := hR6.bt.c2; have f26 := hR6.bt.fr 2))
              first | go_end0 | refine bodyPost_ret (results_none rfl _ _ _) rfl ?_
              exact ⟨rfl, o, q, true, out, (hR6.alloc _).setBad, (hF6.trans (Fr.alloc _ _ _ _)).trans (Fr.of_grown o (grownBy_setCell _ _ _ _)), FIN.out.symm⟩
          · have FIN : Hid (ownB bad s p out = none) := own_no (unhide HBD) (unhide VD) (.inr (.inr (.inl hy29))) (unhide ZZ)
            have d1 : decide ((286 : Int) < 257 + (x : Int)) = false := by simp; omega
            have d2 : decide ((30 : Int) < 1 + (y : Int)) = true := by simp; omega
            clear HBD HVD VD ZZ hQ hwh VD' hQ'
            go_wp2_with (first | (go_at_call 28; refine (over_any _ carr lst csg hca).mono ?_; rintro e w7 ⟨rfl, x7, rfl⟩) | (refine load_whole_g 46 _ rfl (by rfl) w5.heap.size rfl 46 carr (0, 0) (by assumption) Tryd.aggCode (Tryd.infoCode carr hca.size) ?_) | (refine wpList_store_row rfl 46 _ _ rfl w5.heap.size _ rfl rfl 46 _ (World.alloc_heap_new w5 _) (Tryd.infoCode _ hca.size) (by rw [hca.size]; rfl) hone ?_; obtain ⟨W6, hW6, hX6, hB6⟩ := laid_code w5 _ carr (hca.size); rw [hW6]; clear hW6; have hBw := hB5.trans (hB6.mono hB5.size); have hR6 := hR.byGrown (below_none hBw) (by simp) (none_or _); have hF6 : Fr B o w o W6 := hF.grow (below_none hBw) (fun k e => by cases e); have c26 := hR6.bt.c2; have f26 := hR6.bt.fr 2))
            first | go_end0 | refine bodyPost_ret (results_none rfl _ _ _) rfl ?_
            exact ⟨rfl, o, q, true, out, hR6.setBad, hF6.trans (Fr.of_grown o (grownBy_setCell _ _ _ _)), FIN.out.symm⟩
        · have FIN : Hid (ownB bad s p out = none) := own_no (unhide HBD) (unhide VD) (.inr (.inl hx29)) (unhide ZZ)
          have d1 : decide ((286 : Int) < 257 + (x : Int)) = true := by simp; omega
          clear HBD HVD VD ZZ hQ hwh VD' hQ'
          go_wp2_with (first | (go_at_call 28; refine (over_any _ carr lst csg hca).mono ?_; rintro e w7 ⟨rfl, x7, rfl⟩) | (refine load_whole_g 46 _ rfl (by rfl) w5.heap.size rfl 46 carr (0, 0) (by assumption) Tryd.aggCode (Tryd.infoCode carr hca.size) ?_) | (refine wpList_store_row rfl 46 _ _ rfl w5.heap.size _ rfl rfl 46 _ (World.alloc_heap_new w5 _) (Tryd.infoCode _ hca.size) (by rw [hca.size]; rfl) hone ?_; obtain ⟨W6, hW6, hX6, hB6⟩ := laid_code w5 _ carr (hca.size); rw [hW6]; clear hW6; have hBw := hB5.trans (hB6.mono hB5.size); have hR6 := hR.byGrown (below_none hBw) (by simp) (none_or _); have hF6 : Fr B o w o W6 := hF.grow (below_none hBw) (fun k e => by cases e); have c26 := hR6.bt.c2; have f26 := hR6.bt.fr 2))
          first | go_end0 | refine bodyPost_ret (results_none rfl _ _ _) rfl ?_
          exact ⟨rfl, o, q, true, out, hR6.setBad, hF6.trans (Fr.of_grown o (grownBy_setCell _ _ _ _)), FIN.out.symm⟩

end Go.Proofs.YtgffljllfenhkaaDoor
