import Derived.Test.YtgffljllfenhkaaDoorRefG
namespace Go.Proofs.YtgffljllfenhkaaDoor
open Go.RowKit

/-- A list's number at a place. -/
def nth (l : List Nat) (i : Nat) : Nat := l.getD i 0
/-- A row of numbers, to be read: l.length of them from a place on. -/
def Nums (w : World) (g off : Nat) (l : List Nat) : Prop := g < w.heap.size ∧ ∀ i, i < l.length → w.cell? ⟨g, off + i, none⟩ = some (.int .i64 (nth l i : Int))
theorem Nums.below {w w' : World} {g off : Nat} {l : List Nat} (h : Nums w g off l) (hb : Below w.heap.size w w') : Nums w' g off l :=
  ⟨Nat.lt_of_lt_of_le h.1 hb.size, fun i hi => (hb.cell (p := ⟨g, off + i, none⟩) h.1).trans (h.2 i hi)⟩

def cfO (l : List Nat) (k : Nat) : Nat → Nat := fun m => if 1 ≤ m ∧ m ≤ k then cnt m l else 0
def cfI (l : List Nat) (k i : Nat) : Nat → Nat := fun m => if m = k + 1 then (idxsTo (k + 1) l i).length else cfO l k m
theorem cfI_zero (l : List Nat) (k m : Nat) : cfO l k m = cfI l k 0 m := by
  unfold cfI; split
  · subst m; simp only [cfO, idxsTo]; rw [if_neg (by omega)]; rfl
  · rfl
theorem cfI_all (l : List Nat) (k m : Nat) : cfI l k l.length m = cfO l (k + 1) m := by
  unfold cfI cfO; rw [idxsTo_all]
  split
  · subst m; rw [if_pos (by omega)]; rfl
  · by_cases h : 1 ≤ m ∧ m ≤ k
    · rw [if_pos h, if_pos (by omega)]
    · rw [if_neg h, if_neg (by omega)]
theorem cfI_hit {l : List Nat} {k i : Nat} (h : l.getD i 0 = k + 1) (m : Nat) : (if m = k + 1 then (idxsTo (k + 1) l i).length + 1 else cfI l k i m) = cfI l k (i + 1) m := by
  unfold cfI; rw [idxsTo_hit h]
  split <;> simp
theorem cfI_miss {l : List Nat} {k i : Nat} (h : ¬ l.getD i 0 = k + 1) (m : Nat) : cfI l k i m = cfI l k (i + 1) m := by
  unfold cfI; rw [idxsTo_miss h]

/-- The whole code, made. -/
theorem Cb.done {w : World} {C : Nat} {l : List Nat} {sv : Value} {arr : Array Value} (h : Cb w C (cfO l 15) sv arr) (hl : l.length ≤ 400) : CodeA (arr.setIfInBounds 17 (.int .i64 (used l : Int))) l sv := by
  have hs := h.size
  refine ⟨by simp [hs], ?_, ?_, ?_, hl⟩
  · intro n h1 h2
    rw [Array.getElem?_setIfInBounds, if_neg (by omega), h.c n h2]
    unfold intV cfO; rw [if_pos (by omega)]
  · rw [Array.getElem?_setIfInBounds, if_neg (by omega)]; exact h.s
  · rw [Array.getElem?_setIfInBounds, if_pos rfl]; simp [hs]
theorem Cb.one {w : World} {C : Nat} {l : List Nat} {a : Option Addr} {n cap : Nat} {arr : Array Value} (h : Cb w C (cfO l 15) (.slice a n cap) arr) (x : Int) : (arr.setIfInBounds 17 (.int .i64 x)).all (·.oneCell') = true := by
  have hs := h.size
  rw [Array.all_eq_true]
  intro i hi
  have hi' : i < 18 := by simpa [hs] using hi
  have key : ∀ v, (arr.setIfInBounds 17 (.int .i64 x))[i]? = some v → v.oneCell' = true := by
    intro v hv
    rw [Array.getElem?_setIfInBounds] at hv
    by_cases e : 17 = i
    · rw [if_pos e] at hv; simp [hs] at hv; rw [← hv]; rfl
    · rw [if_neg e] at hv
      by_cases e6 : i = 16
      · subst e6; rw [h.s] at hv; simp at hv; rw [← hv]; rfl
      · rw [h.c i (by omega)] at hv; simp at hv; rw [← hv]; rfl
  exact key _ (Array.getElem?_eq_getElem hi)

theorem grownBy_setRow (w : World) (g : Nat) (cs : Array Value) : w.grownBy (w.setRow g cs) (some g) :=
  ⟨rfl, rfl, rfl, by simp, fun k _ hk => setRow_other w g k _ (fun e => hk (by rw [e]))⟩

set_option maxHeartbeats 1000000 in
set_option maxRecDepth 100000 in
theorem code_walk (w : World) (g off cap : Nat) (l : List Nat) (hl : Nums w g off l) (hlen : l.length ≤ 400) :
    Calls Tryd.prog 16 #[.slice (some ⟨g, off, none⟩) l.length cap] w fun e w' => ∃ arr sg, e = .returned (.agg arr) ∧ CodeA arr l sg ∧ SgN w' w.heap.size sg l ∧ Below w.heap.size w w' ∧ arr.all (·.oneCell') = true := by
  obtain ⟨i0, hi, hz0, hz1, hz2⟩ := info_parts Tryd.info3
  go_enter Tryd.func16, Tryd.ntmps16
  go_wp2_with fail
  obtain ⟨W0, hW0⟩ : ∃ W0, ((w.alloc (.cells #[.int .i64 0, .int .i64 0, .int .i64 0, .int .i64 0, .int .i64 0, .int .i64 0, .int .i64 0, .int .i64 0, .int .i64 0, .int .i64 0, .int .i64 0, .int .i64 0, .int .i64 0, .int .i64 0, .int .i64 0, .int .i64 0, .slice none 0 0, .int .i64 0] 46)).alloc (.cells #[.int .i64 0, .int .i64 0, .int .i64 0, .int .i64 0, .int .i64 0, .int .i64 0, .int .i64 0, .int .i64 0, .int .i64 0, .int .i64 0, .int .i64 0, .int .i64 0, .int .i64 0, .int .i64 0, .int .i64 0, .int .i64 0, .slice none 0 0, .int .i64 0] 46)) = W0 := ⟨_, rfl⟩
  rw [hW0]
  have hB0 : Below w.heap.size w W0 := by rw [← hW0]; exact ((Below.refl _ _).alloc (Nat.le_refl _) _).alloc (by simp) _
  have hC0 : Cb W0 (w.heap.size + 1) (cfO l 0) (.slice none 0 0) #[.int .i64 0, .int .i64 0, .int .i64 0, .int .i64 0, .int .i64 0, .int .i64 0, .int .i64 0, .int .i64 0, .int .i64 0, .int .i64 0, .int .i64 0, .int .i64 0, .int .i64 0, .int .i64 0, .int .i64 0, .int .i64 0, .slice none 0 0, .int .i64 0] := by
    refine ⟨by rw [← hW0]; exact heap_alloc2_new w _ _, rfl, ?_, rfl, rfl⟩
    intro m hm
    have : cfO l 0 m = 0 := by unfold cfO; rw [if_neg (by omega)]
    rw [this]
    match m, hm with
    | 0, _ | 1, _ | 2, _ | 3, _ | 4, _ | 5, _ | 6, _ | 7, _ | 8, _ | 9, _ | 10, _ | 11, _ | 12, _ | 13, _ | 14, _ | 15, _ => rfl
  have hR0 : ∃ old : Array Value, old.size = 18 ∧ W0.heap[w.heap.size]? = some (.cells old 46 (0, 0)) := ⟨_, rfl, by rw [← hW0]; exact heap_alloc2_old w _ _⟩
  have hS0 : RowI W0 (w.heap.size + 2) (.slice none 0 0) (sig l 1) := World.ownsRow_nil _ _ _ _
  clear hW0
  go_loopw [4] (fun nv wr => ∃ (k : Nat) (sv : Value) (arr : Array Value), k ≤ 15 ∧ nv = .int .i64 ((k : Int) + 1) ∧ Cb wr (w.heap.size + 1) (cfO l k) sv arr ∧ RowI wr (w.heap.size + 2) sv (sig l (k + 1)) ∧ Below w.heap.size w wr ∧
      ∃ old : Array Value, old.size = 18 ∧ wr.heap[w.heap.size]? = some (.cells old 46 (0, 0)))
    (fun nv _ => 16 - (intOf nv).toNat)
  case atStart => exact ⟨0, _, _, by omega, rfl, hC0, hS0, hB0, hR0⟩
  case round =>
    clear hC0 hS0 hB0 hR0
    obtain ⟨k, sv, arr, hk, rfl, hC, hS, hB, hR⟩ := hrel
    obtain ⟨old, hold, hR⟩ := hR
    have hsz := hC.lt
    by_cases hlt : k < 15
    · have hd15 : decide ((k : Int) + 1 ≤ 15) = true := by simp; omega
      go_wp2_with fail
      go_loopw [5] (fun iv wr => ∃ (i : Nat) (sv : Value) (arr : Array Value), i ≤ l.length ∧ iv = .int .i64 (i : Int) ∧ Cb wr (w.heap.size + 1) (cfI l k i) sv arr ∧ RowI wr (w.heap.size + 2) sv (sig l (k + 1) ++ idxsTo (k + 1) l i) ∧ Below w.heap.size w wr ∧
          wr.heap[w.heap.size]? = some (.cells old 46 (0, 0)))
        (fun iv _ => l.length - (intOf iv).toNat)
      case atStart => exact ⟨0, sv, arr, by omega, rfl, hC.congr (fun m _ => cfI_zero l k m), by simpa [idxsTo] using hS, hB, hR⟩
      case round =>
        clear hC hS hB hR sv arr hsz
        obtain ⟨i, sv, arr, hil, rfl, hC, hS, hB, hR⟩ := hrel
        have hsz := hC.lt
        by_cases hli : i < l.length
        · have hcell := (hl.below hB).2 i hli
          by_cases hit : l.getD i 0 = k + 1
          · have hit' : ((nth l i : Int) == (k : Int) + 1) = true := by
              unfold nth; rw [hit]; simp
            have HIT : Hid (l.getD i 0 = k + 1) := hit
            clear hit
            have cc := hC.cell (show k + 1 ≤ 15 by omega)
            have fc := hC.fr (k + 1)
            have hle := idxsTo_le (k + 1) l i
            have ecf : cfI l k i (k + 1) = (idxsTo (k + 1) l i).length := by unfold cfI; rw [if_pos rfl]
            rw [ecf] at cc
            clear ecf
            have hsl : (sig l (k + 1) ++ idxsTo (k + 1) l i).length ≤ 6800 := by
              rw [List.length_append, sig_length]
              have := start_le l (k + 1)
              have := Nat.mul_le_mul (show k + 1 ≤ 16 by omega) hlen
              omega
            obtain ⟨xs, hxs⟩ : ∃ xs, sig l (k + 1) ++ idxsTo (k + 1) l i = xs := ⟨_, rfl⟩
            rw [hxs] at hS hsl
            have HX : Hid (sig l (k + 1) ++ idxsTo (k + 1) l i = xs) := hxs
            clear hxs
            obtain ⟨ao, cp, rfl⟩ := hS.shape
            have hC1 := hC.setC (show k + 1 ≤ 15 by omega) ((idxsTo (k + 1) l i).length + 1)
            have k16 := hC1.sv
            have f16 := hC1.fr 16
            have hne := hS.ne (show w.heap.size + 1 < w.heap.size + 2 by omega)
            have hne0 := hS.ne (show w.heap.size < w.heap.size + 2 by omega)
            have hS1 := hS.kept (grownBy_setCell wr (w.heap.size + 1) (k + 1) (.int .i64 (((idxsTo (k + 1) l i).length + 1 : Nat) : Int))) (.inr hne)
            have ec : (((idxsTo (k + 1) l i).length + 1 : Nat) : Int) = ((idxsTo (k + 1) l i).length : Int) + 1 := by omega
            rw [ec] at hC1 k16 f16 hS1
            clear ec
            obtain ⟨W1, hW1⟩ : ∃ W1, wr.setCell ⟨w.heap.size + 1, k + 1, none⟩ (.int .i64 (((idxsTo (k + 1) l i).length : Int) + 1)) = W1 := ⟨_, rfl⟩
            have hgW := grownBy_setCell wr (w.heap.size + 1) (k + 1) (.int .i64 (((idxsTo (k + 1) l i).length : Int) + 1))
            rw [hW1] at hC1 k16 f16 hS1 hgW
            have hS1' : W1.ownsRow (w.heap.size + 2) 3 1 (.slice ao xs.length cp) xs.length (xs.map intV) := hS1
            have hszW := hC1.lt
            have hB1 : Below w.heap.size w W1 := hB.grown hgW hB.size (fun k e => by simp at e; omega)
            have hR1 : W1.heap[w.heap.size]? = some (.cells old 46 (0, 0)) := by
              rw [hgW.block _ (Array.getElem?_eq_some_iff.1 hR).1 (by simp)]; exact hR
            have HW : Hid (wr.setCell ⟨w.heap.size + 1, k + 1, none⟩ (.int .i64 (((idxsTo (k + 1) l i).length : Int) + 1)) = W1) := hW1
            go_wp2_with (at_builtin; refine wpList_append_own_at _ rfl _ _ 40 rfl (w.heap.size + 2) 3 i0 (.int .i64 0) 1 8 Tryd.underlying40 hi hz0 hz1 hz2 rfl (by decide) _ _ _ rfl (World.ownsRow.alloc hS1' _) ⟨W1.heap.size, 0, none⟩ 1 1 [.int .i64 (i : Int)] rfl rfl (cell_one_new _ _ _) (by simp [Value.oneCell']) (by unfold maxLen; omega) (by omega) (by simp; omega) ?_; intro v' w1 hown' hgrow _ hat; obtain ⟨g', cap', rfl⟩ := ownsRow_succ hown'; have hC2 := (hC1.kept (World.grownBy_alloc W1 (.cells #[.int .i64 (i : Int)] 3) none) (by simp)).kept hgrow hne; have m16 := hC2.sv; have n16 := hC2.fr 16)
            have hS2 : RowI w1 (w.heap.size + 2) (.slice (some ⟨g', 0, none⟩) (xs.length + 1) cap') (xs ++ [i]) := by unfold RowI; simpa [intV] using hown'
            have hB2 : Below w.heap.size w w1 := (hB1.alloc (by omega) (.cells #[.int .i64 (i : Int)] 3)).grown hgrow (by simp; omega) (fun k e => by have := World.ownsRow.lt hS1' k e; omega)
            have hR2 : w1.heap[w.heap.size]? = some (.cells old 46 (0, 0)) := by
              rw [hgrow.block _ (by simp; omega) (by simpa using fun e => hne0 e.symm), Below.heap_alloc _ _ _ (by omega)]; exact hR1
            have hfin : ∀ v : Value, v = .int .i64 ((i : Int) + 1) → ∃ (i_1 : Nat) (sv : Value) (arr : Array Value), i_1 ≤ l.length ∧ v = .int .i64 (i_1 : Int) ∧ Cb (w1.setCell ⟨w.heap.size + 1, 16, none⟩ (.slice (some ⟨g', 0, none⟩) (xs.length + 1) cap')) (w.heap.size + 1) (cfI l k i_1) sv arr ∧
                RowI (w1.setCell ⟨w.heap.size + 1, 16, none⟩ (.slice (some ⟨g', 0, none⟩) (xs.length + 1) cap')) (w.heap.size + 2) sv (sig l (k + 1) ++ idxsTo (k + 1) l i_1) ∧ Below w.heap.size w (w1.setCell ⟨w.heap.size + 1, 16, none⟩ (.slice (some ⟨g', 0, none⟩) (xs.length + 1) cap')) ∧
                (w1.setCell ⟨w.heap.size + 1, 16, none⟩ (.slice (some ⟨g', 0, none⟩) (xs.length + 1) cap')).heap[w.heap.size]? = some (.cells old 46 (0, 0)) := by
              rintro v rfl
              refine ⟨i + 1, _, _, by omega, by go_num, (hC2.setS _).congr (fun m _ => ?_), ?_, hB2.setCell (by simp) _, ?_⟩
              · exact cfI_hit HIT.out m
              · rw [idxsTo_hit HIT.out, ← List.append_assoc, HX.out]
                exact hS2.kept (grownBy_setCell _ _ _ _) (.inr (hS2.ne (by omega)))
              · rw [heap_setCell_other _ _ _ _ (by simp)]; exact hR2
            first
              | exact ⟨hfin _ rfl, by simp [intOf]; omega⟩
              | (refine ⟨?_, by simp [intOf]; omega⟩; (repeat apply Exists.intro); exact ⟨hfin _ rfl, rfl⟩)
          · have hit' : ((nth l i : Int) == (k : Int) + 1) = false := by
              unfold nth; rw [beq_eq_false_iff_ne]; omega
            have HIT : Hid (¬ l.getD i 0 = k + 1) := hit
            clear hit
            go_wp2_with fail
            go_roundw
            case rel => exact ⟨i + 1, sv, arr, by omega, by go_num, hC.congr (fun m _ => cfI_miss HIT.out m), by rw [idxsTo_miss HIT.out]; exact hS, hB, hR⟩
            case measure => simp [intOf]; omega
        · have e : i = l.length := by omega
          subst e
          go_wp2
          go_roundw
          case rel => exact ⟨k + 1, sv, arr, by omega, by go_num, hC.congr (fun m _ => cfI_all l k m), by rw [sig_succ l (show 1 ≤ k + 1 by omega)]; exact hS, hB, old, hold, hR⟩
          case measure => simp [intOf]; omega
    · have e : k = 15 := by omega
      subst e
      obtain ⟨ao, cp, rfl⟩ := hS.shape
      have k16 := hC.sv
      have f17 := hC.fr 17
      have hu : (sig l (15 + 1)).length = used l := sig_length l 16
      have hD := hC.done hlen
      have h17 : wr.cell? ⟨w.heap.size + 1, 17, none⟩ = some (.int .i64 0) := by
        simp only [World.cell?, hC.blk]; simpa [intV] using hC.u
      have hblk := heap_setCell_same wr (w.heap.size + 1) 17 arr _ (.int .i64 (used l : Int)) hC.blk
      rw [hu] at k16
      have hR1 : (wr.setCell ⟨w.heap.size + 1, 17, none⟩ (.int .i64 (used l : Int))).heap[w.heap.size]? = some (.cells old 46 (0, 0)) := by
        rw [heap_setCell_other _ _ _ _ (by simp)]; exact hR
      have hone := hC.one (used l : Int)
      go_wp2_with (first | (refine load_whole rfl 46 _ rfl (w.heap.size + 1) rfl 46 _ (0, 0) hblk Tryd.aggCode (Tryd.infoCode _ hD.size) ?_) | (refine wpList_store_row rfl 46 _ _ rfl w.heap.size _ rfl rfl 46 old hR1 (Tryd.infoCode _ hD.size) (hold.trans hD.size.symm) hone ?_))
      have hW2 := setRow_heap (wr.setCell ⟨w.heap.size + 1, 17, none⟩ (.int .i64 (used l : Int))) w.heap.size old (arr.setIfInBounds 17 (.int .i64 (used l : Int))) _ _ hR1
      obtain ⟨d, hd1, hd2⟩ := structured Tryd.aggCode
      refine bodyPost_ret (v := .agg (arr.setIfInBounds 17 (.int .i64 (used l : Int)))) (results_cell_row rfl _ _ w.heap.size 46 _ (0, 0) d rfl hW2 hd1 (by cases d <;> first | rfl | cases hd2) (Tryd.infoCode _ hD.size)) rfl ?_
      refine ⟨_, _, rfl, hD, ?_, ?_, hone⟩
      · have h1 := (hS.kept (grownBy_setCell wr (w.heap.size + 1) 17 (.int .i64 (used l : Int))) (.inr (hS.ne (by omega)))).kept (grownBy_setRow _ w.heap.size (arr.setIfInBounds 17 (.int .i64 (used l : Int)))) (.inr (hS.ne (by omega)))
        have h2 := SgN.of_row h1
        rcases h2 with h2 | ⟨g1, c1, e1, e2, e3, e4⟩
        · exact .inl h2
        · exact .inr ⟨g1, c1, e1, by omega, e3, e4⟩
      · exact (hB.setCell (by simp) _).grown (grownBy_setRow _ _ _) (by simpa using hB.size) (fun k e => by simp at e; omega)
end Go.Proofs.YtgffljllfenhkaaDoor
