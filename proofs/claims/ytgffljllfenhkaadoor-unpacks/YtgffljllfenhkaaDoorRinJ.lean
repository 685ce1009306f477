import Derived.Test.YtgffljllfenhkaaDoorRinI
import Derived.Deep.MidRow
namespace Go.Proofs.YtgffljllfenhkaaDoor
open Go.RowKit

theorem Tryd.underlying44 : Tryd.prog.underlying 44 = some (.array 16 3) := by kernel_rfl
theorem Tryd.sizeInt : (Tryd.prog.info? 3).map (·.size) = some 1 := by kernel_rfl
/-- 'a[k]' of an array by value. -/
theorem index16 (cs : Array Value) (k : Nat) (v : Value) (hk : k < 16) (hv : cs[k]? = some v) (w : World) :
    (Instr.index 44 (.agg cs) (.int .i64 (k : Int))).run Tryd.prog w = .ok v w := by
  have h0 : (0 : Int) ≤ (k : Int) ∧ (k : Int) < ((16 : Nat) : Int) := by omega
  simp [Instr.index, run_underlying Tryd.underlying44, asIntOf, h0, go_sem]
  rw [if_pos hk, hv]; simp
/-- A length's count, of the program's code. -/
def cv (l : List Nat) (k : Nat) : Nat := if k = 0 then 0 else cnt k l
theorem cv_le (l : List Nat) (k : Nat) : cv l k ≤ l.length := by unfold cv; split; omega; exact cnt_le k l
theorem CodeP.cc {arr : Array Value} {l : List Nat} {sg : Value} (h : CodeP arr l sg) (n : Nat) (hn : n ≤ 15) : arr[n]? = some (.int .i64 (cv l n : Int)) := h.c n hn
/-- The counts alone. -/
def c16 (arr : Array Value) : List Value := arr.toList.take 16
theorem c16_get {arr : Array Value} {l : List Nat} {sg : Value} (h : CodeP arr l sg) (k : Nat) (hk : k < 16) : (c16 arr).toArray[k]? = some (.int .i64 (cv l k : Int)) := by
  unfold c16; rw [List.getElem?_toArray, List.getElem?_take, if_pos hk, Array.getElem?_toList]; exact h.cc k (by omega)
theorem c16_len {arr : Array Value} {l : List Nat} {sg : Value} (h : CodeP arr l sg) : (c16 arr).length = 16 := by unfold c16; simp [h.size]
theorem c16_range {w : World} {b : Nat} {arr : Array Value} {l : List Nat} {sg : Value} (_h : CodeP arr l sg) (hb : w.heap[b]? = some (.cells arr 69 (0, 0))) : w.rangeAt b 0 (c16 arr) := by
  intro j v hv
  unfold c16 at hv
  rw [List.getElem?_take] at hv
  split at hv
  · rw [Array.getElem?_toList] at hv; simp [World.cell?, hb, hv]
  · cases hv
theorem kraft_stepP (l : List Nat) (k : Nat) (hl : l.length ≤ 400) (hk : k < 16) : wrap64 ((kraftTo l (k - 1) : Int) + wrap64 ((cv l k : Int) * 2 ^ (15 - k))) = (kraftTo l (k + 1 - 1) : Int) := by
  cases k with
  | zero => simp [cv, kraftTo, wrap64]
  | succ k =>
    have := kraft_step l k hl (by omega)
    rw [show k + 1 - 1 = k by omega, show k + 1 + 1 - 1 = k + 1 by omega, show 15 - (k + 1) = 14 - k by omega]
    simpa [cv] using this

set_option maxHeartbeats 1000000 in
set_option maxRecDepth 100000 in
theorem isWhole_any (w : World) (arr : Array Value) (l : List Nat) (sg : Value) (h : CodeP arr l sg) :
    Calls Tryd.prog 49 #[.agg arr] w fun e w' => e = .returned (.bool (whole l)) ∧ ∃ x, w.alloc x = w' := by
  have hX : (w.alloc (.cells arr 69)).heap[w.heap.size]? = some (.cells arr 69 (0, 0)) := World.alloc_heap_new w _
  have hrg := c16_range h hX
  have hll := h.le
  go_enter Tryd.func49, Tryd.ntmps49
  go_wp2_with (refine wpList_load_mid rfl 44 _ rfl w.heap.size 0 rfl (c16 arr) _ hrg Tryd.underlying44 rfl (by rw [c16_len h]; kernel_rfl) ?_)
  go_loop [3, 8] (fun sv i => ∃ k : Nat, k ≤ 16 ∧ i = .int .i64 (k : Int) ∧ sv = .int .i64 (kraftTo l (k - 1) : Int)) (fun _ i => 16 - (intOf i).toNat)
  case atStart => exact ⟨0, by omega, rfl, rfl⟩
  case round =>
    obtain ⟨k, hk, rfl, rfl⟩ := hrel
    have hb := kraftTo_le l h.le (k - 1) (by omega)
    by_cases hlt : k < 16
    · have hix := index16 (c16 arr).toArray k _ hlt (c16_get h k hlt)
      have hcl := cv_le l k
      have hst := kraft_stepP l k h.le hlt
      have HST := hide hst
      clear hst
      go_wp2_with fail
      go_round
      case rel => exact ⟨k + 1, by omega, by go_num, congrArg (Value.int .i64) (unhide HST)⟩
      case measure => simp [intOf]; omega
    · have e : k = 16 := by omega
      subst e
      go_wp2_with fail
      go_ret
      refine ⟨congrArg (fun b => Ending.returned (Value.bool b)) ?_, _, rfl⟩
      unfold whole
      rw [Bool.eq_iff_iff]; simp; omega

set_option maxHeartbeats 400000 in
set_option maxRecDepth 100000 in
theorem isSingle_any (w : World) (arr : Array Value) (l : List Nat) (g cap : Nat) (h : CodeP arr l (.slice (some ⟨g, 0, none⟩) (used l) cap)) :
    Calls Tryd.prog 50 #[.agg arr] w fun e w' => e = .returned (.bool (single l)) ∧ ∃ x, w.alloc x = w' := by
  have hs := h.s
  have h1 := h.cc 1 (by omega)
  have e1 : cv l 1 = cnt 1 l := by simp [cv]
  rw [e1] at h1
  clear e1
  by_cases hu : used l = 1
  · have hub : ((used l : Int) == 1) = true := by simp; omega
    by_cases hc : cnt 1 l = 1
    · have hcb : ((cnt 1 l : Int) == 1) = true := by simp; omega
      go_enter Tryd.func50, Tryd.ntmps50
      go_wp2
      go_ret
      exact ⟨by simp [single, hu, hc], _, rfl⟩
    · have hcb : ((cnt 1 l : Int) == 1) = false := by simp; omega
      go_enter Tryd.func50, Tryd.ntmps50
      go_wp2
      go_ret
      exact ⟨by simp [single, hc], _, rfl⟩
  · have hub : ((used l : Int) == 1) = false := by simp; omega
    go_enter Tryd.func50, Tryd.ntmps50
    go_wp2
    go_ret
    exact ⟨by simp [single, hu], _, rfl⟩

set_option maxHeartbeats 400000 in
set_option maxRecDepth 100000 in
theorem isEmpty_any (w : World) (arr : Array Value) (l : List Nat) (g cap : Nat) (h : CodeP arr l (.slice (some ⟨g, 0, none⟩) (used l) cap)) :
    Calls Tryd.prog 51 #[.agg arr] w fun e w' => e = .returned (.bool (decide (used l = 0))) ∧ ∃ x, w.alloc x = w' := by
  have hs := h.s
  go_enter Tryd.func51, Tryd.ntmps51
  go_wp2
  go_ret
  refine ⟨congrArg (fun b => Ending.returned (Value.bool b)) ?_, _, rfl⟩
  rw [Bool.eq_iff_iff]; simp
end Go.Proofs.YtgffljllfenhkaaDoor
