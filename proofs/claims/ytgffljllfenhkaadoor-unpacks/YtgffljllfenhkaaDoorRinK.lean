import Derived.Test.YtgffljllfenhkaaDoorRinJ
import Derived.Test.YtgffljllfenhkaaDoorRefH
namespace Go.Proofs.YtgffljllfenhkaaDoor
open Go.RowKit

theorem idxsTo_mono (m : Nat) (l : List Nat) : ∀ {i j : Nat}, i ≤ j → (idxsTo m l i).length ≤ (idxsTo m l j).length
  | i, 0, h => by have : i = 0 := by omega
                  subst this; exact Nat.le_refl _
  | i, j + 1, h => by
    by_cases e : i = j + 1
    · subst e; exact Nat.le_refl _
    · have := idxsTo_mono m l (show i ≤ j by omega)
      by_cases hh : l.getD j 0 = m
      · rw [idxsTo_hit hh]; simp; omega
      · rw [idxsTo_miss hh]; exact this
theorem idxsTo_cnt (m : Nat) (l : List Nat) {i : Nat} (hi : i ≤ l.length) : (idxsTo m l i).length ≤ cnt m l := by
  have := idxsTo_mono m l hi
  rw [idxsTo_all] at this; exact this
theorem idxsTo_cnt_lt {m : Nat} {l : List Nat} {i : Nat} (hi : i < l.length) (h : l.getD i 0 = m) : (idxsTo m l i).length < cnt m l := by
  have := idxsTo_cnt m l (show i + 1 ≤ l.length by omega)
  rw [idxsTo_hit h] at this; simp at this; omega

/-- How many of each length have been met. -/
def cf1 (l : List Nat) (i m : Nat) : Nat := if m = 0 then 0 else (idxsTo m l i).length
theorem cf1_hit {l : List Nat} {i v : Nat} (h : l.getD i 0 = v) (hv : 0 < v) (m : Nat) : (if m = v then cf1 l i v + 1 else cf1 l i m) = cf1 l (i + 1) m := by
  unfold cf1
  by_cases e : m = v
  · subst e; rw [if_pos rfl, if_neg (by omega), if_neg (by omega), idxsTo_hit h]; simp
  · rw [if_neg e, idxsTo_miss (show ¬ l.getD i 0 = m by omega)]
theorem cf1_miss {l : List Nat} {i : Nat} (h : l.getD i 0 = 0) (m : Nat) : cf1 l i m = cf1 l (i + 1) m := by
  unfold cf1
  by_cases e : m = 0
  · rw [if_pos e, if_pos e]
  · rw [if_neg e, if_neg e, idxsTo_miss (show ¬ l.getD i 0 = m by omega)]
theorem cf1_all (l : List Nat) (m : Nat) : cf1 l l.length m = cv l m := by unfold cf1 cv; rw [idxsTo_all]; rfl
theorem cf1_le (l : List Nat) (i m : Nat) (hi : i ≤ l.length) : cf1 l i m ≤ l.length := by
  unfold cf1; split
  · omega
  · exact Nat.le_trans (idxsTo_le m l i) hi

/-- Where the next sign of each length goes. -/
def pf (l : List Nat) (i m : Nat) : Nat := start l m + cf1 l i m
theorem pf_hit {l : List Nat} {i v j : Nat} (h : l.getD i 0 = v) (hv : 0 < v) (hj : pf l i v = j) (m : Nat) : (if m = v then j + 1 else pf l i m) = pf l (i + 1) m := by
  have hc := cf1_hit h hv m
  unfold pf at hj ⊢
  by_cases e : m = v
  · subst e; rw [if_pos rfl] at hc ⊢; omega
  · rw [if_neg e] at hc ⊢; omega
theorem start_cv (l : List Nat) (k : Nat) : start l (k + 1) = start l k + cv l k := by
  cases k with
  | zero => simp [start, cv]
  | succ k => rw [start_succ l (by omega)]; simp [cv]

/-- Cells that hold numbers. -/
structure Cn (w : World) (C : Nat) (t : TypeId) (n : Nat) (f : Nat → Nat) (arr : Array Value) : Prop where
  blk : w.heap[C]? = some (.cells arr t (0, 0))
  size : n ≤ arr.size
  c : ∀ m, m < n → arr[m]? = some (intV (f m))
theorem Cn.cell {w : World} {C : Nat} {t : TypeId} {n : Nat} {f : Nat → Nat} {arr : Array Value} (h : Cn w C t n f arr) {m : Nat} (hm : m < n) : w.cell? ⟨C, m, none⟩ = some (.int .i64 (f m : Int)) := by
  simp only [World.cell?, h.blk]; simpa [intV] using h.c m hm
theorem Cn.fr {w : World} {C : Nat} {t : TypeId} {n : Nat} {f : Nat → Nat} {arr : Array Value} (h : Cn w C t n f arr) (i : Nat) : w.frozen? ⟨C, i, none⟩ = false := by simp [World.frozen?, h.blk]
theorem Cn.lt {w : World} {C : Nat} {t : TypeId} {n : Nat} {f : Nat → Nat} {arr : Array Value} (h : Cn w C t n f arr) : C < w.heap.size := (Array.getElem?_eq_some_iff.1 h.blk).1
theorem Cn.set {w : World} {C : Nat} {t : TypeId} {n : Nat} {f : Nat → Nat} {arr : Array Value} (h : Cn w C t n f arr) {m : Nat} (hm : m < n) (x : Nat) :
    Cn (w.setCell ⟨C, m, none⟩ (.int .i64 (x : Int))) C t n (fun j => if j = m then x else f j) (arr.setIfInBounds m (intV x)) := by
  have hs := h.size
  refine ⟨heap_setCell_same w C m arr _ _ h.blk, by simp [hs], fun j hj => ?_⟩
  rw [Array.getElem?_setIfInBounds]
  by_cases e : m = j
  · subst e; simp [show m < arr.size by omega]
  · rw [if_neg e, if_neg (fun e' => e e'.symm)]; exact h.c j hj
theorem Cn.kept {w w' : World} {C : Nat} {t : TypeId} {n : Nat} {f : Nat → Nat} {arr : Array Value} {r : Option Nat} (h : Cn w C t n f arr) (hg : w.grownBy w' r) (hne : r ≠ some C) : Cn w' C t n f arr :=
  ⟨by rw [hg.block C h.lt (fun e => hne e.symm)]; exact h.blk, h.size, h.c⟩
theorem Cn.congr {w : World} {C : Nat} {t : TypeId} {n : Nat} {f g : Nat → Nat} {arr : Array Value} (h : Cn w C t n f arr) (e : ∀ m, m < n → f m = g m) : Cn w C t n g arr :=
  ⟨h.blk, h.size, fun m hm => by rw [← e m hm]; exact h.c m hm⟩
/-- A cell behind the numbers. -/
theorem Cn.setBehind {w : World} {C : Nat} {t : TypeId} {n : Nat} {f : Nat → Nat} {arr : Array Value} (h : Cn w C t n f arr) {m : Nat} (hm : n ≤ m) (v : Value) :
    Cn (w.setCell ⟨C, m, none⟩ v) C t n f (arr.setIfInBounds m v) :=
  ⟨heap_setCell_same w C m arr _ _ h.blk, by simp [h.size], fun j hj => by rw [Array.getElem?_setIfInBounds, if_neg (by omega)]; exact h.c j hj⟩

/-- Two places of two lengths are apart. -/
theorem apart {l : List Nat} {m v a b : Nat} (hm : 1 ≤ m) (hv : 1 ≤ v) (ha : a < cnt m l) (hb : b < cnt v l) (h : start l m + a = start l v + b) : m = v ∧ a = b := by
  by_cases e : m = v
  · subst e; exact ⟨rfl, by omega⟩
  · exfalso
    rcases Nat.lt_or_gt_of_ne e with hlt | hgt
    · have := start_mono l (show 1 ≤ m + 1 by omega) (show m + 1 ≤ v by omega)
      rw [start_succ l hm] at this; omega
    · have := start_mono l (show 1 ≤ v + 1 by omega) (show v + 1 ≤ m by omega)
      rw [start_succ l hv] at this; omega

/-- The signs that have been laid. -/
def Laid (sarr : Array Value) (l : List Nat) (i : Nat) : Prop := ∀ m a, 1 ≤ m → m ≤ 15 → a < (idxsTo m l i).length → sarr[start l m + a]? = some (intV ((idxsTo m l i).getD a 0))
theorem Laid.hit {sarr : Array Value} {l : List Nat} {i v : Nat} (h : Laid sarr l i) (hi : i < l.length) (hv : l.getD i 0 = v) (h1 : 1 ≤ v) (h15 : v ≤ 15) (hs : sarr.size = used l) : Laid (sarr.setIfInBounds (start l v + (idxsTo v l i).length) (intV i)) l (i + 1) := by
  have hlt := idxsTo_cnt_lt hi hv
  have hin := start_used l h1 h15 hlt
  intro m a hm hm15 ha
  rw [Array.getElem?_setIfInBounds]
  by_cases e : m = v
  · subst e
    rw [idxsTo_hit hv] at ha ⊢
    simp at ha
    by_cases ea : a = (idxsTo m l i).length
    · subst ea
      rw [if_pos rfl, if_pos (by omega)]
      simp [List.getD_eq_getElem?_getD]
    · rw [if_neg (by omega), h m a hm hm15 (by omega)]
      rw [List.getD_eq_getElem?_getD, List.getD_eq_getElem?_getD, List.getElem?_append_left (by omega)]
  · rw [idxsTo_miss (show ¬ l.getD i 0 = m by omega)] at ha ⊢
    rw [if_neg (fun e2 => e (apart hm h1 (Nat.lt_of_lt_of_le ha (idxsTo_cnt m l (by omega))) hlt e2.symm).1)]
    exact h m a hm hm15 ha
theorem Laid.miss {sarr : Array Value} {l : List Nat} {i : Nat} (h : Laid sarr l i) (hv : l.getD i 0 = 0) : Laid sarr l (i + 1) := by
  intro m a hm hm15 ha
  rw [idxsTo_miss (show ¬ l.getD i 0 = m by omega)] at ha ⊢
  exact h m a hm hm15 ha
end Go.Proofs.YtgffljllfenhkaaDoor
