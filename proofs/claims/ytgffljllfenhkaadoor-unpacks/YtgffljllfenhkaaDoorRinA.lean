import Derived.RangeFuncNested
import Derived.RangeFuncBound
import Derived.RangeFuncCalls
import Derived.RangeFuncLeaves
import Derived.Shelf.Abstract
import Derived.Shelf.RegionOpen
import Derived.WalkKit
import Derived.OwnWalkIn
import Derived.TacticsInMore
import Derived.LoopNIn
import Derived.LoopIn
import Derived.Test.YtgffljllfenhkaaDoorRefA
import Derived.Test.YtgffljllfenhkaaDoorSpec
namespace Go.Proofs.YtgffljllfenhkaaDoor
open Go.RowKit Go.Shelf

/-- What is thrown at what is no packing. -/
def thrown : List PanicEntry := [{ v := .iface 30 (.agg #[.int .i64 9, .int .i64 0]), recovered := false }]

/-- The program's reader, in memory: the reader in block R, how many bits are left in block A, the error behind it. -/
structure Rd (w : World) (R A : Nat) (s : ByteArray) (p : Nat) : Prop where
  r : w.heap[R]? = some (.cells #[.string s, .int .i64 (p : Int), .func (.func 31) #[] #[.pointer (some ⟨A, 0, none⟩), .pointer (some ⟨A + 1, 0, none⟩)], .func (.func 10) #[] #[], .int .i64 9, .int .i64 0] 62 (0, 0))
  a : w.heap[A]? = some (.cells #[.int .i64 ((8 * s.size - p : Nat) : Int)] 3 (0, 0))
  y : w.heap[A + 1]? = some (.cells #[.int .i64 9, .int .i64 0] 30 (0, 0))
  lt : A + 1 < R
  hp : p ≤ 8 * s.size
  hs : s.size ≤ 9000

theorem Rd.ltR {w : World} {R A : Nat} {s : ByteArray} {p : Nat} (h : Rd w R A s p) : R < w.heap.size := (Array.getElem?_eq_some_iff.1 h.r).1
theorem Rd.c0 {w : World} {R A : Nat} {s : ByteArray} {p : Nat} (h : Rd w R A s p) : w.cell? ⟨R, 0, none⟩ = some (.string s) := by simp [World.cell?, h.r]
theorem Rd.c1 {w : World} {R A : Nat} {s : ByteArray} {p : Nat} (h : Rd w R A s p) : w.cell? ⟨R, 1, none⟩ = some (.int .i64 (p : Int)) := by simp [World.cell?, h.r]
theorem Rd.c2 {w : World} {R A : Nat} {s : ByteArray} {p : Nat} (h : Rd w R A s p) : w.cell? ⟨R, 2, none⟩ = some (.func (.func 31) #[] #[.pointer (some ⟨A, 0, none⟩), .pointer (some ⟨A + 1, 0, none⟩)]) := by simp [World.cell?, h.r]
theorem Rd.c3 {w : World} {R A : Nat} {s : ByteArray} {p : Nat} (h : Rd w R A s p) : w.cell? ⟨R, 3, none⟩ = some (.func (.func 10) #[] #[]) := by simp [World.cell?, h.r]
theorem Rd.c4 {w : World} {R A : Nat} {s : ByteArray} {p : Nat} (h : Rd w R A s p) : w.cell? ⟨R, 4, none⟩ = some (.int .i64 9) := by simp [World.cell?, h.r]
theorem Rd.c5 {w : World} {R A : Nat} {s : ByteArray} {p : Nat} (h : Rd w R A s p) : w.cell? ⟨R, 5, none⟩ = some (.int .i64 0) := by simp [World.cell?, h.r]
theorem Rd.ca {w : World} {R A : Nat} {s : ByteArray} {p : Nat} (h : Rd w R A s p) : w.cell? ⟨A, 0, none⟩ = some (.int .i64 ((8 * s.size - p : Nat) : Int)) := by simp [World.cell?, h.a]
theorem Rd.cy {w : World} {R A : Nat} {s : ByteArray} {p : Nat} (h : Rd w R A s p) : w.cell? ⟨A + 1, 0, none⟩ = some (.int .i64 9) := by simp [World.cell?, h.y]
theorem Rd.cz {w : World} {R A : Nat} {s : ByteArray} {p : Nat} (h : Rd w R A s p) : w.cell? ⟨A + 1, 1, none⟩ = some (.int .i64 0) := by simp [World.cell?, h.y]
theorem Rd.fr {w : World} {R A : Nat} {s : ByteArray} {p : Nat} (h : Rd w R A s p) (i : Nat) : w.frozen? ⟨R, i, none⟩ = false := by simp [World.frozen?, h.r]
theorem Rd.fa {w : World} {R A : Nat} {s : ByteArray} {p : Nat} (h : Rd w R A s p) (i : Nat) : w.frozen? ⟨A, i, none⟩ = false := by simp [World.frozen?, h.a]

/-- Nothing has turned but blocks R and A; nothing new. -/
structure Two (R A : Nat) (w w' : World) : Prop where
  os : w'.os = w.os
  tape : w'.tape = w.tape
  output : w'.output = w.output
  size : w'.heap.size = w.heap.size
  block : ∀ k, k ≠ R → k ≠ A → w'.heap[k]? = w.heap[k]?
theorem Two.refl (R A : Nat) (w : World) : Two R A w w := ⟨rfl, rfl, rfl, rfl, fun _ _ _ => rfl⟩
theorem Two.setR {R A : Nat} {w w' : World} (h : Two R A w w') (i : Nat) (v : Value) : Two R A w (w'.setCell ⟨R, i, none⟩ v) :=
  ⟨h.os, h.tape, h.output, by simp [h.size], fun k h1 h2 => (Below.heap_setCell _ _ _ _ (by exact h1)).trans (h.block k h1 h2)⟩
theorem Two.setA {R A : Nat} {w w' : World} (h : Two R A w w') (i : Nat) (v : Value) : Two R A w (w'.setCell ⟨A, i, none⟩ v) :=
  ⟨h.os, h.tape, h.output, by simp [h.size], fun k h1 h2 => (Below.heap_setCell _ _ _ _ (by exact h2)).trans (h.block k h1 h2)⟩
theorem Two.drewN {R A : Nat} {w w' : World} (h : Two R A w w') (n : Nat) : Two R A w (w'.drewN n) := ⟨h.os, h.tape, h.output, h.size, h.block⟩

/-- One bit taken. -/
theorem Rd.step {w : World} {R A : Nat} {s : ByteArray} {p : Nat} (h : Rd w R A s p) (hp : p < 8 * s.size) (n : Nat) :
    Rd (((w.setCell ⟨A, 0, none⟩ (.int .i64 ((8 * s.size - p : Nat) - 1 : Int))).drewN n).setCell ⟨R, 1, none⟩ (.int .i64 ((p : Int) + 1))) R A s (p + 1) := by
  have hl := h.lt
  refine ⟨?_, ?_, ?_, h.lt, by omega, h.hs⟩
  · have h1 : ((w.setCell ⟨A, 0, none⟩ (.int .i64 ((8 * s.size - p : Nat) - 1 : Int))).drewN n).heap[R]? = _ := (Below.heap_setCell _ _ _ _ (by show R ≠ A; omega)).trans h.r
    have := heap_setCell_same _ R 1 _ _ (.int .i64 ((p : Int) + 1)) h1
    rw [this]; simp
  · rw [Below.heap_setCell _ _ _ _ (by show A ≠ R; omega)]
    have := heap_setCell_same w A 0 _ _ (.int .i64 ((8 * s.size - p : Nat) - 1 : Int)) h.a
    show (w.setCell ⟨A, 0, none⟩ (.int .i64 ((8 * s.size - p : Nat) - 1 : Int))).heap[A]? = _
    rw [this]
    have e : ((8 * s.size - p : Nat) : Int) - 1 = ((8 * s.size - (p + 1) : Nat) : Int) := by omega
    rw [e]; simp
  · rw [Below.heap_setCell _ _ _ _ (by show A + 1 ≠ R; omega)]
    exact (Below.heap_setCell _ _ _ _ (by show A + 1 ≠ A; omega)).trans h.y

set_option maxHeartbeats 400000 in
theorem take_ok (w : World) (A : Nat) (m : Nat) (hA : w.cell? ⟨A, 0, none⟩ = some (.int .i64 (m : Int))) (hf : w.frozen? ⟨A, 0, none⟩ = false) (hm : 1 ≤ m) (hm2 : m ≤ 100000) :
    Calls Tryd.prog 31 #[.int .i64 1, .pointer (some ⟨A, 0, none⟩), .pointer (some ⟨A + 1, 0, none⟩)] w fun e w' => e = .returned (.tuple #[]) ∧ w.setCell ⟨A, 0, none⟩ (.int .i64 ((m : Int) - 1)) = w' := by
  have hd : ¬ (m : Int) < 1 := by omega
  go_enter Tryd.func31, Tryd.ntmps31
  go_wp2
  first | go_end0 | refine bodyPost_ret (results_none rfl _ _ _) rfl ?_
  exact ⟨rfl, rfl⟩

set_option maxHeartbeats 400000 in
/-- Nothing is charged. -/
theorem free_any (w : World) (n : Int) : Calls Tryd.prog 10 #[.int .i64 n] w fun e w' => e = .returned (.tuple #[]) ∧ w = w' := by
  go_enter Tryd.func10, Tryd.ntmps10
  go_wp2
  first | go_end0 | refine bodyPost_ret (results_none rfl _ _ _) rfl ?_
  exact ⟨rfl, rfl⟩

set_option maxHeartbeats 400000 in
theorem take_no (w : World) (A : Nat) (hA : w.cell? ⟨A, 0, none⟩ = some (.int .i64 0)) (hy : w.heap[A + 1]? = some (.cells #[.int .i64 9, .int .i64 0] 30 (0, 0))) :
    Calls Tryd.prog 31 #[.int .i64 1, .pointer (some ⟨A, 0, none⟩), .pointer (some ⟨A + 1, 0, none⟩)] w fun e w' => e = .panicked thrown ∧ w = w' := by
  have hy0 : w.cell? ⟨A + 1, 0, none⟩ = some (.int .i64 9) := by simp [World.cell?, hy]
  have hy1 : w.cell? ⟨A + 1, 1, none⟩ = some (.int .i64 0) := by simp [World.cell?, hy]
  go_enter Tryd.func31, Tryd.ntmps31
  go_wp2_with fail
  exact ⟨rfl, rfl, rfl⟩

end Go.Proofs.YtgffljllfenhkaaDoor
