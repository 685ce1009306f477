import Derived.Test.YtchkmgjfjlpodaaDoorRinS
import Derived.Defers
import Derived.Recover
namespace Go.Proofs.YtchkmgjfjlpodaaDoor
open Go.RowKit

/-- The deferred closure of a frame that panics: the panic is taken, both results are laid. -/
theorem catch_panicking (g : Nat) (x : ByteArray) (y : Int) (w : World) (hc : w.cell? ⟨g, 0, none⟩ = some (.string x)) (hz : w.frozen? ⟨g, 0, none⟩ = false) (hc2 : w.cell? ⟨g + 1, 0, none⟩ = some (.int .i64 y)) (hz2 : w.frozen? ⟨g + 1, 0, none⟩ = false) :
    CallsD Tryd.prog 20 #[.pointer (some ⟨g, 0, none⟩), .pointer (some ⟨g + 1, 0, none⟩)] (.panicking thrown) w fun e u' w' =>
      e = .returned (.tuple #[]) ∧ u' = .panicking [{ v := .iface 22 (.int .i64 9), recovered := true }] ∧ w' = (w.setCell ⟨g, 0, none⟩ (.string ⟨#[]⟩)).setCell ⟨g + 1, 0, none⟩ (.int .i64 9) := by
  unfold thrown
  refine callsD_of_wpS Tryd.func20 rfl fun c₀ cs hu => ?_
  apply wpS_seq
  apply wpS_region
  simp [wpOpsS, go_sem, recoverD, hu, Tryd.ntmps20, Exit.thenS]
  refine wpS_cond (t := true) (by simp [Act.eval, Array.replicate]) ?_
  simp only [if_true]
  apply wpS_region
  simp [wpOpsS, go_sem, hc, hz, hc2, hz2, bodyPostS, results, Tryd.results20]

theorem catch_idle (p q : Addr) (w : World) :
    CallsD Tryd.prog 20 #[.pointer (some p), .pointer (some q)] .returning w fun e u' w' => e = .returned (.tuple #[]) ∧ u' = .returning ∧ w' = w := by
  refine callsD_of_wpS Tryd.func20 rfl fun c₀ cs hu => ?_
  apply wpS_seq
  apply wpS_region
  simp [wpOpsS, go_sem, recoverD, hu, Tryd.ntmps20, Exit.thenS]
  refine wpS_cond (t := false) (by simp [Act.eval, Array.replicate]) ?_
  simp only [Bool.false_eq_true, if_false]
  refine wpS_of_wp (wp_skip ?_)
  cases c₀
  simp_all [bodyPostS, results, Tryd.results20]

set_option maxHeartbeats 1000000 in
set_option maxRecDepth 100000 in
theorem orRefuse_walk (w : World) (s : ByteArray) (hs : s.size ≤ 9000) (hT : PTabs w) (h9 : 9 ≤ w.heap.size) :
    Calls Tryd.prog 10 #[.string s] w (unpQ w s) := by
  have hmf : ∀ (fn : Fn) (first cap : Array Value) (w : World), (Instr.makeFunc fn first cap).run Tryd.prog w = .ok (.func fn first cap) w := fun _ _ _ _ => rfl
  go_enter_defers Tryd.func10, Tryd.ntmps10
  go_wp2_with fail
  have hBa : Below w.heap.size w ((w.alloc (.cells #[.string ⟨#[]⟩] 9)).alloc (.cells #[.int .i64 0] 22)) := ((Below.refl _ _).alloc (Nat.le_refl _) _).alloc (by simp) _
  have hTa : PTabs ((w.alloc (.cells #[.string ⟨#[]⟩] 9)).alloc (.cells #[.int .i64 0] 22)) := by
    have hk : ∀ G T, G < 9 → Tab w G T → Tab ((w.alloc (.cells #[.string ⟨#[]⟩] 9)).alloc (.cells #[.int .i64 0] 22)) G T := fun G T hG h i hi => (hBa.cell (p := ⟨G, i, none⟩) (by show G < w.heap.size; omega)).trans (h i hi)
    exact ⟨hk _ _ (by omega) hT.base, hk _ _ (by omega) hT.extra, hk _ _ (by omega) hT.far, hk _ _ (by omega) hT.more, hk _ _ (by omega) hT.order⟩
  refine (punpack_walk _ s hs hTa (by simp; omega)).mono ?_
  rintro e w2 ⟨hB2, h2⟩
  have hb1 : w2.heap[w.heap.size]? = some (.cells #[.string ⟨#[]⟩] 9 (0, 0)) := (hB2.block _ (by simp; omega)).trans (heap_alloc2_old w _ _)
  have hb2 : w2.heap[w.heap.size + 1]? = some (.cells #[.int .i64 0] 22 (0, 0)) := (hB2.block _ (by simp)).trans (heap_alloc2_new w _ _)
  have c1 : w2.cell? ⟨w.heap.size, 0, none⟩ = some (.string ⟨#[]⟩) := by simp [World.cell?, hb1]
  have f1 : w2.frozen? ⟨w.heap.size, 0, none⟩ = false := by simp [World.frozen?, hb1]
  have c2 : w2.cell? ⟨w.heap.size + 1, 0, none⟩ = some (.int .i64 0) := by simp [World.cell?, hb2]
  have f2 : w2.frozen? ⟨w.heap.size + 1, 0, none⟩ = false := by simp [World.frozen?, hb2]
  have hBw : Below w.heap.size w w2 := hBa.trans (hB2.mono (by simp; omega))
  have hBs : ∀ v1 v2, Below w.heap.size w ((w2.setCell ⟨w.heap.size, 0, none⟩ v1).setCell ⟨w.heap.size + 1, 0, none⟩ v2) := fun v1 v2 => (hBw.setCell (p := ⟨w.heap.size, 0, none⟩) (Nat.le_refl _) v1).setCell (p := ⟨w.heap.size + 1, 0, none⟩) (Nat.le_succ _) v2
  rcases h2 with ⟨out, ho, rfl⟩ | ⟨ho, rfl⟩
  · have HO := hide ho
    clear ho
    go_wp2_with fail
    refine leaves_cons (f := 20) (args := #[.pointer (some ⟨w.heap.size, 0, none⟩), .pointer (some ⟨w.heap.size + 1, 0, none⟩)]) (by simp) (by simp [go_sem]) ?_
    refine (catch_idle ⟨w.heap.size, 0, none⟩ ⟨w.heap.size + 1, 0, none⟩ _).mono ?_
    rintro e u' w'' ⟨rfl, rfl, rfl⟩
    simp [Leaves, settle, results, Tryd.results10, go_sem, c1, c2]
    exact ⟨hBs _ _, .inl ⟨out, unhide HO, rfl⟩⟩
  · refine leaves_cons (f := 20) (args := #[.pointer (some ⟨w.heap.size, 0, none⟩), .pointer (some ⟨w.heap.size + 1, 0, none⟩)]) (by simp) (by simp [go_sem]) ?_
    refine (catch_panicking w.heap.size _ _ _ c1 f1 c2 f2).mono ?_
    rintro e u' w'' ⟨rfl, rfl, rfl⟩
    simp [Leaves, settle, results, Tryd.results10, go_sem, c1, c2]
    exact ⟨hBs _ _, .inr ⟨ho, rfl⟩⟩
end Go.Proofs.YtchkmgjfjlpodaaDoor
