import Derived.Test.YtgffljllfenhkaaDoorRinS
import Derived.Defers
import Derived.Recover
namespace Go.Proofs.YtgffljllfenhkaaDoor
open Go.RowKit

/-- What the work of unpacking comes to: it is laid in the block behind g. -/
def WorkQ (w : World) (s : ByteArray) (g : Nat) (e : Ending) (w' : World) : Prop :=
  (∃ out w2, unpackS s = some out ∧ e = .returned (.tuple #[]) ∧ Below w.heap.size w w2 ∧ w' = w2.setCell ⟨g + 1, 0, none⟩ (.string (strOf out))) ∨ (unpackS s = none ∧ e = .panicked thrown ∧ Below w.heap.size w w')

set_option maxHeartbeats 1000000 in
set_option maxRecDepth 100000 in
theorem work_walk (w : World) (g : Nat) (s x : ByteArray) (hs : s.size ≤ 9000) (hT : PTabs w) (h9 : 9 ≤ w.heap.size) (hg : w.heap[g]? = some (.cells #[.string s] 9 (0, 0))) (hx : w.heap[g + 1]? = some (.cells #[.string x] 9 (0, 0))) :
    Calls Tryd.prog 8 #[.pointer (some ⟨g, 0, none⟩), .pointer (some ⟨g + 1, 0, none⟩)] w (WorkQ w s g) := by
  have c0 : w.cell? ⟨g, 0, none⟩ = some (.string s) := by simp [World.cell?, hg]
  go_enter Tryd.func8, Tryd.ntmps8
  go_wp2_with fail
  refine (punpack_walk _ s hs hT h9).mono ?_
  rintro e w2 ⟨hB2, h2⟩
  have hx2 := (hB2.block (g + 1) (Array.getElem?_eq_some_iff.1 hx).1).trans hx
  have c1 : w2.cell? ⟨g + 1, 0, none⟩ = some (.string x) := by simp [World.cell?, hx2]
  have f1 : w2.frozen? ⟨g + 1, 0, none⟩ = false := by simp [World.frozen?, hx2]
  rcases h2 with ⟨out, ho, rfl⟩ | ⟨ho, rfl⟩
  · have HO := hide ho
    clear ho
    go_wp2_with fail
    first | go_end0 | refine bodyPost_ret (results_none rfl _ _ _) rfl ?_
    exact .inl ⟨out, w2, unhide HO, rfl, hB2, rfl⟩
  · exact ⟨rfl, .inr ⟨ho, rfl, hB2⟩⟩

set_option maxHeartbeats 1000000 in
set_option maxRecDepth 100000 in
/-- The deferred closure of a frame that panics: the panic is taken, the result is laid. -/
theorem catch_panicking (h : Nat) (w : World) (hh : w.heap[h]? = some (.cells #[.int .i64 0, .int .i64 0] 30 (0, 0))) :
    CallsD Tryd.prog 18 #[.pointer (some ⟨h, 0, none⟩)] (.panicking thrown) w fun e u' w' =>
      e = .returned (.tuple #[]) ∧ u' = .panicking [{ v := .iface 30 (.agg #[.int .i64 9, .int .i64 0]), recovered := true }] ∧ w'.heap[h]? = some (.cells #[.int .i64 9, .int .i64 0] 30 (0, 0)) ∧ w.grownBy w' (some h) := by
  have c0 : w.cell? ⟨h, 0, none⟩ = some (.int .i64 0) := by simp [World.cell?, hh]
  have c1 : w.cell? ⟨h, 1, none⟩ = some (.int .i64 0) := by simp [World.cell?, hh]
  have f0 : w.frozen? ⟨h, 0, none⟩ = false := by simp [World.frozen?, hh]
  have f1 : w.frozen? ⟨h, 1, none⟩ = false := by simp [World.frozen?, hh]
  have hlt : h < w.heap.size := (Array.getElem?_eq_some_iff.1 hh).1
  have hta : ∀ w : World, (Instr.typeAssert (.iface 30 (.agg #[.int .i64 9, .int .i64 0])) 20 30 true).run Tryd.prog w = .ok (.tuple #[.agg #[.int .i64 9, .int .i64 0], .bool true]) w := fun _ => by kernel_rfl
  unfold thrown
  refine callsD_of_wpS Tryd.func18 rfl fun c₀ cs hu => ?_
  apply wpS_seq
  apply wpS_region
  simp [wpOpsS, go_sem, recoverD, hu, Tryd.ntmps18, Exit.thenS]
  rw [show Array.replicate 10 undef = #[undef, undef, undef, undef, undef, undef, undef, undef, undef, undef] from rfl]
  simp only [List.setIfInBounds_toArray, List.set_cons_zero, List.set_cons_succ, List.append_toArray, List.cons_append, List.nil_append]
  refine wpS_of_wp ?_
  go_wp2_with fail
  have hgr := World.grownBy_alloc ((w.setCell ⟨h, 0, none⟩ (.int .i64 9)).setCell ⟨h, 1, none⟩ (.int .i64 0)) (.cells #[.int .i64 9, .int .i64 0] 30) (some h)
  have hg2 := grownBy_trans (grownBy_trans (grownBy_setCell w h 0 (.int .i64 9)) (grownBy_setCell (w.setCell ⟨h, 0, none⟩ (.int .i64 9)) h 1 (.int .i64 0))) hgr
  have hfin : (((w.setCell ⟨h, 0, none⟩ (.int .i64 9)).setCell ⟨h, 1, none⟩ (.int .i64 0)).alloc (.cells #[.int .i64 9, .int .i64 0] 30)).heap[h]? = some (.cells #[.int .i64 9, .int .i64 0] 30 (0, 0)) := by
    rw [Below.heap_alloc _ _ _ (by simpa using hlt)]
    have e1 := heap_setCell_same w h 0 _ _ (.int .i64 9) hh
    have e2 := heap_setCell_same (w.setCell ⟨h, 0, none⟩ (.int .i64 9)) h 1 _ _ (.int .i64 0) e1
    exact e2
  simp [bodyPostS, results, Tryd.results18]
  exact ⟨hfin, hg2⟩

theorem catch_idle (h : Nat) (w : World) :
    CallsD Tryd.prog 18 #[.pointer (some ⟨h, 0, none⟩)] .returning w fun e u' w' => e = .returned (.tuple #[]) ∧ u' = .returning ∧ w' = w := by
  refine callsD_of_wpS Tryd.func18 rfl fun c₀ cs hu => ?_
  apply wpS_seq
  apply wpS_region
  simp [wpOpsS, go_sem, recoverD, hu, Tryd.ntmps18, Exit.thenS]
  refine wpS_of_wp ?_
  go_wp2_with fail
  cases c₀
  simp_all [bodyPostS, results, Tryd.results18]

/-- What an answer comes to. -/
def AnsQ (w : World) (s : ByteArray) (g : Nat) (e : Ending) (w' : World) : Prop :=
  w.grownBy w' (some (g + 1)) ∧ ((∃ out, unpackS s = some out ∧ e = .returned (.agg #[.int .i64 0, .int .i64 0]) ∧ w'.heap[g + 1]? = some (.cells #[.string (strOf out)] 9 (0, 0))) ∨ (unpackS s = none ∧ e = .returned (.agg #[.int .i64 9, .int .i64 0])))

set_option maxHeartbeats 1000000 in
set_option maxRecDepth 100000 in
theorem answer_walk (w : World) (g : Nat) (s x : ByteArray) (hs : s.size ≤ 9000) (hT : PTabs w) (h9 : 9 ≤ w.heap.size) (hg : w.heap[g]? = some (.cells #[.string s] 9 (0, 0))) (hx : w.heap[g + 1]? = some (.cells #[.string x] 9 (0, 0))) :
    Calls Tryd.prog 7 #[.func (.func 8) #[] #[.pointer (some ⟨g, 0, none⟩), .pointer (some ⟨g + 1, 0, none⟩)]] w (AnsQ w s g) := by
  have hmf : ∀ (fn : Fn) (first cap : Array Value) (w : World), (Instr.makeFunc fn first cap).run Tryd.prog w = .ok (.func fn first cap) w := fun _ _ _ _ => rfl
  have hltg : g + 1 < w.heap.size := (Array.getElem?_eq_some_iff.1 hx).1
  have hBa : Below w.heap.size w (w.alloc (.cells #[.int .i64 0, .int .i64 0] 30)) := (Below.refl _ _).alloc (Nat.le_refl _) _
  go_enter_defers Tryd.func7, Tryd.ntmps7
  go_wp2_with fail
  refine (work_walk _ g s x hs (hT.below hBa h9) (by simp; omega) ((hBa.block g (by omega)).trans hg) ((hBa.block (g + 1) hltg).trans hx)).mono ?_
  rintro e w2 (⟨out, w3, ho, rfl, hB, rfl⟩ | ⟨ho, rfl, hB⟩)
  · have hB3 : Below w.heap.size w w3 := hBa.trans (hB.mono (by simp))
    have hh3 : w3.heap[w.heap.size]? = some (.cells #[.int .i64 0, .int .i64 0] 30 (0, 0)) := (hB.block _ (by simp)).trans (World.alloc_heap_new w _)
    have hx3 := (hB3.block (g + 1) hltg).trans hx
    obtain ⟨W, hW⟩ : ∃ W, w3.setCell ⟨g + 1, 0, none⟩ (.string (strOf out)) = W := ⟨_, rfl⟩
    have hhW : W.heap[w.heap.size]? = some (.cells #[.int .i64 0, .int .i64 0] 30 (0, 0)) := by rw [← hW, heap_setCell_other _ _ _ _ (by show w.heap.size ≠ g + 1; omega)]; exact hh3
    have hxW : W.heap[g + 1]? = some (.cells #[.string (strOf out)] 9 (0, 0)) := by rw [← hW]; exact heap_setCell_same w3 (g + 1) 0 _ _ _ hx3
    have hgW : w.grownBy W (some (g + 1)) := by
      rw [← hW]
      exact grownBy_trans ⟨hB3.os, hB3.tape, hB3.output, hB3.size, fun k hk _ => hB3.block k hk⟩ (grownBy_setCell w3 (g + 1) 0 _)
    have c0 : W.cell? ⟨w.heap.size, 0, none⟩ = some (.int .i64 0) := by simp [World.cell?, hhW]
    have c1 : W.cell? ⟨w.heap.size, 1, none⟩ = some (.int .i64 0) := by simp [World.cell?, hhW]
    have f0 : W.frozen? ⟨w.heap.size, 0, none⟩ = false := by simp [World.frozen?, hhW]
    have f1 : W.frozen? ⟨w.heap.size, 1, none⟩ = false := by simp [World.frozen?, hhW]
    rw [hW]
    have HO := hide ho
    clear hW ho hh3 hx3 hB hB3
    go_wp2_with fail
    refine leaves_cons (f := 18) (args := #[.pointer (some ⟨w.heap.size, 0, none⟩)]) (by simp) (by simp [go_sem]) ?_
    refine (catch_idle w.heap.size _).mono ?_
    rintro e u' w'' ⟨rfl, rfl, rfl⟩
    simp [Leaves, settle, results, Tryd.results7, go_sem, c0, c1]
    refine ⟨⟨hgW.os, hgW.tape, hgW.output, by simpa using hgW.size, fun k hk hne => ?_⟩, .inl ⟨out, unhide HO, rfl, ?_⟩⟩
    · rw [heap_setCell_other _ _ _ _ (by show k ≠ w.heap.size; omega), heap_setCell_other _ _ _ _ (by show k ≠ w.heap.size; omega)]; exact hgW.block k hk hne
    · rw [heap_setCell_other _ _ _ _ (by show g + 1 ≠ w.heap.size; omega), heap_setCell_other _ _ _ _ (by show g + 1 ≠ w.heap.size; omega)]; exact hxW
  · have hB2 : Below w.heap.size w w2 := hBa.trans (hB.mono (by simp))
    have hh2 : w2.heap[w.heap.size]? = some (.cells #[.int .i64 0, .int .i64 0] 30 (0, 0)) := (hB.block _ (by simp)).trans (World.alloc_heap_new w _)
    refine leaves_cons (f := 18) (args := #[.pointer (some ⟨w.heap.size, 0, none⟩)]) (by simp) (by simp [go_sem]) ?_
    refine (catch_panicking w.heap.size _ hh2).mono ?_
    rintro e u' w'' ⟨rfl, rfl, hh4, hg4⟩
    have c0 : w''.cell? ⟨w.heap.size, 0, none⟩ = some (.int .i64 9) := by simp [World.cell?, hh4]
    have c1 : w''.cell? ⟨w.heap.size, 1, none⟩ = some (.int .i64 0) := by simp [World.cell?, hh4]
    simp [Leaves, settle, results, Tryd.results7, go_sem, c0, c1]
    exact ⟨⟨hg4.os.trans hB2.os, hg4.tape.trans hB2.tape, hg4.output.trans hB2.output, Nat.le_trans hB2.size hg4.size, fun k hk _ => (hg4.block k (Nat.lt_of_lt_of_le hk hB2.size) (by simp; omega)).trans (hB2.block k hk)⟩, .inr ⟨ho, rfl⟩⟩

set_option maxHeartbeats 1000000 in
set_option maxRecDepth 100000 in
theorem punpack_short (w : World) (s : ByteArray) (hs : s.size ≤ 9000) (hT : PTabs w) (h9 : 9 ≤ w.heap.size) :
    Calls Tryd.prog 4 #[.string s] w (unpQ w s) := by
  have hd : ¬ (9000 : Int) < (s.size : Int) := by omega
  have hmf : ∀ (fn : Fn) (first cap : Array Value) (w : World), (Instr.makeFunc fn first cap).run Tryd.prog w = .ok (.func fn first cap) w := fun _ _ _ _ => rfl
  have hBa : Below w.heap.size w ((w.alloc (.cells #[.string s] 9)).alloc (.cells #[.string ⟨#[]⟩] 9)) := ((Below.refl _ _).alloc (Nat.le_refl _) _).alloc (by simp) _
  have h0 := heap_alloc2_old w (.cells #[.string s] 9) (.cells #[.string ⟨#[]⟩] 9)
  have h1 := heap_alloc2_new w (.cells #[.string s] 9) (.cells #[.string ⟨#[]⟩] 9)
  go_enter Tryd.func4, Tryd.ntmps4
  go_wp2_with fail
  refine (answer_walk _ w.heap.size s ⟨#[]⟩ hs (hT.below hBa h9) (by simp; omega) h0 h1).mono ?_
  rintro e w3 ⟨hgr, h3⟩
  have hB3 : Below w.heap.size w w3 := hBa.grown hgr hBa.size (fun k e => by simp at e; omega)
  rcases h3 with ⟨out, ho, rfl, hx3⟩ | ⟨ho, rfl⟩
  · have c0 : w3.cell? ⟨w.heap.size + 1, 0, none⟩ = some (.string (strOf out)) := by simp [World.cell?, hx3]
    have hlt : w.heap.size + 1 < w3.heap.size := (Array.getElem?_eq_some_iff.1 hx3).1
    have HO := hide ho
    clear ho
    go_wp2_with fail
    go_ret2
    exact ⟨hB3.alloc hB3.size _, .inl ⟨out, unhide HO, rfl⟩⟩
  · have HO := hide ho
    clear ho
    go_wp2_with fail
    go_ret2
    exact ⟨hB3.alloc hB3.size _, .inr ⟨unhide HO, rfl⟩⟩
end Go.Proofs.YtgffljllfenhkaaDoor
