import Derived.Test.YtgffljllfenhkaaDoorRinPa
import Derived.Test.YtgffljllfenhkaaDoorRinL
import Derived.Laws.CopyOwn
import Derived.Deep.RegionLaw
namespace Go.Proofs.YtgffljllfenhkaaDoor
open Go.RowKit Go.Deep

/-- The first k of c are filled. -/
def rowk (x c k : Nat) : List Value := List.replicate k (intV x) ++ List.replicate (c - k) (intV 0)
theorem rowk_len {x c k : Nat} (h : k ≤ c) : (rowk x c k).length = c := by simp [rowk]; omega
theorem rowk_made {x c : Nat} (_h : 1 ≤ c) : (intV x :: (madeCells #[.int .i64 0] c).toList.tail).toArray = (rowk x c 1).toArray := by
  congr 1
  have e : (madeCells #[.int .i64 0] c).toList = List.replicate c (intV 0) := by
    apply List.ext_getElem?
    intro i
    by_cases hi : i < c
    · simp [madeCells, hi, Nat.mod_one]; rfl
    · simp [madeCells, hi]
  rw [e]
  simp [rowk]
theorem rowk_splice {x c k m : Nat} (h : k + m ≤ c) : splice (rowk x c k) k (List.replicate m (intV x)) = rowk x c (k + m) := by
  unfold splice rowk
  simp only [List.length_replicate]
  rw [List.take_left' (by simp), List.drop_append, List.drop_replicate, List.drop_replicate, List.length_replicate, show k - (k + m) = 0 by omega, show c - k - (k + m - k) = c - (k + m) by omega]
  simp only [List.replicate_zero, List.nil_append, ← List.append_assoc, List.replicate_append_replicate]
theorem rowk_all {x c : Nat} : rowk x c c = List.replicate c (intV x) := by simp [rowk]
theorem rowk_get {x c k j : Nat} (hj : j < k) : (rowk x c k)[j]? = some (intV x) := by
  unfold rowk; rw [List.getElem?_append_left (by simpa using hj)]; simp [hj]

theorem below_drew {B : Nat} {w0 w : World} (h : Below B w0 w) : Below B w0 w.drew := ⟨h.os, h.tape, h.output, h.size, h.block⟩

/-- What Repeat of one number comes to. -/
def RepQ (w : World) (x c : Nat) (e : Ending) (w' : World) : Prop :=
  ∃ g, e = .returned (.slice (some ⟨g, 0, none⟩) c c) ∧ w.heap.size ≤ g ∧ w'.heap[g]? = some (.cells (List.replicate c (intV x)).toArray 3 (0, 0)) ∧ Below w.heap.size w w'

set_option maxHeartbeats 1000000 in
set_option maxRecDepth 100000 in
theorem rep_walk (w : World) (X x c : Nat) (hXl : X < w.heap.size) (hX : w.cell? ⟨X, 0, none⟩ = some (intV x)) (hc1 : 1 ≤ c) (hc : c ≤ 400) :
    Calls Tryd.prog 45 #[.slice (some ⟨X, 0, none⟩) 1 1, .int .i64 (c : Int)] w (RepQ w x c) := by
  have hmk := fun w => run_make_row' (P := Tryd.prog) 40 3 (.int .i64 0) 8 Tryd.underlying40 Tryd.info3 rfl .i64 .i64 c (by omega) (by omega) w
  have hcu : IntKind.u64.wrap (c : Int) = (c : Int) := by rw [IntKind.wrap_u64]; omega
  have hci : IntKind.i64.wrap (c : Int) = (c : Int) := wraps_i64 _ (by omega) (by omega)
  have hcb : decide ((9223372036854775807 : Int) < (c : Int)) = false := by simp; omega
  have hsz : (Tryd.prog.info? 3).map (·.size) = some 1 := by kernel_rfl
  go_enter Tryd.func45, Tryd.ntmps45
  go_wp2_with (first | (go_at_call 53; refine (mul_one' _ c hc).mono ?_; rintro e w1 ⟨rfl, rfl⟩) | (refine wpList_copy_own rfl (.tmp 31) (.tmp 32) 40 40 rfl 3 Tryd.underlying40 hsz w.heap.size 0 c c ⟨X, 0, none⟩ 1 1 rfl rfl _ 3 (World.alloc_heap_new w _) [intV x] ?c1 ?c2 ?c3 (by simp [intV, Value.oneCell']) ?_))
  case c1 => exact (Nat.min_eq_left hc1).symm
  case c2 => intro j v hj; match j, hj with | 0, hj => (simp at hj; subst hj; exact (World.cell?_of_block (Below.heap_alloc _ _ _ hXl)).trans hX)
  case c3 => simp [madeCells]; omega
  rw [rowk_made hc1]
  obtain ⟨W1, hW1⟩ : ∃ W1, (w.alloc (.cells (madeCells #[.int .i64 0] c) 3)).setRow w.heap.size (rowk x c 1).toArray = W1 := ⟨_, rfl⟩
  rw [hW1]
  have hg1 : W1.heap[w.heap.size]? = some (.cells (rowk x c 1).toArray 3 (0, 0)) := by rw [← hW1]; exact setRow_heap _ _ _ _ _ _ (World.alloc_heap_new w _)
  have hB1 : Below w.heap.size w W1 := by rw [← hW1]; exact below_setRow ((Below.refl _ _).alloc (Nat.le_refl _) _) (Nat.le_refl _) _
  obtain ⟨g, hg⟩ : ∃ g, w.heap.size = g := ⟨_, rfl⟩
  rw [hg] at hg1 ⊢
  have HG := hide hg
  clear hW1 hmk hg
  go_loopw [8] (fun nv wr => ∃ k : Nat, nv = .int .i64 (k : Int) ∧ 1 ≤ k ∧ k ≤ c ∧ wr.heap[g]? = some (.cells (rowk x c k).toArray 3 (0, 0)) ∧ Below w.heap.size w wr) (fun nv _ => c - (intOf nv).toNat)
  case atStart => exact ⟨1, rfl, by omega, hc1, hg1, hB1⟩
  case round =>
    clear hg1 hB1
    obtain ⟨k, rfl, hk1, hk, hgk, hB⟩ := hrel
    by_cases hlt : k < c
    · obtain ⟨m, hm⟩ : ∃ m, Nat.min k (c - k) = m := ⟨_, rfl⟩
      have hm1 : 1 ≤ m := by rw [← hm]; exact Nat.le_min.2 ⟨hk1, by omega⟩
      have hmk : m ≤ k := by rw [← hm]; exact Nat.min_le_left _ _
      have hmc : m ≤ c - k := by rw [← hm]; exact Nat.min_le_right _ _
      have hki : IntKind.i64.wrap (k : Int) = (k : Int) := wraps_i64 _ (by omega) (by omega)
      have hk0 : (0 : Int) ≤ (k : Int) := by omega
      have hkc : (k : Int) ≤ (c : Int) := by omega
      have hne : ¬ c = k := by omega
      have hne' : ¬ k = c := by omega
      have hlt' : (k : Int) < (c : Int) := by omega
      have hkm : ((k + m : Nat) : Int) = (k : Int) + (m : Int) := by omega
      have hsrc : ∀ W : World, W.heap[g]? = some (.cells (rowk x c k).toArray 3 (0, 0)) → ∀ j v, (List.replicate m (intV x))[j]? = some v → W.cell? ((⟨g, 0, none⟩ : Addr).add j) = some v := by
        intro W hW j v hj
        have hjm : j < m := by have := List.getElem?_eq_some_iff.1 hj; simpa using this.1
        rw [List.getElem?_replicate, if_pos hjm] at hj
        have e : (⟨g, 0, none⟩ : Addr).add j = ⟨g, j, none⟩ := by simp [Addr.add]; omega
        rw [e]; simp only [World.cell?, hW]; simp [rowk_get (show j < k by omega), hj]
      have hwkm : IntKind.i64.wrap ((k : Int) + (m : Int)) = (k : Int) + (m : Int) := wraps_i64 _ (by omega) (by omega)
      have HSRC := hide hsrc
      have HM := hide hm
      clear hsrc hm
      go_wp2_with fail
      go_region_law (refine step_copy_splice rfl (.tmp 41) (.tmp 44) 40 40 rfl 3 Tryd.underlying40 hsz (some ⟨g, k, none⟩) (some ⟨g, 0, none⟩) (c - k) (c - k) k c (by simp [Act.eval, Act.put]) (by simp [Act.eval, Act.put]) g k (rowk x c k) 3 hgk (List.replicate m (intV x)) (by rw [List.length_replicate]; exact (unhide HM).symm) (fun _ => ⟨rfl, _, rfl, unhide HSRC _ hgk⟩) (by rw [rowk_len hk, List.length_replicate]; omega) (by intro v hv; rw [List.eq_of_mem_replicate hv]; rfl) w.heap.size w (below_drew hB) (by have := unhide HG; omega) ?_; intro w4 hg4 hb4)
      have hg5 := unhide hg4
      rw [rowk_splice (by omega)] at hg5
      clear hg4
      simp [Act.put]
      go_wp2_with fail
      go_roundw
      case rel => exact ⟨k + m, by go_num, by omega, by omega, hg5, hb4⟩
      case measure => simp [intOf]; omega
    · have e : k = c := by omega
      subst e
      rw [rowk_all] at hgk
      go_wp2_with fail
      go_ret
      exact ⟨g, rfl, by have := unhide HG; omega, hgk, hB⟩
end Go.Proofs.YtgffljllfenhkaaDoor
