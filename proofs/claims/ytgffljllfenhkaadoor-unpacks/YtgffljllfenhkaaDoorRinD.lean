import Derived.Test.YtgffljllfenhkaaDoorRinC
namespace Go.Proofs.YtgffljllfenhkaaDoor
open Go.RowKit Go.Shelf
attribute [local go_sem] Oper.semAt_some

theorem or_bitw (x b i : Nat) (hx : x < 2 ^ i) (hi : i ≤ 32) (hb : b < 2) : bits .or .i64 (x : Int) (IntKind.i64.wrap ((b : Int) * 2 ^ i)) = ((x + b * 2 ^ i : Nat) : Int) := by
  have hp : 2 ^ i ≤ 2 ^ 32 := Nat.pow_le_pow_right (by decide) hi
  have hb2 : b * 2 ^ i ≤ 1 * 2 ^ i := Nat.mul_le_mul_right _ (by omega)
  have e : (b : Int) * 2 ^ i = ((b * 2 ^ i : Nat) : Int) := by simp
  rw [e, wraps_i64 _ (by omega) (by omega), or_bit x b i hx hi hb]

set_option maxRecDepth 100000 in
set_option maxHeartbeats 2000000 in
theorem number_in (w : World) (R A : Nat) (s : ByteArray) (p n : Nat) (mi : Int) (hmi : mi = (n : Int)) (hR : Rd w R A s p) (hn : n ≤ 16) :
    CallsIn Fence.wide 9 Tryd.prog 21 #[.pointer (some ⟨R, 0, none⟩), .int .i64 mi] w (NumQ w R A s p n) := by
  subst hmi
  have hlR := hR.ltR
  have hlA := hR.ltA
  refine callsIn_of_wp_marks Tryd.func21 rfl trivial ?_ rfl
  simp only [Tryd.ntmps21, List.size_toArray, List.length_cons, List.length_nil, Nat.reduceAdd, Nat.reduceSub, Array.replicate_succ, Array.replicate_zero, List.push_toArray, List.append_toArray, List.nil_append, List.cons_append]
  gi_wp2_with fail
  refine ⟨trivial, (callsIn_wide.2 (next_any _ R (n : Int))).mono ?_⟩
  rintro e w1 ⟨rfl, hw1⟩
  have hF1 : Fp R A w w1 := by rw [← hw1]; exact ((Fp.alloc R A w _).trans (Fp.alloc R A _ _)).trans (Fp.alloc R A _ _)
  have hR1 : Rd w1 R A s p := by rw [← hw1]; exact ((hR.alloc _).alloc _).alloc _
  have hsz : w1.heap.size = w.heap.size + 3 := by rw [← hw1]; simp
  have hV1 : w1.heap[w.heap.size]? = some (.cells #[.int .i64 0] 3 (0, 0)) := by
    rw [← hw1, Below.heap_alloc _ _ _ (by simp; omega), Below.heap_alloc _ _ _ (by simp)]; exact World.alloc_heap_new _ _
  have hRB1 : w1.heap[w.heap.size + 1]? = some (.cells #[.pointer (some ⟨R, 0, none⟩)] 48 (0, 0)) := by
    rw [← hw1, Below.heap_alloc _ _ _ (by simp)]; have := World.alloc_heap_new (w.alloc (.cells #[.int .i64 0] 3)) (.cells #[.pointer (some ⟨R, 0, none⟩)] 48); rwa [World.size_alloc] at this
  have hNB1 : w1.heap[w.heap.size + 2]? = some (.cells #[.int .i64 (n : Int)] 3 (0, 0)) := by
    rw [← hw1]; have := World.alloc_heap_new ((w.alloc (.cells #[.int .i64 0] 3)).alloc (.cells #[.pointer (some ⟨R, 0, none⟩)] 48)) (.cells #[.int .i64 (n : Int)] 3); rwa [World.size_alloc, World.size_alloc] at this
  have HSZ : Hid (w1.heap.size = w.heap.size + 3) := hsz
  have e2 : (w.alloc (.cells #[.int .i64 0] 3)).heap.size = w.heap.size + 1 := by simp
  rw [e2]
  clear hw1 hsz e2
  gi_wp2_with fail
  have hsz : w1.heap.size = w.heap.size + 3 := HSZ
  refine range_next (by omega) (w.heap.size + 1 + 1) (w.heap.size + 1) R A s p n (by omega) rfl rfl hR1 hNB1 hRB1 (by omega)
    (fun k W => W.heap[w.heap.size]? = some (.cells #[.int .i64 (numOf s p k : Int)] 3 (0, 0)) ∧ Fp R A w W) (fun _ _ _ => False)
    ?cI (fun _ _ _ _ h _ => h.elim) ⟨hV1, hF1⟩
    (fun k b => { tmps := #[.pointer (some ⟨R, 0, none⟩), .int .i64 (n : Int), undef, undef, .int .i64 0, .pointer (some ⟨w.heap.size, 0, none⟩), .int .i64 (k : Int), .int .i64 (b : Int), .pointer (some ⟨R, 0, none⟩), .int .i64 (n : Int), .func (.func 37) #[] #[.pointer (some ⟨w.heap.size + 1 + 1, 0, none⟩), .pointer (some ⟨w.heap.size + 1, 0, none⟩)], .int .i64 (k : Int), .int .i64 (b : Int), undef, undef, undef, undef, undef, undef], defers := [] })
    ?assign ?body ?done ?stop ?panic
  case cI =>
    rintro k W W' ⟨h1, h2⟩ hl
    refine ⟨by rw [hl.block _ (by omega) (by omega) (by omega)]; exact h1, ?_⟩
    exact ⟨hl.os.trans h2.os, hl.tape.trans h2.tape, hl.output.trans h2.output, Nat.le_trans h2.size hl.size, fun b hb h3 h4 => (hl.block b (by omega) h3 h4).trans (h2.block b hb h3 h4)⟩
  case assign =>
    intro l k b W K hK
    gi_wp2
    exact hK
  case body =>
    rintro l k W ⟨hV, hF⟩ hRk hk
    have hcv : W.cell? ⟨w.heap.size, 0, none⟩ = some (.int .i64 (numOf s p k : Int)) := by simp [World.cell?, hV]
    have hfv : W.frozen? ⟨w.heap.size, 0, none⟩ = false := by simp [World.frozen?, hV]
    have hmix : Tryd.prog.follows .mixedOrders = true := by kernel_rfl
    have hor := or_bitw (numOf s p k) (bitOf s (p + k)) k (numOf_lt s p k) (by omega) (bitOf_lt _ _)
    have hnum : numOf s p (k + 1) = numOf s p k + bitOf s (p + k) * 2 ^ k := rfl
    have HN : Hid (numOf s p (k + 1) = numOf s p k + bitOf s (p + k) * 2 ^ k) := hnum
    clear hnum
    gi_wp2
    gi_region_with_o (fail)
    all_goals
      gi_wp2
      refine ⟨fun b hb => ?_, ?_, ?_⟩
      · exact Below.heap_setCell _ _ _ _ (by show b ≠ w.heap.size; omega)
      · have := heap_setCell_same W w.heap.size 0 _ _ (.int .i64 ((numOf s p k + bitOf s (p + k) * 2 ^ k : Nat) : Int)) hV
        rw [← HN.out] at this
        simpa [HN.out, heap_drew] using this
      · exact (hF.set _ _ _ (Nat.le_refl _)).trans (Fp.drew R A _)
  case done =>
    rintro W ⟨hV, hF⟩ hRn hD
    have hcv : W.cell? ⟨w.heap.size, 0, none⟩ = some (.int .i64 (numOf s p n : Int)) := by simp [World.cell?, hV]
    gi_wp2
    refine ⟨by simp, .inl ⟨_, _, rfl, run_takeDeferred hD, ?_⟩⟩
    refine ⟨_, results_tmp rfl _ _ _, ?_⟩
    exact .inl ⟨hRn.hp, rfl, hRn.put _ _ (by omega), hF.put _ _ (by omega)⟩
  case stop => rintro _ _ _ h; exact h.elim
  case panic =>
    rintro k W ⟨hV, hF⟩ hk hpk hD
    refine ⟨by simp, .inl ⟨_, _, rfl, run_takeDeferred hD, ?_⟩⟩
    exact .inr ⟨by omega, rfl, hF.put _ _ (by omega)⟩
theorem number_any (w : World) (R A : Nat) (s : ByteArray) (p n : Nat) (mi : Int) (hmi : mi = (n : Int)) (hR : Rd w R A s p) (hn : n ≤ 16) :
    Calls Tryd.prog 21 #[.pointer (some ⟨R, 0, none⟩), .int .i64 mi] w (NumQ w R A s p n) := callsIn_wide.1 (number_in w R A s p n mi hmi hR hn)

end Go.Proofs.YtgffljllfenhkaaDoor
