import Derived.Test.YtgffljllfenhkaaDoorRinPb
import Derived.Test.YtgffljllfenhkaaDoorRinN
import Derived.Lib.AppendZerosOnto
namespace Go.Proofs.YtgffljllfenhkaaDoor
open Go.RowKit Go.Deep

theorem Tryd.infoIntT : ∃ i, Tryd.prog.info? 3 = some i ∧ i.zero = some (.int .i64 0) ∧ i.size = 1 ∧ i.bytes = 8 := by
  have h := Tryd.info3
  obtain ⟨i, hi, hz⟩ := Option.map_eq_some_iff.1 h
  simp only [Prod.mk.injEq] at hz
  exact ⟨i, hi, hz.1, hz.2.1, hz.2.2⟩

set_option maxHeartbeats 1000000 in
set_option maxRecDepth 100000 in
/-- Grow of nothing: a new row with nothing in it. -/
theorem grow_walk (w : World) (n : Nat) (hn1 : 1 ≤ n) (hn : n ≤ 400) :
    Calls Tryd.prog 52 #[.slice none 0 0, .int .i64 (n : Int)] w fun e w' => ∃ v, e = .returned v ∧ w'.ownsRow w.heap.size 3 1 v 0 [] ∧ Below w.heap.size w w' := by
  obtain ⟨i0, hi0, hz0, hs0, hb0⟩ := Tryd.infoIntT
  have hold : (Builtin.firstCells i0.size 0 (.slice none 0 0)).run Tryd.prog w.drew = .ok ([] : List Value).toArray w.drew := rfl
  have hrz := fun ty => Lib.run_append_grow_zeros (P := Tryd.prog) w 40 3 ty 3 i0 (.int .i64 0) .i64 .i64 Tryd.underlying40 Tryd.underlying3 hi0 hz0 none 0 0 [] hold n (by omega) (by omega) (by omega) (by omega) (by rw [hb0]; omega) (by rw [hb0]; simp [Builtin.nextslicecap, show 0 < n by omega]; omega)
  have hGn : 0 + n ≤ grownCap w (0 + n) 0 3 := grownCap_ge w _ _ _
  have hG63 : grownCap w (0 + n) 0 3 ≤ maxLen := grownCap_le_maxLen w (0 + n) 0 3 (by unfold maxLen; omega)
  obtain ⟨G, hG⟩ : ∃ G, G = grownCap w (0 + n) 0 3 := ⟨_, rfl⟩
  rw [← hG] at hGn hG63
  simp only [← hG] at hrz
  rw [Nat.zero_add] at hGn
  simp only [Nat.zero_add] at hrz
  clear hG hold
  go_enter Tryd.func52, Tryd.ntmps52
  go_wp2_with (at_builtin; refine Lib.wpList_append_run _ rfl _ _ _ _ rfl _ _ rfl rfl _ _ (hrz _) ?_)
  go_ret
  exact ⟨_, rfl, ⟨rfl, .inr ⟨w.heap.size, G, _, rfl, Nat.le_refl _, World.alloc_heap_new w _, Nat.zero_le _, hG63, by simp [Builtin.zeroCells]; omega, by simp⟩⟩, below_drew ((Below.refl _ _).alloc (Nat.le_refl _) _)⟩

/-- The first i lists, one behind the other. -/
def flat (f : Nat → List Nat) : Nat → List Nat
  | 0 => []
  | i + 1 => flat f i ++ f i
theorem flat_le (f : Nat → List Nat) {i j : Nat} (h : i ≤ j) : (flat f i).length ≤ (flat f j).length := by
  induction h with
  | refl => exact Nat.le_refl _
  | step _ ih => rw [flat, List.length_append]; omega
theorem nums_cells {w : World} {g : Nat} {l : List Nat} (h : Nums w g 0 l) : ∀ j u, (l.map intV)[j]? = some u → w.cell? ((⟨g, 0, none⟩ : Addr).add j) = some u := by
  intro j u hj
  rw [List.getElem?_map] at hj
  obtain ⟨x, hx, rfl⟩ := Option.map_eq_some_iff.1 hj
  have hjl : j < l.length := (List.getElem?_eq_some_iff.1 hx).1
  have e : (⟨g, 0, none⟩ : Addr).add j = ⟨g, 0 + j, none⟩ := by simp [Addr.add]; omega
  rw [e, h.2 j hjl]
  unfold nth
  rw [List.getD_eq_getElem?_getD, hx]; rfl

set_option maxHeartbeats 1000000 in
set_option maxRecDepth 100000 in
theorem concat_walk (w : World) (V N : Nat) (f : Nat → List Nat) (gs : Nat → Nat) (cap : Nat) (hV : V < w.heap.size) (hl : N ≤ 10)
    (hc : ∀ i, i < N → w.cell? ⟨V, i, none⟩ = some (.slice (some ⟨gs i, 0, none⟩) (f i).length (f i).length)) (hn : ∀ i, i < N → Nums w (gs i) 0 (f i))
    (h1 : 1 ≤ (flat f N).length) (h4 : (flat f N).length ≤ 400) :
    Calls Tryd.prog 44 #[.slice (some ⟨V, 0, none⟩) N cap] w fun e w' => ∃ v, e = .returned v ∧ RowI w' w.heap.size v (flat f N) ∧ Below w.heap.size w w' := by
  obtain ⟨i0, hi0, hz0, hs0, hb0⟩ := Tryd.infoIntT
  have HC := hide hc
  clear hc
  go_enter Tryd.func44, Tryd.ntmps44
  go_wp2_with fail
  go_loopw [3, 11] (fun sv iv wr => ∃ i a : Nat, iv = .int .i64 (i : Int) ∧ i ≤ N ∧ sv = .int .i64 (a : Int) ∧ Hid ((flat f i).length = a) ∧ w = wr) (fun _ iv _ => N - (intOf iv).toNat)
  case atStart => exact ⟨0, 0, rfl, by omega, rfl, rfl, rfl⟩
  case round =>
    obtain ⟨i, a, rfl, hi, rfl, HA, rfl⟩ := hrel
    by_cases hlt : i < N
    · have hcell := unhide HC i hlt
      have hsl := flat_le f (show i + 1 ≤ N by omega)
      rw [flat, List.length_append, unhide HA] at hsl
      obtain ⟨m, hm⟩ : ∃ m, (f i).length = m := ⟨_, rfl⟩
      rw [hm] at hcell hsl
      have HSS : Hid ((flat f (i + 1)).length = a + m) := by show _ = _; rw [flat, List.length_append, unhide HA, hm]
      have hdn : decide ((a : Int) + (m : Int) < 0) = false := by simp; omega
      have hwa : IntKind.i64.wrap ((a : Int) + (m : Int)) = (a : Int) + (m : Int) := wraps_i64 _ (by omega) (by omega)
      clear hm HA
      go_wp2_with fail
      go_roundw
      case rel => exact ⟨i + 1, a + m, by go_num, by omega, by go_num, HSS, trivial⟩
      case measure => simp [intOf]; omega
    · have e : i = N := by omega
      subst e
      have ha1 : 1 ≤ a := by have := unhide HA; omega
      have ha4 : a ≤ 400 := by have := unhide HA; omega
      go_wp2_with (go_at_call 52; refine (grow_walk _ a ha1 ha4).mono ?_; rintro e w1 ⟨v1, rfl, ho1, hB1⟩)
      clear HA ha1 ha4
      go_loopw [6, 27] (fun sv iv w2 => ∃ k : Nat, iv = .int .i64 (k : Int) ∧ k ≤ i ∧ RowI w2 w.heap.size sv (flat f k) ∧ Below w.heap.size w w2) (fun _ iv _ => i - (intOf iv).toNat)
      case atStart => exact ⟨0, rfl, by omega, ho1, hB1⟩
      case round =>
        clear ho1 hB1
        obtain ⟨k, rfl, hk, hRow, hB⟩ := hrel
        by_cases hlt : k < i
        · have hcell : wr.cell? ⟨V, k, none⟩ = _ := (World.cell?_of_block (hB.block V hV)).trans (unhide HC k hlt)
          have hnk := nums_cells ((hn k hlt).below hB)
          have hsl := flat_le f (show k + 1 ≤ i by omega)
          rw [flat, List.length_append] at hsl
          have hml : ((f k).map intV).length = (f k).length * 1 := by simp
          have hap : (flat f (k + 1)).map intV = (flat f k).map intV ++ (f k).map intV := by rw [flat, List.map_append]
          have hal : (flat f (k + 1)).length = (flat f k).length + (f k).length := by rw [flat, List.length_append]
          have HN := hide hnk
          have HML := hide hml
          have HAP := hide hap
          have HAL := hide hal
          have HRow := hide hRow
          clear hnk hml hap hal hRow
          go_wp2_with (at_builtin; refine wpList_append_own_at _ rfl _ _ 40 rfl w.heap.size 3 i0 (.int .i64 0) 1 8 Tryd.underlying40 hi0 hz0 hs0 hb0 rfl (by decide) _ _ _ rfl (unhide HRow) ⟨gs k, 0, none⟩ _ _ ((f k).map intV) rfl (unhide HML) (unhide HN) (by intro u hu; obtain ⟨x, _, rfl⟩ := List.mem_map.1 hu; rfl) (by unfold maxLen; omega) (by omega) hB.size ?_; intro v' w3 hown' hgrow _ hat)
          go_roundw
          case rel => exact ⟨k + 1, by go_num, by omega, by unfold RowI; rw [unhide HAP, unhide HAL]; exact hown', hB.grown hgrow hB.size (fun b e => (World.ownsRow.lt (unhide HRow) b e).1)⟩
          case measure => simp [intOf]; omega
        · have e : k = i := by omega
          subst e
          go_wp2_with fail
          go_ret
          exact ⟨_, rfl, hRow, hB⟩
end Go.Proofs.YtgffljllfenhkaaDoor
