import Derived.Test.YtgffljllfenhkaaDoorRefH
namespace Go.Proofs.YtgffljllfenhkaaDoor
open Go.RowKit

theorem RowI.nums {w : World} {base : Nat} {v : Value} {xs : List Nat} (h : RowI w base v xs) (hx : 0 < xs.length) : ∃ g cap, v = .slice (some ⟨g, 0, none⟩) xs.length cap ∧ base ≤ g ∧ Nums w g 0 xs := by
  rcases h.2 with ⟨e, hn⟩ | ⟨g, cap, cur, e, hb, hg, hc, _, _, ht⟩
  · omega
  · refine ⟨g, cap, e, hb, (Array.getElem?_eq_some_iff.1 hg).1, fun i hi => ?_⟩
    have := World.ownsRow.cells h (g := g) (by rw [e]; rfl) i (intV (nth xs i)) (by
      rw [List.getElem?_map, List.getElem?_eq_getElem hi]; unfold nth; rw [List.getD_eq_getElem?_getD, List.getElem?_eq_getElem hi]; rfl)
    have hadd : (⟨g, 0, none⟩ : Addr).add i = ⟨g, 0 + i, none⟩ := by unfold Addr.add; split <;> simp_all
    rw [hadd] at this; exact this

def fixLen (i : Nat) : Nat := if 144 ≤ i ∧ i < 256 then 9 else if 256 ≤ i ∧ i < 280 then 7 else 8
def fixTo (k : Nat) : List Nat := (List.range k).map fixLen
theorem fixTo_succ (k : Nat) : fixTo (k + 1) = fixTo k ++ [fixLen k] := by unfold fixTo; rw [List.range_succ, List.map_append]; rfl
theorem fixTo_length (k : Nat) : (fixTo k).length = k := by simp [fixTo]
theorem fixTo_all : fixTo 288 = fixL := by decide +kernel
def disTo (k : Nat) : List Nat := List.replicate k 5
theorem disTo_succ (k : Nat) : disTo (k + 1) = disTo k ++ [5] := by unfold disTo; rw [List.replicate_succ']

set_option maxHeartbeats 1000000 in
set_option maxRecDepth 100000 in
theorem fixed_walk (w : World) :
    Calls Tryd.prog 14 #[] w fun e w' => ∃ v1 v2, e = .returned (.tuple #[v1, v2]) ∧ RowI w' w.heap.size v1 fixL ∧ RowI w' w.heap.size v2 fixD ∧ Below w.heap.size w w' := by
  obtain ⟨i0, hi, hz0, hz1, hz2⟩ := info_parts Tryd.info3
  have hS0 : RowI w w.heap.size (.slice none 0 0) (fixTo 0) := World.ownsRow_nil _ _ _ _
  go_enter Tryd.func14, Tryd.ntmps14
  go_wp2_with fail
  go_loopw [2, 3] (fun v iv wr => ∃ (k : Nat) (ao : Option Addr) (cp : Nat), k ≤ 288 ∧ iv = .int .i64 (k : Int) ∧ v = .slice ao k cp ∧ RowI wr w.heap.size (.slice ao k cp) (fixTo k) ∧ Below w.heap.size w wr)
    (fun _ iv _ => 288 - (intOf iv).toNat)
  case atStart => exact ⟨0, none, 0, by omega, rfl, rfl, hS0, Below.refl _ _⟩
  case round =>
    clear hS0
    obtain ⟨k, ao, cp, hk, rfl, rfl, hS, hB⟩ := hrel
    have hBs := hB.size
    by_cases hlt : k < 288
    · obtain ⟨y, hy⟩ : ∃ y, fixLen k = y := ⟨_, rfl⟩
      have hcase : (k < 144 ∧ y = 8) ∨ (144 ≤ k ∧ k < 256 ∧ y = 9) ∨ (256 ≤ k ∧ k < 280 ∧ y = 7) ∨ (280 ≤ k ∧ y = 8) := by
        rw [← hy]; unfold fixLen
        by_cases h1 : 144 ≤ k ∧ k < 256
        · rw [if_pos h1]; omega
        · rw [if_neg h1]
          by_cases h2 : 256 ≤ k ∧ k < 280
          · rw [if_pos h2]; omega
          · rw [if_neg h2]; omega
      have HY : Hid (fixLen k = y) := hy
      clear hy
      have hS1' : wr.ownsRow w.heap.size 3 1 (.slice ao k cp) k ((fixTo k).map intV) := by have := hS; unfold RowI at this; rw [fixTo_length] at this; exact this
      have hfin : ∀ (v' : Value) (w1 : World), (w1.ownsRow w.heap.size 3 1 v' (k + 1) ((fixTo k).map intV ++ [.int .i64 (y : Int)])) → (wr.alloc (.cells #[.int .i64 (y : Int)] 3)).grownBy w1 (Value.slice ao k cp).ownBlock →
          ∃ (a' : Option Addr) (c' : Nat), v' = .slice a' (k + 1) c' ∧ RowI w1 w.heap.size (.slice a' (k + 1) c') (fixTo (k + 1)) ∧ Below w.heap.size w w1 := by
        intro v' w1 h1 h2
        obtain ⟨g', c', rfl⟩ := ownsRow_succ h1
        refine ⟨_, _, rfl, ?_, ?_⟩
        · unfold RowI; rw [fixTo_length, fixTo_succ, HY.out]; simpa [intV] using h1
        · exact (hB.alloc (by omega) _).grown h2 (by simp; omega) (fun j e => (World.ownsRow.lt hS1' j e).1)
      rcases hcase with ⟨h1, rfl⟩ | ⟨h1, h2, rfl⟩ | ⟨h1, h2, rfl⟩ | ⟨h1, rfl⟩
      all_goals
        go_wp2_with (at_builtin; refine wpList_append_own_at _ rfl _ _ 40 rfl w.heap.size 3 i0 (.int .i64 0) 1 8 Tryd.underlying40 hi hz0 hz1 hz2 rfl (by decide) _ _ _ rfl (World.ownsRow.alloc hS1' _) ⟨wr.heap.size, 0, none⟩ 1 1 [_] rfl rfl (cell_one_new _ _ _) (by simp [Value.oneCell']) (by unfold maxLen; omega) (by omega) (by simp; omega) ?_; intro v' w1 hown' hgrow _ hat)
        obtain ⟨a', c', rfl, hS2, hB2⟩ := hfin v' w1 hown' hgrow
        first
          | exact ⟨⟨k + 1, a', c', by omega, by go_num, rfl, hS2, hB2⟩, by simp [intOf]; omega⟩
          | (refine ⟨?_, by simp [intOf]; omega⟩; (repeat apply Exists.intro); exact ⟨⟨k + 1, a', c', by omega, by go_num, rfl, hS2, hB2⟩, rfl⟩)
    · have e : k = 288 := by omega
      subst e
      rw [fixTo_all] at hS
      have hD0 : RowI wr w.heap.size (.slice none 0 0) (disTo 0) := World.ownsRow_nil _ _ _ _
      go_wp2_with fail
      go_loopw [5, 6] (fun v iv w2 => ∃ (k : Nat) (a2 : Option Addr) (c2 : Nat), k ≤ 32 ∧ iv = .int .i64 (k : Int) ∧ v = .slice a2 k c2 ∧ RowI w2 w.heap.size (.slice ao 288 cp) fixL ∧ RowI w2 w.heap.size (.slice a2 k c2) (disTo k) ∧ (Value.slice a2 k c2).ownBlock ≠ (Value.slice ao 288 cp).ownBlock ∧ Below w.heap.size w w2)
        (fun _ iv _ => 32 - (intOf iv).toNat)
      case atStart =>
        refine ⟨0, none, 0, by omega, rfl, rfl, hS, hD0, ?_, hB⟩
        obtain ⟨g, c, e, _, _⟩ := hS.nums (by decide)
        rw [e]; simp [Value.ownBlock]
      case round =>
        clear hD0 hS hB hBs
        obtain ⟨k, a2, c2, hk, rfl, rfl, hS, hD, hne, hB⟩ := hrel
        have hBs := hB.size
        by_cases hlt2 : k < 32
        · have hS1' : wr.ownsRow w.heap.size 3 1 (.slice a2 k c2) k ((disTo k).map intV) := by have := hD; unfold RowI at this; simpa [disTo] using this
          have hS' : wr.ownsRow w.heap.size 3 1 (.slice ao 288 cp) fixL.length (fixL.map intV) := hS
          have hfin : ∀ (v' : Value) (w1 : World), (w1.ownsRow w.heap.size 3 1 v' (k + 1) ((disTo k).map intV ++ [.int .i64 5])) → (wr.alloc (.cells #[.int .i64 5] 3)).grownBy w1 (Value.slice a2 k c2).ownBlock →
              (v'.ownBlock = (Value.slice a2 k c2).ownBlock ∨ v'.ownBlock = some (wr.alloc (.cells #[.int .i64 5] 3)).heap.size) →
              ∃ (a' : Option Addr) (c' : Nat), v' = .slice a' (k + 1) c' ∧ RowI w1 w.heap.size (.slice ao 288 cp) fixL ∧ RowI w1 w.heap.size (.slice a' (k + 1) c') (disTo (k + 1)) ∧ (Value.slice a' (k + 1) c').ownBlock ≠ (Value.slice ao 288 cp).ownBlock ∧ Below w.heap.size w w1 := by
            intro v' w1 h1 h2 h3
            obtain ⟨g', c', rfl⟩ := ownsRow_succ h1
            refine ⟨_, _, rfl, ?_, ?_, ?_, ?_⟩
            · exact (hS.kept (World.grownBy_alloc _ _ none) (by cases h : (Value.slice ao 288 cp).ownBlock <;> simp)).kept h2 (.inr (fun e => hne e.symm))
            · unfold RowI; rw [disTo_succ]; simpa [intV, disTo] using h1
            · rcases h3 with e | e
              · rw [e]; exact hne
              · rw [e]; intro e'; have := (World.ownsRow.lt hS' _ e'.symm).2; rw [World.size_alloc] at this; omega
            · exact (hB.alloc (by omega) _).grown h2 (by simp; omega) (fun j e => (World.ownsRow.lt hS1' j e).1)
          go_wp2_with (at_builtin; refine wpList_append_own_at _ rfl _ _ 40 rfl w.heap.size 3 i0 (.int .i64 0) 1 8 Tryd.underlying40 hi hz0 hz1 hz2 rfl (by decide) _ _ _ rfl (World.ownsRow.alloc hS1' _) ⟨wr.heap.size, 0, none⟩ 1 1 [_] rfl rfl (cell_one_new _ _ _) (by simp [Value.oneCell']) (by unfold maxLen; omega) (by omega) (by simp; omega) ?_; intro v' w1 hown' hgrow _ hat)
          obtain ⟨a', c', rfl, hS2, hD2, hn2, hB2⟩ := hfin v' w1 hown' hgrow hat
          first
            | exact ⟨⟨k + 1, a', c', by omega, by go_num, rfl, hS2, hD2, hn2, hB2⟩, by simp [intOf]; omega⟩
            | (refine ⟨?_, by simp [intOf]; omega⟩; (repeat apply Exists.intro); exact ⟨⟨k + 1, a', c', by omega, by go_num, rfl, hS2, hD2, hn2, hB2⟩, rfl⟩)
        · have e : k = 32 := by omega
          subst e
          go_wp2_with fail
          go_ret2
          exact ⟨_, _, rfl, hS, hD, hB⟩
end Go.Proofs.YtgffljllfenhkaaDoor
