import Derived.Test.YtgffljllfenhkaaDoorRefD
namespace Go.Proofs.YtgffljllfenhkaaDoor
open Go.RowKit

/-- A code's cells: how many signs of each length, the signs, how many. -/
structure CodeA (arr : Array Value) (l : List Nat) (sg : Value) : Prop where
  size : arr.size = 18
  c : ∀ n : Nat, 1 ≤ n → n ≤ 15 → arr[n]? = some (.int .i64 (cnt n l : Int))
  s : arr[16]? = some sg
  u : arr[17]? = some (.int .i64 (used l : Int))
  le : l.length ≤ 400

theorem cnt_le (n : Nat) (l : List Nat) : cnt n l ≤ l.length := by
  unfold cnt idxs
  exact Nat.le_trans (List.length_filter_le _ _) (by simp)

theorem kraftTo_le (l : List Nat) (hl : l.length ≤ 400) : ∀ n, n ≤ 15 → kraftTo l n ≤ n * (400 * 16384)
  | 0, _ => by simp [kraftTo]
  | n + 1, h => by
    have := kraftTo_le l hl n (by omega)
    have hc := cnt_le (n + 1) l
    have hp : 2 ^ (14 - n) ≤ 2 ^ 14 := Nat.pow_le_pow_right (by decide) (by omega)
    have : cnt (n + 1) l * 2 ^ (14 - n) ≤ 400 * 2 ^ 14 := Nat.mul_le_mul (by omega) hp
    simp only [kraftTo]; omega

theorem kraft_step (l : List Nat) (k : Nat) (hl : l.length ≤ 400) (hk : k < 15) : wrap64 ((kraftTo l k : Int) + wrap64 ((cnt (k + 1) l : Int) * 2 ^ (14 - k))) = (kraftTo l (k + 1) : Int) := by
  have hb := kraftTo_le l hl k (by omega)
  have hc := cnt_le (k + 1) l
  have hp : 2 ^ (14 - k) ≤ 2 ^ 14 := Nat.pow_le_pow_right (by decide) (by omega)
  have hm : cnt (k + 1) l * 2 ^ (14 - k) ≤ 400 * 2 ^ 14 := Nat.mul_le_mul (by omega) hp
  have e : (cnt (k + 1) l : Int) * 2 ^ (14 - k) = ((cnt (k + 1) l * 2 ^ (14 - k) : Nat) : Int) := by simp
  rw [e, wrap64_id ((cnt (k + 1) l * 2 ^ (14 - k) : Nat) : Int) (by omega) (by omega), wrap64_id _ (by omega) (by omega)]
  simp only [kraftTo]; omega

set_option maxHeartbeats 400000 in
set_option maxRecDepth 100000 in
theorem over_any (w : World) (arr : Array Value) (l : List Nat) (sg : Value) (h : CodeA arr l sg) :
    Calls Tryd.prog 28 #[.agg arr] w fun e w' => e = .returned (.int .i64 (kraftTo l 15 : Int)) ∧ ∃ x, w' = w.alloc x := by
  go_enter Tryd.func28, Tryd.ntmps28
  go_wp2
  go_loop [3, 4] (fun sv i => ∃ k : Nat, k ≤ 15 ∧ i = .int .i64 ((k : Int) + 1) ∧ sv = .int .i64 (kraftTo l k : Int)) (fun _ i => 16 - (intOf i).toNat)
  case atStart => exact ⟨0, by omega, rfl, rfl⟩
  case round =>
    obtain ⟨k, hk, rfl, rfl⟩ := hrel
    have hb := kraftTo_le l h.le k hk
    have hc : k < 15 → arr[k + 1]? = some (.int .i64 (cnt (k + 1) l : Int)) := fun _ => h.c (k + 1) (by omega) (by omega)
    have hcl := cnt_le (k + 1) l
    have hll := h.le
    by_cases hlt : k < 15
    · go_wp2
      go_round
      case rel => exact ⟨k + 1, by omega, by go_num, congrArg (Value.int .i64) (kraft_step l k h.le hlt)⟩
      case measure => simp [intOf]; omega
    · go_wp2
      go_ret
      have : k = 15 := by omega
      subst this
      exact ⟨rfl, _, rfl⟩
theorem Tryd.infoCode (arr : Array Value) (h : arr.size = 18) : (Tryd.prog.info? 46).map (·.size) = some arr.size := by rw [h]; kernel_rfl
def isAgg : TypeDesc → Bool
  | .struct _ => true
  | .array _ _ => true
  | _ => false
theorem structured {P : Program} {ty : TypeId} (h : (P.underlying ty).map isAgg = some true) : ∃ d, P.underlying ty = some d ∧ isAgg d = true := by
  cases e : P.underlying ty with
  | none => rw [e] at h; cases h
  | some d => rw [e] at h; exact ⟨d, rfl, by simpa using h⟩
/-- A whole struct or array, read out of its block. -/
theorem load_whole {P : Program} {ops : Array Oper} {rest : List Oper} {o : Oper} {a : Act} {w : World} {Q : Exit → Act → World → Prop} (hgd : o.guard = none) (ty : TypeId) (x : Operand) (ho : o.op = .load ty x)
    (g : Nat) (hx : a.eval x = .pointer (some ⟨g, 0, none⟩)) (t : TypeId) (cs : Array Value) (fr : Nat × Nat) (hg : w.heap[g]? = some (.cells cs t fr))
    (hu : (P.underlying ty).map isAgg = some true) (hi : (P.info? ty).map (·.size) = some cs.size)
    (h : wpList P ops Q rest (a.put o.dst (.agg cs)) w) : wpList P ops Q (o :: rest) a w := by
  obtain ⟨d, h1, h2⟩ := structured hu
  refine wpList_load_row hgd ty x ho g hx t cs fr d hg h1 ?_ hi h
  cases d <;> first | rfl | cases h2
theorem Tryd.aggCode : (Tryd.prog.underlying 46).map isAgg = some true := by kernel_rfl

theorem used_ge (l : List Nat) : cnt 1 l ≤ used l := by
  unfold used
  simp only [start]; omega

set_option maxHeartbeats 400000 in
set_option maxRecDepth 100000 in
theorem good_any (w : World) (arr : Array Value) (l : List Nat) (sg : Value) (no : Bool) (h : CodeA arr l sg) :
    Calls Tryd.prog 30 #[.agg arr, .bool no] w fun e w' => e = .returned (.bool (if used l = 0 then no else (whole l || single l))) ∧ w.grownBy w' none := by
  have h1 := h.c 1 (by omega) (by omega)
  have hu := h.u
  by_cases h0 : used l = 0
  · have h0' : ((used l : Int) == 0) = true := by simp [h0]
    go_enter Tryd.func30, Tryd.ntmps30
    go_wp2
    go_ret
    exact ⟨rfl, World.grownBy_alloc _ _ _⟩
  · have h0' : ((used l : Int) == 0) = false := by simp [h0]
    go_enter Tryd.func30, Tryd.ntmps30
    go_wp2_with (refine load_whole rfl 46 _ rfl w.heap.size rfl 46 arr (0, 0) (World.alloc_heap_new w _) Tryd.aggCode (Tryd.infoCode arr h.size) ?_)
    refine (over_any _ arr l sg h).mono ?_
    rintro e w1 ⟨rfl, x1, rfl⟩
    have hg : w.grownBy ((w.alloc (.cells arr 46)).alloc x1) none := grownBy_trans (World.grownBy_alloc _ _ _) (World.grownBy_alloc _ _ _)
    by_cases hw : kraftTo l 15 = 32768
    · have hw' : ((kraftTo l 15 : Int) == 32768) = true := by simp; omega
      go_wp2
      go_ret
      exact ⟨by simp [whole, hw], hg⟩
    · have hw' : ((kraftTo l 15 : Int) == 32768) = false := by simp; omega
      by_cases hs : used l = 1
      · have hs' : ((used l : Int) == 1) = true := by simp; omega
        by_cases hc : cnt 1 l = 1
        · have hc' : ((cnt 1 l : Int) == 1) = true := by simp; omega
          go_wp2
          go_ret
          exact ⟨by simp [whole, single, hw, hs, hc], hg⟩
        · have hc' : ((cnt 1 l : Int) == 1) = false := by simp; omega
          go_wp2
          go_ret
          exact ⟨by simp [whole, single, hw, hs, hc], hg⟩
      · have hs' : ((used l : Int) == 1) = false := by simp; omega
        go_wp2
        go_ret
        exact ⟨by simp [whole, single, hw, hs], hg⟩
end Go.Proofs.YtgffljllfenhkaaDoor
