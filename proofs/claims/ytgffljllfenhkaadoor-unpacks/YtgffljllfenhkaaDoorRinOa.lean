import Derived.Test.YtgffljllfenhkaaDoorRinN
namespace Go.Proofs.YtgffljllfenhkaaDoor
open Go.RowKit

/-- Cells laid into cells. -/
theorem fold_put (off : Nat) (a cells : Array Value) (h : off + a.size ≤ cells.size) :
    (a.zipIdx.foldl (fun cs (c, j) => cs.setIfInBounds (off + j) c) cells).size = cells.size ∧
    ∀ i, (a.zipIdx.foldl (fun cs (c, j) => cs.setIfInBounds (off + j) c) cells)[i]? = if off ≤ i ∧ i < off + a.size then a[i - off]? else cells[i]? := by
  have key := @Array.foldl_induction _ _ a.zipIdx (fun (k : Nat) (cs : Array Value) => cs.size = cells.size ∧ ∀ i, cs[i]? = if off ≤ i ∧ i < off + k then a[i - off]? else cells[i]?) cells
    ⟨rfl, fun i => by rw [if_neg (by omega)]⟩ (fun cs (x : Value × Nat) => cs.setIfInBounds (off + x.2) x.1)
    (fun k cs hk => by
      have hka : k.1 < a.size := by have := k.2; simpa using this
      refine ⟨by simp [hk.1], fun i => ?_⟩
      simp only [Fin.getElem_fin, Array.getElem_zipIdx, Nat.zero_add]
      rw [Array.getElem?_setIfInBounds]
      by_cases e : off + k.1 = i
      · subst e
        rw [if_pos rfl, if_pos (by rw [hk.1]; omega), if_pos (by omega)]
        rw [Nat.add_sub_cancel_left, Array.getElem?_eq_getElem hka]
      · rw [if_neg e, hk.2 i]
        by_cases e2 : off ≤ i ∧ i < off + k.1
        · rw [if_pos e2, if_pos (by omega)]
        · rw [if_neg e2, if_neg (by omega)])
  refine ⟨key.1, fun i => ?_⟩
  rw [show a.size = a.zipIdx.size by simp]
  exact key.2 i
theorem fill_two (z a1 a2 : Array Value) (hz : z.size = 34) (h1 : a1.size = 17) (h2 : a2.size = 17) :
    Instr.fill (#[(0, 17), (17, 17)][·]?) z [(0, .agg a1), (1, .agg a2)] = some (a1 ++ a2) := by
  have k1 := fold_put 0 a1 z (by omega)
  have k2 := fold_put 17 a2 (a1.zipIdx.foldl (fun cs (c, j) => cs.setIfInBounds (0 + j) c) z) (by rw [k1.1]; omega)
  have e1 : Value.cells (.agg a1) = a1 := rfl
  have e2 : Value.cells (.agg a2) = a2 := rfl
  simp only [Instr.fill, e1, e2]
  rw [show (#[((0 : Nat), (17 : Nat)), (17, 17)] : Array (Nat × Nat))[0]? = some (0, 17) from rfl, show (#[((0 : Nat), (17 : Nat)), (17, 17)] : Array (Nat × Nat))[1]? = some (17, 17) from rfl]
  simp only
  rw [if_neg (by simp [h1]; omega), if_neg (by rw [k1.1]; simp [h2]; omega)]
  congr 1
  apply Array.ext_getElem?
  intro i
  rw [k2.2 i, k1.2 i, Array.getElem?_append]
  by_cases hi : i < 17
  · rw [if_neg (by omega), if_pos (by omega), if_pos (by omega)]; simp
  · rw [if_neg (show ¬ i < a1.size by omega)]
    by_cases hi2 : i < 34
    · rw [if_pos (by omega), h1]
    · rw [if_neg (by omega), if_neg (by omega), Array.getElem?_eq_none (by omega), Array.getElem?_eq_none (by omega)]
theorem Tryd.builtCodes (a1 a2 : Array Value) (h1 : a1.size = 17) (h2 : a2.size = 17) : Tryd.prog.built 71 [(0, .agg a1), (1, .agg a2)] = some (a1 ++ a2) := by
  refine Eq.trans ?_ (fill_two (#[.int .i64 0, .int .i64 0, .int .i64 0, .int .i64 0, .int .i64 0, .int .i64 0, .int .i64 0, .int .i64 0, .int .i64 0, .int .i64 0, .int .i64 0, .int .i64 0, .int .i64 0, .int .i64 0, .int .i64 0, .int .i64 0, .slice none 0 0, .int .i64 0, .int .i64 0, .int .i64 0, .int .i64 0, .int .i64 0, .int .i64 0, .int .i64 0, .int .i64 0, .int .i64 0, .int .i64 0, .int .i64 0, .int .i64 0, .int .i64 0, .int .i64 0, .int .i64 0, .int .i64 0, .slice none 0 0]) a1 a2 rfl h1 h2)
  kernel_rfl
theorem open17 (a : Array Value) (h : a.size = 17) : ∃ v0 v1 v2 v3 v4 v5 v6 v7 v8 v9 v10 v11 v12 v13 v14 v15 v16, a = #[v0, v1, v2, v3, v4, v5, v6, v7, v8, v9, v10, v11, v12, v13, v14, v15, v16] := by
  obtain ⟨l⟩ := a
  simp only [List.size_toArray] at h
  match l, h with
  | [v0, v1, v2, v3, v4, v5, v6, v7, v8, v9, v10, v11, v12, v13, v14, v15, v16], _ => exact ⟨v0, v1, v2, v3, v4, v5, v6, v7, v8, v9, v10, v11, v12, v13, v14, v15, v16, rfl⟩
theorem CodeP.opened {a : Array Value} {l : List Nat} {sg : Value} (h : CodeP a l sg) : ∃ (c0 c1 c2 c3 c4 c5 c6 c7 c8 c9 c10 c11 c12 c13 c14 c15 : Int), a = #[.int .i64 c0, .int .i64 c1, .int .i64 c2, .int .i64 c3, .int .i64 c4, .int .i64 c5, .int .i64 c6, .int .i64 c7, .int .i64 c8, .int .i64 c9, .int .i64 c10, .int .i64 c11, .int .i64 c12, .int .i64 c13, .int .i64 c14, .int .i64 c15, sg] := by
  obtain ⟨v0, v1, v2, v3, v4, v5, v6, v7, v8, v9, v10, v11, v12, v13, v14, v15, v16, rfl⟩ := open17 a h.size
  have e0 : v0 = _ := Option.some.inj (h.c 0 (by omega))
  have e1 : v1 = _ := Option.some.inj (h.c 1 (by omega))
  have e2 : v2 = _ := Option.some.inj (h.c 2 (by omega))
  have e3 : v3 = _ := Option.some.inj (h.c 3 (by omega))
  have e4 : v4 = _ := Option.some.inj (h.c 4 (by omega))
  have e5 : v5 = _ := Option.some.inj (h.c 5 (by omega))
  have e6 : v6 = _ := Option.some.inj (h.c 6 (by omega))
  have e7 : v7 = _ := Option.some.inj (h.c 7 (by omega))
  have e8 : v8 = _ := Option.some.inj (h.c 8 (by omega))
  have e9 : v9 = _ := Option.some.inj (h.c 9 (by omega))
  have e10 : v10 = _ := Option.some.inj (h.c 10 (by omega))
  have e11 : v11 = _ := Option.some.inj (h.c 11 (by omega))
  have e12 : v12 = _ := Option.some.inj (h.c 12 (by omega))
  have e13 : v13 = _ := Option.some.inj (h.c 13 (by omega))
  have e14 : v14 = _ := Option.some.inj (h.c 14 (by omega))
  have e15 : v15 = _ := Option.some.inj (h.c 15 (by omega))
  have e16 : v16 = sg := Option.some.inj h.s
  subst e16
  rw [e0, e1, e2, e3, e4, e5, e6, e7, e8, e9, e10, e11, e12, e13, e14, e15]
  exact ⟨_, _, _, _, _, _, _, _, _, _, _, _, _, _, _, _, rfl⟩
end Go.Proofs.YtgffljllfenhkaaDoor
