import Derived.Test.YtgffljllfenhkaaDoorRinPc
import Derived.Test.YtgffljllfenhkaaDoorRinOa
namespace Go.Proofs.YtgffljllfenhkaaDoor
open Go.RowKit Go.Deep

theorem rep_n (w : World) (X x c : Nat) (ci : Int) (hci : ci = (c : Int)) (hXl : X < w.heap.size) (hX : w.cell? ⟨X, 0, none⟩ = some (intV x)) (hc1 : 1 ≤ c) (hc : c ≤ 400) :
    Calls Tryd.prog 45 #[.slice (some ⟨X, 0, none⟩) 1 1, .int .i64 ci] w (RepQ w x c) := by subst hci; exact rep_walk w X x c hXl hX hc1 hc
theorem rep_nums {w : World} {g x c : Nat} (h : w.heap[g]? = some (.cells (List.replicate c (intV x)).toArray 3 (0, 0))) : Nums w g 0 (List.replicate c x) := by
  refine ⟨(Array.getElem?_eq_some_iff.1 h).1, fun i hi => ?_⟩
  have hic : i < c := by simpa using hi
  have e : nth (List.replicate c x) i = x := by simp [nth, hic]
  rw [e]
  simp [World.cell?, h, hic, intV]
theorem new_cell (w : World) (x : Nat) : (w.alloc (.cells #[intV x] 3)).cell? ⟨w.heap.size, 0, none⟩ = some (intV x) := by
  simp only [World.cell?, World.alloc_heap_new]; rfl

/-- The lists of the fixed code. -/
def fixF : Nat → List Nat
  | 0 => List.replicate 144 8
  | 1 => List.replicate 112 9
  | 2 => List.replicate 24 7
  | _ => List.replicate 8 8
theorem flat_fix : flat fixF 4 = fixL := by
  show ((([] ++ List.replicate 144 8) ++ List.replicate 112 9) ++ List.replicate 24 7) ++ List.replicate 8 8 = fixL
  rw [List.nil_append]
  rfl
theorem nth_mem {l : List Nat} {b : Nat} (h : ∀ x ∈ l, x ≤ b) : ∀ i, nth l i ≤ b := fun i => by
  unfold nth
  rw [List.getD_eq_getElem?_getD]
  cases e : l[i]? with
  | none => exact Nat.zero_le _
  | some x => exact h x (List.mem_of_getElem? e)
theorem fix_le : ∀ i, nth fixL i ≤ 15 := nth_mem (fun x hx => by
  unfold fixL at hx
  simp only [List.mem_append] at hx
  rcases hx with ((hx | hx) | hx) | hx <;> (rw [List.eq_of_mem_replicate hx]; omega))
theorem fixD_le : ∀ i, nth fixD i ≤ 15 := nth_mem (fun x hx => by unfold fixD at hx; rw [List.eq_of_mem_replicate hx]; omega)
theorem fixL_len : fixL.length = 288 := by unfold fixL; simp only [List.length_append, List.length_replicate]
theorem fixD_len : fixD.length = 32 := by unfold fixD; rw [List.length_replicate]

theorem Tryd.infoCodes (arr : Array Value) (h : arr.size = 34) : (Tryd.prog.info? 71).map (·.size) = some arr.size := by rw [h]; kernel_rfl
theorem Tryd.aggCodes : (Tryd.prog.underlying 71).map isAgg = some true := by kernel_rfl

theorem codes_app (x0 x1 x2 x3 x4 x5 x6 x7 x8 x9 x10 x11 x12 x13 x14 x15 y0 y1 y2 y3 y4 y5 y6 y7 y8 y9 y10 y11 y12 y13 y14 y15 : Int) (s1 s2 : Value) :
    (#[.int .i64 x0, .int .i64 x1, .int .i64 x2, .int .i64 x3, .int .i64 x4, .int .i64 x5, .int .i64 x6, .int .i64 x7, .int .i64 x8, .int .i64 x9, .int .i64 x10, .int .i64 x11, .int .i64 x12, .int .i64 x13, .int .i64 x14, .int .i64 x15, s1] ++ #[.int .i64 y0, .int .i64 y1, .int .i64 y2, .int .i64 y3, .int .i64 y4, .int .i64 y5, .int .i64 y6, .int .i64 y7, .int .i64 y8, .int .i64 y9, .int .i64 y10, .int .i64 y11, .int .i64 y12, .int .i64 y13, .int .i64 y14, .int .i64 y15, s2] : Array Value) = #[.int .i64 x0, .int .i64 x1, .int .i64 x2, .int .i64 x3, .int .i64 x4, .int .i64 x5, .int .i64 x6, .int .i64 x7, .int .i64 x8, .int .i64 x9, .int .i64 x10, .int .i64 x11, .int .i64 x12, .int .i64 x13, .int .i64 x14, .int .i64 x15, s1, .int .i64 y0, .int .i64 y1, .int .i64 y2, .int .i64 y3, .int .i64 y4, .int .i64 y5, .int .i64 y6, .int .i64 y7, .int .i64 y8, .int .i64 y9, .int .i64 y10, .int .i64 y11, .int .i64 y12, .int .i64 y13, .int .i64 y14, .int .i64 y15, s2] := by simp
theorem codes_one (x0 x1 x2 x3 x4 x5 x6 x7 x8 x9 x10 x11 x12 x13 x14 x15 y0 y1 y2 y3 y4 y5 y6 y7 y8 y9 y10 y11 y12 y13 y14 y15 : Int) (s1 s2 : Value) (h1 : s1.oneCell' = true) (h2 : s2.oneCell' = true) :
    (#[.int .i64 x0, .int .i64 x1, .int .i64 x2, .int .i64 x3, .int .i64 x4, .int .i64 x5, .int .i64 x6, .int .i64 x7, .int .i64 x8, .int .i64 x9, .int .i64 x10, .int .i64 x11, .int .i64 x12, .int .i64 x13, .int .i64 x14, .int .i64 x15, s1, .int .i64 y0, .int .i64 y1, .int .i64 y2, .int .i64 y3, .int .i64 y4, .int .i64 y5, .int .i64 y6, .int .i64 y7, .int .i64 y8, .int .i64 y9, .int .i64 y10, .int .i64 y11, .int .i64 y12, .int .i64 y13, .int .i64 y14, .int .i64 y15, s2] : Array Value).all (·.oneCell') = true := by simp [Value.oneCell']; exact ⟨h1, h2⟩

/-- What the fixed codes come to. -/
def FixQ (w : World) (e : Ending) (w' : World) : Prop :=
  ∃ a1 a2 s1 s2, e = .returned (.agg (a1 ++ a2)) ∧ CodeP a1 fixL s1 ∧ CodeP a2 fixD s2 ∧ SpN w' w.heap.size s1 fixL ∧ SpN w' w.heap.size s2 fixD ∧ Below w.heap.size w w'

set_option maxHeartbeats 1000000 in
set_option maxRecDepth 100000 in
theorem pfixed_walk {w : World} {R A : Nat} {s : ByteArray} {p : Nat} (hR : Rd w R A s p) : Calls Tryd.prog 35 #[.pointer (some ⟨R, 0, none⟩)] w (FixQ w) := by
  go_enter Tryd.func35, Tryd.ntmps35
  go_wp2_with fail
  obtain ⟨old, hold⟩ : ∃ old : Array Value, old = #[.int .i64 0, .int .i64 0, .int .i64 0, .int .i64 0, .int .i64 0, .int .i64 0, .int .i64 0, .int .i64 0, .int .i64 0, .int .i64 0, .int .i64 0, .int .i64 0, .int .i64 0, .int .i64 0, .int .i64 0, .int .i64 0, .slice none 0 0, .int .i64 0, .int .i64 0, .int .i64 0, .int .i64 0, .int .i64 0, .int .i64 0, .int .i64 0, .int .i64 0, .int .i64 0, .int .i64 0, .int .i64 0, .int .i64 0, .int .i64 0, .int .i64 0, .int .i64 0, .int .i64 0, .slice none 0 0] := ⟨_, rfl⟩
  rw [← hold]
  have holds : old.size = 34 := by rw [hold]; rfl
  clear hold
  have hO : (w.alloc (.cells old 71)).heap[w.heap.size]? = some (.cells old 71 (0, 0)) := World.alloc_heap_new w _
  have hB : Below w.heap.size w (w.alloc (.cells old 71)) := (Below.refl _ _).alloc (Nat.le_refl _) _
  have hs : (w.alloc (.cells old 71)).heap.size = w.heap.size + 1 := by simp
  obtain ⟨W0, hW0⟩ : ∃ W0, w.alloc (.cells old 71) = W0 := ⟨_, rfl⟩
  rw [hW0] at hO hB hs ⊢
  rw [← hs]
  clear hW0
  refine (rep_n _ _ 8 144 _ rfl (by simp) (new_cell W0 8) (by omega) (by omega)).mono ?_
  rintro e w1 ⟨g1, rfl, hg1, hr1, hb1⟩
  have hB1 := ((Below.refl W0.heap.size W0).alloc (Nat.le_refl _) (.cells #[intV 8] 3)).trans (hb1.mono (by simp))
  have hl1 := (Array.getElem?_eq_some_iff.1 hr1).1
  have hs1 := hB1.size
  clear hg1 hb1
  go_wp2_with fail
  refine (rep_n _ _ 9 112 _ rfl (by simp) (new_cell w1 9) (by omega) (by omega)).mono ?_
  rintro e w2 ⟨g2, rfl, hg2, hr2, hb2⟩
  have hB2 := ((Below.refl w1.heap.size w1).alloc (Nat.le_refl _) (.cells #[intV 9] 3)).trans (hb2.mono (by simp))
  have hl2 := (Array.getElem?_eq_some_iff.1 hr2).1
  have hs2 := hB2.size
  clear hg2 hb2
  go_wp2_with fail
  refine (rep_n _ _ 7 24 _ rfl (by simp) (new_cell w2 7) (by omega) (by omega)).mono ?_
  rintro e w3 ⟨g3, rfl, hg3, hr3, hb3⟩
  have hB3 := ((Below.refl w2.heap.size w2).alloc (Nat.le_refl _) (.cells #[intV 7] 3)).trans (hb3.mono (by simp))
  have hl3 := (Array.getElem?_eq_some_iff.1 hr3).1
  have hs3 := hB3.size
  clear hg3 hb3
  go_wp2_with fail
  refine (rep_n _ _ 8 8 _ rfl (by simp) (new_cell w3 8) (by omega) (by omega)).mono ?_
  rintro e w4 ⟨g4, rfl, hg4, hr4, hb4⟩
  have hB4 := ((Below.refl w3.heap.size w3).alloc (Nat.le_refl _) (.cells #[intV 8] 3)).trans (hb4.mono (by simp))
  have hl4 := (Array.getElem?_eq_some_iff.1 hr4).1
  have hs4 := hB4.size
  clear hg4 hb4
  go_wp2_with fail
  have hr1' := (hB4.block g1 (by omega)).trans ((hB3.block g1 (by omega)).trans ((hB2.block g1 (by omega)).trans hr1))
  have hr2' := (hB4.block g2 (by omega)).trans ((hB3.block g2 (by omega)).trans hr2)
  have hr3' := (hB4.block g3 (by omega)).trans hr3
  refine (concat_walk _ w4.heap.size 4 fixF (fun i => match i with | 0 => g1 | 1 => g2 | 2 => g3 | _ => g4) 4 (by simp) (by omega) ?hc ?hn ?h1 ?h4).mono ?_
  case hc =>
    intro i hi
    match i, hi with
    | 0, _ => simp only [World.cell?, World.alloc_heap_new, fixF, List.length_replicate]; rfl
    | 1, _ => simp only [World.cell?, World.alloc_heap_new, fixF, List.length_replicate]; rfl
    | 2, _ => simp only [World.cell?, World.alloc_heap_new, fixF, List.length_replicate]; rfl
    | 3, _ => simp only [World.cell?, World.alloc_heap_new, fixF, List.length_replicate]; rfl
  case hn =>
    intro i hi
    match i, hi with
    | 0, _ => exact rep_nums ((Below.heap_alloc w4 _ g1 (by omega)).trans hr1')
    | 1, _ => exact rep_nums ((Below.heap_alloc w4 _ g2 (by omega)).trans hr2')
    | 2, _ => exact rep_nums ((Below.heap_alloc w4 _ g3 (by omega)).trans hr3')
    | 3, _ => exact rep_nums ((Below.heap_alloc w4 _ g4 (by omega)).trans hr4)
  case h1 => rw [flat_fix, fixL_len]; omega
  case h4 => rw [flat_fix, fixL_len]; omega
  rintro e w5 ⟨v5, rfl, hRow, hb5⟩
  rw [flat_fix] at hRow
  have hB5 : Below w4.heap.size w4 w5 := Below.trans ((Below.refl _ _).alloc (Nat.le_refl _) _) (hb5.mono (by simp))
  have hs5 := hB5.size
  obtain ⟨g5, c5, rfl, _, hn5⟩ := hRow.nums (by rw [fixL_len]; omega)
  clear hr1' hr2' hr3' hr1 hr2 hr3 hr4 hRow
  have hR5 : Rd w5 R A s p := hR.below (hB.trans ((hB1.mono (by omega)).trans ((hB2.mono (by omega)).trans ((hB3.mono (by omega)).trans ((hB4.mono (by omega)).trans (hB5.mono (by omega)))))))
  go_wp2_with fail
  refine (rcode_n hR5 g5 0 _ _ fixL hn5 (by rw [fixL_len]; omega) fix_le rfl).mono ?_
  rintro e w6 ⟨a1, s1, rfl, hc1, hs1, hB6, ho1⟩
  have hs6 := hB6.size
  go_wp2_with fail
  refine (rep_n _ _ 5 32 _ rfl (by simp) (new_cell w6 5) (by omega) (by omega)).mono ?_
  rintro e w7 ⟨g7, rfl, hg7, hr7, hb7⟩
  have hB7 := ((Below.refl w6.heap.size w6).alloc (Nat.le_refl _) (.cells #[intV 5] 3)).trans (hb7.mono (by simp))
  have hs7 := hB7.size
  clear hg7 hb7
  have hR7 : Rd w7 R A s p := (hR5.below hB6).below hB7
  go_wp2_with fail
  refine (rcode_n hR7 g7 0 _ _ fixD (rep_nums hr7) (by rw [fixD_len]; omega) fixD_le (by rw [fixD_len])).mono ?_
  rintro e w8 ⟨a2, s2, rfl, hc2, hs2, hB8, ho2⟩
  have hs8 := hB8.size
  have hO8 := (hB8.block w.heap.size (by omega)).trans ((hB7.block w.heap.size (by omega)).trans ((hB6.block w.heap.size (by omega)).trans ((hB5.block w.heap.size (by omega)).trans ((hB4.block w.heap.size (by omega)).trans ((hB3.block w.heap.size (by omega)).trans ((hB2.block w.heap.size (by omega)).trans ((hB1.block w.heap.size (by omega)).trans hO)))))))
  have hBw : Below w.heap.size w w8 := hB.trans ((hB1.mono (by omega)).trans ((hB2.mono (by omega)).trans ((hB3.mono (by omega)).trans ((hB4.mono (by omega)).trans ((hB5.mono (by omega)).trans ((hB6.mono (by omega)).trans ((hB7.mono (by omega)).trans (hB8.mono (by omega)))))))))
  have hS1 : SpN w8 (w.heap.size + 1) s1 fixL := ((hs1.grown (below_none hB7) (fun k e => by cases e)).grown (below_none hB8) (fun k e => by cases e)).mono (by omega)
  have hS2 : SpN w8 (w.heap.size + 1) s2 fixD := hs2.mono (by omega)
  have hz1 := hs1
  have hz2 := hs2
  obtain ⟨gs1, cs1, rfl, _⟩ := hz1
  obtain ⟨gs2, cs2, rfl, _⟩ := hz2
  clear hB1 hB2 hB3 hB4 hB5 hB6 hB7 hB8 hO hB hs1 hs2 hl1 hl2 hl3 hl4
  have FIN : ∀ e w', e = Ending.returned (.agg (a1 ++ a2)) → w' = w8.setRow w.heap.size (a1 ++ a2) → FixQ w e w' := by
    rintro e w' rfl rfl
    have hgr := grownBy_setRow w8 w.heap.size (a1 ++ a2)
    exact ⟨a1, a2, _, _, rfl, hc1, hc2, (hS1.grown hgr (fun k e => by simp at e; omega)).mono (by omega), (hS2.grown hgr (fun k e => by simp at e; omega)).mono (by omega), below_setRow hBw (Nat.le_refl _) _⟩
  obtain ⟨x0, x1, x2, x3, x4, x5, x6, x7, x8, x9, x10, x11, x12, x13, x14, x15, rfl⟩ := hc1.opened
  obtain ⟨y0, y1, y2, y3, y4, y5, y6, y7, y8, y9, y10, y11, y12, y13, y14, y15, rfl⟩ := hc2.opened
  rw [codes_app] at FIN
  obtain ⟨u1, hu1⟩ : ∃ u, used fixL = u := ⟨_, rfl⟩
  obtain ⟨u2, hu2⟩ : ∃ u, used fixD = u := ⟨_, rfl⟩
  rw [hu1, hu2] at FIN
  rw [hu1, hu2]
  have FIN := hide FIN
  clear hS1 hS2 hc1 hc2 hu1 hu2 ho1 ho2
  go_wp2_with (refine wpList_store_row rfl 71 _ _ rfl w.heap.size _ rfl rfl 71 old hO8 (Tryd.infoCodes _ rfl) holds (codes_one _ _ _ _ _ _ _ _ _ _ _ _ _ _ _ _ _ _ _ _ _ _ _ _ _ _ _ _ _ _ _ _ _ _ rfl rfl) ?_)
  obtain ⟨d, hd1, hd2⟩ := structured Tryd.aggCodes
  exact bodyPost_ret (results_cell_row rfl _ _ w.heap.size 71 _ (0, 0) d rfl (setRow_heap w8 w.heap.size old _ _ _ hO8) hd1 (by cases d <;> first | rfl | cases hd2) (Tryd.infoCodes _ rfl)) rfl (unhide FIN _ _ rfl rfl)
end Go.Proofs.YtgffljllfenhkaaDoor
