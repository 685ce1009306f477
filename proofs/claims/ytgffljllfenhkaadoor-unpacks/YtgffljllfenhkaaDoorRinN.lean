import Derived.Laws.CopyOwn
import Derived.Test.YtgffljllfenhkaaDoorRinM
import Derived.Test.YtgffljllfenhkaaDoorRefN
namespace Go.Proofs.YtgffljllfenhkaaDoor
open Go.RowKit

theorem nth_snoc {l : List Nat} {b : Nat} (h : ∀ i, nth l i ≤ b) {n x : Nat} (hx : x ≤ b) : ∀ i, nth (l ++ List.replicate n x) i ≤ b := fun i => by
  have h1 := h i
  unfold nth at *
  rw [List.getD_eq_getElem?_getD] at *
  by_cases e : i < l.length
  · rw [List.getElem?_append_left e]; exact h1
  · rw [List.getElem?_append_right (by omega), List.getElem?_replicate]
    split <;> simp [hx]
theorem last_le {l : List Nat} {b : Nat} (h : ∀ i, nth l i ≤ b) : l.getLastD 0 ≤ b := by rw [← nth_last]; exact h _
theorem readL_le {cl : List Nat} {s : ByteArray} {many : Nat} : ∀ {f p q : Nat} {l all : List Nat}, readL cl s many f p l = some (q, all) → (∀ i, nth l i ≤ 15) → ∀ i, nth all i ≤ 15
  | 0, _, _, _, _, h, _ => by cases h
  | f + 1, p, q, l, all, h, hl => by
    rw [readL_succ] at h
    unfold readStep at h
    split at h
    · split at h
      · cases h
      · split at h
        · rename_i h16
          exact readL_le h (nth_snoc (n := 1) hl (by omega))
        · split at h
          · split at h
            · cases h
            · split at h
              · cases h
              · exact readL_le h (nth_snoc hl (last_le hl))
          · split at h
            · split at h
              · cases h
              · exact readL_le h (nth_snoc hl (by omega))
            · split at h
              · cases h
              · exact readL_le h (nth_snoc hl (by omega))
    · split at h
      · simp at h; rw [← h.2]; exact hl
      · cases h
theorem nth_set (l : List Nat) (k x j : Nat) (hk : k < l.length) : (if j = k then x else nth l j) = nth (l.set k x) j := by
  unfold nth
  rw [List.getD_eq_getElem?_getD, List.getD_eq_getElem?_getD, List.getElem?_set]
  by_cases e : j = k
  · subst e; simp [hk]
  · rw [if_neg e, if_neg (fun e' => e e'.symm)]
theorem clens_le (s : ByteArray) (p : Nat) : ∀ n i, nth (clens s p n) i ≤ 7
  | 0, i => by unfold nth clens; rw [List.getD_eq_getElem?_getD, List.getElem?_replicate]; split <;> simp
  | n + 1, i => by
    unfold clens
    by_cases hk : orderT.getD n 0 < (clens s p n).length
    · rw [← nth_set _ _ _ _ hk]
      split
      · have := numOf_lt s (p + 3 * n) 3; simp at this; omega
      · exact clens_le s p n i
    · rw [List.set_eq_of_length_le (by omega)]; exact clens_le s p n i

theorem newCode_n (w : World) (g off cap n : Nat) (l : List Nat) (hl : Nums w g off l) (hlen : l.length ≤ 400) (h15 : ∀ i, nth l i ≤ 15) (hn : n = l.length) :
    Calls Tryd.prog 54 #[.slice (some ⟨g, off, none⟩) n cap] w fun e w' => ∃ arr sg, e = .returned (.agg arr) ∧ CodeP arr l sg ∧ SpN w' w.heap.size sg l ∧ Below w.heap.size w w' ∧ arr.all (·.oneCell') = true := by
  subst hn; exact newCode_walk w g off cap l hl hlen h15
theorem Rd.below {w w' : World} {R A : Nat} {s : ByteArray} {p : Nat} (h : Rd w R A s p) (hB : Below w.heap.size w w') : Rd w' R A s p :=
  h.of_blocks (fun k hk => hB.block k (by have h1 := h.ltR; have h2 := h.ltA; rcases hk with rfl | rfl | rfl <;> omega))
theorem SpN.grown {w w' : World} {base : Nat} {sg : Value} {l : List Nat} {r : Option Nat} (h : SpN w base sg l) (hg : w.grownBy w' r) (hr : ∀ k, r = some k → k < base) : SpN w' base sg l := by
  obtain ⟨g, cap, h1, h2, h3, h4⟩ := h
  exact ⟨g, cap, h1, h2, Nat.lt_of_lt_of_le h3 hg.size, fun n a hn hn' ha => (World.cell?_of_block (w := w) (hg.block g h3 (fun e => by have := hr g e.symm; omega))).trans (h4 n a hn hn' ha)⟩
theorem SpN.mono {w : World} {base base' : Nat} {sg : Value} {l : List Nat} (h : SpN w base sg l) (hb : base' ≤ base) : SpN w base' sg l := by
  obtain ⟨g, cap, h1, h2, h3⟩ := h
  exact ⟨g, cap, h1, Nat.le_trans hb h2, h3⟩

/-- A code laid into a new variable. -/
theorem laid_codeP (w : World) (old carr : Array Value) : ∃ W6, (w.alloc (.cells old 69)).setRow w.heap.size carr = W6 ∧ W6.heap[w.heap.size]? = some (.cells carr 69 (0, 0)) ∧ Below w.heap.size w W6 :=
  ⟨_, rfl, setRow_heap _ _ _ _ _ _ (World.alloc_heap_new w _), ((Below.refl _ w).alloc (Nat.le_refl _) _).grown (grownBy_setRow _ _ _) (by simp) (fun k e => by simp at e; omega)⟩

/-- What the code of lengths comes to. -/
def colS (s : ByteArray) (p told : Nat) : Option Nat := if p + 3 * told ≤ 8 * s.size ∧ whole (clens s p told) = true then some (p + 3 * told) else none
def ColQ (w : World) (R A : Nat) (s : ByteArray) (p told : Nat) (r : Option Nat) (e : Ending) (w' : World) : Prop :=
  (∃ q arr sg, r = some q ∧ e = .returned (.agg arr) ∧ CodeP arr (clens s p told) sg ∧ SpN w' w.heap.size sg (clens s p told) ∧ Rd w' R A s q ∧ Fp R A w w' ∧ arr.all (·.oneCell') = true) ∨ (r = none ∧ e = .panicked thrown ∧ Fp R A w w')

theorem zeros19 (m : Nat) (hm : m < 19) : (#[.int .i64 0, .int .i64 0, .int .i64 0, .int .i64 0, .int .i64 0, .int .i64 0, .int .i64 0, .int .i64 0, .int .i64 0, .int .i64 0, .int .i64 0, .int .i64 0, .int .i64 0, .int .i64 0, .int .i64 0, .int .i64 0, .int .i64 0, .int .i64 0, .int .i64 0] : Array Value)[m]? = some (intV 0) := by
  match m, hm with
  | 0, _ | 1, _ | 2, _ | 3, _ | 4, _ | 5, _ | 6, _ | 7, _ | 8, _ | 9, _ | 10, _ | 11, _ | 12, _ | 13, _ | 14, _ | 15, _ | 16, _ | 17, _ | 18, _ => rfl
  | n + 19, hm => exact absurd hm (by omega)
theorem colS_no {s : ByteArray} {p told i : Nat} (hi : i < told) (h : ¬ p + 3 * i + 3 ≤ 8 * s.size) : colS s p told = none := by
  unfold colS; rw [if_neg (fun e => by omega)]

set_option maxHeartbeats 2000000 in
/-- The same, charged (for nothing). -/
theorem rcode_n {w : World} {R A : Nat} {s : ByteArray} {p : Nat} (hR : Rd w R A s p) (g off cap n : Nat) (l : List Nat) (hl : Nums w g off l) (hlen : l.length ≤ 400) (h15 : ∀ i, nth l i ≤ 15) (hn : n = l.length) :
    Calls Tryd.prog 46 #[.pointer (some ⟨R, 0, none⟩), .slice (some ⟨g, off, none⟩) n cap] w fun e w' => ∃ arr sg, e = .returned (.agg arr) ∧ CodeP arr l sg ∧ SpN w' w.heap.size sg l ∧ Below w.heap.size w w' ∧ arr.all (·.oneCell') = true := by
  subst hn
  go_enter Tryd.func46, Tryd.ntmps46
  go_upto_region 1 with fail
  obtain ⟨old, hold⟩ : ∃ old : Array Value, old = #[.int .i64 0, .int .i64 0, .int .i64 0, .int .i64 0, .int .i64 0, .int .i64 0, .int .i64 0, .int .i64 0, .int .i64 0, .int .i64 0, .int .i64 0, .int .i64 0, .int .i64 0, .int .i64 0, .int .i64 0, .int .i64 0, .slice none 0 0] := ⟨_, rfl⟩
  rw [← hold]
  have holds : old.size = 17 := by rw [hold]; rfl
  clear hold
  have c3 := (hR.alloc (.cells old 69)).c3
  have hO : (w.alloc (.cells old 69)).heap[w.heap.size]? = some (.cells old 69 (0, 0)) := World.alloc_heap_new w _
  have hB0 : Below w.heap.size w (w.alloc (.cells old 69)) := (Below.refl _ _).alloc (Nat.le_refl _) _
  have hs0 : (w.alloc (.cells old 69)).heap.size = w.heap.size + 1 := by simp
  have hl0 := hl.below hB0
  obtain ⟨W0, hW0⟩ : ∃ W0, w.alloc (.cells old 69) = W0 := ⟨_, rfl⟩
  rw [hW0] at c3 hO hB0 hl0 hs0 ⊢
  clear hW0
  go_wp2_with fail
  refine (free_any _ _).mono ?_
  rintro e w0 ⟨rfl, rfl⟩
  go_wp2_with fail
  refine (newCode_walk _ g off cap l hl0 hlen h15).mono ?_
  rintro e w2 ⟨arr, sg, rfl, hD, hSp, hB, hone⟩
  have hO2 := (hB.block w.heap.size (by omega)).trans hO
  have hBw : Below w.heap.size w w2 := hB0.trans (hB.mono (by omega))
  clear hO c3
  go_wp2_with (refine wpList_store_row rfl 69 _ _ rfl w.heap.size _ rfl rfl 69 old hO2 (Tryd.infoCodeP _ hD.size) (holds.trans hD.size.symm) hone ?_)
  have hW2 := setRow_heap w2 w.heap.size old arr _ _ hO2
  have hgr := grownBy_setRow w2 w.heap.size arr
  obtain ⟨d, hd1, hd2⟩ := structured Tryd.aggCodeP
  refine bodyPost_ret (v := .agg arr) (results_cell_row rfl _ _ w.heap.size 69 _ (0, 0) d rfl hW2 hd1 (by cases d <;> first | rfl | cases hd2) (Tryd.infoCodeP _ hD.size)) rfl ?_
  exact ⟨arr, sg, rfl, hD, (hSp.grown hgr (fun k e => by simp at e; omega)).mono (by omega), below_setRow hBw (Nat.le_refl _) _, hone⟩

set_option maxHeartbeats 4000000 in
set_option maxRecDepth 100000 in
theorem col_walk (w : World) (R A : Nat) (s : ByteArray) (p told : Nat) (ti : Int) (h : Rd w R A s p) (hT : PTabs w) (h9 : 9 ≤ R ∧ 9 ≤ A) (ht : told ≤ 19) (hti : ti = (told : Int)) :
    Calls Tryd.prog 48 #[.pointer (some ⟨R, 0, none⟩), .int .i64 ti] w (ColQ w R A s p told (colS s p told)) := by
  subst hti
  have hlR := h.ltR
  have hlA := h.ltA
  go_enter Tryd.func48, Tryd.ntmps48
  go_wp2_with fail
  obtain ⟨W0, hW0⟩ : ∃ W0, (w.alloc (.cells #[.int .i64 0, .int .i64 0, .int .i64 0, .int .i64 0, .int .i64 0, .int .i64 0, .int .i64 0, .int .i64 0, .int .i64 0, .int .i64 0, .int .i64 0, .int .i64 0, .int .i64 0, .int .i64 0, .int .i64 0, .int .i64 0, .slice none 0 0] 69)).alloc (.cells #[.int .i64 0, .int .i64 0, .int .i64 0, .int .i64 0, .int .i64 0, .int .i64 0, .int .i64 0, .int .i64 0, .int .i64 0, .int .i64 0, .int .i64 0, .int .i64 0, .int .i64 0, .int .i64 0, .int .i64 0, .int .i64 0, .int .i64 0, .int .i64 0, .int .i64 0] 58) = W0 := ⟨_, rfl⟩
  rw [hW0]
  have hF0 : Fp R A w W0 := by rw [← hW0]; exact (Fp.alloc R A w _).trans (Fp.alloc R A _ _)
  have hR0 : Rd W0 R A s p := by rw [← hW0]; exact (h.alloc _).alloc _
  have hC0 : Cn W0 (w.heap.size + 1) 58 19 (nth (clens s p 0)) #[.int .i64 0, .int .i64 0, .int .i64 0, .int .i64 0, .int .i64 0, .int .i64 0, .int .i64 0, .int .i64 0, .int .i64 0, .int .i64 0, .int .i64 0, .int .i64 0, .int .i64 0, .int .i64 0, .int .i64 0, .int .i64 0, .int .i64 0, .int .i64 0, .int .i64 0] := by
    refine ⟨by rw [← hW0]; exact heap_alloc2_new w _ _, by simp, fun m hm => ?_⟩
    have : nth (clens s p 0) m = 0 := by unfold nth clens; rw [List.getD_eq_getElem?_getD, List.getElem?_replicate]; split <;> simp
    rw [this]; exact zeros19 m hm
  have hO0 : ∃ old : Array Value, old.size = 17 ∧ W0.heap[w.heap.size]? = some (.cells old 69 (0, 0)) := ⟨_, rfl, by rw [← hW0]; exact heap_alloc2_old w _ _⟩
  obtain ⟨old, hold, hO0⟩ := hO0
  clear hW0
  go_loopw [9] (fun iv wr => ∃ (i : Nat) (arr : Array Value), iv = .int .i64 (i : Int) ∧ i ≤ told ∧ Cn wr (w.heap.size + 1) 58 19 (nth (clens s p i)) arr ∧ wr.heap[w.heap.size]? = some (.cells old 69 (0, 0)) ∧ Rd wr R A s (p + 3 * i) ∧ Fp R A w wr)
    (fun iv _ => told - (intOf iv).toNat)
  case atStart => exact ⟨0, _, rfl, by omega, hC0, hO0, hR0, hF0⟩
  case round =>
    clear hC0 hO0 hR0 hF0 W0
    obtain ⟨i, arr, rfl, hi, hC, hO, hR, hF⟩ := hrel
    have hTr := hT.kept hF h9.1 h9.2 hlR
    have hlW := hF.size
    have hCl := hC.lt
    by_cases hlt : i < told
    · have hto := hTr.order i (by simp [orderT]; omega)
      have hol := order_lt i (by omega)
      have hi19 : (i : Int) < 19 := by omega
      obtain ⟨k, hk⟩ : ∃ k, nth orderT i = k := ⟨_, rfl⟩
      rw [hk] at hto hol
      have hk19 : (k : Int) < 19 := by omega
      have HK : Hid (orderT.getD i 0 = k) := hk
      clear hk
      by_cases hle8 : p + 3 * i + 3 ≤ 8 * s.size
      · have hnl : numOf s (p + 3 * i) 3 < 8 := numOf_lt s (p + 3 * i) 3
        go_wp2_with fail
        go_region_with (go_at_call 21; refine (number_yes _ R A s (p + 3 * i) 3 _ rfl (by exact hR.drew) (by omega) hle8).mono ?_; rintro e w2 ⟨rfl, hR2, hF2⟩; have hF2' := (Fp.drew R A wr).trans hF2; have hT2 := hTr.kept hF2' h9.1 h9.2 (by omega); have hto2 : w2.cell? ⟨8, i, none⟩ = some (.int .i64 (k : Int)) := (hT2.order i (by simp [orderT]; omega)).trans (by rw [show nth orderT i = k from HK]); have hC2 : Cn w2 (w.heap.size + 1) 58 19 (nth (clens s p i)) arr := ⟨(hF2'.block _ hCl (by omega) (by omega)).trans hC.blk, hC.size, hC.c⟩; have hcc := hC2.cell hol; have hcf := hC2.fr k)
        all_goals
          go_wp2_with fail
          have hfin : ∀ u : Value, u = .int .i64 ((i : Int) + 1) → ∃ (i2 : Nat) (arr : Array Value), u = .int .i64 (i2 : Int) ∧ i2 ≤ told ∧ Cn (w2.setCell ⟨w.heap.size + 1, k, none⟩ (.int .i64 (numOf s (p + 3 * i) 3 : Int))) (w.heap.size + 1) 58 19 (nth (clens s p i2)) arr ∧ (w2.setCell ⟨w.heap.size + 1, k, none⟩ (.int .i64 (numOf s (p + 3 * i) 3 : Int))).heap[w.heap.size]? = some (.cells old 69 (0, 0)) ∧ Rd (w2.setCell ⟨w.heap.size + 1, k, none⟩ (.int .i64 (numOf s (p + 3 * i) 3 : Int))) R A s (p + 3 * i2) ∧ Fp R A w (w2.setCell ⟨w.heap.size + 1, k, none⟩ (.int .i64 (numOf s (p + 3 * i) 3 : Int))) := by
            rintro u rfl
            refine ⟨i + 1, _, by go_num, by omega, (hC2.set hol (numOf s (p + 3 * i) 3)).congr (fun m _ => ?_), ?_, ?_, (hF.trans hF2').set (w.heap.size + 1) k _ (by omega)⟩
            · show _ = nth ((clens s p i).set (orderT.getD i 0) _) m
              rw [show orderT.getD i 0 = k from HK]; exact nth_set _ _ _ _ (by rw [clens_len]; exact hol)
            · rw [heap_setCell_other _ _ _ _ (by simp), hF2'.block _ (by omega) (by omega) (by omega)]; exact hO
            · rw [show p + 3 * (i + 1) = p + 3 * i + 3 by omega]; exact hR2.set _ _ _ ⟨by omega, by omega, by omega⟩
          first
            | exact ⟨hfin _ rfl, by simp [intOf]; omega⟩
            | (refine ⟨?_, by simp [intOf]; omega⟩; (repeat apply Exists.intro); exact ⟨hfin _ rfl, rfl⟩)
      · have FIN : Hid (colS s p told = none) := colS_no hlt hle8
        go_wp2_with fail
        go_region_dies
        all_goals
          refine (number_no _ R A s (p + 3 * i) 3 _ rfl (by exact hR.drew) (by omega) hle8).mono ?_
          rintro e w2 ⟨rfl, hF2⟩
          exact ⟨rfl, .inr ⟨unhide FIN, rfl, hF.trans ((Fp.drew R A wr).trans hF2)⟩⟩
    · have e : i = told := by omega
      subst e
      have hp8 := hR.hp
      have hnm : Nums wr (w.heap.size + 1) 0 (clens s p i) := ⟨hCl, fun j hj => by rw [Nat.zero_add]; exact hC.cell (by rw [clens_len] at hj; exact hj)⟩
      go_wp2_with fail
      refine (rcode_n hR (w.heap.size + 1) 0 19 19 (clens s p i) hnm (by rw [clens_len]; omega) (fun j => Nat.le_trans (clens_le s p i j) (by omega)) (clens_len s p i).symm).mono ?_
      rintro e w2 ⟨carr, sg, rfl, hD, hSp, hB, hone⟩
      have hs2 := hB.size
      go_wp2_with (first | (refine load_whole rfl 69 _ rfl w2.heap.size rfl 69 carr (0, 0) (by assumption) Tryd.aggCodeP (Tryd.infoCodeP carr hD.size) ?_) | (refine wpList_store_row rfl 69 _ _ rfl w2.heap.size _ rfl rfl 69 _ (World.alloc_heap_new w2 _) (Tryd.infoCodeP _ hD.size) (by rw [hD.size]; rfl) hone ?_; obtain ⟨W6, hW6, hX6, hB6⟩ := laid_codeP w2 _ carr; rw [hW6]; clear hW6))
      have hB2 : Below wr.heap.size wr W6 := hB.trans (hB6.mono hB.size)
      have hO2 := (hB2.block _ (by omega)).trans hO
      have hR2 := hR.byGrown (below_none hB2) (by simp)
      have hF2 := hF.grow (below_none hB2) (by simp)
      have hs6 := hB6.size
      have hSp6 := hSp.grown (below_none hB6) (by simp)
      refine (isWhole_any W6 carr _ sg hD).mono ?_
      rintro e w3 ⟨rfl, x3, rfl⟩
      have hO3 := (Below.heap_alloc _ x3 w.heap.size (by omega)).trans hO2
      have hX3 := (Below.heap_alloc _ x3 w2.heap.size (Array.getElem?_eq_some_iff.1 hX6).1).trans hX6
      have hR3 := hR2.alloc x3
      have hF3 := hF2.trans (Fp.alloc R A W6 x3)
      have hSp3 := hSp6.grown (World.grownBy_alloc W6 x3 none) (by simp)
      cases hw : whole (clens s p i) with
      | false =>
        have FIN : Hid (colS s p i = none) := by unfold colS; rw [if_neg (by rw [hw]; simp)]; rfl
        go_wp2_with fail
        refine (demand_no hR3).mono ?_
        rintro e w4 ⟨rfl, rfl⟩
        exact ⟨rfl, .inr ⟨unhide FIN, rfl, hF3⟩⟩
      | true =>
        have FIN : Hid (colS s p i = some (p + 3 * i)) := by unfold colS; rw [if_pos ⟨hp8, hw⟩]; rfl
        go_wp2_with (first | (go_at_call 23; refine (demand_ok _).mono ?_; rintro e w4 ⟨rfl, rfl⟩) | (refine load_whole rfl 69 _ rfl w2.heap.size rfl 69 carr (0, 0) hX3 Tryd.aggCodeP (Tryd.infoCodeP carr hD.size) ?_) | (refine wpList_store_row rfl 69 _ _ rfl w.heap.size _ rfl rfl 69 old hO3 (Tryd.infoCodeP _ hD.size) (hold.trans hD.size.symm) hone ?_))
        have hW2 := setRow_heap (W6.alloc x3) w.heap.size old carr _ _ hO3
        have hgr := grownBy_setRow (W6.alloc x3) w.heap.size carr
        obtain ⟨d, hd1, hd2⟩ := structured Tryd.aggCodeP
        refine bodyPost_ret (v := .agg carr) (results_cell_row rfl _ _ w.heap.size 69 _ (0, 0) d rfl hW2 hd1 (by cases d <;> first | rfl | cases hd2) (Tryd.infoCodeP _ hD.size)) rfl ?_
        exact .inl ⟨_, _, _, unhide FIN, rfl, hD, (hSp3.grown hgr (fun k e => by simp at e; omega)).mono (by omega), hR3.byGrown hgr (fun k e => by simp at e; omega), hF3.grow hgr (fun k e => by simp at e; omega), hone⟩
end Go.Proofs.YtgffljllfenhkaaDoor
