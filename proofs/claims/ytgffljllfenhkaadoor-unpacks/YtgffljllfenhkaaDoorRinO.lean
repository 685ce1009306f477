import Derived.Test.YtgffljllfenhkaaDoorRinP
import Derived.Deep.DrawnRows
namespace Go.Proofs.YtgffljllfenhkaaDoor
open Go.RowKit

/-- What the own codes come to. -/
def OwnQ (w : World) (R A : Nat) (s : ByteArray) (r : Option (Nat × List Nat × List Nat)) (e : Ending) (w' : World) : Prop :=
  (∃ q l dl a1 a2 s1 s2, r = some (q, l, dl) ∧ e = .returned (.agg (a1 ++ a2)) ∧ CodeP a1 l s1 ∧ CodeP a2 dl s2 ∧ SpN w' w.heap.size s1 l ∧ SpN w' w.heap.size s2 dl ∧ Rd w' R A s q ∧ Fp R A w w') ∨ (r = none ∧ e = .panicked thrown ∧ Fp R A w w')

theorem SpN.sp {w : World} {base R A : Nat} {sg : Value} {l : List Nat} (h : SpN w base sg l) (hR : R < base) (hA : A < base) : Sp w R A sg l := by
  obtain ⟨g, cap, h1, h2, h3, h4⟩ := h
  exact ⟨g, cap, h1, h3, by omega, by omega, h4⟩

theorem Nums.drew {w : World} {g off : Nat} {l : List Nat} (h : Nums w g off l) : Nums w.drew g off l := h
theorem Nums.alloc {w : World} {g off : Nat} {l : List Nat} (h : Nums w g off l) (o : Obj) : Nums (w.alloc o) g off l := h.below ((Below.refl _ _).alloc (Nat.le_refl _) _)
theorem Nums.drop0 {w : World} {g : Nat} {l : List Nat} (h : Nums w g 0 l) (n : Nat) : Nums w g n (l.drop n) := by have := h.drop n; rwa [Nat.zero_add] at this
theorem take_le {l : List Nat} {b : Nat} (h : ∀ i, nth l i ≤ b) (n : Nat) : ∀ i, nth (l.take n) i ≤ b := fun i => by
  have h1 := h i
  unfold nth at *
  rw [List.getD_eq_getElem?_getD] at *
  rw [List.getElem?_take]
  split
  · exact h1
  · simp
theorem drop_le {l : List Nat} {b : Nat} (h : ∀ i, nth l i ≤ b) (n : Nat) : ∀ i, nth (l.drop n) i ≤ b := fun i => by
  have h1 := h (n + i)
  unfold nth at *
  rw [List.getD_eq_getElem?_getD] at *
  rw [List.getElem?_drop]; exact h1

/-- What is left when the lengths have been read. -/
def ownD (r : Option (Nat × List Nat)) (a : Nat) : Option (Nat × List Nat × List Nat) :=
  match r with
  | none => none
  | some (q, all) => if all.getD 256 0 ≠ 0 ∧ goodB (all.take (257 + a)) = true ∧ goodD (all.drop (257 + a)) = true then some (q, all.take (257 + a), all.drop (257 + a)) else none
theorem own_none14 {s : ByteArray} {p : Nat} (h : ¬ p + 14 ≤ 8 * s.size) : ownLens s p = none := by unfold ownLens; rw [if_neg h]
theorem own_noneAB {s : ByteArray} {p : Nat} (h : ¬ (numOf s p 5 ≤ 29 ∧ numOf s (p + 5) 5 ≤ 29)) : ownLens s p = none := by
  unfold ownLens
  split
  · simp only
    split
    · rw [if_neg (fun e => h ⟨e.1, e.2.1⟩)]
    · rfl
  · rfl
theorem own_noneC {s : ByteArray} {p : Nat} (h : colS s (p + 14) (4 + numOf s (p + 10) 4) = none) : ownLens s p = none := by
  unfold ownLens
  split
  · simp only
    split
    · rename_i h2
      rw [if_neg]
      rintro ⟨_, _, e⟩
      unfold colS at h
      rw [if_pos ⟨h2, e⟩] at h
      cases h
    · rfl
  · rfl
theorem own_goD {s : ByteArray} {p q : Nat} (h14 : p + 14 ≤ 8 * s.size) (ha : numOf s p 5 ≤ 29) (hb : numOf s (p + 5) 5 ≤ 29) (h : colS s (p + 14) (4 + numOf s (p + 10) 4) = some q) :
    ownLens s p = ownD (readL (clens s (p + 14) (4 + numOf s (p + 10) 4)) s (258 + numOf s p 5 + numOf s (p + 5) 5) (258 + numOf s p 5 + numOf s (p + 5) 5 + 1) q []) (numOf s p 5) := by
  unfold colS at h
  split at h
  · rename_i hc
    simp at h
    subst h
    unfold ownLens
    rw [if_pos h14]
    simp only
    rw [if_pos hc.1, if_pos ⟨ha, hb, hc.2⟩, show 259 + numOf s p 5 + numOf s (p + 5) 5 = 258 + numOf s p 5 + numOf s (p + 5) 5 + 1 by omega]
    rfl
  · cases h

/-- A block of a variable for codes. -/
def CodesAt (w : World) (g : Nat) : Prop := ∃ old : Array Value, old.size = 34 ∧ w.heap[g]? = some (.cells old 71 (0, 0))
theorem CodesAt.keep {w w' : World} {g : Nat} (hB : Below w.heap.size w w') (h : CodesAt w g) : CodesAt w' g := by
  obtain ⟨old, hs, hg⟩ := h
  exact ⟨old, hs, (hB.block g (Array.getElem?_eq_some_iff.1 hg).1).trans hg⟩
theorem CodesAt.drew {w : World} {g : Nat} (h : CodesAt w g) : CodesAt w.drew g := h
theorem CodesAt.new (w : World) : CodesAt (w.alloc (.cells #[.int .i64 0, .int .i64 0, .int .i64 0, .int .i64 0, .int .i64 0, .int .i64 0, .int .i64 0, .int .i64 0, .int .i64 0, .int .i64 0, .int .i64 0, .int .i64 0, .int .i64 0, .int .i64 0, .int .i64 0, .int .i64 0, .slice none 0 0, .int .i64 0, .int .i64 0, .int .i64 0, .int .i64 0, .int .i64 0, .int .i64 0, .int .i64 0, .int .i64 0, .int .i64 0, .int .i64 0, .int .i64 0, .int .i64 0, .int .i64 0, .int .i64 0, .int .i64 0, .int .i64 0, .slice none 0 0] 71)) w.heap.size := ⟨_, rfl, World.alloc_heap_new w _⟩
theorem CodesAt.put {w : World} {g : Nat} (h : CodesAt w g) (cs : Array Value) : (w.setRow g cs).heap[g]? = some (.cells cs 71 (0, 0)) := by
  obtain ⟨old, _, hg⟩ := h
  exact setRow_heap w g old cs _ _ hg
theorem SpN.put {w : World} {base g : Nat} {sg : Value} {l : List Nat} (h : SpN w base sg l) (hne : sg.ownBlock ≠ some g) (cs : Array Value) : SpN (w.setRow g cs) base sg l := by
  obtain ⟨k, cap, rfl, h2, h3, h4⟩ := h
  have hk : k ≠ g := fun e => hne (by subst e; rfl)
  have hgr := grownBy_setRow w g cs
  refine ⟨k, cap, rfl, h2, Nat.lt_of_lt_of_le h3 hgr.size, fun n a h1 h15 ha => ?_⟩
  rw [World.cell?_of_block (w := w) (hgr.block k h3 (by simp; omega))]
  exact h4 n a h1 h15 ha
/-- What stands when both codes are made. -/
def OwnR (w5 : World) (l1 l2 : List Nat) (pv : Value) (wx : World) : Prop :=
  ∃ (g : Nat) (a1 a2 : Array Value) (s1 s2 : Value), pv = .pointer (some ⟨g, 0, none⟩) ∧ wx.heap[g]? = some (.cells (a1 ++ a2) 71 (0, 0)) ∧ CodeP a1 l1 s1 ∧ CodeP a2 l2 s2 ∧ SpN wx w5.heap.size s1 l1 ∧ SpN wx w5.heap.size s2 l2 ∧ a1.all (·.oneCell') = true ∧ a2.all (·.oneCell') = true ∧ w5.heap.size ≤ g ∧ Below w5.heap.size w5 wx
theorem own_rel {w5 W : World} {l1 l2 : List Nat} {a1 a2 : Array Value} {s1 s2 : Value} (g : Nat) (hk : CodesAt W g) (h1 : SpN W w5.heap.size s1 l1) (h2 : SpN W w5.heap.size s2 l2) (hn1 : s1.ownBlock ≠ some g) (hn2 : s2.ownBlock ≠ some g)
    (hg : w5.heap.size ≤ g) (hB : Below w5.heap.size w5 W) (hc1 : CodeP a1 l1 s1) (hc2 : CodeP a2 l2 s2) (ho1 : a1.all (·.oneCell') = true) (ho2 : a2.all (·.oneCell') = true) :
    OwnR w5 l1 l2 (.pointer (some ⟨g, 0, none⟩)) (W.setRow g (a1 ++ a2)) :=
  ⟨g, a1, a2, s1, s2, rfl, hk.put _, hc1, hc2, h1.put hn1 _, h2.put hn2 _, ho1, ho2, hg, below_setRow hB hg _⟩

/-- A part of a block, read by an operation that is wanted. -/
theorem load_part {P : Program} {ops : Array Oper} {rest : List Oper} {o : Oper} {a : Act} {w : World} {Q : Exit → Act → World → Prop} (ty : TypeId) (x : Operand) (ho : o.op = .load ty x) (hw : Region.wanted o (yielded ops a.tmps) = true)
    (b off : Nat) (hx : a.eval x = .pointer (some ⟨b, off, none⟩)) (cs : Array Value) (hc : w.rangeAt b off cs.toList)
    (hu : (P.underlying ty).map isAgg = some true) (hi : (P.info? ty).map (·.size) = some cs.size)
    (h : wpList P ops Q rest (a.put o.dst (.agg cs)) w) : wpList P ops Q (o :: rest) a w := by
  obtain ⟨d, h1, h2⟩ := structured hu
  unfold wpList
  rw [if_pos hw]
  left
  refine wp_load_mid ty x ho b off hx cs.toList d hc h1 ?_ (by simpa using hi) (by simpa using h)
  cases d <;> first | rfl | cases h2
theorem range_one {w : World} {g : Nat} {a1 a2 : Array Value} {t : TypeId} (h : w.heap[g]? = some (.cells (a1 ++ a2) t (0, 0))) : w.rangeAt g 0 a1.toList := fun j v hv => by
  rw [Array.getElem?_toList] at hv
  have hj := (Array.getElem?_eq_some_iff.1 hv).1
  simp only [World.cell?, h]
  rw [Nat.zero_add, Array.getElem?_append_left hj]; exact hv
theorem range_two {w : World} {g : Nat} {a1 a2 : Array Value} {t : TypeId} (h : w.heap[g]? = some (.cells (a1 ++ a2) t (0, 0))) (h1 : a1.size = 17) : w.rangeAt g 17 a2.toList := fun j v hv => by
  rw [Array.getElem?_toList] at hv
  simp only [World.cell?, h]
  rw [Array.getElem?_append_right (by omega), h1, Nat.add_sub_cancel_left]; exact hv

theorem fp_below {R A : Nat} {w w' : World} (h : Below w.heap.size w w') : Fp R A w w' := ⟨h.os, h.tape, h.output, h.size, fun k hk _ _ => h.block k hk⟩

/-- A store of codes, laid aside. -/
def StoreWp (P : Program) (o : Oper) (a : Act) (w : World) (K : Act → World → Prop) (Q : Exit → Act → World → Prop) : Prop := o.wp P a w K Q
theorem store_aside {P : Program} {d : Option Tmp} {x y : Operand} {ty : TypeId} {ps : String} {af : Array Edge} {gd : Option (Nat × Bool)} {a : Act} {w : World} {K : Act → World → Prop} {Q : Exit → Act → World → Prop} :
    Oper.wp P { dst := d, op := .store 71 x y, type := ty, pos := ps, after := af, guard := gd } a w K Q = StoreWp P { dst := d, op := .store 71 x y, type := ty, pos := ps, after := af, guard := gd } a w K Q := rfl
theorem StoreWp.row {o : Oper} {a : Act} {w : World} {K : Act → World → Prop} {Q : Exit → Act → World → Prop} (x y : Operand) (ho : o.op = .store 71 x y)
    (g : Nat) (cells : Array Value) (hx : a.eval x = .pointer (some ⟨g, 0, none⟩)) (hy : a.eval y = .agg cells) (hg : CodesAt w g) (h34 : cells.size = 34) (h1 : cells.all (·.oneCell') = true)
    (h : K (a.put o.dst undef) (w.setRow g cells)) : StoreWp Tryd.prog o a w K Q := by
  obtain ⟨old, hs, hg⟩ := hg
  exact wp_store_row 71 x y ho g cells hx hy 71 old hg (Tryd.infoCodes _ h34) (hs.trans h34.symm) h1 h
attribute [local go_sem ↓] store_aside Go.wp_at_zero Go.wp_at_succ

set_option maxHeartbeats 4000000 in
set_option maxRecDepth 100000 in
theorem powncodes_walk (w : World) (R A : Nat) (s : ByteArray) (p : Nat) (h : Rd w R A s p) (hT : PTabs w) (h9 : 9 ≤ R ∧ 9 ≤ A) :
    Calls Tryd.prog 36 #[.pointer (some ⟨R, 0, none⟩)] w (OwnQ w R A s (ownLens s p)) := by
  have hlR := h.ltR
  have hlA := h.ltA
  have hx32 := numOf_lt s p 5
  have hy32 := numOf_lt s (p + 5) 5
  have hz16 := numOf_lt s (p + 10) 4
  have GO : Hid (∀ q, p + 14 ≤ 8 * s.size → numOf s p 5 ≤ 29 → numOf s (p + 5) 5 ≤ 29 → colS s (p + 14) (4 + numOf s (p + 10) 4) = some q → ownLens s p = ownD (readL (clens s (p + 14) (4 + numOf s (p + 10) 4)) s (258 + numOf s p 5 + numOf s (p + 5) 5) (258 + numOf s p 5 + numOf s (p + 5) 5 + 1) q []) (numOf s p 5)) := fun q a b c d => own_goD a b c d
  have N14 : Hid (¬ p + 14 ≤ 8 * s.size → ownLens s p = none) := own_none14
  have NAB : Hid (¬ (numOf s p 5 ≤ 29 ∧ numOf s (p + 5) 5 ≤ 29) → ownLens s p = none) := own_noneAB
  have NC : Hid (colS s (p + 14) (4 + numOf s (p + 10) 4) = none → ownLens s p = none) := own_noneC
  have N1 := number_red
  obtain ⟨r, hr⟩ : ∃ r, ownLens s p = r := ⟨_, rfl⟩
  rw [hr] at GO N14 NAB NC
  rw [hr]
  clear hr N1
  go_enter Tryd.func36, Tryd.ntmps36
  go_wp2_with fail
  obtain ⟨old, hold⟩ : ∃ old : Array Value, old = #[.int .i64 0, .int .i64 0, .int .i64 0, .int .i64 0, .int .i64 0, .int .i64 0, .int .i64 0, .int .i64 0, .int .i64 0, .int .i64 0, .int .i64 0, .int .i64 0, .int .i64 0, .int .i64 0, .int .i64 0, .int .i64 0, .slice none 0 0, .int .i64 0, .int .i64 0, .int .i64 0, .int .i64 0, .int .i64 0, .int .i64 0, .int .i64 0, .int .i64 0, .int .i64 0, .int .i64 0, .int .i64 0, .int .i64 0, .int .i64 0, .int .i64 0, .int .i64 0, .int .i64 0, .slice none 0 0] := ⟨_, rfl⟩
  rw [← hold]
  have holds : old.size = 34 := by rw [hold]; rfl
  clear hold
  have hF0 := Fp.alloc R A w (.cells old 71)
  have hR0 := h.alloc (.cells old 71)
  have hO0 : (w.alloc (.cells old 71)).heap[w.heap.size]? = some (.cells old 71 (0, 0)) := World.alloc_heap_new w _
  obtain ⟨W0, hW0⟩ : ∃ W0, w.alloc (.cells old 71) = W0 := ⟨_, rfl⟩
  rw [hW0] at hF0 hR0 hO0 ⊢
  clear hW0
  by_cases h5 : p + 5 ≤ 8 * s.size
  · refine (number_yes _ R A s p 5 _ rfl hR0 (by omega) h5).mono ?_
    rintro e w1 ⟨rfl, hR1, hF1⟩
    obtain ⟨x, hx⟩ : ∃ x, numOf s p 5 = x := ⟨_, rfl⟩
    rw [hx] at hx32 GO NAB
    rw [hx]
    clear hx
    go_wp2_with fail
    by_cases h10 : p + 5 + 5 ≤ 8 * s.size
    · refine (number_yes _ R A s (p + 5) 5 _ rfl hR1 (by omega) h10).mono ?_
      rintro e w2 ⟨rfl, hR2, hF2⟩
      obtain ⟨y, hy⟩ : ∃ y, numOf s (p + 5) 5 = y := ⟨_, rfl⟩
      rw [hy] at hy32 GO NAB
      rw [hy]
      clear hy
      go_wp2_with fail
      by_cases h14 : p + 5 + 5 + 4 ≤ 8 * s.size
      · rw [show p + 5 + 5 = p + 10 by omega] at hR2 h14
        refine (number_yes _ R A s (p + 10) 4 _ rfl hR2 (by omega) h14).mono ?_
        rintro e w3 ⟨rfl, hR3, hF3⟩
        obtain ⟨z, hz⟩ : ∃ z, numOf s (p + 10) 4 = z := ⟨_, rfl⟩
        rw [hz] at hz16 GO NC
        rw [hz]
        clear hz
        rw [show p + 10 + 4 = p + 14 by omega] at hR3 h14
        have hFa := (hF0.trans hF1).trans (hF2.trans hF3)
        have hF03 := hF1.trans (hF2.trans hF3)
        have hs0 : w.heap.size < W0.heap.size := (Array.getElem?_eq_some_iff.1 hO0).1
        have hO3 := (hF03.block w.heap.size hs0 (by omega) (by omega)).trans hO0
        clear hR1 hR2 hF1 hF2 hF3 hR0 hO0 h5 h10 hF0
        by_cases hx29 : x ≤ 29
        · by_cases hy29 : y ≤ 29
          · have dx : decide ((257 : Int) + (x : Int) ≤ 286) = true := by simp; omega
            have dy : decide ((1 : Int) + (y : Int) ≤ 30) = true := by simp; omega
            have hs3 := hFa.size
            have hT3 := hT.kept hFa h9.1 h9.2 hlR
            go_wp2_with (go_at_call 23; refine (demand_ok _).mono ?_; rintro e w4 ⟨rfl, rfl⟩)
            refine (col_walk w3 R A s (p + 14) (4 + z) _ hR3 hT3 h9 (by omega) (by omega)).mono ?_
            rintro e w4 (⟨q, carr, sg, hq, rfl, hD, hSp, hR4, hF4, hone⟩ | ⟨hq, rfl, hF4⟩)
            · have GO2 := hide (unhide GO q h14 hx29 hy29 hq)
              clear GO hq NC N14 NAB
              go_wp2_with fail
              refine (plengths_walk w4 R A s q (258 + x + y) _ carr (clens s (p + 14) (4 + z)) sg hR4 hD (hSp.sp (by omega) (by omega)) (by rw [clens_len]; omega) (by omega) (by omega)).mono ?_
              rintro e w5 (⟨v, q2, all, hall, rfl, hRow, hR5, hF5⟩ | ⟨hall, rfl, hF5⟩)
              · have hal := readL_len hall
                have hle := readL_le hall (fun i => by simp [nth])
                have GO3 : Hid (r = ownD (some (q2, all)) x) := by have := unhide GO2; rw [hall] at this; exact this
                clear GO2 hall
                obtain ⟨g8, cp8, rfl, hg8, hn8⟩ := hRow.nums (by omega)
                obtain ⟨m, hm⟩ : ∃ m : Nat, 257 + x = m := ⟨_, rfl⟩
                have hmI : (257 : Int) + (x : Int) = (m : Int) := by omega
                have hmw : IntKind.i64.wrap (m : Int) = (m : Int) := wraps_i64 _ (by omega) (by omega)
                have hm0 : (0 : Int) ≤ (m : Int) := by omega
                have hml : (m : Int) ≤ (all.length : Int) := by omega
                have hmlN : m ≤ all.length := by omega
                have HM := hide hm
                have hcp : all.length ≤ cp8 := by
                  rcases hRow.2 with ⟨e, _⟩ | ⟨g, cap, cur, e, _, _, hc, _⟩
                  · cases e
                  · simp only [Value.slice.injEq] at e; omega
                have hmc : (m : Int) ≤ (cp8 : Int) := by omega
                have hmcN : m ≤ cp8 := by omega
                clear hm
                go_wp2_with fail
                have hknew := CodesAt.new
                go_cut [7] (fun pv wx => OwnR w5 (all.take m) (all.drop m) pv wx)
                case first =>
                  have tok1 : Hid (0 = 0) := rfl
                  go_region_with (first | (go_at_call 46; first | (have tk := tok1; clear tk tok1; refine (rcode_n (by first | exact hR5.drew | exact (hR5.alloc _).drew) g8 0 _ m (all.take m) (by first | exact hn8.drew.take _ | exact (hn8.drew.alloc _).take _) (by simp; omega) (take_le hle m) (by simp; omega)).mono ?_; rintro e w6 ⟨a1, s1, rfl, hc1, hs1, hB6, ho1⟩; (first | have hB56 : Below w5.heap.size w5 w6 := ((Below.refl _ _).drew).trans (hB6.mono (by simp)) | have hB56 : Below w5.heap.size w5 w6 := (((Below.refl _ _).alloc (Nat.le_refl _) _).drew).trans (hB6.mono (by simp))); (first | have hk6 := CodesAt.keep hB6 (CodesAt.new w5).drew | skip)) | (refine (rcode_n (by first | exact hR5.below hB56 | exact (hR5.below hB56).alloc _) g8 m _ _ (all.drop m) (by first | exact (hn8.below hB56).drop0 m | exact ((hn8.below hB56).alloc _).drop0 m) (by simp; omega) (drop_le hle m) (by simp; omega)).mono ?_; rintro e w7 ⟨a2, s2, rfl, hc2, hs2, hB7, ho2⟩; (first | have hk7A := CodesAt.keep hB7 hk6 | have hk7B := CodesAt.keep hB7 (CodesAt.new w6) | skip); (first | have hB67 : Below w6.heap.size w6 w7 := hB7 | have hB67 : Below w6.heap.size w6 w7 := ((Below.refl _ _).alloc (Nat.le_refl _) _).trans (hB7.mono (by simp))); have hz1 := hs1; have hz2 := hs2; obtain ⟨gs1, cs1, rfl, hzb1, hzl1, _⟩ := hz1; obtain ⟨gs2, cs2, rfl, hzb2, hzl2, _⟩ := hz2; have HZ := hide (And.intro hzb1 (And.intro hzl1 (And.intro hzb2 hzl2))); obtain ⟨x0, x1, x2, x3, x4, x5, x6, x7, x8, x9, x10, x11, x12, x13, x14, x15, rfl⟩ := hc1.opened; obtain ⟨y0, y1, y2, y3, y4, y5, y6, y7, y8, y9, y10, y11, y12, y13, y14, y15, rfl⟩ := hc2.opened; clear hzb1 hzl1 hzb2 hzl2)) | (refine StoreWp.row _ _ rfl _ _ rfl rfl ?hcg rfl (codes_one _ _ _ _ _ _ _ _ _ _ _ _ _ _ _ _ _ _ _ _ _ _ _ _ _ _ _ _ _ _ _ _ _ _ rfl rfl) ?_; (case hcg => first | exact hk7A | exact hk7B | exact CodesAt.new _)))
                  all_goals
                    go_wp2_with fail
                    go_meet
                    case rel =>
                      obtain ⟨hzb1, hzl1, hzb2, hzl2⟩ := unhide HZ
                      have hs56 := hB56.size
                      have hs67 := hB67.size
                      have hB57 : Below w5.heap.size w5 w7 := hB56.trans (hB67.mono hB56.size)
                      have hS1 := (hs1.grown (below_none hB67) (fun k e => by cases e)).mono (base' := w5.heap.size) (by simp)
                      have hS2 := hs2.mono (base' := w5.heap.size) (by first | exact hs56 | (simp; omega))
                      rw [← codes_app x0 x1 x2 x3 x4 x5 x6 x7 x8 x9 x10 x11 x12 x13 x14 x15 y0 y1 y2 y3 y4 y5 y6 y7 y8 y9 y10 y11 y12 y13 y14 y15 (.slice (some ⟨gs1, 0, none⟩) (used (all.take m)) cs1) (.slice (some ⟨gs2, 0, none⟩) (used (all.drop m)) cs2)]
                      first
                        | (have hk := hk7A
                           have hz1 : w5.heap.size + 1 ≤ gs1 := by simpa using hzb1
                           have hz2 : w6.heap.size ≤ gs2 := hzb2
                           have hl5 : w5.heap.size + 1 ≤ w6.heap.size := by have := hB6.size; simpa using this
                           exact own_rel w5.heap.size hk hS1 hS2 (by simp [Value.ownBlock]; omega) (by simp [Value.ownBlock]; omega) (Nat.le_refl _) hB57 hc1 hc2 ho1 ho2)
                        | (have hk := hk7B
                           have hz2 : w6.heap.size + 1 ≤ gs2 := by simpa using hzb2
                           exact own_rel w6.heap.size hk hS1 hS2 (by simp [Value.ownBlock]; omega) (by simp [Value.ownBlock]; omega) hB56.size hB57 hc1 hc2 ho1 ho2)
                        | exact own_rel w7.heap.size (CodesAt.new w7) (hS1.grown (World.grownBy_alloc w7 _ none) (fun k e => by cases e)) (hS2.grown (World.grownBy_alloc w7 _ none) (fun k e => by cases e)) (by simp [Value.ownBlock]; omega) (by simp [Value.ownBlock]; omega) hB57.size (hB57.alloc hB57.size _) hc1 hc2 ho1 ho2
                case rest =>
                  obtain ⟨g, a1, a2, s1, s2, rfl, hG, hc1, hc2, hS1, hS2, ho1, ho2, hg5, hBx⟩ := hcut
                  have hn9 := (hn8.below hBx).2 256 (by omega)
                  have GO4 : Hid (r = if nth all 256 ≠ 0 ∧ goodB (all.take m) = true ∧ goodD (all.drop m) = true then some (q2, all.take m, all.drop m) else none) := by
                    have h3 := unhide GO3
                    have h4 := unhide HM
                    subst h4
                    exact h3
                  obtain ⟨v, hv⟩ : ∃ v, nth all 256 = v := ⟨_, rfl⟩
                  rw [hv] at hn9 GO4
                  rw [Nat.zero_add] at hn9
                  obtain ⟨L1, hL1⟩ : ∃ L, all.take m = L := ⟨_, rfl⟩
                  obtain ⟨L2, hL2⟩ : ∃ L, all.drop m = L := ⟨_, rfl⟩
                  rw [hL1] at hc1 hS1 GO4
                  rw [hL2] at hc2 hS2 GO4
                  have hal2 : (256 : Int) < (all.length : Int) := by omega
                  have hz3 := hF03.size
                  have hz4 := hF4.size
                  have hz5 := hF5.size
                  have hzx := hBx.size
                  have hO9 := (hBx.block w.heap.size (by omega)).trans ((hF5.block w.heap.size (by omega) (by omega) (by omega)).trans ((hF4.block w.heap.size (by omega) (by omega) (by omega)).trans hO3))
                  have hF9 : Fp R A w wc := ((hFa.trans hF4).trans hF5).trans (fp_below hBx)
                  have hR9 : Rd wc R A s q2 := hR5.below hBx
                  have hgw : g ≠ w.heap.size := by omega
                  clear hv hL1 hL2 hn8 hle hRow hmI hmw hm0 hml hmlN HM hcp hmc hmcN GO3 hknew hO3 hSp hD hone
                  by_cases hv0 : v = 0
                  · have hd : decide ((0 : Int) < (v : Int)) = false := by simp; omega
                    have FIN : Hid (r = none) := (unhide GO4).trans (if_neg (fun e => e.1 hv0))
                    go_wp2_with fail
                    refine (demand_no hR9).mono ?_
                    rintro e w9 ⟨rfl, rfl⟩
                    exact ⟨rfl, .inr ⟨unhide FIN, rfl, hF9⟩⟩
                  · have hd : decide ((0 : Int) < (v : Int)) = true := by simp; omega
                    have hd' : decide (0 < v) = true := by simp; omega
                    have GO5 : Hid (r = if goodB L1 = true ∧ goodD L2 = true then some (q2, L1, L2) else none) := (unhide GO4).trans (by by_cases e : goodB L1 = true ∧ goodD L2 = true; (rw [if_pos ⟨hv0, e⟩, if_pos e]); (rw [if_neg (fun h => e h.2), if_neg e]))
                    clear GO4
                    go_wp2_with fail
                    refine (demand_ok _).mono ?_
                    rintro e w9' ⟨rfl, rfl⟩
                    obtain ⟨w9, hw9⟩ : ∃ w9, w9 = wc := ⟨_, rfl⟩
                    subst hw9
                    have hlg : g < w9.heap.size := (Array.getElem?_eq_some_iff.1 hG).1
                    have hs1' := hS1
                    obtain ⟨gs1, cs1, rfl, _⟩ := hs1'
                    have hs2' := hS2
                    obtain ⟨gs2, cs2, rfl, _⟩ := hs2'
                    go_upto_region 8 with fail
                    go_cut [] (fun wx => Hid (goodB L1 = true) ∧ Below w9.heap.size w9 wx)
                    case first =>
                      go_wp2_with (refine load_part 69 _ rfl rfl g 0 rfl a1 (range_one hG) Tryd.aggCodeP (Tryd.infoCodeP _ hc1.size) ?_)
                      refine (isWhole_any _ a1 L1 _ hc1).mono ?_
                      rintro e w10 ⟨rfl, x10, hx10⟩
                      have hB10 : Below w9.heap.size w9 w10 := by rw [← hx10]; exact (Below.refl _ _).alloc (Nat.le_refl _) _
                      have hG10 := (hB10.block g hlg).trans hG
                      clear hx10
                      cases hw1 : whole L1 with
                      | true =>
                        go_wp2_with fail
                        refine (demand_ok _).mono ?_
                        rintro e w11 ⟨rfl, rfl⟩
                        go_wp2_with fail
                        go_meet
                        case rel => exact ⟨by show goodB L1 = true; simp [goodB, hw1], hB10⟩
                      | false =>
                        go_wp2_with (refine load_part 69 _ rfl rfl g 0 rfl a1 (range_one hG10) Tryd.aggCodeP (Tryd.infoCodeP _ hc1.size) ?_)
                        refine (isSingle_any _ a1 L1 _ _ hc1).mono ?_
                        rintro e w11 ⟨rfl, x11, hx11⟩
                        have hB11 : Below w9.heap.size w9 w11 := by rw [← hx11]; exact hB10.alloc hB10.size _
                        clear hx11
                        cases hw2 : single L1 with
                        | true =>
                          go_wp2_with fail
                          refine (demand_ok _).mono ?_
                          rintro e w12 ⟨rfl, rfl⟩
                          go_wp2_with fail
                          go_meet
                          case rel => exact ⟨by show goodB L1 = true; simp [goodB, hw2], hB11⟩
                        | false =>
                          go_wp2_with fail
                          refine (demand_no (hR9.below hB11)).mono ?_
                          rintro e w12 ⟨rfl, rfl⟩
                          exact ⟨rfl, .inr ⟨(unhide GO5).trans (if_neg (fun e => by simp [goodB, hw1, hw2] at e)), rfl, hF9.trans (fp_below hB11)⟩⟩
                    case rest =>
                      obtain ⟨hgb, hBc⟩ := hcut
                      obtain ⟨w13, hw13⟩ : ∃ w13, w13 = wc := ⟨_, rfl⟩
                      subst hw13
                      have hG13 := (hBc.block g hlg).trans hG
                      have hO13 := (hBc.block w.heap.size (by omega)).trans hO9
                      have hF13 := hF9.trans (fp_below hBc)
                      have hR13 := hR9.below hBc
                      have hS13 := hS1.grown (below_none hBc) (fun k e => by cases e)
                      have hT13 := hS2.grown (below_none hBc) (fun k e => by cases e)
                      have hl13 : g < w13.heap.size := (Array.getElem?_eq_some_iff.1 hG13).1
                      have hs13 := hBc.size
                      clear hG hO9 hF9 hR9 hS1 hS2
                      go_upto_region 9 with fail
                      go_cut [] (fun wx => Hid (goodD L2 = true) ∧ Below w13.heap.size w13 wx)
                      case first =>
                        go_wp2_with (refine load_part 69 _ rfl rfl g 17 rfl a2 (range_two hG13 hc1.size) Tryd.aggCodeP (Tryd.infoCodeP _ hc2.size) ?_)
                        refine (isWhole_any _ a2 L2 _ hc2).mono ?_
                        rintro e w14 ⟨rfl, x14, hx14⟩
                        have hB14 : Below w13.heap.size w13 w14 := by rw [← hx14]; exact (Below.refl _ _).alloc (Nat.le_refl _) _
                        have hG14 := (hB14.block g hl13).trans hG13
                        clear hx14
                        cases hw1 : whole L2 with
                        | true =>
                          go_wp2_with fail
                          refine (demand_ok _).mono ?_
                          rintro e w' ⟨rfl, rfl⟩
                          go_wp2_with fail
                          go_meet
                          case rel => exact ⟨by show goodD L2 = true; simp [goodD, hw1], hB14⟩
                        | false =>
                          go_wp2_with (refine load_part 69 _ rfl rfl g 17 rfl a2 (range_two hG14 hc1.size) Tryd.aggCodeP (Tryd.infoCodeP _ hc2.size) ?_)
                          refine (isSingle_any _ a2 L2 _ _ hc2).mono ?_
                          rintro e w15 ⟨rfl, x15, hx15⟩
                          have hB15 : Below w13.heap.size w13 w15 := by rw [← hx15]; exact hB14.alloc hB14.size _
                          have hG15 := (hB15.block g hl13).trans hG13
                          clear hx15
                          cases hw2 : single L2 with
                          | true =>
                            go_wp2_with fail
                            refine (demand_ok _).mono ?_
                            rintro e w' ⟨rfl, rfl⟩
                            go_wp2_with fail
                            go_meet
                            case rel => exact ⟨by show goodD L2 = true; simp [goodD, hw2], hB15⟩
                          | false =>
                            go_wp2_with (refine load_part 69 _ rfl rfl g 17 rfl a2 (range_two hG15 hc1.size) Tryd.aggCodeP (Tryd.infoCodeP _ hc2.size) ?_)
                            refine (isEmpty_any _ a2 L2 _ _ hc2).mono ?_
                            rintro e w16 ⟨rfl, x16, hx16⟩
                            have hB16 : Below w13.heap.size w13 w16 := by rw [← hx16]; exact hB15.alloc hB15.size _
                            clear hx16
                            cases hw3 : decide (used L2 = 0) with
                            | true =>
                              go_wp2_with fail
                              refine (demand_ok _).mono ?_
                              rintro e w' ⟨rfl, rfl⟩
                              go_wp2_with fail
                              go_meet
                              case rel => exact ⟨by show goodD L2 = true; unfold goodD; rw [hw3]; simp, hB16⟩
                            | false =>
                              go_wp2_with fail
                              refine (demand_no (hR13.below hB16)).mono ?_
                              rintro e w' ⟨rfl, rfl⟩
                              exact ⟨rfl, .inr ⟨(unhide GO5).trans (if_neg (fun e => by have h2 := e.2; unfold goodD at h2; rw [hw1, hw2, hw3] at h2; cases h2)), rfl, hF13.trans (fp_below hB16)⟩⟩
                      case rest =>
                        obtain ⟨hgd, hBd⟩ := hcut
                        have hG17 := (hBd.block g hl13).trans hG13
                        have hO17 := (hBd.block w.heap.size (by omega)).trans hO13
                        have hF17 := hF13.trans (fp_below hBd)
                        have hR17 := hR13.below hBd
                        have hS17 := hS13.grown (below_none hBd) (fun k e => by cases e)
                        have hT17 := hT13.grown (below_none hBd) (fun k e => by cases e)
                        have hs17 := hBd.size
                        have h34 : (a1 ++ a2).size = 34 := by rw [Array.size_append, hc1.size, hc2.size]
                        have hone2 : (a1 ++ a2).all (·.oneCell') = true := by rw [Array.all_append, ho1, ho2]; rfl
                        have FIN := (unhide GO5).trans (if_pos ⟨unhide hgb, unhide hgd⟩)
                        have FIN := hide FIN
                        clear hG13 hO13 hF13 hR13 hS13 hT13
                        obtain ⟨arr, harr⟩ : ∃ arr, a1 ++ a2 = arr := ⟨_, rfl⟩
                        rw [harr] at hG17 h34 hone2
                        have HARR := hide harr
                        clear harr
                        go_wp2_with (first | (refine load_whole rfl 71 _ rfl g rfl 71 arr (0, 0) hG17 Tryd.aggCodes (Tryd.infoCodes _ h34) ?_) | (refine wpList_store_row rfl 71 _ _ rfl w.heap.size arr rfl rfl 71 old hO17 (Tryd.infoCodes _ h34) (holds.trans h34.symm) hone2 ?_))
                        obtain ⟨d, hd1, hd2⟩ := structured Tryd.aggCodes
                        refine bodyPost_ret (v := .agg arr) (results_cell_row rfl _ _ w.heap.size 71 _ (0, 0) d rfl (setRow_heap _ w.heap.size old arr _ _ hO17) hd1 (by cases d <;> first | rfl | cases hd2) (Tryd.infoCodes _ h34)) rfl ?_
                        have hgr := grownBy_setRow wc w.heap.size arr
                        refine .inl ⟨q2, L1, L2, a1, a2, _, _, unhide FIN, by rw [unhide HARR], hc1, hc2, (hS17.grown hgr (fun k e => by simp at e; omega)).mono (by omega), (hT17.grown hgr (fun k e => by simp at e; omega)).mono (by omega), hR17.of_blocks (fun k hk => hgr.block k ?_ ?_), hF17.new rfl rfl rfl (by simp [World.setRow]) w.heap.size (Nat.le_refl _) (fun k e => setRow_other _ _ k _ e)⟩
                        · have h1 := hR17.ltR; have h2 := hR17.ltA; rcases hk with rfl | rfl | rfl <;> omega
                        · rcases hk with rfl | rfl | rfl <;> (simp; omega)
              · have FIN : Hid (r = none) := by have := unhide GO2; rw [hall] at this; exact this
                exact ⟨rfl, .inr ⟨unhide FIN, rfl, (hFa.trans hF4).trans hF5⟩⟩
            · exact ⟨rfl, .inr ⟨unhide NC hq, rfl, hFa.trans hF4⟩⟩
          · have dx : decide ((257 : Int) + (x : Int) ≤ 286) = true := by simp; omega
            have dy : decide ((1 : Int) + (y : Int) ≤ 30) = false := by simp; omega
            have FIN : Hid (r = none) := unhide NAB (fun e => hy29 e.2)
            go_wp2_with fail
            refine (demand_no hR3).mono ?_
            rintro e w4 ⟨rfl, rfl⟩
            exact ⟨rfl, .inr ⟨unhide FIN, rfl, hFa⟩⟩
        · have dx : decide ((257 : Int) + (x : Int) ≤ 286) = false := by simp; omega
          have FIN : Hid (r = none) := unhide NAB (fun e => hx29 e.1)
          go_wp2_with fail
          refine (demand_no hR3).mono ?_
          rintro e w4 ⟨rfl, rfl⟩
          exact ⟨rfl, .inr ⟨unhide FIN, rfl, hFa⟩⟩
      · refine (number_no _ R A s (p + 5 + 5) 4 _ rfl hR2 (by omega) h14).mono ?_
        rintro e w3 ⟨rfl, hF3⟩
        exact ⟨rfl, .inr ⟨unhide N14 (by omega), rfl, (hF0.trans hF1).trans (hF2.trans hF3)⟩⟩
    · refine (number_no _ R A s (p + 5) 5 _ rfl hR1 (by omega) h10).mono ?_
      rintro e w2 ⟨rfl, hF2⟩
      exact ⟨rfl, .inr ⟨unhide N14 (by omega), rfl, (hF0.trans hF1).trans hF2⟩⟩
  · refine (number_no _ R A s p 5 _ rfl hR0 (by omega) h5).mono ?_
    rintro e w1 ⟨rfl, hF1⟩
    exact ⟨rfl, .inr ⟨unhide N14 (by omega), rfl, hF0.trans hF1⟩⟩
end Go.Proofs.YtgffljllfenhkaaDoor
