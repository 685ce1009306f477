import Derived.Test.YtgffljllfenhkaaDoorRefF
namespace Go.Proofs.YtgffljllfenhkaaDoor
open Go.RowKit

def idxsTo (n : Nat) (l : List Nat) (i : Nat) : List Nat := (List.range i).filter (fun j => l.getD j 0 == n)
theorem idxsTo_all (n : Nat) (l : List Nat) : idxsTo n l l.length = idxs n l := rfl
theorem idxsTo_hit {n i : Nat} {l : List Nat} (h : l.getD i 0 = n) : idxsTo n l (i + 1) = idxsTo n l i ++ [i] := by
  unfold idxsTo; rw [List.range_succ, List.filter_append]; simp only [List.filter_cons, List.filter_nil, h]; simp
theorem idxsTo_miss {n i : Nat} {l : List Nat} (h : ¬ l.getD i 0 = n) : idxsTo n l (i + 1) = idxsTo n l i := by
  unfold idxsTo; rw [List.range_succ, List.filter_append]
  have e : (l.getD i 0 == n) = false := by simpa using h
  simp only [List.filter_cons, List.filter_nil, e]; simp
theorem idxsTo_le (n : Nat) (l : List Nat) (i : Nat) : (idxsTo n l i).length ≤ i := by
  unfold idxsTo; exact Nat.le_trans (List.length_filter_le _ _) (by simp)

/-- The signs by length, up to (and not with) a length. -/
def sig (l : List Nat) : Nat → List Nat
  | 0 => []
  | 1 => []
  | n + 1 => sig l n ++ idxs n l
theorem sig_succ (l : List Nat) {n : Nat} (h : 1 ≤ n) : sig l (n + 1) = sig l n ++ idxs n l := by
  cases n with
  | zero => omega
  | succ n => rfl
theorem sig_length (l : List Nat) : ∀ n, (sig l n).length = start l n
  | 0 => rfl
  | 1 => rfl
  | n + 2 => by
    have h := sig_length l (n + 1)
    show (sig l (n + 1) ++ idxs (n + 1) l).length = start l (n + 1) + cnt (n + 1) l
    rw [List.length_append, h]; rfl
theorem sig_get (l : List Nat) : ∀ {m n a : Nat}, 1 ≤ n → n < m → a < cnt n l → (sig l m)[start l n + a]? = some ((idxs n l).getD a 0)
  | 0, n, a, h1, h2, ha => by omega
  | 1, n, a, h1, h2, ha => by omega
  | m + 2, n, a, h1, h2, ha => by
    show (sig l (m + 1) ++ idxs (m + 1) l)[start l n + a]? = _
    by_cases e : n = m + 1
    · subst e
      rw [List.getElem?_append_right (by rw [sig_length]; omega), sig_length, Nat.add_sub_cancel_left, List.getD_eq_getElem?_getD, List.getElem?_eq_getElem (show a < (idxs (m + 1) l).length from ha)]; rfl
    · have hlt : start l n + a < start l (m + 1) := by
        have := start_mono l (show 1 ≤ n + 1 by omega) (show n + 1 ≤ m + 1 by omega)
        rw [start_succ l h1] at this
        omega
      rw [List.getElem?_append_left (by rw [sig_length]; exact hlt)]
      exact sig_get l h1 (by omega) ha

def intV (n : Nat) : Value := .int .i64 (n : Int)

/-- A code in the making: block C. -/
structure Cb (w : World) (C : Nat) (cf : Nat → Nat) (sv : Value) (arr : Array Value) : Prop where
  blk : w.heap[C]? = some (.cells arr 46 (0, 0))
  size : arr.size = 18
  c : ∀ m, m ≤ 15 → arr[m]? = some (intV (cf m))
  s : arr[16]? = some sv
  u : arr[17]? = some (intV 0)

theorem Cb.cell {w : World} {C : Nat} {cf : Nat → Nat} {sv : Value} {arr : Array Value} (h : Cb w C cf sv arr) {m : Nat} (hm : m ≤ 15) : w.cell? ⟨C, m, none⟩ = some (.int .i64 (cf m : Int)) := by
  simp only [World.cell?, h.blk]; simpa [intV] using h.c m hm
theorem Cb.sv {w : World} {C : Nat} {cf : Nat → Nat} {sv : Value} {arr : Array Value} (h : Cb w C cf sv arr) : w.cell? ⟨C, 16, none⟩ = some sv := by
  simp only [World.cell?, h.blk]; simpa using h.s
theorem Cb.fr {w : World} {C : Nat} {cf : Nat → Nat} {sv : Value} {arr : Array Value} (h : Cb w C cf sv arr) (i : Nat) : w.frozen? ⟨C, i, none⟩ = false := by
  simp [World.frozen?, h.blk]
theorem Cb.lt {w : World} {C : Nat} {cf : Nat → Nat} {sv : Value} {arr : Array Value} (h : Cb w C cf sv arr) : C < w.heap.size := (Array.getElem?_eq_some_iff.1 h.blk).1
theorem Cb.setC {w : World} {C : Nat} {cf : Nat → Nat} {sv : Value} {arr : Array Value} (h : Cb w C cf sv arr) {m : Nat} (hm : m ≤ 15) (x : Nat) :
    Cb (w.setCell ⟨C, m, none⟩ (.int .i64 (x : Int))) C (fun j => if j = m then x else cf j) sv (arr.setIfInBounds m (intV x)) := by
  have hs := h.size
  refine ⟨heap_setCell_same w C m arr _ _ h.blk, by simp [hs], ?_, ?_, ?_⟩
  · intro j hj
    rw [Array.getElem?_setIfInBounds]
    by_cases e : m = j
    · subst e; simp [show m < arr.size by omega]
    · rw [if_neg e, if_neg (fun e' => e e'.symm)]; exact h.c j hj
  · rw [Array.getElem?_setIfInBounds, if_neg (by omega)]; exact h.s
  · rw [Array.getElem?_setIfInBounds, if_neg (by omega)]; exact h.u
theorem Cb.setS {w : World} {C : Nat} {cf : Nat → Nat} {sv : Value} {arr : Array Value} (h : Cb w C cf sv arr) (x : Value) :
    Cb (w.setCell ⟨C, 16, none⟩ x) C cf x (arr.setIfInBounds 16 x) := by
  have hs := h.size
  refine ⟨heap_setCell_same w C 16 arr _ _ h.blk, by simp [hs], ?_, ?_, ?_⟩
  · intro j hj
    rw [Array.getElem?_setIfInBounds, if_neg (by omega)]; exact h.c j hj
  · rw [Array.getElem?_setIfInBounds, if_pos rfl]; simp [hs]
  · rw [Array.getElem?_setIfInBounds, if_neg (by omega)]; exact h.u
theorem Cb.kept {w w' : World} {C : Nat} {cf : Nat → Nat} {sv : Value} {arr : Array Value} {r : Option Nat} (h : Cb w C cf sv arr) (hg : w.grownBy w' r) (hne : r ≠ some C) : Cb w' C cf sv arr :=
  ⟨by rw [hg.block C h.lt (fun e => hne e.symm)]; exact h.blk, h.size, h.c, h.s, h.u⟩
theorem Cb.congr {w : World} {C : Nat} {cf cf' : Nat → Nat} {sv : Value} {arr : Array Value} (h : Cb w C cf sv arr) (e : ∀ m, m ≤ 15 → cf m = cf' m) : Cb w C cf' sv arr :=
  ⟨h.blk, h.size, fun m hm => by rw [← e m hm]; exact h.c m hm, h.s, h.u⟩

/-- A row of numbers that the call owns. -/
def RowI (w : World) (base : Nat) (o : Value) (xs : List Nat) : Prop := w.ownsRow base 3 1 o xs.length (xs.map intV)
theorem RowI.shape {w : World} {base : Nat} {o : Value} {xs : List Nat} (h : RowI w base o xs) : ∃ a cap, o = .slice a xs.length cap := by
  rcases h.2 with ⟨e, hn⟩ | ⟨g, cap, _, e, _⟩
  · exact ⟨none, 0, by rw [hn]; exact e⟩
  · exact ⟨_, _, e⟩
theorem RowI.kept {w w' : World} {base : Nat} {o : Value} {xs : List Nat} {r : Option Nat} (h : RowI w base o xs) (hg : w.grownBy w' r) (hne : o.ownBlock = none ∨ o.ownBlock ≠ r) : RowI w' base o xs :=
  World.ownsRow.kept h hg hne
theorem RowI.ne {w : World} {base B : Nat} {o : Value} {xs : List Nat} (h : RowI w base o xs) (hb : B < base) : o.ownBlock ≠ some B := by
  intro e; have := World.ownsRow.lt h B e; omega
theorem Tryd.underlying40 : Tryd.prog.underlying 40 = some (.slice 3) := by kernel_rfl
theorem Tryd.info3 : (Tryd.prog.info? 3).map (fun i => (i.zero, i.size, i.bytes)) = some (some (.int .i64 0), 1, 8) := by kernel_rfl

/-- Signs, where they lie: from block 'base' on. -/
def SgN (w : World) (base : Nat) (sg : Value) (l : List Nat) : Prop :=
  (used l = 0 ∧ sg = .slice none 0 0) ∨ ∃ g cap, sg = .slice (some ⟨g, 0, none⟩) (used l) cap ∧ base ≤ g ∧ g < w.heap.size ∧
    ∀ n a, 1 ≤ n → n ≤ 15 → a < cnt n l → w.cell? ⟨g, start l n + a, none⟩ = some (.int .i64 (((idxs n l).getD a 0 : Nat) : Int))
theorem SgN.of_row {w : World} {base : Nat} {sg : Value} {l : List Nat} (h : RowI w base sg (sig l 16)) : SgN w base sg l := by
  have hlen := sig_length l 16
  rcases h.2 with ⟨e, hn⟩ | ⟨g, cap, cur, e, hb, hg, hc, _, _, ht⟩
  · exact .inl ⟨by unfold used; omega, e⟩
  · refine .inr ⟨g, cap, by rw [e, hlen]; rfl, hb, (Array.getElem?_eq_some_iff.1 hg).1, fun n a h1 h2 ha => ?_⟩
    have := World.ownsRow.cells h (g := g) (by rw [e]; rfl) (start l n + a) (intV ((idxs n l).getD a 0)) (by rw [List.getElem?_map, sig_get l h1 (by omega) ha]; rfl)
    have hadd : (⟨g, 0, none⟩ : Addr).add (start l n + a) = ⟨g, start l n + a, none⟩ := by unfold Addr.add; split <;> simp_all
    rw [hadd] at this; exact this
theorem SgN.sg {w : World} {base B : Nat} {o sg : Value} {l : List Nat} (h : SgN w base sg l) (hB : B < base) (ho : ∀ k, o.ownBlock = some k → k < base) : Sg w B o sg l := by
  rcases h with h | ⟨g, cap, h1, h2, h3, h4⟩
  · exact .inl h
  · exact .inr ⟨g, cap, h1, h3, by omega, fun e => by have := ho g e; omega, h4⟩

end Go.Proofs.YtgffljllfenhkaaDoor
