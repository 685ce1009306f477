import Derived.Test.YtgffljllfenhkaaDoorRefI
import Derived.Deep.RegionWith
import Derived.Deep.DeepCutAuto
namespace Go.Proofs.YtgffljllfenhkaaDoor
open Go.RowKit

/-- A table, in memory: block G. -/
def Tab (w : World) (G : Nat) (T : List Nat) : Prop := ∀ i, i < T.length → w.cell? ⟨G, i, none⟩ = some (.int .i64 (nth T i : Int))
structure RTabs (w : World) : Prop where
  base : Tab w 1 baseT
  extra : Tab w 2 extraT
  far : Tab w 3 farT
  order : Tab w 0 orderT
theorem Tab.kept {w w' : World} {G B : Nat} {T : List Nat} {o o' : Value} (h : Tab w G T) (hf : Fr B o w o' w') (hG : G < B) (hB : B < w.heap.size) (ho : ∀ k, o.ownBlock = some k → B < k) : Tab w' G T := by
  intro i hi
  rw [World.cell?_of_block (w := w) (hf.block G (by omega) (by omega) (fun e => by have := ho G e; omega))]
  exact h i hi
theorem RTabs.kept {w w' : World} {B : Nat} {o o' : Value} (h : RTabs w) (hf : Fr B o w o' w') (hG : 9 ≤ B) (hB : B < w.heap.size) (ho : ∀ k, o.ownBlock = some k → B < k) : RTabs w' :=
  ⟨h.base.kept hf (by omega) hB ho, h.extra.kept hf (by omega) hB ho, h.far.kept hf (by omega) hB ho, h.order.kept hf (by omega) hB ho⟩
theorem Rf.own {w : World} {B : Nat} {s : ByteArray} {o : Value} {p : Nat} {bad : Bool} {out : List UInt8} (h : Rf w B s o p bad out) : ∀ k, o.ownBlock = some k → B < k :=
  fun k e => (World.ownsRow.lt h.row k e).1

theorem Rf.drew {w : World} {B : Nat} {s : ByteArray} {o : Value} {p : Nat} {bad : Bool} {out : List UInt8} (h : Rf w B s o p bad out) : Rf w.drew B s o p bad out := ⟨h.bt, h.row, h.hp, h.hpb, h.hl⟩
theorem extra_le (k : Nat) : nth extraT k ≤ 5 := by
  by_cases h : k < 29
  · revert k; decide
  · unfold nth; rw [List.getD_eq_getElem?_getD, List.getElem?_eq_none (by simp [extraT]; omega)]; simp
theorem base_le (k : Nat) : nth baseT k ≤ 258 := by
  by_cases h : k < 29
  · revert k; decide
  · unfold nth; rw [List.getD_eq_getElem?_getD, List.getElem?_eq_none (by simp [baseT]; omega)]; simp
theorem far_le (k : Nat) : nth farT k ≤ 24577 := by
  by_cases h : k < 30
  · revert k; decide
  · unfold nth; rw [List.getD_eq_getElem?_getD, List.getElem?_eq_none (by simp [farT]; omega)]; simp
theorem far_pos (k : Nat) (h : k < 30) : 1 ≤ nth farT k := by revert k; decide
theorem more_eq (k : Nat) (h : k < 30) : nth moreT k = if 4 ≤ k then k / 2 - 1 else 0 := by revert k; decide

theorem copied_lt {dl : List Nat} {s : ByteArray} {k p : Nat} {out : List UInt8} (hk : k < 29) : copied dl s k p out =
    match rd s (nth extraT k) p with
    | none => none
    | some (x, p1) =>
      match decode dl s p1 with
      | none => none
      | some (d, p2) =>
        if d < 30 then
          match rd s (nth moreT d) p2 with
          | none => none
          | some (y, p3) => if nth farT d + y ≤ out.length then (copyN (nth farT d + y) (nth baseT k + x) out).map (fun o => (p3, o)) else none
        else none := by
  unfold copied; rw [if_pos hk]; rfl
theorem rd_of {s : ByteArray} {n p x q : Nat} {b : Bool} (h : b = (false || over s p n)) (hv : b = false → x = numOf s p n ∧ q = p + n) : rd s n p = if b then none else some (x, q) := by
  cases b with
  | true => simp only [Bool.false_or, over] at h; have := of_decide_eq_true h.symm; exact rd_neg (by omega)
  | false => simp only [Bool.false_or, over] at h; have := of_decide_eq_false h.symm; obtain ⟨rfl, rfl⟩ := hv rfl; exact rd_pos (by omega)
/-- No sign, or no sign of a distance that there is. -/
theorem copied_no {dl : List Nat} {s : ByteArray} {k p x q1 d q2 : Nat} {out : List UInt8} {b1 b2 : Bool} (hk : k < 29) (h1 : b1 = (false || over s p (nth extraT k))) (v1 : b1 = false → x = numOf s p (nth extraT k) ∧ q1 = p + nth extraT k)
    (h2 : (if b2 then none else some (d, q2)) = (if b1 then none else decode dl s q1)) (hd : b2 = false → ¬ d < 30) : copied dl s k p out = none := by
  rw [copied_lt hk, rd_of h1 v1]
  cases b1 with
  | true => rfl
  | false =>
    simp only [Bool.false_eq_true, if_false] at h2 ⊢
    rw [← h2]
    cases b2 with
    | true => rfl
    | false => simp only [Bool.false_eq_true, if_false]; rw [if_neg (hd rfl)]
theorem copied_yes {dl : List Nat} {s : ByteArray} {k p x q1 d q2 y q3 : Nat} {out : List UInt8} {b1 b3 : Bool} (hk : k < 29) (h1 : b1 = (false || over s p (nth extraT k))) (v1 : b1 = false → x = numOf s p (nth extraT k) ∧ q1 = p + nth extraT k)
    (h2 : (if false then none else some (d, q2)) = (if b1 then none else decode dl s q1)) (hd : d < 30) (h3 : b3 = (false || over s q2 (nth moreT d))) (v3 : b3 = false → y = numOf s q2 (nth moreT d) ∧ q3 = q2 + nth moreT d) :
    copied dl s k p out = if b3 || decide (out.length < nth farT d + y) then none else (copyN (nth farT d + y) (nth baseT k + x) out).map (fun o => (q3, o)) := by
  rw [copied_lt hk, rd_of h1 v1]
  cases b1 with
  | true => simp at h2
  | false =>
    simp only [Bool.false_eq_true, if_false] at h2 ⊢
    rw [← h2]
    simp only
    rw [if_pos hd, rd_of h3 v3]
    cases b3 with
    | true => rfl
    | false =>
      simp only [Bool.false_eq_true, if_false, Bool.false_or, decide_eq_true_eq]
      by_cases hl : nth farT d + y ≤ out.length
      · rw [if_pos hl, if_neg (by omega)]
      · rw [if_neg hl, if_pos (by omega)]

theorem Row8.cellAt {w : World} {base : Nat} {o : Value} {out : List UInt8} (h : Row8 w base o out) {j : Nat} (hj : j < out.length) : ∃ g cap, o = .slice (some ⟨g, 0, none⟩) out.length cap ∧ w.cell? ⟨g, j, none⟩ = some (byteV (out.getD j 0)) := by
  rcases h.2 with ⟨e, hn⟩ | ⟨g, cap, cur, e, hb, hg, hc, _, _, ht⟩
  · omega
  · refine ⟨g, cap, e, ?_⟩
    have := World.ownsRow.cells h (g := g) (by rw [e]; rfl) j (byteV (out.getD j 0)) (by
      rw [List.getElem?_map, List.getElem?_eq_getElem hj, List.getD_eq_getElem?_getD, List.getElem?_eq_getElem hj]; rfl)
    have hadd : (⟨g, 0, none⟩ : Addr).add j = ⟨g, j, none⟩ := by unfold Addr.add; split <;> simp_all
    rw [hadd] at this; exact this

theorem copyN_succ (back n : Nat) (out : List UInt8) : copyN back (n + 1) out = if out.length < 2000 then copyN back n (out ++ [out.getD (out.length - back) 0]) else none := rfl
/-- The copy from a state on. -/
def cop (bd : Bool) (back n q : Nat) (out : List UInt8) : Option (Nat × List UInt8) := if bd then none else (copyN back n out).map (fun o => (q, o))
theorem cop_step {b2 : Bool} {back n i q : Nat} {out out2 : List UInt8} (hi : i < n) (h2 : b2 = (false || decide (2000 ≤ out.length))) (v2 : b2 = false → out2 = out ++ [out.getD (out.length - back) 0]) :
    cop b2 back (n - (i + 1)) q out2 = cop false back (n - i) q out := by
  unfold cop
  rw [show n - i = (n - (i + 1)) + 1 from by omega, copyN_succ]
  cases b2 with
  | true =>
    have : 2000 ≤ out.length := by simpa using h2
    rw [if_neg (show ¬ out.length < 2000 by omega)]; rfl
  | false =>
    have : ¬ 2000 ≤ out.length := by simpa using h2
    rw [if_pos (show out.length < 2000 by omega), v2 rfl]
theorem cop_end {bd : Bool} {back q : Nat} {out : List UInt8} : cop bd back 0 q out = st bd q out := by
  unfold cop; cases bd <;> rfl
theorem cop_bad {back n q : Nat} {out : List UInt8} : cop true back n q out = none := rfl

def CopQ (w : World) (B : Nat) (s : ByteArray) (o : Value) (r : Option (Nat × List UInt8)) (e : Ending) (w' : World) : Prop :=
  e = .returned (.tuple #[]) ∧ ∃ o' q bad' out', Rf w' B s o' q bad' out' ∧ Fr B o w o' w' ∧ st bad' q out' = r

set_option maxHeartbeats 1000000 in
set_option maxRecDepth 100000 in
theorem copied_far (w : World) (B : Nat) (s : ByteArray) (p k : Nat) (o : Value) (out : List UInt8) (arr : Array Value) (h : Rf w B s o p false out) (dl : List Nat) (hk : 29 ≤ k) (hk2 : k ≤ 100000) :
    Calls Tryd.prog 27 #[.pointer (some ⟨B, 0, none⟩), .int .i64 ((k : Int) + 257), .agg arr] w (CopQ w B s o (copied dl s k p out)) := by
  have h1 := h.alloc (.cells arr 46)
  have c2 := h1.bt.c2
  have f2 := h1.bt.fr 2
  have hd : decide ((29 : Int) ≤ (k : Int)) = true := by simp; omega
  go_enter Tryd.func27, Tryd.ntmps27
  go_wp2_with fail
  first | go_end0 | refine bodyPost_ret (results_none rfl _ _ _) rfl ?_
  refine ⟨rfl, o, p, true, out, h1.setBad, (Fr.alloc B o w _).trans (Fr.of_grown o (grownBy_setCell _ _ _ _)), ?_⟩
  unfold copied; rw [if_neg (by omega)]; rfl

theorem hide {p : Prop} (h : p) : Hid p := h
theorem unhide {p : Prop} (h : Hid p) : p := h
end Go.Proofs.YtgffljllfenhkaaDoor
