import Derived.Test.YtgffljllfenhkaaDoorRinO
namespace Go.Proofs.YtgffljllfenhkaaDoor
open Go.RowKit

/-- Signs of a code, out of the unpacker's way. -/
def SpU (w : World) (U R A M : Nat) (o : Value) (sg : Value) (l : List Nat) : Prop :=
  ∃ g cap, sg = .slice (some ⟨g, 0, none⟩) (used l) cap ∧ g < w.heap.size ∧ g ≠ R ∧ g ≠ A ∧ g ≠ U ∧ g ≠ M ∧ o.ownBlock ≠ some g ∧
    ∀ n a, 1 ≤ n → n ≤ 15 → a < cnt n l → w.cell? ⟨g, start l n + a, none⟩ = some (.int .i64 (((idxs n l).getD a 0 : Nat) : Int))
theorem Fu.still {U R A M : Nat} {o o' : Value} {w w' : World} (hf : Fu U R A M o w o' w') {g : Nat} (hg : g < w.heap.size) (ho : o.ownBlock ≠ some g) : o'.ownBlock ≠ some g := by
  rcases hf.own with e | ⟨k, e, hk⟩
  · rw [e]; exact ho
  · rw [e]; intro h; simp at h; omega
theorem SpU.kept {w w' : World} {U R A M : Nat} {o o' sg : Value} {l : List Nat} (h : SpU w U R A M o sg l) (hf : Fu U R A M o w o' w') : SpU w' U R A M o' sg l := by
  obtain ⟨g, cap, h1, h2, h3, h4, h5, h6, h7, h8⟩ := h
  refine ⟨g, cap, h1, Nat.lt_of_lt_of_le h2 hf.size, h3, h4, h5, h6, hf.still h2 h7, fun n a hn hn' ha => ?_⟩
  rw [World.cell?_of_block (w := w) (hf.block g h2 h3 h4 h5 h6 h7)]
  exact h8 n a hn hn' ha
theorem SpU.sp {w : World} {U R A M : Nat} {o sg : Value} {l : List Nat} (h : SpU w U R A M o sg l) : Sp w R A sg l := by
  obtain ⟨g, cap, h1, h2, h3, h4, _, _, _, h8⟩ := h
  exact ⟨g, cap, h1, h2, h3, h4, h8⟩
theorem Tab.keptU {w w' : World} {G U R A M : Nat} {o o' : Value} {T : List Nat} (h : Tab w G T) (hf : Fu U R A M o w o' w') (hG : G < w.heap.size) (h1 : G ≠ R) (h2 : G ≠ A) (h3 : G ≠ U) (h4 : G ≠ M) (h5 : o.ownBlock ≠ some G) : Tab w' G T := by
  intro i hi
  rw [World.cell?_of_block (w := w) (hf.block G hG h1 h2 h3 h4 h5)]
  exact h i hi
theorem PTabs.keptU {w w' : World} {U R A M : Nat} {o o' : Value} (h : PTabs w) (hf : Fu U R A M o w o' w') (h9 : 9 ≤ U ∧ 9 ≤ R ∧ 9 ≤ A ∧ 9 ≤ M) (hs : U < w.heap.size) (ho : ∀ k, o.ownBlock = some k → 9 ≤ k) : PTabs w' := by
  have hn : ∀ G, G < 9 → o.ownBlock ≠ some G := fun G hG e => by have := ho G e; omega
  exact ⟨h.base.keptU hf (by omega) (by omega) (by omega) (by omega) (by omega) (hn _ (by omega)), h.extra.keptU hf (by omega) (by omega) (by omega) (by omega) (by omega) (hn _ (by omega)), h.far.keptU hf (by omega) (by omega) (by omega) (by omega) (by omega) (hn _ (by omega)), h.more.keptU hf (by omega) (by omega) (by omega) (by omega) (by omega) (hn _ (by omega)), h.order.keptU hf (by omega) (by omega) (by omega) (by omega) (by omega) (hn _ (by omega))⟩

/-- How far it is to the end. -/
def measP (R N : Nat) (w : World) : Nat := N - (intOf ((w.cell? ⟨R, 1, none⟩).getD undef)).toNat
theorem measP_of {w : World} {R A : Nat} {s : ByteArray} {p : Nat} (h : Rd w R A s p) (N : Nat) : measP R N w = N - p := by
  unfold measP; rw [h.c1]; simp [intOf]

section
variable {l dl : List Nat} {s : ByteArray} {f q x q1 : Nat} {out : List UInt8}
theorem blk_none (h : decode l s q = none) : blk l dl s (f + 1) q out = none := by rw [blk_succ, blkStep, h]
theorem blk_put (h : decode l s q = some (x, q1)) (hx : x < 256) : blk l dl s (f + 1) q out = if out.length < 2000 then blk l dl s f q1 (out ++ [UInt8.ofNat x]) else none := by
  rw [blk_succ, blkStep, h]; simp only; rw [if_pos hx]
theorem blk_end (h : decode l s q = some (256, q1)) : blk l dl s (f + 1) q out = some (q1, out) := by
  rw [blk_succ, blkStep, h]; simp only; rw [if_neg (by omega), if_pos trivial]
theorem blk_cop (h : decode l s q = some (x, q1)) (hx : ¬ x < 256) (hx2 : ¬ x = 256) : blk l dl s (f + 1) q out = match copied dl s (x - 257) q1 out with | none => none | some (p2, out2) => blk l dl s f p2 out2 := by
  rw [blk_succ, blkStep, h]; simp only; rw [if_neg hx, if_neg hx2]; cases copied dl s (x - 257) q1 out <;> rfl
end
/-- A copy's length, and its distance. -/
def cpL (s : ByteArray) (k p : Nat) : Option (Nat × Nat) := if k < 29 then addTo (nth baseT k) (rd s (nth extraT k) p) else none
def cpD (s : ByteArray) (d p : Nat) : Option (Nat × Nat) := if d < 30 then addTo (nth farT d) (rd s (nth moreT d) p) else none
theorem cpL_some {s : ByteArray} {k p n q : Nat} (h : cpL s k p = some (n, q)) : n ≤ 400 ∧ p ≤ q := by
  unfold cpL addTo at h
  split at h
  · rename_i hk
    cases hr : rd s (nth extraT k) p with
    | none => rw [hr] at h; cases h
    | some z =>
      rw [hr] at h
      obtain ⟨h1, h2, h3⟩ := rd_some (show rd s (nth extraT k) p = some (z.1, z.2) from hr)
      simp at h
      have hb := base_le k
      have he := extra_le k
      have hn := numOf_lt s p (nth extraT k)
      have : 2 ^ nth extraT k ≤ 2 ^ 5 := Nat.pow_le_pow_right (by omega) he
      omega
  · cases h
theorem cpD_some {s : ByteArray} {k p n q : Nat} (h : cpD s k p = some (n, q)) : 1 ≤ n ∧ n ≤ 100000 ∧ p ≤ q := by
  unfold cpD addTo at h
  split at h
  · rename_i hk
    cases hr : rd s (nth moreT k) p with
    | none => rw [hr] at h; cases h
    | some z =>
      rw [hr] at h
      obtain ⟨h1, h2, h3⟩ := rd_some (show rd s (nth moreT k) p = some (z.1, z.2) from hr)
      simp at h
      have hb := far_le k
      have hp := far_pos k hk
      have he := moreT_le k
      have hn := numOf_lt s p (nth moreT k)
      have : 2 ^ nth moreT k ≤ 2 ^ 13 := Nat.pow_le_pow_right (by omega) he
      omega
  · cases h
theorem copied_eq (dl : List Nat) (s : ByteArray) (k p : Nat) (out : List UInt8) : copied dl s k p out =
    match cpL s k p with
    | none => none
    | some (n, q2) => match decode dl s q2 with
      | none => none
      | some (d, q3) => match cpD s d q3 with
        | none => none
        | some (back, q4) => (if back ≤ out.length then copyN back n out else none).map (fun o => (q4, o)) := by
  unfold copied cpL
  by_cases hk : k < 29
  · rw [if_pos hk, if_pos hk]
    show (match rd s (nth extraT k) p with | none => none | some (x, p1) => _) = _
    cases rd s (nth extraT k) p with
    | none => rfl
    | some z =>
      obtain ⟨x, p1⟩ := z
      show (match decode dl s p1 with | none => none | some (d, p2) => _) = (match decode dl s p1 with | none => none | some (d, q3) => _)
      cases decode dl s p1 with
      | none => rfl
      | some z =>
        obtain ⟨d, p2⟩ := z
        simp only
        unfold cpD
        by_cases hd : d < 30
        · rw [if_pos hd, if_pos hd]
          show (match rd s (nth moreT d) p2 with | none => none | some (y, p3) => _) = _
          cases rd s (nth moreT d) p2 with
          | none => rfl
          | some z =>
            obtain ⟨y, p3⟩ := z
            show (if nth farT d + y ≤ out.length then _ else none) = _
            simp only [addTo, Option.map_some]
            by_cases hb : nth farT d + y ≤ out.length
            · rw [if_pos hb, if_pos hb]; rfl
            · rw [if_neg hb, if_neg hb]; rfl
        · rw [if_neg hd, if_neg hd]
  · rw [if_neg hk, if_neg hk]

section
variable {l dl : List Nat} {s : ByteArray} {f q x q1 n q2 d q3 back q4 : Nat} {out out' : List UInt8}
theorem blk_c0 (h : decode l s q = some (x, q1)) (hx : ¬ x < 256) (hx2 : ¬ x = 256) (hL : cpL s (x - 257) q1 = none) : blk l dl s (f + 1) q out = none := by
  rw [blk_cop h hx hx2, copied_eq, hL]
theorem blk_c1 (h : decode l s q = some (x, q1)) (hx : ¬ x < 256) (hx2 : ¬ x = 256) (hL : cpL s (x - 257) q1 = some (n, q2)) (hd : decode dl s q2 = none) : blk l dl s (f + 1) q out = none := by
  rw [blk_cop h hx hx2, copied_eq, hL]; simp only; rw [hd]
theorem blk_c2 (h : decode l s q = some (x, q1)) (hx : ¬ x < 256) (hx2 : ¬ x = 256) (hL : cpL s (x - 257) q1 = some (n, q2)) (hd : decode dl s q2 = some (d, q3)) (hD : cpD s d q3 = none) : blk l dl s (f + 1) q out = none := by
  rw [blk_cop h hx hx2, copied_eq, hL]; simp only; rw [hd]; simp only; rw [hD]
theorem blk_c3 (h : decode l s q = some (x, q1)) (hx : ¬ x < 256) (hx2 : ¬ x = 256) (hL : cpL s (x - 257) q1 = some (n, q2)) (hd : decode dl s q2 = some (d, q3)) (hD : cpD s d q3 = some (back, q4))
    (hc : (if back ≤ out.length then copyN back n out else none) = none) : blk l dl s (f + 1) q out = none := by
  rw [blk_cop h hx hx2, copied_eq, hL]; simp only; rw [hd]; simp only; rw [hD]; simp only; rw [hc]; rfl
theorem blk_c4 (h : decode l s q = some (x, q1)) (hx : ¬ x < 256) (hx2 : ¬ x = 256) (hL : cpL s (x - 257) q1 = some (n, q2)) (hd : decode dl s q2 = some (d, q3)) (hD : cpD s d q3 = some (back, q4))
    (hc : (if back ≤ out.length then copyN back n out else none) = some out') : blk l dl s f q4 out' = blk l dl s (f + 1) q out := by
  rw [blk_cop h hx hx2, copied_eq, hL]; simp only; rw [hd]; simp only; rw [hD]; simp only; rw [hc]; rfl
end

/-- A load of a code, laid aside. -/
def LoadWp (P : Program) (o : Oper) (a : Act) (w : World) (K : Act → World → Prop) (Q : Exit → Act → World → Prop) : Prop := o.wp P a w K Q
theorem load_aside {P : Program} {d : Option Tmp} {x : Operand} {ty : TypeId} {ps : String} {af : Array Edge} {gd : Option (Nat × Bool)} {a : Act} {w : World} {K : Act → World → Prop} {Q : Exit → Act → World → Prop} :
    Oper.wp P { dst := d, op := .load 69 x, type := ty, pos := ps, after := af, guard := gd } a w K Q = LoadWp P { dst := d, op := .load 69 x, type := ty, pos := ps, after := af, guard := gd } a w K Q := rfl
theorem LoadWp.row {o : Oper} {a : Act} {w : World} {K : Act → World → Prop} {Q : Exit → Act → World → Prop} (x : Operand) (ho : o.op = .load 69 x)
    (b off : Nat) (arr : Array Value) (hx : a.eval x = .pointer (some ⟨b, off, none⟩)) (hc : w.rangeAt b off arr.toList) (h17 : arr.size = 17)
    (h : K (a.put o.dst (.agg arr)) w) : LoadWp Tryd.prog o a w K Q := by
  obtain ⟨d, h1, h2⟩ := structured Tryd.aggCodeP
  refine wp_load_mid 69 x ho b off hx arr.toList d hc h1 ?_ (by have := Tryd.infoCodeP arr h17; simpa using this) (by simpa using h)
  cases d <;> first | rfl | cases h2
end Go.Proofs.YtgffljllfenhkaaDoor
