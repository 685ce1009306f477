import Derived.Test.YtgffljllfenhkaaDoorRefE
namespace Go.Proofs.YtgffljllfenhkaaDoor
open Go.RowKit

/-- Where a code's signs lie. -/
def Sg (w : World) (B : Nat) (o : Value) (sg : Value) (l : List Nat) : Prop :=
  (used l = 0 ∧ sg = .slice none 0 0) ∨ ∃ g cap, sg = .slice (some ⟨g, 0, none⟩) (used l) cap ∧ g < w.heap.size ∧ g ≠ B ∧ o.ownBlock ≠ some g ∧
    ∀ n a, 1 ≤ n → n ≤ 15 → a < cnt n l → w.cell? ⟨g, start l n + a, none⟩ = some (.int .i64 (((idxs n l).getD a 0 : Nat) : Int))

theorem Sg.kept {w w' : World} {B : Nat} {o o' sg : Value} {l : List Nat} (h : Sg w B o sg l) (hf : Fr B o w o' w') : Sg w' B o' sg l := by
  rcases h with h | ⟨g, cap, h1, h2, h3, h4, h5⟩
  · exact .inl h
  · refine .inr ⟨g, cap, h1, Nat.lt_of_lt_of_le h2 hf.size, h3, ?_, fun n a hn hn' ha => ?_⟩
    · rcases hf.own with e | ⟨g', e, hg⟩
      · rw [e]; exact h4
      · rw [e]; simp; omega
    · rw [World.cell?_of_block (w := w) (hf.block g h2 h3 h4)]; exact h5 n a hn hn' ha

theorem start_mono (l : List Nat) : ∀ {n m : Nat}, 1 ≤ n → n ≤ m → start l n ≤ start l m
  | n, 0, h1, h2 => by omega
  | n, m + 1, h1, h2 => by
    by_cases e : n = m + 1
    · subst e; exact Nat.le_refl _
    · have := start_mono l h1 (show n ≤ m by omega)
      cases m with
      | zero => omega
      | succ m => simp only [start]; omega
theorem start_succ (l : List Nat) {n : Nat} (h : 1 ≤ n) : start l (n + 1) = start l n + cnt n l := by
  cases n with
  | zero => omega
  | succ n => rfl
theorem start_used (l : List Nat) {n a : Nat} (h1 : 1 ≤ n) (h2 : n ≤ 15) (ha : a < cnt n l) : start l n + a < used l := by
  have := start_mono l (show 1 ≤ n + 1 by omega) (show n + 1 ≤ 16 by omega)
  rw [start_succ l h1] at this
  unfold used; omega

theorem or_even (x : Int) (b : Nat) (h0 : 0 ≤ x) (hx : x < 2 ^ 40) (hb : b < 2) : bits .or .i64 (2 * x) (b : Int) = 2 * x + b :=
  bits_join .i64 62 (by decide) wraps_i64 1 (2 * x) (b : Int) (by omega) (by omega) (by omega) (by omega) (by omega) (by omega)

theorem start_le (l : List Nat) : ∀ n, start l n ≤ n * l.length
  | 0 => by simp [start]
  | 1 => by simp [start]
  | n + 2 => by
    have h1 := start_le l (n + 1)
    have h2 := cnt_le (n + 1) l
    simp only [start, Nat.add_mul] at *; omega

/-- What the search for a sign ends in. -/
def SignQ (w : World) (B : Nat) (s : ByteArray) (p : Nat) (bad : Bool) (o : Value) (out : List UInt8) (l : List Nat) (e : Ending) (w' : World) : Prop :=
  ∃ (x q : Nat) (bad' : Bool), e = .returned (.int .i64 (x : Int)) ∧ Rf w' B s o q bad' out ∧ Fr B o w o w' ∧ (if bad' then none else some (x, q)) = (if bad then none else decode l s p) ∧ (bad' = true → x = 0)

theorem decodeFrom_succ (l : List Nat) (s : ByteArray) (r p above : Nat) : decodeFrom l s (r + 1) p above =
    if p < 8 * s.size then
      if 2 * above + bitOf s p < cnt (15 - r) l then some ((idxs (15 - r) l).getD (2 * above + bitOf s p) 0, p + 1)
      else decodeFrom l s r (p + 1) (2 * above + bitOf s p - cnt (15 - r) l)
    else none := rfl

/-- What one round of the search does. -/
theorem dec_stop {l : List Nat} {s : ByteArray} {k q above : Nat} {bd : Bool} (hk : k < 15) (h : (bd || over s q 1) = true) :
    (if bd then none else decodeFrom l s (15 - k) q above) = none := by
  cases bd with
  | true => rfl
  | false =>
    simp only [Bool.false_or, over, decide_eq_true_eq] at h
    simp only [Bool.false_eq_true, if_false]
    rw [show 15 - k = (14 - k) + 1 from by omega, decodeFrom_succ, if_neg (by omega)]
theorem dec_hit {l : List Nat} {s : ByteArray} {k q above x : Nat} (hk : k < 15) (h : over s q 1 = false) (hx : x = bitOf s q) (ha : 2 * above + x < cnt (k + 1) l) :
    decodeFrom l s (15 - k) q above = some ((idxs (k + 1) l).getD (2 * above + x) 0, q + 1) := by
  simp only [over, decide_eq_false_iff_not] at h
  subst hx
  rw [show 15 - k = (14 - k) + 1 from by omega, decodeFrom_succ, if_pos (by omega), show 15 - (14 - k) = k + 1 from by omega, if_pos ha]
theorem dec_miss {l : List Nat} {s : ByteArray} {k q above x : Nat} (hk : k < 15) (h : over s q 1 = false) (hx : x = bitOf s q) (ha : ¬ 2 * above + x < cnt (k + 1) l) :
    decodeFrom l s (15 - k) q above = decodeFrom l s (15 - (k + 1)) (q + 1) (2 * above + x - cnt (k + 1) l) := by
  simp only [over, decide_eq_false_iff_not] at h
  subst hx
  rw [show 15 - k = (14 - k) + 1 from by omega, decodeFrom_succ, if_pos (by omega), show 15 - (14 - k) = k + 1 from by omega, if_neg ha, show 15 - (k + 1) = 14 - k from by omega]

theorem bit_rf (w : World) (B : Nat) (s : ByteArray) (p : Nat) (bad : Bool) (o : Value) (out : List UInt8) (h : Rf w B s o p bad out) (hs : s.size ≤ 9000) :
    Calls Tryd.prog 11 #[.pointer (some ⟨B, 0, none⟩)] w fun e w' => ∃ x q bad' : _, e = .returned (.int .i64 ((x : Nat) : Int)) ∧ Rf w' B s o q bad' out ∧ w.grownBy w' (some B) ∧
      x < 2 ∧ bad' = (bad || over s p 1) ∧ (bad' = false → x = bitOf s p ∧ q = p + 1) := by
  refine (bit_any w B s p bad o h.bt hs h.hp).mono ?_
  rintro e w' ⟨x, q, bad', rfl, hB, hg, hx, hq, hb, hv⟩
  refine ⟨x, q, bad', rfl, ?_, hg, hx, hb, hv⟩
  exact h.bits (n := 1) (x := x) hB hg hq hb (fun e => ⟨by rw [(hv e).1]; simp [numOf], (hv e).2⟩)

theorem Rf.alloc {w : World} {B : Nat} {s : ByteArray} {o : Value} {p : Nat} {bad : Bool} {out : List UInt8} (h : Rf w B s o p bad out) (x : Obj) : Rf (w.alloc x) B s o p bad out :=
  ⟨h.bt.alloc x, World.ownsRow.alloc h.row x, h.hp, h.hpb, h.hl⟩

set_option maxHeartbeats 1000000 in
set_option maxRecDepth 100000 in
theorem sign_any (w : World) (B : Nat) (s : ByteArray) (p : Nat) (bad : Bool) (o : Value) (out : List UInt8) (arr : Array Value) (l : List Nat) (sg : Value) (h : Rf w B s o p bad out) (hs : s.size ≤ 9000)
    (hc : CodeA arr l sg) (hsg : Sg w B o sg l) :
    Calls Tryd.prog 26 #[.pointer (some ⟨B, 0, none⟩), .agg arr] w (SignQ w B s p bad o out l) := by
  have hlt := h.bt.lt
  have hR0 := h.alloc (.cells arr 46)
  have hF0 := Fr.alloc B o w (.cells arr 46)
  have hS0 := hsg.kept hF0
  have hX0 : (w.alloc (.cells arr 46)).heap[w.heap.size]? = some (.cells arr 46 (0, 0)) := World.alloc_heap_new w _
  go_enter Tryd.func26, Tryd.ntmps26
  go_wp2_with fail
  go_loopw [5, 6, 7, 8] (fun cv fv iv nv wr => ∃ (k q above f : Nat) (bd : Bool), k ≤ 15 ∧ nv = .int .i64 ((k : Int) + 1) ∧ iv = .int .i64 (start l (k + 1) : Int) ∧ fv = .int .i64 (2 * (f : Int)) ∧ cv = .int .i64 (2 * ((f : Int) + (above : Int))) ∧
      f ≤ 400 * (2 ^ k - 1) ∧ above ≤ 2 ^ k - 1 ∧ Rf wr B s o q bd out ∧ Fr B o (w.alloc (.cells arr 46)) o wr ∧ wr.heap[w.heap.size]? = some (.cells arr 46 (0, 0)) ∧
      (if bd then none else decodeFrom l s (15 - k) q above) = (if bad then none else decode l s p))
    (fun _ _ _ nv _ => 16 - (intOf nv).toNat)
  case atStart => exact ⟨0, p, 0, 0, bad, by omega, rfl, rfl, rfl, rfl, by simp, by simp, hR0, Fr.refl _ _ _, hX0, rfl⟩
  case round =>
    obtain ⟨k, q, above, f, bd, hk, rfl, rfl, rfl, rfl, hf, hab, hR, hF, hX, hE⟩ := hrel
    have HE : Hid ((if bd then none else decodeFrom l s (15 - k) q above) = (if bad then none else decode l s p)) := hE
    clear hE
    have hpw : 2 ^ k ≤ 2 ^ 15 := Nat.pow_le_pow_right (by decide) hk
    have hf' : f ≤ 13107200 := Nat.le_trans hf (by have := Nat.mul_le_mul_left 400 (show 2 ^ k - 1 ≤ 32768 by omega); omega)
    have hab' : above ≤ 32768 := by omega
    clear hpw
    by_cases hlt15 : k < 15
    · go_wp2_with fail
      refine (bit_rf _ B s q bd o out hR hs).mono ?_
      rintro e w1 ⟨x, q1, b1, rfl, h1, g1, hx, hb1, hv1⟩
      have H1 : Hid (b1 = (bd || over s q 1)) := hb1
      have V1 : Hid (b1 = false → x = bitOf s q ∧ q1 = q + 1) := hv1
      clear hb1 hv1
      have hF1 := hF.trans (Fr.of_grown o g1)
      have c2 := h1.bt.c2
      cases b1 with
      | true =>
        go_wp2_with fail
        go_ret
        exact ⟨0, q1, true, rfl, h1, hF0.trans hF1, (dec_stop hlt15 H1.out.symm).symm.trans HE.out, fun _ => rfl⟩
      | false =>
        have e1 := Bool.or_eq_false_iff.1 (Hid.out H1).symm
        have E1 : Hid (bd = false ∧ over s q 1 = false) := e1
        clear e1
        obtain ⟨hxv, hqv⟩ := V1.out rfl
        have EX : Hid (x = bitOf s q ∧ q1 = q + 1) := ⟨hxv, hqv⟩
        clear hxv hqv V1 H1
        have hX1 : w1.heap[w.heap.size]? = some (.cells arr 46 (0, 0)) := by
          have := g1.block w.heap.size (Array.getElem?_eq_some_iff.1 hX).1 (by simp; omega)
          rw [this]; exact hX
        have hcn : w1.cell? ⟨w.heap.size, k + 1, none⟩ = some (.int .i64 (cnt (k + 1) l : Int)) := by
          simp only [World.cell?, hX1]; simpa using hc.c (k + 1) (by omega) (by omega)
        have hor := or_even ((f : Int) + (above : Int)) x (by omega) (by omega) hx
        have hsl : start l (k + 1) ≤ 6400 := Nat.le_trans (start_le l (k + 1)) (Nat.mul_le_mul (show k + 1 ≤ 16 by omega) hc.le)
        have hgt : (start l (k + 1) : Int) + (2 * ((f : Int) + (above : Int)) + (x : Int)) - 2 * (f : Int) = (start l (k + 1) + (2 * above + x) : Nat) := by omega
        have hcl := cnt_le (k + 1) l
        have hll := hc.le
        by_cases ha : 2 * above + x < cnt (k + 1) l
        · have hS1 := hS0.kept hF1
          rcases hS1 with ⟨hu0, _⟩ | ⟨g, cap, rfl, hg, hgB, hgo, hcell⟩
          · exfalso; have := start_used l (show 1 ≤ k + 1 by omega) (by omega) ha; omega
          · have hcs : w1.cell? ⟨w.heap.size, 16, none⟩ = some (.slice (some ⟨g, 0, none⟩) (used l) cap) := by
              simp only [World.cell?, hX1]; simpa using hc.s
            have hcx := hcell (k + 1) (2 * above + x) (by omega) (by omega) ha
            have hin := start_used l (show 1 ≤ k + 1 by omega) (by omega) ha
            go_wp2_with fail
            go_ret
            have E := HE.out
            rw [E1.out.1] at E
            refine ⟨(idxs (k + 1) l).getD (2 * above + x) 0, q1, false, by simp, h1, hF0.trans hF1, ?_, by simp⟩
            rw [← E, EX.out.2]
            exact (dec_hit hlt15 E1.out.2 EX.out.1 ha).symm
        · go_wp2_with fail
          go_roundw
          case rel =>
            have hpw : 2 ^ (k + 1) = 2 ^ k + 2 ^ k := by rw [Nat.pow_succ]; omega
            have hp1 : 1 ≤ 2 ^ k := Nat.one_le_two_pow
            refine ⟨k + 1, q1, 2 * above + x - cnt (k + 1) l, 2 * f + cnt (k + 1) l, false, by omega, by go_num, ?_, ?_, ?_, ?_, by omega, h1, hF1, hX1, ?_⟩
            · rw [start_succ l (show 1 ≤ k + 1 by omega)]; go_num
            · exact congrArg (Value.int .i64) (by omega)
            · exact congrArg (Value.int .i64) (by omega)
            · rw [hpw]; generalize 2 ^ k = z at *; omega
            · have E := HE.out
              rw [E1.out.1] at E
              rw [← E, EX.out.2]
              exact (dec_miss hlt15 E1.out.2 EX.out.1 ha).symm
          case measure => simp [intOf]; omega
    · have f2 := hR.bt.fr 2
      have c2 := hR.bt.c2
      go_wp2_with fail
      go_ret
      have e : k = 15 := by omega
      subst e
      refine ⟨0, q, true, rfl, hR.setBad, (hF0.trans hF).trans (Fr.of_grown o (grownBy_setCell _ _ _ _)), ?_, fun _ => rfl⟩
      rw [← HE.out]
      cases bd <;> rfl
end Go.Proofs.YtgffljllfenhkaaDoor
