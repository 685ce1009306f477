import Derived.Test.YtgffljllfenhkaaDoorRefK
namespace Go.Proofs.YtgffljllfenhkaaDoor
open Go.RowKit

theorem copied_any (w : World) (B : Nat) (s : ByteArray) (p g : Nat) (m : Int) (o : Value) (out : List UInt8) (arr : Array Value) (dl : List Nat) (sg : Value) (h : Rf w B s o p false out) (hs : s.size ≤ 9000)
    (hc : CodeA arr dl sg) (hsg : Sg w B o sg dl) (hT : RTabs w) (hB20 : 9 ≤ B) (hg : 257 ≤ g) (hg2 : g ≤ 50000) (hm : m = (g : Int)) :
    Calls Tryd.prog 27 #[.pointer (some ⟨B, 0, none⟩), .int .i64 m, .agg arr] w (CopQ w B s o (copied dl s (g - 257) p out)) := by
  have e : m = ((g - 257 : Nat) : Int) + 257 := by omega
  rw [e]
  by_cases hk : g - 257 < 29
  · exact copied_walk w B s p (g - 257) o out arr dl sg h hs hc hsg hT hB20 hk
  · exact copied_far w B s p (g - 257) o out arr h dl (by omega) (by omega)

/-- What is left to be read: for a loop's measure. -/
def boolOf : Value → Bool | .bool b => b | _ => true
def meas (B : Nat) (w : World) : Nat := if boolOf ((w.cell? ⟨B, 2, none⟩).getD undef) then 0 else 72001 - (intOf ((w.cell? ⟨B, 1, none⟩).getD undef)).toNat
theorem meas_of {w : World} {B : Nat} {s : ByteArray} {p : Nat} {bad : Bool} {o : Value} (h : Bt w B s p bad o) : meas B w = if bad then 0 else 72001 - p := by
  unfold meas; rw [h.c2, h.c1]; cases bad <;> simp [boolOf, intOf]

theorem copied_pos {dl : List Nat} {s : ByteArray} {k p q : Nat} {out o : List UInt8} (h : copied dl s k p out = some (q, o)) : p ≤ q ∧ q ≤ 8 * s.size := by
  unfold copied at h
  split at h
  · split at h
    · cases h
    · rename_i x p1 h1
      have e1 := rd_some h1
      split at h
      · cases h
      · rename_i d p2 h2
        have e2 := decode_some h2
        split at h
        · split at h
          · cases h
          · rename_i y p3 h3
            have e3 := rd_some h3
            split at h
            · rw [Option.map_eq_some_iff] at h
              obtain ⟨o', _, he⟩ := h
              simp at he
              omega
            · cases h
        · cases h
  · cases h

def blkStep (l dl : List Nat) (s : ByteArray) (k : Nat → List UInt8 → Option (Nat × List UInt8)) (p : Nat) (out : List UInt8) : Option (Nat × List UInt8) :=
    match decode l s p with
    | none => none
    | some (g, p1) =>
      if g < 256 then (if out.length < 2000 then k p1 (out ++ [UInt8.ofNat g]) else none)
      else if g = 256 then some (p1, out)
      else
        match copied dl s (g - 257) p1 out with
        | none => none
        | some (p2, out2) => k p2 out2
set_option maxRecDepth 100000 in
theorem blk_succ (l dl : List Nat) (s : ByteArray) (f p : Nat) (out : List UInt8) : blk l dl s (f + 1) p out = blkStep l dl s (blk l dl s f) p out := by
  delta blkStep
  exact rfl

/-- A block's signs from a state on. -/
def blkS (l dl : List Nat) (s : ByteArray) (bd : Bool) (f q : Nat) (out : List UInt8) : Option (Nat × List UInt8) := if bd then none else blk l dl s f q out

theorem blkS_stop {l dl : List Nat} {s : ByteArray} {f q x q1 : Nat} {out : List UInt8} (h : (if true then none else some (x, q1)) = (if false then none else decode l s q)) : blkS l dl s false (f + 1) q out = none := by
  simp only [Bool.false_eq_true, if_false, if_true] at h
  unfold blkS; simp only [Bool.false_eq_true, if_false]; rw [blk_succ, blkStep, ← h]
theorem blkS_end {l dl : List Nat} {s : ByteArray} {f q q1 : Nat} {out : List UInt8} (h : (if false then none else some (256, q1)) = (if false then none else decode l s q)) : blkS l dl s false (f + 1) q out = some (q1, out) := by
  simp only [Bool.false_eq_true, if_false] at h
  unfold blkS; simp only [Bool.false_eq_true, if_false]; rw [blk_succ, blkStep, ← h]; rfl
theorem blkS_put {l dl : List Nat} {s : ByteArray} {f q x q1 : Nat} {b2 : Bool} {out out2 : List UInt8} (h : (if false then none else some (x, q1)) = (if false then none else decode l s q)) (hx : x < 256)
    (h2 : b2 = (false || decide (2000 ≤ out.length))) (v2 : b2 = false → out2 = out ++ [UInt8.ofNat x]) : blkS l dl s b2 f q1 out2 = blkS l dl s false (f + 1) q out := by
  simp only [Bool.false_eq_true, if_false] at h
  unfold blkS; simp only [Bool.false_eq_true, if_false]; rw [blk_succ, blkStep, ← h]
  simp only
  rw [if_pos hx]
  cases b2 with
  | true =>
    have : 2000 ≤ out.length := by simpa using h2
    show none = (if out.length < 2000 then blk l dl s f q1 (out ++ [UInt8.ofNat x]) else none)
    rw [if_neg (by omega)]
  | false =>
    have : ¬ 2000 ≤ out.length := by simpa using h2
    show blk l dl s f q1 out2 = (if out.length < 2000 then blk l dl s f q1 (out ++ [UInt8.ofNat x]) else none)
    rw [if_pos (by omega), v2 rfl]
theorem blkS_cop {l dl : List Nat} {s : ByteArray} {f q x q1 q2 : Nat} {b2 : Bool} {out out2 : List UInt8} (h : (if false then none else some (x, q1)) = (if false then none else decode l s q)) (hx : ¬ x < 256) (hx2 : ¬ x = 256)
    (h2 : st b2 q2 out2 = copied dl s (x - 257) q1 out) : blkS l dl s b2 f q2 out2 = blkS l dl s false (f + 1) q out := by
  simp only [Bool.false_eq_true, if_false] at h
  unfold blkS; simp only [Bool.false_eq_true, if_false]; rw [blk_succ, blkStep, ← h]
  simp only
  rw [if_neg hx, if_neg hx2, ← h2]
  cases b2 <;> rfl

def BlkQ (w : World) (B : Nat) (s : ByteArray) (o : Value) (r : Option (Nat × List UInt8)) (e : Ending) (w' : World) : Prop :=
  e = .returned (.tuple #[]) ∧ ∃ o' q bad' out', Rf w' B s o' q bad' out' ∧ Fr B o w o' w' ∧ st bad' q out' = r

set_option maxHeartbeats 1000000 in
set_option maxRecDepth 100000 in
theorem block_walk (w : World) (B : Nat) (s : ByteArray) (p : Nat) (bad : Bool) (o : Value) (out : List UInt8) (arr darr : Array Value) (l dl : List Nat) (sg dsg : Value) (h : Rf w B s o p bad out) (hs : s.size ≤ 9000)
    (hc : CodeA arr l sg) (hsg : Sg w B o sg l) (hdc : CodeA darr dl dsg) (hdsg : Sg w B o dsg dl) (hT : RTabs w) (hB20 : 9 ≤ B) :
    Calls Tryd.prog 15 #[.pointer (some ⟨B, 0, none⟩), .agg arr, .agg darr] w (BlkQ w B s o (blkS l dl s bad (8 * s.size + 1 - p) p out)) := by
  have h1 := (h.alloc (.cells arr 46)).alloc (.cells darr 46)
  have F1 := (Fr.alloc B o w (.cells arr 46)).trans (Fr.alloc B o _ (.cells darr 46))
  have hT1 := hT.kept F1 hB20 h.bt.lt h.own
  have hXa : ((w.alloc (.cells arr 46)).alloc (.cells darr 46)).heap[w.heap.size]? = some (.cells arr 46 (0, 0)) := heap_alloc2_old w _ _
  have hXd : ((w.alloc (.cells arr 46)).alloc (.cells darr 46)).heap[w.heap.size + 1]? = some (.cells darr 46 (0, 0)) := heap_alloc2_new w _ _
  have hlt := h.bt.lt
  go_enter Tryd.func15, Tryd.ntmps15
  go_wp2_with fail
  obtain ⟨W0, hW0⟩ : ∃ W0, (w.alloc (.cells arr 46)).alloc (.cells darr 46) = W0 := ⟨_, rfl⟩
  rw [hW0] at h1 F1 hT1 hXa hXd ⊢
  have hsz0 : W0.heap.size = w.heap.size + 2 := by rw [← hW0]; simp
  have HSZ := hide hsz0
  clear hW0 hsz0
  go_loopw [6] (fun _ wr => ∃ (q f : Nat) (bd : Bool) (outi : List UInt8) (oi : Value), (bd = false → 8 * s.size + 1 ≤ f + q) ∧ Rf wr B s oi q bd outi ∧ Fr B o W0 oi wr ∧ blkS l dl s bd f q outi = blkS l dl s bad (8 * s.size + 1 - p) p out)
    (fun _ wr => meas B wr)
  case atStart => exact ⟨p, _, bad, out, o, fun e => by omega, h1, Fr.refl _ _ _, rfl⟩
  case round =>
    obtain ⟨q, f, bd, outi, oi, hf, hR, hF, hE⟩ := hrel
    have HE := hide hE
    clear hE
    have c2 := hR.bt.c2
    have hFw := F1.trans hF
    have hSi := hsg.kept hFw
    have hdSi := hdsg.kept hFw
    have hTi := hT1.kept hF hB20 h1.bt.lt h1.own
    have hm0 := hide (meas_of hR.bt)
    have hXa' : wr.heap[w.heap.size]? = some (.cells arr 46 (0, 0)) := by
      rw [hF.block _ (by have := unhide HSZ; omega) (by omega) (fun e => by have := (World.ownsRow.lt h.row _ e).2; omega)]; exact hXa
    have hXd' : wr.heap[w.heap.size + 1]? = some (.cells darr 46 (0, 0)) := by
      rw [hF.block _ (by have := unhide HSZ; omega) (by omega) (fun e => by have := (World.ownsRow.lt h.row _ e).2; omega)]; exact hXd
    clear hXa hXd h1
    cases bd with
    | true =>
      have FIN : Hid (blkS l dl s bad (8 * s.size + 1 - p) p out = st true q outi) := (unhide HE).symm
      clear HE hm0
      go_wp2_with fail
      first | go_end0 | refine bodyPost_ret (results_none rfl _ _ _) rfl ?_
      exact ⟨rfl, oi, q, true, outi, hR, hFw, FIN.out.symm⟩
    | false =>
      have hf' := hf rfl
      have hq8 := hR.hpb rfl
      have hq7 := hR.hp
      clear hf
      obtain ⟨f, rfl⟩ : ∃ f', f = f' + 1 := ⟨f - 1, by omega⟩
      go_wp2_with (refine load_whole rfl 46 _ rfl w.heap.size rfl 46 arr (0, 0) hXa' Tryd.aggCode (Tryd.infoCode arr hc.size) ?_)
      refine (sign_any _ B s q false oi outi arr l sg hR hs hc hSi).mono ?_
      rintro e w2 ⟨x, q2, b2, rfl, hR2, hF2, hE2, hz⟩
      have c2 := hR2.bt.c2
      have hF2w := hFw.trans hF2
      cases b2 with
      | true =>
        have FIN : Hid (blkS l dl s bad (8 * s.size + 1 - p) p out = st true q2 outi) := (unhide HE).symm.trans (blkS_stop hE2)
        clear HE hm0 hE2
        go_wp2_with fail
        first | go_end0 | refine bodyPost_ret (results_none rfl _ _ _) rfl ?_
        exact ⟨rfl, oi, q2, true, outi, hR2, hF2w, FIN.out.symm⟩
      | false =>
        have hdec : decode l s q = some (x, q2) := by simpa using hE2.symm
        have hds := decode_some hdec
        clear hdec
        have hll := hc.le
        by_cases hx : x < 256
        · have STEP : Hid (∀ (b2 : Bool) (out2 : List UInt8), b2 = (false || decide (2000 ≤ outi.length)) → (b2 = false → out2 = outi ++ [UInt8.ofNat x]) → blkS l dl s b2 f q2 out2 = blkS l dl s bad (8 * s.size + 1 - p) p out) :=
            fun b2 out2 h2 v2 => (blkS_put hE2 hx h2 v2).trans (unhide HE)
          clear HE hE2
          have hx' : ((x : Int) == 256) = false := by rw [beq_eq_false_iff_ne]; omega
          have hx3 : (x : Int) < 256 := by omega
          go_wp2_with fail
          refine (put_rf _ B s q2 _ false oi outi hR2 (by omega)).mono ?_
          rintro e w4 ⟨rfl, o4, b4, out4, h4, F4, hb4, hv4⟩
          have HE4 := hide (STEP.out b4 out4 hb4 (by simpa using hv4))
          have hm4 := hide (meas_of h4.bt)
          clear STEP hb4 hv4
          go_wp2_with fail
          go_roundw
          case rel => exact ⟨q2, f, b4, out4, o4, fun _ => by omega, h4, (hF.trans hF2).trans F4, unhide HE4⟩
          case measure => rw [unhide hm0, unhide hm4]; simp only [Bool.false_eq_true, if_false]; split <;> omega
        · by_cases hx2 : x = 256
          · subst hx2
            have FIN : Hid (blkS l dl s bad (8 * s.size + 1 - p) p out = st false q2 outi) := (unhide HE).symm.trans (blkS_end hE2)
            clear HE hm0 hE2
            go_wp2_with fail
            first | go_end0 | refine bodyPost_ret (results_none rfl _ _ _) rfl ?_
            exact ⟨rfl, oi, q2, false, outi, hR2, hF2w, FIN.out.symm⟩
          · have STEP : Hid (∀ (b2 : Bool) (q3 : Nat) (out2 : List UInt8), st b2 q3 out2 = copied dl s (x - 257) q2 outi → blkS l dl s b2 f q3 out2 = blkS l dl s bad (8 * s.size + 1 - p) p out) :=
              fun b2 q3 out2 h2 => (blkS_cop hE2 hx hx2 h2).trans (unhide HE)
            clear HE hE2
            have hx' : ((x : Int) == 256) = false := by rw [beq_eq_false_iff_ne]; omega
            have hx3 : ¬ (x : Int) < 256 := by omega
            have hXd2 : w2.heap[w.heap.size + 1]? = some (.cells darr 46 (0, 0)) := by
              rw [hF2.block _ (Array.getElem?_eq_some_iff.1 hXd').1 (by omega) (fun e => by
                rcases hF.own with e' | ⟨g, e', hg⟩
                · rw [e'] at e; have := (World.ownsRow.lt h.row _ e).2; omega
                · rw [e'] at e; have := unhide HSZ; simp at e; omega)]; exact hXd'
            go_wp2_with (refine load_whole rfl 46 _ rfl (w.heap.size + 1) rfl 46 darr (0, 0) hXd2 Tryd.aggCode (Tryd.infoCode darr hdc.size) ?_)
            refine (copied_any _ B s q2 x _ oi outi darr dl dsg hR2 hs hdc (hdSi.kept hF2) (hTi.kept hF2 hB20 hR.bt.lt hR.own) hB20 (by omega) (by omega) rfl).mono ?_
            rintro e w4 ⟨rfl, o4, q4, b4, out4, h4, F4, hE4⟩
            have HE4 := hide (STEP.out b4 q4 out4 hE4)
            have hpos : b4 = false → q2 ≤ q4 := fun e => by rw [e] at hE4; exact (copied_pos hE4.symm).1
            have HP := hide hpos
            have hm4 := hide (meas_of h4.bt)
            clear STEP hE4 hpos
            go_wp2_with fail
            go_roundw
            case rel => exact ⟨q4, f, b4, out4, o4, fun e => by have := unhide HP e; omega, h4, (hF.trans hF2).trans F4, unhide HE4⟩
            case measure =>
              rw [unhide hm0, unhide hm4]
              simp only [Bool.false_eq_true, if_false]
              cases b4 with
              | true => simp; omega
              | false => have := unhide HP rfl; simp; omega
end Go.Proofs.YtgffljllfenhkaaDoor
