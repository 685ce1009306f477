import Derived.Test.YtgffljllfenhkaaDoorRefO
import Derived.Lib.BufferRead
namespace Go.Proofs.YtgffljllfenhkaaDoor
open Go.RowKit

def strOf (out : List UInt8) : ByteArray := ⟨out.toArray⟩
theorem Tryd.underlying5 : Tryd.prog.underlying 5 = some (.int .u8) := by kernel_rfl
/-- 'string(b)' of a row of bytes. -/
theorem Row8.str {w : World} {base : Nat} {o : Value} {out : List UInt8} (h : Row8 w base o out) : (convert 35 9 o).run Tryd.prog w = .ok (.string (strOf out)) w := by
  rcases h.2 with ⟨e, hn⟩ | ⟨g, cap, cur, e, hb, hg, hc, _, _, ht⟩
  · have : out = [] := List.eq_nil_of_length_eq_zero hn
    subst this
    rw [e]
    exact Lib.run_convert_nil_bytes w _ _ _ 0 Tryd.underlying35 Tryd.underlying5 Tryd.underlying9
  · rw [e]
    refine run_convert_bytes_back w _ _ 5 ⟨g, 0, none⟩ cap out Tryd.underlying35 Tryd.underlying5 Tryd.underlying9 (fun j hj => ?_)
    exact World.ownsRow.cells h (g := g) (by rw [e]; rfl) j _ (by rw [List.getElem?_map, List.getElem?_eq_getElem hj]; rfl)
/-- What the whole call hands back. -/
def unpQ (w : World) (s : ByteArray) (e : Ending) (w' : World) : Prop :=
  Below w.heap.size w w' ∧ ((∃ out, unpackS s = some out ∧ e = .returned (.tuple #[.string (strOf out), .int .i64 0])) ∨ (unpackS s = none ∧ e = .returned (.tuple #[.string ByteArray.empty, .int .i64 9])))

set_option maxHeartbeats 400000 in
theorem unpack_long (w : World) (s : ByteArray) (hs : 9000 < s.size) (hm : s.size ≤ maxLen) :
    Calls Tryd.prog 5 #[.string s] w fun e w' => e = .returned (.tuple #[.string ByteArray.empty, .int .i64 2]) ∧ w = w' := by
  unfold maxLen at hm
  have hd : (9000 : Int) < (s.size : Int) := by omega
  go_enter Tryd.func5, Tryd.ntmps5
  go_wp2
  go_ret2
  exact ⟨rfl, rfl⟩

set_option maxHeartbeats 4000000 in
set_option maxRecDepth 100000 in
theorem unpack_walk (w : World) (s : ByteArray) (hs : s.size ≤ 9000) (hT : RTabs w) (h9 : 9 ≤ w.heap.size) :
    Calls Tryd.prog 5 #[.string s] w (unpQ w s) := by
  have hd : ¬ (9000 : Int) < (s.size : Int) := by omega
  go_enter Tryd.func5, Tryd.ntmps5
  go_wp2_with fail
  obtain ⟨W0, hW0⟩ : ∃ W0, w.alloc (.cells #[.string s, .int .i64 0, .bool false, .slice none 0 0] 37) = W0 := ⟨_, rfl⟩
  rw [hW0]
  have hR0 : Rf W0 w.heap.size s (.slice none 0 0) 0 false [] := by
    rw [← hW0]
    exact ⟨World.alloc_heap_new w _, World.ownsRow_nil _ _ _ _, by omega, fun _ => by omega, by simp⟩
  have hB0 : Below w.heap.size w W0 := by rw [← hW0]; exact (Below.refl _ _).alloc (Nat.le_refl _) _
  have hs0 : W0.heap.size = w.heap.size + 1 := by rw [← hW0]; simp
  have HS0 := hide hs0
  have hT0 : RTabs W0 := by
    have hk : ∀ G T, G < 9 → Tab w G T → Tab W0 G T := fun G T hG h i hi => (hB0.cell (p := ⟨G, i, none⟩) (by show G < w.heap.size; omega)).trans (h i hi)
    exact ⟨hk _ _ (by omega) hT.base, hk _ _ (by omega) hT.extra, hk _ _ (by omega) hT.far, hk _ _ (by omega) hT.order⟩
  clear hW0 hs0
  go_loopw [5] (fun lv wr => ∃ (x q f : Nat) (bd : Bool) (outi : List UInt8) (oi : Value), lv = .int .i64 (x : Int) ∧ x < 2 ∧ (bd = false → 8 * s.size + 1 ≤ f + q) ∧ Rf wr w.heap.size s oi q bd outi ∧ Fr w.heap.size (.slice none 0 0) W0 oi wr ∧ blocksS s bd x f q outi = blocks s (8 * s.size + 1) 0 [])
    (fun lv wr => if (intOf lv).toNat = 0 then 1 + meas w.heap.size wr else 0)
  case atStart => exact ⟨0, 0, 8 * s.size + 1, false, [], _, rfl, by omega, fun _ => by omega, hR0, Fr.refl _ _ _, rfl⟩
  case round =>
    obtain ⟨x, q, f, bd, outi, oi, rfl, hx, hf, hR, hF, hE⟩ := hrel
    have HE := hide hE
    clear hE
    have c0 := hR.bt.c0
    have c1 := hR.bt.c1
    have c2 := hR.bt.c2
    have c3 := hR.bt.c3
    have hm0 := hide (meas_of hR.bt)
    have hq7 := hR.hp
    by_cases hgo : x = 0 ∧ bd = false
    · obtain ⟨rfl, rfl⟩ := hgo
      have hf' := hf rfl
      have hq8 := hR.hpb rfl
      clear hf
      obtain ⟨f, rfl⟩ : ∃ f', f = f' + 1 := ⟨f - 1, by omega⟩
      go_wp2_with fail
      refine (bit_rf wr w.heap.size s q false oi outi hR hs).mono ?_
      rintro e w1 ⟨x1, q1, b1, rfl, hR1, k1, hx1, hb1, hv1⟩
      go_wp2_with fail
      refine (bits_rf w1 w.heap.size s q1 2 _ b1 oi outi hR1 hs rfl (by omega)).mono ?_
      rintro e w2 ⟨y, q2, b2, rfl, hR2, k2, hy, hb2, hv2⟩
      have hy4 : y < 4 := by simpa using hy
      have hF12 : Fr w.heap.size oi wr oi w2 := (Fr.of_grown oi k1).trans (Fr.of_grown oi k2)
      have hFW2 := hF.trans hF12
      have STEP : Hid (∀ (b3 : Bool) (q3 : Nat) (out3 : List UInt8), st b3 q3 out3 = (st b2 q2 outi).bind (fun z => block s y z.1 z.2) → (b2 = true → b3 = true) → blocksS s b3 x1 f q3 out3 = blocksS s false 0 (f + 1) q outi) :=
        fun b3 q3 out3 h3 hbb => blocks_step hb1 hv1 hb2 hv2 hx1 h3 hbb
      have POS : Hid (∀ (b3 : Bool) (q3 : Nat) (out3 : List UInt8), st b3 q3 out3 = (st b2 q2 outi).bind (fun z => block s y z.1 z.2) → (b2 = true → b3 = true) → b3 = false → q < q3) := fun b3 q3 out3 h3 hbb e => by
        have e2 : b2 = false := by cases b2 with | true => rw [hbb rfl] at e; cases e | false => rfl
        obtain ⟨_, e4⟩ := hv2 e2
        have e1 : b1 = false := (Bool.or_eq_false_iff.1 (hb2.symm.trans e2)).1
        obtain ⟨_, e5⟩ := hv1 e1
        rw [e, e2] at h3
        simp only [st_false, Option.bind_some] at h3
        have := block_pos h3.symm
        omega
      have c22 := hR2.bt.c2
      have f22 := hR2.bt.fr 2
      have hT2 : RTabs w2 := hT0.kept hFW2 h9 hR0.bt.lt hR0.own
      clear hb1 hv1 hb2 hv2 hR1 k1 k2 c0 c1 c2 c3 hy
      by_cases hy0 : y = 0
      · subst hy0
        go_wp2_with fail
        refine (plain_any w2 w.heap.size s q2 b2 oi outi hR2 hs).mono ?_
        rintro e w5 ⟨rfl, o5, q5, b5, out5, hR5, hF5, hE5⟩
        · have HB : st b5 q5 out5 = (st b2 q2 outi).bind (fun z => block s 0 z.1 z.2) := by rw [hE5]; cases b2 <;> simp [block_zero]
          have HBB : b2 = true → b5 = true := fun e => by rw [e] at hE5; cases b5 <;> simp at hE5 ⊢
          have HST := hide ((STEP.out b5 q5 out5 HB HBB).trans (unhide HE))
          have HPOS : Hid (b5 = false → q < q5) := fun e => POS.out b5 q5 out5 HB HBB e
          have hm5 := hide (meas_of hR5.bt)
          clear STEP POS HB HBB HE
          go_wp2_with fail
          go_roundw
          case rel => exact ⟨x1, q5, f, b5, out5, o5, rfl, hx1, fun e => by have := unhide HPOS e; omega, hR5, (hF.trans hF12).trans hF5, unhide HST⟩
          case measure =>
            rw [unhide hm0, unhide hm5]
            have := unhide HPOS
            simp only [Bool.false_eq_true, if_false, intOf]
            cases b5 with
            | true => simp; split <;> omega
            | false => have := this rfl; simp; split <;> omega
      · by_cases hy1 : y = 1
        · subst hy1
          have hlt2 := hR2.bt.lt
          go_wp2_with fail
          refine (fixed_walk w2).mono ?_
          rintro e w3 ⟨v1, v2, rfl, hr1, hr2, hB3⟩
          obtain ⟨g1, cp1, rfl, _, hn1⟩ := hr1.nums (by decide)
          obtain ⟨g2, cp2, rfl, _, hn2⟩ := hr2.nums (by decide)
          obtain ⟨m1, hm1⟩ : ∃ m1, fixL.length = m1 := ⟨_, rfl⟩
          obtain ⟨m2, hm2⟩ : ∃ m2, fixD.length = m2 := ⟨_, rfl⟩
          rw [hm1, hm2]
          have HM1 := hide hm1
          have HM2 := hide hm2
          clear hm1 hm2 hr1 hr2
          go_wp2_with fail
          refine (code_n w3 g1 0 cp1 m1 fixL hn1 (by decide) (unhide HM1).symm).mono ?_
          rintro e w4 ⟨a1, s1, rfl, hc1, hs1, hB4, ho1⟩
          go_wp2_with fail
          refine (code_n w4 g2 0 cp2 m2 fixD (hn2.below hB4) (by decide) (unhide HM2).symm).mono ?_
          rintro e w4' ⟨a2, s2, rfl, hc2, hs2, hB4', ho2⟩
          have hBB : Below w2.heap.size w2 w4' := hB3.trans ((hB4.trans (hB4'.mono hB4.size)).mono hB3.size)
          have hR4 := hR2.byGrown (below_none hBB) (by simp) (none_or _)
          have hF4 : Fr w.heap.size oi w2 oi w4' := Fr.of_grown_none oi (below_none hBB)
          have hoo2 : ∀ k, oi.ownBlock = some k → k < w2.heap.size := fun k e => (World.ownsRow.lt hR2.row k e).2
          have hT4 : RTabs w4' := hT2.kept hF4 h9 hR2.bt.lt hR2.own
          go_wp2_with fail
          refine (block_walk w4' w.heap.size s q2 b2 oi outi a1 a2 fixL fixD s1 s2 hR4 hs hc1 ((hs1.below hB4').sg (by have := hB3.size; omega) (fun k e => by have := hoo2 k e; have := hB3.size; omega)) hc2 (hs2.sg (by have := hB3.size; have := hB4.size; omega) (fun k e => by have := hoo2 k e; have := hB3.size; have := hB4.size; omega)) hT4 h9).mono ?_
          rintro e w5 ⟨rfl, o5, q5, b5, out5, hR5, hF5', hE5⟩
          have hF5 : Fr w.heap.size oi w2 o5 w5 := hF4.trans hF5'
          have HB : st b5 q5 out5 = (st b2 q2 outi).bind (fun z => block s 1 z.1 z.2) := by rw [hE5]; cases b2 <;> simp [block_one, blkS]
          have HBB : b2 = true → b5 = true := fun e => by rw [e] at hE5; cases b5 <;> simp [blkS] at hE5 ⊢
          have HST := hide ((STEP.out b5 q5 out5 HB HBB).trans (unhide HE))
          have HPOS : Hid (b5 = false → q < q5) := fun e => POS.out b5 q5 out5 HB HBB e
          have hm5 := hide (meas_of hR5.bt)
          clear STEP POS HB HBB HE
          go_wp2_with fail
          go_roundw
          case rel => exact ⟨x1, q5, f, b5, out5, o5, rfl, hx1, fun e => by have := unhide HPOS e; omega, hR5, (hF.trans hF12).trans hF5, unhide HST⟩
          case measure =>
            rw [unhide hm0, unhide hm5]
            have := unhide HPOS
            simp only [Bool.false_eq_true, if_false, intOf]
            cases b5 with
            | true => simp; split <;> omega
            | false => have := this rfl; simp; split <;> omega
        · by_cases hy2 : y = 2
          · subst hy2
            go_wp2_with fail
            refine (own_walk w2 w.heap.size s q2 b2 oi outi hR2 hs hT2 h9).mono ?_
            rintro e w5 ⟨rfl, o5, q5, b5, out5, hR5, hF5, hE5⟩
            have HB : st b5 q5 out5 = (st b2 q2 outi).bind (fun z => block s 2 z.1 z.2) := by rw [hE5]; cases b2 <;> simp [block_two, ownB]
            have HBB : b2 = true → b5 = true := fun e => by rw [e] at hE5; cases b5 <;> simp [ownB] at hE5 ⊢
            have HST := hide ((STEP.out b5 q5 out5 HB HBB).trans (unhide HE))
            have HPOS : Hid (b5 = false → q < q5) := fun e => POS.out b5 q5 out5 HB HBB e
            have hm5 := hide (meas_of hR5.bt)
            clear STEP POS HB HBB HE
            go_wp2_with fail
            go_roundw
            case rel => exact ⟨x1, q5, f, b5, out5, o5, rfl, hx1, fun e => by have := unhide HPOS e; omega, hR5, (hF.trans hF12).trans hF5, unhide HST⟩
            case measure =>
              rw [unhide hm0, unhide hm5]
              have := unhide HPOS
              simp only [Bool.false_eq_true, if_false, intOf]
              cases b5 with
              | true => simp; split <;> omega
              | false => have := this rfl; simp; split <;> omega
          · have hyb0 : ((y : Int) == 0) = false := by rw [beq_eq_false_iff_ne]; omega
            have hyb1 : ((y : Int) == 1) = false := by rw [beq_eq_false_iff_ne]; omega
            have hyb2 : ((y : Int) == 2) = false := by rw [beq_eq_false_iff_ne]; omega
            have hR5 := hR2.setBad
            have hF5 : Fr w.heap.size oi w2 oi (w2.setCell ⟨w.heap.size, 2, none⟩ (.bool true)) := Fr.of_grown oi (grownBy_setCell _ _ _ _)
            have HST := hide ((STEP.out true q2 outi (by cases b2 <;> simp [block_three s y _ _ (show 3 ≤ y by omega)]) (fun _ => rfl)).trans (unhide HE))
            have hm5 := hide (meas_of hR5.bt)
            clear STEP POS HE
            go_wp2_with fail
            go_roundw
            case rel => exact ⟨x1, q2, f, true, outi, oi, rfl, hx1, by simp, hR5, (hF.trans hF12).trans hF5, unhide HST⟩
            case measure =>
              rw [unhide hm0, unhide hm5]
              simp only [Bool.false_eq_true, if_false, intOf]
              simp; split <;> omega
    · have hBw : Below w.heap.size w wr := by
        refine ⟨hF.os.trans hB0.os, hF.tape.trans hB0.tape, hF.output.trans hB0.output, Nat.le_trans hB0.size hF.size, fun k hk => ?_⟩
        rw [hF.block k (by have := unhide HS0; omega) (by omega) (by simp [Value.ownBlock])]; exact hB0.block k hk
      cases bd with
      | true =>
        have FIN : Hid (unpackS s = none) := by
          have := unhide HE
          unfold unpackS; rw [← this]; rfl
        clear HE hgo
        by_cases hx0 : x = 0
        · subst hx0
          go_wp2_with fail
          go_ret2
          exact ⟨hBw, .inr ⟨FIN, rfl⟩⟩
        · have hxb : ((x : Int) == 0) = false := by rw [beq_eq_false_iff_ne]; omega
          go_wp2_with fail
          go_ret2
          exact ⟨hBw, .inr ⟨FIN, rfl⟩⟩
      | false =>
        have hx0 : x ≠ 0 := fun e => hgo ⟨e, rfl⟩
        have hx1 : x = 1 := by omega
        subst hx1
        have BL : Hid (blocks s (8 * s.size + 1) 0 [] = some (q, outi)) := (unhide HE).symm
        clear HE hgo
        have hq8 := hR.hpb rfl
        by_cases hend : (q + 7) / 8 = s.size
        · have FIN : Hid (unpackS s = some outi) := by unfold unpackS; rw [BL.out]; simp only; rw [if_pos hend]; exact rfl
          have hne : (((q : Int) + 7) / 8 != (s.size : Int)) = false := by rw [bne_eq_false_iff_eq]; omega
          clear BL
          obtain ⟨ao, cp, ho⟩ := hR.row.shape
          have hstr := hR.row.str
          rw [ho] at c3 hstr
          go_wp2_with fail
          go_ret2
          exact ⟨hBw, .inl ⟨outi, FIN, rfl⟩⟩
        · have FIN : Hid (unpackS s = none) := by unfold unpackS; rw [BL.out]; simp only; rw [if_neg hend]; exact rfl
          have hne : (((q : Int) + 7) / 8 != (s.size : Int)) = true := by rw [bne_iff_ne]; omega
          clear BL
          go_wp2_with fail
          go_ret2
          exact ⟨hBw, .inr ⟨FIN, rfl⟩⟩
end Go.Proofs.YtgffljllfenhkaaDoor
