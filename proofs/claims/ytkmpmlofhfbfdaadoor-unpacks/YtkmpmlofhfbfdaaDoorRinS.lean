import Derived.Test.YtkmpmlofhfbfdaaDoorRinR
import Derived.Test.YtkmpmlofhfbfdaaDoorRefP
namespace Go.Proofs.YtkmpmlofhfbfdaaDoor
open Go.RowKit

set_option maxHeartbeats 1000000 in
set_option maxRecDepth 100000 in
theorem atEnd_any (w : World) (R A : Nat) (s : ByteArray) (p : Nat) (h : Rd w R A s p) :
    Calls Tryd.prog 44 #[.pointer (some ⟨R, 0, none⟩)] w fun e w' => e = .returned (.bool (decide ((p + 7) / 8 = s.size))) ∧ w' = w.drew := by
  have c0 := h.c0
  have c1 := h.c1
  have hp := h.hp
  have hs := h.hs
  go_enter Tryd.func44, Tryd.ntmps44
  go_wp2_with fail
  go_region
  go_wp2_with fail
  go_ret
  refine ⟨congrArg (fun b => Ending.returned (Value.bool b)) ?_, rfl⟩
  rw [Bool.eq_iff_iff]; simp; omega

set_option maxHeartbeats 1000000 in
theorem allowance_any (w : World) (n : Int) :
    Calls Tryd.prog 40 #[.int .i64 n, .int .i64 9] w fun e w' => e = .returned (.func (.func 62) #[] #[.pointer (some ⟨w.heap.size, 0, none⟩), .pointer (some ⟨w.heap.size + 1, 0, none⟩)]) ∧ w' = (w.alloc (.cells #[.int .i64 n] 3)).alloc (.cells #[.int .i64 9] 22) := by
  have hmf := Tryd.mfn Tryd.prog
  go_enter Tryd.func40, Tryd.ntmps40
  go_wp2_with fail
  go_ret
  exact ⟨rfl, rfl⟩

theorem heap3 (w : World) (o1 o2 o3 : Obj) : (((w.alloc o1).alloc o2).alloc o3).heap[w.heap.size]? = some o1 ∧ (((w.alloc o1).alloc o2).alloc o3).heap[w.heap.size + 1]? = some o2 ∧ (((w.alloc o1).alloc o2).alloc o3).heap[w.heap.size + 2]? = some o3 := by
  refine ⟨?_, ?_, ?_⟩
  · rw [Below.heap_alloc _ _ _ (by simp; omega)]; exact heap_alloc2_old w _ _
  · rw [Below.heap_alloc _ _ _ (by simp)]; exact heap_alloc2_new w _ _
  · have := World.alloc_heap_new ((w.alloc o1).alloc o2) o3
    simpa using this

set_option maxHeartbeats 1000000 in
theorem newReader_any (w : World) (s : ByteArray) (hs : s.size ≤ 9000) :
    Calls Tryd.prog 39 #[.string s] w fun e w' => e = .returned (.pointer (some ⟨w.heap.size + 2, 0, none⟩)) ∧ Rd w' (w.heap.size + 2) w.heap.size s 0 ∧ Below w.heap.size w w' ∧ w'.heap.size = w.heap.size + 3 := by
  go_enter Tryd.func39, Tryd.ntmps39
  go_wp2_with (go_at_call 40; refine (allowance_any _ _).mono ?_; rintro e w1 ⟨rfl, rfl⟩)
  go_ret
  obtain ⟨h0, h1, h2⟩ := heap3 w (.cells #[.int .i64 (8 * (s.size : Int))] 3) (.cells #[.int .i64 9] 22) (.cells #[.string s, .int .i64 0, .func (.func 62) #[] #[.pointer (some ⟨w.heap.size, 0, none⟩), .pointer (some ⟨w.heap.size + 1, 0, none⟩)]] 108)
  refine ⟨rfl, ⟨h2, ?_, h1, by omega, by omega, hs⟩, (((Below.refl _ _).alloc (Nat.le_refl _) _).alloc (by simp) _).alloc (by simp; omega) _, by simp⟩
  rw [show ((8 * s.size - 0 : Nat) : Int) = 8 * (s.size : Int) by omega]
  exact h0

/-- What unpacking comes to. -/
def PunQ (w : World) (s : ByteArray) (e : Ending) (w' : World) : Prop :=
  Below w.heap.size w w' ∧ ((∃ out, unpackS s = some out ∧ e = .returned (.string (strOf out))) ∨ (unpackS s = none ∧ e = .panicked thrown))

theorem blocks_none1 {s : ByteArray} {f q : Nat} {out : List UInt8} (h : ¬ q + 1 ≤ 8 * s.size) : blocks s (f + 1) q out = none := by
  rw [blocks_succ]; unfold blockStep; rw [if_neg (by omega)]
theorem blocks_bad {s : ByteArray} {f q : Nat} {out : List UInt8} (h : blockP s (q + 1) out = none) : blocks s (f + 1) q out = none := by
  rw [blocks_succ]; unfold blockStep; unfold blockP at h
  by_cases h3 : q + 3 ≤ 8 * s.size
  · rw [if_pos h3]; rw [if_pos (by omega), show q + 1 + 2 = q + 3 by omega] at h; rw [h]
  · rw [if_neg h3]
theorem blocks_good {s : ByteArray} {f q q' : Nat} {out out' : List UInt8} (h : blockP s (q + 1) out = some (q', out')) : blocks s (f + 1) q out = (if numOf s q 1 = 1 then some (q', out') else blocks s f q' out') ∧ q < q' := by
  rw [blocks_succ]; unfold blockStep; unfold blockP at h
  by_cases h3 : q + 3 ≤ 8 * s.size
  · rw [if_pos h3]
    rw [if_pos (by omega), show q + 1 + 2 = q + 3 by omega] at h
    have := block_pos h
    rw [h]
    exact ⟨rfl, by omega⟩
  · rw [if_neg (by omega)] at h; cases h
theorem Fu.below {w W : World} {U R A M : Nat} {o' : Value} {w' : World} (h : Fu U R A M (.slice none 0 0) W o' w') (hB : Below w.heap.size w W) (h4 : w.heap.size ≤ U ∧ w.heap.size ≤ R ∧ w.heap.size ≤ A ∧ w.heap.size ≤ M) : Below w.heap.size w w' :=
  ⟨h.os.trans hB.os, h.tape.trans hB.tape, h.output.trans hB.output, Nat.le_trans hB.size h.size, fun k hk => (h.block k (Nat.lt_of_lt_of_le hk hB.size) (by omega) (by omega) (by omega) (by omega) (by simp [Value.ownBlock])).trans (hB.block k hk)⟩

set_option maxHeartbeats 4000000 in
set_option maxRecDepth 100000 in
theorem punpack_walk (w : World) (s : ByteArray) (hs : s.size ≤ 9000) (hT : PTabs w) (h9 : 9 ≤ w.heap.size) :
    Calls Tryd.prog 22 #[.string s] w (PunQ w s) := by
  go_enter Tryd.func22, Tryd.ntmps22
  go_wp2_with fail
  refine (newReader_any _ s hs).mono ?_
  rintro e w1 ⟨rfl, hR1, hB1, hs1⟩
  have HS1 := hide hs1
  clear hs1
  have hi3 : (Tryd.prog.info? 85).map (·.size) = some 3 := by kernel_rfl
  obtain ⟨h0, h1, h2⟩ := heap3 w1 (.cells #[.int .i64 2000] 3) (.cells #[.int .i64 9] 22) (.cells #[.pointer none, .slice none 0 0, .nilFunc] 85)
  go_wp2_with (first | (go_at_call 40; refine (allowance_any _ _).mono ?_; rintro e w2 ⟨rfl, rfl⟩) | (refine wpList_store_row rfl 85 _ _ rfl (w1.heap.size + 2) _ rfl rfl 85 _ h2 hi3 rfl (by simp [Value.oneCell']) ?_))
  rw [show w1.heap.size + 1 + 1 = w1.heap.size + 2 from rfl]
  obtain ⟨W0, hW0⟩ : ∃ W0, (((w1.alloc (.cells #[.int .i64 2000] 3)).alloc (.cells #[.int .i64 9] 22)).alloc (.cells #[.pointer none, .slice none 0 0, .nilFunc] 85)).setRow (w1.heap.size + 2) #[.pointer (some ⟨w.heap.size + 2, 0, none⟩), .slice none 0 0, .func (.func 62) #[] #[.pointer (some ⟨w1.heap.size, 0, none⟩), .pointer (some ⟨w1.heap.size + 1, 0, none⟩)]] = W0 := ⟨_, rfl⟩
  have hs1 := unhide HS1
  have hU0 : Up W0 (w1.heap.size + 2) (w.heap.size + 2) w.heap.size w1.heap.size (w1.heap.size + 3) s 0 (.slice none 0 0) [] := by
    rw [← hW0]
    refine ⟨setRow_heap _ _ _ _ _ _ h2, ?_, ?_, ?_, World.ownsRow_nil _ _ _ _, by simp, by omega, by omega, by simp [World.setRow]⟩
    · refine hR1.of_blocks (fun k hk => ?_)
      rw [setRow_other _ _ _ _ (by omega), Below.heap_alloc _ _ _ (by simp; omega), Below.heap_alloc _ _ _ (by simp; omega), Below.heap_alloc _ _ _ (by omega)]
    · rw [setRow_other _ _ _ _ (by omega)]; exact h0
    · rw [setRow_other _ _ _ _ (by omega)]; exact h1
  have hB0 : Below w.heap.size w W0 := by
    rw [← hW0]
    exact below_setRow (((hB1.alloc hB1.size _).alloc (by simp; omega) _).alloc (by simp; omega) _) (by omega) _
  have hT0 : PTabs W0 := by
    have hk : ∀ G T, G < 9 → Tab w G T → Tab W0 G T := fun G T hG h i hi => (hB0.cell (p := ⟨G, i, none⟩) (by show G < w.heap.size; omega)).trans (h i hi)
    exact ⟨hk _ _ (by omega) hT.base, hk _ _ (by omega) hT.extra, hk _ _ (by omega) hT.far, hk _ _ (by omega) hT.more, hk _ _ (by omega) hT.order⟩
  rw [hW0]
  clear hW0 h0 h1 h2 hR1
  have h4 : w.heap.size ≤ w1.heap.size + 2 ∧ w.heap.size ≤ w.heap.size + 2 ∧ w.heap.size ≤ w.heap.size ∧ w.heap.size ≤ w1.heap.size := by omega
  have h94 : 9 ≤ w1.heap.size + 2 ∧ 9 ≤ w.heap.size + 2 ∧ 9 ≤ w.heap.size ∧ 9 ≤ w1.heap.size := by omega
  obtain ⟨U, hU⟩ : ∃ U, w1.heap.size + 2 = U := ⟨_, rfl⟩
  obtain ⟨b0, hb0⟩ : ∃ b0, w1.heap.size + 3 = b0 := ⟨_, rfl⟩
  obtain ⟨R, hR⟩ : ∃ R, w.heap.size + 2 = R := ⟨_, rfl⟩
  have hb9 : 9 ≤ b0 := by omega
  obtain ⟨M, hM⟩ : ∃ M, w1.heap.size = M := ⟨_, rfl⟩
  rw [hU, hb0, hR, hM] at hU0
  rw [hU, hR, hM] at h4 h94
  rw [hU, hR, hM]
  clear HS1 hs1 hU hb0 hR hM hB1
  obtain ⟨r, hr⟩ : ∃ r, blocks s (8 * s.size + 1) 0 [] = r := ⟨_, rfl⟩
  have HR := hide hr
  clear hr
  have UN : Hid (r = none → unpackS s = none) := fun h => by unfold unpackS; rw [unhide HR, h]
  have US : Hid (∀ q out, some (q, out) = r → unpackS s = if (q + 7) / 8 = s.size then some out else none) := fun q out h => by unfold unpackS; rw [unhide HR, ← h]
  go_loopw [4] (fun lv wr => ∃ (b : Bool) (q f : Nat) (outi : List UInt8) (oi : Value), lv = .bool b ∧ (b = false → 8 * s.size + 1 ≤ f + q) ∧ Up wr U R w.heap.size M b0 s q oi outi ∧ Fu U R w.heap.size M (.slice none 0 0) W0 oi wr ∧ Hid ((if b then some (q, outi) else blocks s f q outi) = r))
    (fun lv wr => if boolOf lv then 0 else 1 + measP R (8 * s.size + 1) wr)
  case atStart => exact ⟨false, 0, 8 * s.size + 1, [], _, rfl, fun _ => by omega, hU0, Fu.refl _ _ _ _ _ _, HR⟩
  case round =>
    obtain ⟨b, q, f, outi, oi, rfl, hf, hU, hF, HE⟩ := hrel
    have c0 := hU.cu0
    have hq := hU.rd.hp
    have hT1 := hT0.keptU hF h94 hU0.ltU (fun k e => by simp [Value.ownBlock] at e)
    have hm0 := hide (measP_of hU.rd (8 * s.size + 1))
    cases b with
    | true =>
      have FIN : Hid (some (q, outi) = r) := unhide HE
      clear HE hm0
      go_wp2_with fail
      refine (atEnd_any _ R w.heap.size s q hU.rd).mono ?_
      rintro e w2 ⟨rfl, rfl⟩
      have hBw := (hF.trans (Fu.drew U R w.heap.size M oi wr)).below hB0 h4
      by_cases hd : (q + 7) / 8 = s.size
      · rw [decide_eq_true hd]
        have c1 := hU.drew.cu1
        have hcv := hU.drew.row.str
        have FIN2 : Hid (unpackS s = some outi) := (unhide US q outi (unhide FIN)).trans (if_pos hd)
        go_wp2_with fail
        refine (demand_ok _).mono ?_
        rintro e w3 ⟨rfl, rfl⟩
        go_wp2_with fail
        go_ret
        exact ⟨hBw, .inl ⟨outi, unhide FIN2, rfl⟩⟩
      · rw [decide_eq_false hd]
        have FIN2 : Hid (unpackS s = none) := (unhide US q outi (unhide FIN)).trans (if_neg hd)
        go_wp2_with fail
        refine (demand_no _).mono ?_
        rintro e w3 ⟨rfl, rfl⟩
        exact ⟨rfl, hBw, .inr ⟨unhide FIN2, rfl⟩⟩
    | false =>
      have hf' := hf rfl
      obtain ⟨f, rfl⟩ : ∃ f', f = f' + 1 := ⟨f - 1, by omega⟩
      have HB : Hid (blocks s (f + 1) q outi = r) := unhide HE
      clear HE
      go_wp2_with fail
      by_cases hq1 : q + 1 ≤ 8 * s.size
      · refine (number_yes _ R w.heap.size s q 1 _ rfl hU.rd (by omega) hq1).mono ?_
        rintro e w2 ⟨rfl, hR2, hF2⟩
        have hU2 := hU.read hR2 hF2
        have hT2 := hT1.kept hF2 h94.2.1 h94.2.2.1 hU.rd.ltR
        have hx2 := numOf_lt s q 1
        have BAD : Hid (blockP s (q + 1) outi = none → r = none) := fun h => (unhide HB).symm.trans (blocks_bad h)
        have GOOD : Hid (∀ q' out', blockP s (q + 1) outi = some (q', out') → (if numOf s q 1 = 1 then some (q', out') else blocks s f q' out') = r ∧ q < q') := fun q' out' h => ⟨(blocks_good h).1.symm.trans (unhide HB), (blocks_good (f := f) h).2⟩
        obtain ⟨x, hx⟩ : ∃ x, numOf s q 1 = x := ⟨_, rfl⟩
        rw [hx] at GOOD hx2
        rw [hx]
        clear hx HB
        by_cases hx1 : x = 1
        · subst hx1
          go_wp2_with fail
          refine (pblock_walk _ U R w.heap.size M b0 s (q + 1) oi outi hU2 hT2 h94 hb9).mono ?_
          rintro e w3 (⟨q', out', hb, rfl, o', hU3, hF3⟩ | ⟨hb, rfl, o', hF3⟩)
          · obtain ⟨hg1, hg2⟩ := unhide GOOD q' out' hb
            have HG : Hid (some (q', out') = r) := hg1
            clear hg1 hb GOOD BAD
            go_wp2_with fail
            exact ⟨⟨true, q', f, out', o', rfl, fun e => (by cases e), hU3, (hF.trans (Fu.of_fp oi hF2)).trans hF3, HG⟩, by simp [boolOf]; omega⟩
          · exact ⟨rfl, ((hF.trans (Fu.of_fp oi hF2)).trans hF3).below hB0 h4, .inr ⟨unhide UN (unhide BAD hb), rfl⟩⟩
        · have hx0 : x = 0 := by omega
          subst hx0
          go_wp2_with fail
          refine (pblock_walk _ U R w.heap.size M b0 s (q + 1) oi outi hU2 hT2 h94 hb9).mono ?_
          rintro e w3 (⟨q', out', hb, rfl, o', hU3, hF3⟩ | ⟨hb, rfl, o', hF3⟩)
          · obtain ⟨hg1, hg2⟩ := unhide GOOD q' out' hb
            have HG : Hid (blocks s f q' out' = r) := hg1
            have hm3 := hide (measP_of hU3.rd (8 * s.size + 1))
            have hq3 := hU3.rd.hp
            clear hg1 hb GOOD BAD
            go_wp2_with fail
            exact ⟨⟨false, q', f, out', o', rfl, fun e => (by omega), hU3, (hF.trans (Fu.of_fp oi hF2)).trans hF3, HG⟩, by simp only [boolOf]; rw [unhide hm3, unhide hm0]; simp; omega⟩
          · exact ⟨rfl, ((hF.trans (Fu.of_fp oi hF2)).trans hF3).below hB0 h4, .inr ⟨unhide UN (unhide BAD hb), rfl⟩⟩
      · refine (number_no _ R w.heap.size s q 1 _ rfl hU.rd (by omega) hq1).mono ?_
        rintro e w2 ⟨rfl, hF2⟩
        exact ⟨rfl, (hF.trans (Fu.of_fp oi hF2)).below hB0 h4, .inr ⟨unhide UN ((unhide HB).symm.trans (blocks_none1 hq1)), rfl⟩⟩
end Go.Proofs.YtkmpmlofhfbfdaaDoor
