import Derived.Test.YtgffljllfenhkaaDoorRinQ
namespace Go.Proofs.YtgffljllfenhkaaDoor
open Go.RowKit

theorem SpN.toU {w : World} {base U R A M : Nat} {o sg : Value} {l : List Nat} (h : SpN w base sg l) (h1 : U < base ∧ R < base ∧ A < base ∧ M < base) (ho : ∀ k, o.ownBlock = some k → k < base) : SpU w U R A M o sg l := by
  obtain ⟨g, cap, e, h2, h3, h4⟩ := h
  exact ⟨g, cap, e, h3, by omega, by omega, by omega, by omega, fun e => by have := ho g e; omega, h4⟩
theorem StQ.after {w w1 : World} {U R A M b0 : Nat} {s : ByteArray} {o : Value} {r : Option (Nat × List UInt8)} {e : Ending} {w' : World} (h : StQ w1 U R A M b0 s o r e w') (hf : Fu U R A M o w o w1) : StQ w U R A M b0 s o r e w' := by
  rcases h with ⟨q, out', h1, h2, o', h3, h4⟩ | ⟨h1, h2, o', h3⟩
  · exact .inl ⟨q, out', h1, h2, o', h3, hf.trans h4⟩
  · exact .inr ⟨h1, h2, o', hf.trans h3⟩
/-- A block, its kind with it. -/
def blockP (s : ByteArray) (p : Nat) (out : List UInt8) : Option (Nat × List UInt8) := if p + 2 ≤ 8 * s.size then block s (numOf s p 2) (p + 2) out else none

set_option maxHeartbeats 4000000 in
set_option maxRecDepth 100000 in
theorem pblock_walk (w : World) (U R A M b0 : Nat) (s : ByteArray) (p : Nat) (o : Value) (out : List UInt8) (h : Up w U R A M b0 s p o out) (hT : PTabs w) (h9 : 9 ≤ U ∧ 9 ≤ R ∧ 9 ≤ A ∧ 9 ≤ M) (hb9 : 9 ≤ b0) :
    Calls Tryd.prog 22 #[.pointer (some ⟨U, 0, none⟩)] w (StQ w U R A M b0 s o (blockP s p out)) := by
  have c0 := h.cu0
  have hltU := h.ltU
  have hltR := h.rd.ltR
  have hltA := h.rd.ltA
  have hltM := h.ltM
  have hk4 := numOf_lt s p 2
  obtain ⟨r, hr⟩ : ∃ r, blockP s p out = r := ⟨_, rfl⟩
  rw [hr]
  have HR := hide hr
  clear hr
  go_enter Tryd.func22, Tryd.ntmps22
  go_wp2_with fail
  by_cases h2 : p + 2 ≤ 8 * s.size
  · refine (number_yes _ R A s p 2 _ rfl h.rd (by omega) h2).mono ?_
    rintro e w1 ⟨rfl, hR1, hF1⟩
    have HB : Hid (block s (numOf s p 2) (p + 2) out = r) := by have := unhide HR; unfold blockP at this; rw [if_pos h2] at this; exact this
    obtain ⟨k, hk⟩ : ∃ k, numOf s p 2 = k := ⟨_, rfl⟩
    rw [hk] at hk4 HB
    rw [hk]
    have hU1 := h.read hR1 hF1
    have hf1 : Fu U R A M o w o w1 := Fu.of_fp o hF1
    have hT1 := hT.kept hF1 h9.2.1 h9.2.2.1 hltR
    have c1 := hU1.cu0
    have hz1 := hF1.size
    clear HR hk
    by_cases h0 : k = 0
    · subst h0
      have FIN : Hid (stored s (p + 2) out = r) := unhide HB
      go_wp2_with fail
      refine (pstored_any _ U R A M b0 s (p + 2) o out hU1).mono ?_
      intro e w2 hq
      have hq2 := hq.after hf1
      rw [unhide FIN] at hq2
      rcases hq2 with ⟨q, out', h1, rfl, o', h3, h4⟩ | ⟨h1, rfl, o', h3⟩
      · go_wp2_with fail
        first | go_end0 | refine bodyPost_ret (results_none rfl _ _ _) rfl ?_
        exact .inl ⟨q, out', h1, rfl, o', h3, h4⟩
      · exact ⟨rfl, .inr ⟨h1, rfl, o', h3⟩⟩
    · have hb0 : ((k : Int) == 0) = false := by simp; omega
      by_cases h1 : k = 1
      · subst h1
        have FIN : Hid (blk fixL fixD s (8 * s.size + 1 - (p + 2)) (p + 2) out = r) := unhide HB
        go_wp2_with fail
        refine (pfixed_walk hR1).mono ?_
        rintro e w2 ⟨a1, a2, s1, s2, rfl, hc1, hc2, hS1, hS2, hB2⟩
        have hU2 := hU1.read (hR1.below hB2) (fp_below hB2)
        have hf2 := hf1.trans (Fu.of_fp (U := U) (M := M) o (fp_below (R := R) (A := A) hB2))
        have hT2 := hT1.kept (fp_below (R := R) (A := A) hB2) h9.2.1 h9.2.2.1 hR1.ltR
        have hS1u := hS1.toU (U := U) (R := R) (A := A) (M := M) (o := o) ⟨by omega, by omega, by omega, by omega⟩ (fun k e => (hU1.own k e).2)
        have hS2u := hS2.toU (U := U) (R := R) (A := A) (M := M) (o := o) ⟨by omega, by omega, by omega, by omega⟩ (fun k e => (hU1.own k e).2)
        go_wp2_with fail
        refine (psigns_walk _ U R A M b0 s (p + 2) o out a1 a2 fixL fixD s1 s2 hU2 hc1 hc2 hS1u hS2u hT2 h9 hb9).mono ?_
        intro e w3 hq
        have hq2 := hq.after hf2
        rw [unhide FIN] at hq2
        rcases hq2 with ⟨q, out', h1, rfl, o', h3, h4⟩ | ⟨h1, rfl, o', h3⟩
        · go_wp2_with fail
          first | go_end0 | refine bodyPost_ret (results_none rfl _ _ _) rfl ?_
          exact .inl ⟨q, out', h1, rfl, o', h3, h4⟩
        · exact ⟨rfl, .inr ⟨h1, rfl, o', h3⟩⟩
      · have hb1 : ((k : Int) == 1) = false := by simp; omega
        by_cases h22 : k = 2
        · subst h22
          have FIN : Hid ((match ownLens s (p + 2) with | none => none | some (q, l, dl) => blk l dl s (8 * s.size + 1 - q) q out) = r) := unhide HB
          go_wp2_with fail
          refine (powncodes_walk _ R A s (p + 2) hR1 hT1 ⟨h9.2.1, h9.2.2.1⟩).mono ?_
          rintro e w2 (⟨q, l, dl, a1, a2, s1, s2, hl, rfl, hc1, hc2, hS1, hS2, hR2, hF2⟩ | ⟨hl, rfl, hF2⟩)
          · have hU2 := hU1.read hR2 hF2
            have hf2 := hf1.trans (Fu.of_fp (U := U) (M := M) o hF2)
            have hT2 := hT1.kept hF2 h9.2.1 h9.2.2.1 hR1.ltR
            have hS1u := hS1.toU (U := U) (R := R) (A := A) (M := M) (o := o) ⟨by omega, by omega, by omega, by omega⟩ (fun k e => (hU1.own k e).2)
            have hS2u := hS2.toU (U := U) (R := R) (A := A) (M := M) (o := o) ⟨by omega, by omega, by omega, by omega⟩ (fun k e => (hU1.own k e).2)
            have FIN2 : Hid (blk l dl s (8 * s.size + 1 - q) q out = r) := by have := unhide FIN; rw [hl] at this; exact this
            clear hl FIN
            go_wp2_with fail
            refine (psigns_walk _ U R A M b0 s q o out a1 a2 l dl s1 s2 hU2 hc1 hc2 hS1u hS2u hT2 h9 hb9).mono ?_
            intro e w3 hq
            have hq2 := hq.after hf2
            rw [unhide FIN2] at hq2
            rcases hq2 with ⟨q, out', h1, rfl, o', h3, h4⟩ | ⟨h1, rfl, o', h3⟩
            · go_wp2_with fail
              first | go_end0 | refine bodyPost_ret (results_none rfl _ _ _) rfl ?_
              exact .inl ⟨q, out', h1, rfl, o', h3, h4⟩
            · exact ⟨rfl, .inr ⟨h1, rfl, o', h3⟩⟩
          · have e : r = none := by have := unhide FIN; rw [hl] at this; exact this.symm
            exact ⟨rfl, .inr ⟨e, rfl, o, hf1.trans (Fu.of_fp o hF2)⟩⟩
        · have hb2 : ((k : Int) == 2) = false := by simp; omega
          have e : r = none := by have := unhide HB; unfold block at this; rw [if_neg h0, if_neg h1, if_neg h22] at this; exact this.symm
          have E := hide e
          clear e
          have c4 := hR1.c4
          have c5 := hR1.c5
          go_wp2_with fail
          exact ⟨rfl, .inr ⟨unhide E, rfl, o, hf1⟩⟩
  · refine (number_no _ R A s p 2 _ rfl h.rd (by omega) h2).mono ?_
    rintro e w1 ⟨rfl, hF1⟩
    have e : r = none := by have := unhide HR; unfold blockP at this; rw [if_neg h2] at this; exact this.symm
    exact ⟨rfl, .inr ⟨e, rfl, o, Fu.of_fp o hF1⟩⟩
end Go.Proofs.YtgffljllfenhkaaDoor
