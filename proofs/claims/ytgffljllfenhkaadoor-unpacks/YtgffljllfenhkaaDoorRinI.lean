import Derived.Test.YtgffljllfenhkaaDoorRinH
namespace Go.Proofs.YtgffljllfenhkaaDoor
open Go.RowKit

theorem nat_xor_ffff (x : Nat) (h : x < 65536) : x ^^^ 65535 = 65535 - x := by
  have h1 : (BitVec.ofNat 16 x ^^^ BitVec.allOnes 16).toNat = x ^^^ 65535 := by
    rw [BitVec.toNat_xor, BitVec.toNat_ofNat, BitVec.toNat_allOnes, Nat.mod_eq_of_lt h]
  rw [BitVec.xor_allOnes, BitVec.toNat_not, BitVec.toNat_ofNat, Nat.mod_eq_of_lt h] at h1
  exact h1.symm
theorem xor_ffff (x : Nat) (h : x < 65536) : bits .xor .i64 (x : Int) 65535 = ((65535 - x : Nat) : Int) := by
  have e : (BitVec.ofInt 64 (x : Int) ^^^ BitVec.ofInt 64 65535).toNat = x ^^^ 65535 := by
    rw [BitVec.toNat_xor]
    have h1 : (BitVec.ofInt 64 (x : Int)).toNat = x := by rw [BitVec.ofInt_natCast, BitVec.toNat_ofNat]; exact Nat.mod_eq_of_lt (by omega)
    have h2 : (BitVec.ofInt 64 65535).toNat = 65535 := by decide
    rw [h1, h2]
  show IntKind.i64.wrap ((BitVec.ofInt 64 (x : Int) ^^^ BitVec.ofInt 64 65535).toNat : Nat) = _
  rw [e, nat_xor_ffff x h]
  exact wraps_i64 _ (by omega) (by omega)

set_option maxHeartbeats 400000 in
theorem skip_any (w : World) (R A : Nat) (s : ByteArray) (p : Nat) (hR : Rd w R A s p) :
    Calls Tryd.prog 38 #[.pointer (some ⟨R, 0, none⟩)] w fun e w' => e = .returned (.tuple #[]) ∧ Rd w' R A s ((p + 7) / 8 * 8) ∧ Fp R A w w' := by
  have c1 := hR.c1
  have hp := hR.hp
  have hs := hR.hs
  go_enter Tryd.func38, Tryd.ntmps38
  go_wp2_with fail
  refine (number_yes w R A s p ((8 - p % 8) % 8) _ (by omega) hR (by omega) (by omega)).mono ?_
  rintro e w1 ⟨rfl, hR1, hF1⟩
  rw [show p + (8 - p % 8) % 8 = (p + 7) / 8 * 8 by omega] at hR1
  go_wp2_with fail
  first | go_end0 | refine bodyPost_ret (results_none rfl _ _ _) rfl ?_
  exact ⟨rfl, hR1, hF1⟩

/-- What a step that reads and puts comes to. -/
def StQ (w : World) (U R A M b0 : Nat) (s : ByteArray) (o : Value) (r : Option (Nat × List UInt8)) (e : Ending) (w' : World) : Prop :=
  (∃ q out', r = some (q, out') ∧ e = .returned (.tuple #[]) ∧ ∃ o', Up w' U R A M b0 s q o' out' ∧ Fu U R A M o w o' w') ∨ (r = none ∧ e = .panicked thrown ∧ ∃ o', Fu U R A M o w o' w')

set_option maxHeartbeats 4000000 in
set_option maxRecDepth 100000 in
theorem pstored_any (w : World) (U R A M b0 : Nat) (s : ByteArray) (p : Nat) (o : Value) (out : List UInt8) (h : Up w U R A M b0 s p o out) :
    Calls Tryd.prog 33 #[.pointer (some ⟨U, 0, none⟩)] w (StQ w U R A M b0 s o (stored s p out)) := by
  have c0 := h.cu0
  have hp := h.rd.hp
  have hs := h.rd.hs
  go_enter Tryd.func33, Tryd.ntmps33
  go_wp2_with fail
  refine (skip_any w R A s p h.rd).mono ?_
  rintro e w1 ⟨rfl, hR1, hF1⟩
  have h1 := h.read hR1 hF1
  have c01 := h1.cu0
  obtain ⟨p1, hp1⟩ : ∃ p1, (p + 7) / 8 * 8 = p1 := ⟨_, rfl⟩
  have SPEC : Hid (stored s p out = if p1 + 32 ≤ 8 * s.size then (if numOf s p1 16 + numOf s (p1 + 16) 16 = 65535 then storeN s (numOf s p1 16) (p1 + 32) out else none) else none) := by
    unfold stored; rw [hp1]; exact rfl
  rw [hp1] at h1 hR1
  clear hp1 c0
  go_wp2_with fail
  by_cases h16 : p1 + 16 ≤ 8 * s.size
  · refine (number_yes w1 R A s p1 16 _ rfl hR1 (by omega) h16).mono ?_
    rintro e w2 ⟨rfl, hR2, hF2⟩
    have h2 := h1.read hR2 hF2
    have c02 := h2.cu0
    clear c01
    go_wp2_with fail
    by_cases h32 : p1 + 16 + 16 ≤ 8 * s.size
    · have hx := numOf_lt s p1 16
      have hy := numOf_lt s (p1 + 16) 16
      obtain ⟨x, hxe⟩ : ∃ x, numOf s p1 16 = x := ⟨_, rfl⟩
      obtain ⟨y, hye⟩ : ∃ y, numOf s (p1 + 16) 16 = y := ⟨_, rfl⟩
      have NY : ∀ W, Rd W R A s (p1 + 16) → Calls Tryd.prog 21 #[.pointer (some ⟨R, 0, none⟩), .int .i64 16] W fun e w' => e = .returned (.int .i64 (y : Int)) ∧ Rd w' R A s (p1 + 32) ∧ Fp R A W w' := fun W hW => by
        rw [← hye]; exact number_yes W R A s (p1 + 16) 16 _ rfl hW (by omega) h32
      rw [hxe] at SPEC hx ⊢
      rw [hye] at SPEC hy
      have hx6 : x < 65536 := by simpa using hx
      have hy6 : y < 65536 := by simpa using hy
      have hxor := xor_ffff x hx6
      obtain ⟨z, hz⟩ : ∃ z, 65535 - x = z := ⟨_, rfl⟩
      rw [hz] at hxor
      have HZ := hide hz
      clear hxe hye hx hy hz
      by_cases hxy : x + y = 65535
      · have hyz : ((y : Int) == (z : Int)) = true := by have := unhide HZ; rw [beq_iff_eq]; omega
        have SP2 : Hid (stored s p out = storeN s x (p1 + 32) out) := by refine SPEC.out.trans ?_; rw [if_pos (by omega), if_pos hxy]
        have HXY := hide hxy
        clear SPEC hxy
        go_cut [] (fun wx => Up wx U R A M b0 s (p1 + 32) o out ∧ Fp R A w2 wx)
        case first =>
          go_region_with (first | (go_at_call 21; refine (NY _ (by exact hR2.drew)).mono ?_; rintro e w3 ⟨rfl, hR3, hF3⟩; have c03 := (h2.drew.read hR3 hF3).cu0) | (go_at_call 23; refine (demand_ok _).mono ?_; rintro e w4 ⟨rfl, rfl⟩))
          all_goals
            go_wp2_with fail
            go_meet
            case rel => exact ⟨h2.drew.read hR3 hF3, (Fp.drew R A w2).trans hF3⟩
        case rest =>
          obtain ⟨h3, hF3⟩ := hcut
          have hF03 : Fu U R A M o w o wc := Fu.of_fp o ((hF1.trans hF2).trans hF3)
          clear c02 hyz
          go_wp2_with fail
          go_loopw [27] (fun iv wr => ∃ (i q : Nat) (outi : List UInt8) (oi : Value), iv = .int .i64 (i : Int) ∧ i ≤ x ∧ Up wr U R A M b0 s q oi outi ∧ Fu U R A M o w oi wr ∧ storeN s (x - i) q outi = stored s p out)
            (fun iv _ => x - (intOf iv).toNat)
          case atStart => exact ⟨0, p1 + 32, out, o, rfl, by omega, h3, hF03, SP2.out.symm⟩
          case round =>
            clear h3 hF03 SP2
            obtain ⟨i, q, outi, oi, rfl, hi, hU, hF, hE⟩ := hrel
            have HE := hide hE
            clear hE
            have c0 := hU.cu0
            by_cases hlt : i < x
            · have HS : Hid ((if q + 8 ≤ 8 * s.size then (if outi.length < 2000 then storeN s (x - (i + 1)) (q + 8) (outi ++ [UInt8.ofNat (numOf s q 8)]) else none) else none) = stored s p out) := by
                rw [← storeN_succ, show x - (i + 1) + 1 = x - i by omega]; exact unhide HE
              clear HE
              go_wp2_with fail
              by_cases h8 : q + 8 ≤ 8 * s.size
              · refine (number_yes wr R A s q 8 _ rfl hU.rd (by omega) h8).mono ?_
                rintro e w5 ⟨rfl, hR5, hF5⟩
                have h5 := hU.read hR5 hF5
                have hc := numOf_lt s q 8
                obtain ⟨c, hce⟩ : ∃ c, numOf s q 8 = c := ⟨_, rfl⟩
                rw [hce] at HS hc ⊢
                have hc2 : c < 256 := by simpa using hc
                clear hce hc
                have HS2 : Hid ((if outi.length < 2000 then storeN s (x - (i + 1)) (q + 8) (outi ++ [UInt8.ofNat c]) else none) = stored s p out) := by have := unhide HS; rwa [if_pos h8] at this
                clear HS
                go_wp2_with fail
                by_cases hfull : outi.length < 2000
                · have HS3 : Hid (storeN s (x - (i + 1)) (q + 8) (outi ++ [UInt8.ofNat c]) = stored s p out) := by have := unhide HS2; rwa [if_pos hfull] at this
                  clear HS2
                  refine (pput_yes _ U R A M b0 s (q + 8) oi outi _ h5 (by omega) hfull).mono ?_
                  rintro e w6 ⟨rfl, o6, h6, F6⟩
                  have h6' : Up w6 U R A M b0 s (q + 8) o6 (outi ++ [UInt8.ofNat c]) := by simpa using h6
                  go_wp2_with fail
                  go_roundw
                  case rel => exact ⟨i + 1, q + 8, _, o6, by go_num, by omega, h6', (hF.trans (Fu.of_fp oi hF5)).trans F6, unhide HS3⟩
                  case measure => simp [intOf]; omega
                · have FIN : Hid (stored s p out = none) := by have := unhide HS2; rw [if_neg hfull] at this; exact this.symm
                  refine (pput_no _ U R A M b0 s (q + 8) oi outi _ h5 (by omega) hfull).mono ?_
                  rintro e w6 ⟨rfl, o6, F6⟩
                  exact ⟨rfl, .inr ⟨FIN, rfl, o6, (hF.trans (Fu.of_fp oi hF5)).trans F6⟩⟩
              · have FIN : Hid (stored s p out = none) := by have := unhide HS; rw [if_neg h8] at this; exact this.symm
                refine (number_no wr R A s q 8 _ rfl hU.rd (by omega) h8).mono ?_
                rintro e w5 ⟨rfl, hF5⟩
                exact ⟨rfl, .inr ⟨FIN, rfl, oi, hF.trans (Fu.of_fp oi hF5)⟩⟩
            · have FIN : Hid (stored s p out = some (q, outi)) := by
                have := unhide HE
                rw [show x - i = 0 by omega] at this; exact this.symm
              clear HE
              go_wp2_with fail
              first | go_end0 | refine bodyPost_ret (results_none rfl _ _ _) rfl ?_
              exact .inl ⟨q, outi, FIN, rfl, oi, hU, hF⟩
      · have hyz : ((y : Int) == (z : Int)) = false := by have := unhide HZ; rw [beq_eq_false_iff_ne]; omega
        have FIN : Hid (stored s p out = none) := by refine SPEC.out.trans ?_; rw [if_pos (by omega), if_neg hxy]
        clear SPEC
        go_region_with (first | (go_at_call 21; refine (NY _ (by exact hR2.drew)).mono ?_; rintro e w3 ⟨rfl, hR3, hF3⟩; have c03 := (h2.drew.read hR3 hF3).cu0) | (go_at_call 23; refine (demand_no hR3).mono ?_; rintro e w4 ⟨rfl, rfl⟩; refine dead_end ⟨#[], []⟩ w (show _ from ⟨rfl, .inr ⟨FIN, rfl, o, Fu.of_fp o ((hF1.trans hF2).trans ((Fp.drew R A w2).trans hF3))⟩⟩) ?_))
        all_goals trivial
    · have FIN : Hid (stored s p out = none) := by refine SPEC.out.trans ?_; rw [if_neg (by omega)]
      go_region_dies
      all_goals
        refine (number_no _ R A s (p1 + 16) 16 _ rfl (by exact hR2.drew) (by omega) h32).mono ?_
        rintro e w3 ⟨rfl, hF3⟩
        exact ⟨rfl, .inr ⟨FIN, rfl, o, Fu.of_fp o ((hF1.trans hF2).trans ((Fp.drew R A w2).trans hF3))⟩⟩
  · have FIN : Hid (stored s p out = none) := by refine SPEC.out.trans ?_; rw [if_neg (by omega)]
    refine (number_no w1 R A s p1 16 _ rfl hR1 (by omega) h16).mono ?_
    rintro e w2 ⟨rfl, hF2⟩
    exact ⟨rfl, .inr ⟨FIN, rfl, o, Fu.of_fp o (hF1.trans hF2)⟩⟩
end Go.Proofs.YtgffljllfenhkaaDoor
