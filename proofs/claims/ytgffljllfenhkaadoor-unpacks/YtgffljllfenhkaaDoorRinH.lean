import Derived.Test.YtgffljllfenhkaaDoorRinG
namespace Go.Proofs.YtgffljllfenhkaaDoor
open Go.RowKit

theorem pput_yes (w : World) (U R A M b0 : Nat) (s : ByteArray) (p : Nat) (o : Value) (out : List UInt8) (c : Int) (h : Up w U R A M b0 s p o out) (hc : 0 ≤ c ∧ c < 256) (hf : out.length < 2000) :
    Calls Tryd.prog 39 #[.pointer (some ⟨U, 0, none⟩), .int .u8 c] w fun e w' => e = .returned (.tuple #[]) ∧ ∃ o', Up w' U R A M b0 s p o' (out ++ [UInt8.ofNat c.toNat]) ∧ Fu U R A M o w o' w' := by
  refine (pput_any w U R A M b0 s p o out c h hc).mono ?_
  rw [if_pos hf]
  rintro e w' (⟨out', he, rfl, o', hU, hF⟩ | ⟨he, _⟩)
  · cases he; exact ⟨rfl, o', hU, hF⟩
  · cases he
theorem pput_no (w : World) (U R A M b0 : Nat) (s : ByteArray) (p : Nat) (o : Value) (out : List UInt8) (c : Int) (h : Up w U R A M b0 s p o out) (hc : 0 ≤ c ∧ c < 256) (hf : ¬ out.length < 2000) :
    Calls Tryd.prog 39 #[.pointer (some ⟨U, 0, none⟩), .int .u8 c] w fun e w' => e = .panicked thrown ∧ ∃ o', Fu U R A M o w o' w' := by
  refine (pput_any w U R A M b0 s p o out c h hc).mono ?_
  rw [if_neg hf]
  rintro e w' (⟨out', he, _⟩ | ⟨_, rfl, o', hF⟩)
  · cases he
  · exact ⟨rfl, o', hF⟩

set_option maxHeartbeats 4000000 in
set_option maxRecDepth 100000 in
theorem copyBack_any (w : World) (U R A M b0 : Nat) (s : ByteArray) (p n back : Nat) (o : Value) (out : List UInt8) (h : Up w U R A M b0 s p o out) (hn : n ≤ 400) (hb1 : 1 ≤ back) (hb2 : back ≤ 100000) :
    Calls Tryd.prog 42 #[.pointer (some ⟨U, 0, none⟩), .int .i64 (n : Int), .int .i64 (back : Int)] w (PutQ w U R A M b0 s p o (if back ≤ out.length then copyN back n out else none)) := by
  have c1 := h.cu1
  have c0 := h.cu0
  obtain ⟨ao, cp, ho⟩ := h.row.shape
  rw [ho] at c1
  have HO := hide ho
  clear ho
  by_cases hbk : back ≤ out.length
  · rw [if_pos hbk]
    have hd : decide ((back : Int) ≤ (out.length : Int)) = true := by simp; omega
    go_enter Tryd.func42, Tryd.ntmps42
    go_wp2_with fail
    go_cut [] (fun wx => wx = w.drew)
    case first =>
      go_region_with (go_at_call 23; refine (demand_ok _).mono ?_; rintro e w1 ⟨rfl, rfl⟩)
      all_goals
        go_wp2_with fail
        go_meet
        case rel => rfl
    case rest =>
      subst hcut
      go_wp2_with fail
      go_loopw [19] (fun iv wr => ∃ (i : Nat) (outi : List UInt8) (oi : Value), iv = .int .i64 (i : Int) ∧ i ≤ n ∧ Up wr U R A M b0 s p oi outi ∧ Fu U R A M o w oi wr ∧ back ≤ outi.length ∧ copyN back (n - i) outi = copyN back n out)
        (fun iv _ => n - (intOf iv).toNat)
      case atStart => exact ⟨0, out, o, rfl, by omega, h.drew, Fu.drew U R A M o w, hbk, rfl⟩
      case round =>
        clear c1 HO hd hbk
        obtain ⟨i, outi, oi, rfl, hi, hU, hF, hbk, hE⟩ := hrel
        have HE := hide hE
        clear hE
        by_cases hlt : i < n
        · have c1 := hU.cu1
          obtain ⟨g, cpi, ho, hcell⟩ := hU.row.cellAt (j := outi.length - back) (by omega)
          rw [ho] at c1
          have HO := hide ho
          clear ho
          have hln := hU.hl
          obtain ⟨bt, hbt⟩ : ∃ bt : UInt8, outi.getD (outi.length - back) 0 = bt := ⟨_, rfl⟩
          rw [hbt] at hcell
          unfold byteV at hcell
          have HBT := hide hbt
          clear hbt
          obtain ⟨j, hj⟩ : ∃ j : Nat, outi.length - back = j := ⟨_, rfl⟩
          rw [hj] at hcell HBT
          have hix : (outi.length : Int) - (back : Int) = (j : Int) := by omega
          have hwr : IntKind.i64.wrap ((outi.length : Int) - (back : Int)) = (j : Int) := by rw [hix]; exact wraps_i64 _ (by omega) (by omega)
          have hidx : j < outi.length := by omega
          have hidx' : (j : Int) < (outi.length : Int) := by omega
          have HJ := hide hj
          have HBK := hide hbk
          have hbtl := UInt8.toNat_lt bt
          have hstep : copyN back (n - i) outi = if outi.length < 2000 then copyN back (n - (i + 1)) (outi ++ [bt]) else none := by
            rw [show n - i = (n - (i + 1)) + 1 by omega, copyN_succ, unhide HJ, unhide HBT]
          have HST := hide (hstep.symm.trans (unhide HE))
          clear hj hix hbk hstep HE
          by_cases hfull : outi.length < 2000
          · have HE2 : Hid (copyN back (n - (i + 1)) (outi ++ [bt]) = copyN back n out) := by have := unhide HST; rwa [if_pos hfull] at this
            clear HST
            go_wp2_with fail
            go_region_with (go_at_call 39; refine (pput_yes _ U R A M b0 s p oi outi (bt.toNat : Int) (by exact hU.drew) (by omega) hfull).mono ?_; rintro e w4 ⟨rfl, o4, h4, F4⟩)
            all_goals
              have h4' : Up w4 U R A M b0 s p o4 (outi ++ [bt]) := by simpa using h4
              go_wp2_with fail
              go_roundw
              case rel => exact ⟨i + 1, outi ++ [bt], o4, by go_num, by omega, h4', hF.trans ((Fu.drew U R A M oi wr).trans F4), by have := unhide HBK; simp; omega, unhide HE2⟩
              case measure => simp [intOf]; omega
          · have FIN : Hid (copyN back n out = none) := by have := unhide HST; rw [if_neg hfull] at this; exact this.symm
            clear HST
            go_wp2_with fail
            go_region_dies
            all_goals
              refine (pput_no _ U R A M b0 s p oi outi (bt.toNat : Int) (by exact hU.drew) (by omega) hfull).mono ?_
              rintro e w4 ⟨rfl, o4, F4⟩
              exact ⟨rfl, .inr ⟨FIN, rfl, o4, hF.trans ((Fu.drew U R A M oi wr).trans F4)⟩⟩
        · have FIN : Hid (copyN back n out = some outi) := by
            have := unhide HE
            rw [show n - i = 0 by omega] at this; exact this.symm
          clear HE
          go_wp2_with fail
          first | go_end0 | refine bodyPost_ret (results_none rfl _ _ _) rfl ?_
          exact .inl ⟨outi, FIN, rfl, oi, hU, hF⟩
  · rw [if_neg hbk]
    have hd : decide ((back : Int) ≤ (out.length : Int)) = false := by simp; omega
    go_enter Tryd.func42, Tryd.ntmps42
    go_wp2_with fail
    go_region_dies
    all_goals
      refine (demand_no h.rd.drew).mono ?_
      rintro e w1 ⟨rfl, rfl⟩
      exact ⟨rfl, .inr ⟨rfl, rfl, o, Fu.drew U R A M o w⟩⟩
end Go.Proofs.YtgffljllfenhkaaDoor
