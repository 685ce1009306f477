import Derived.Test.YtgffljllfenhkaaDoorRefJ
namespace Go.Proofs.YtgffljllfenhkaaDoor
open Go.RowKit

set_option maxHeartbeats 12000000 in
set_option maxRecDepth 100000 in
theorem copied_walk (w : World) (B : Nat) (s : ByteArray) (p k : Nat) (o : Value) (out : List UInt8) (arr : Array Value) (dl : List Nat) (sg : Value) (h : Rf w B s o p false out) (hs : s.size ≤ 9000)
    (hc : CodeA arr dl sg) (hsg : Sg w B o sg dl) (hT : RTabs w) (hB20 : 9 ≤ B) (hk : k < 29) :
    Calls Tryd.prog 27 #[.pointer (some ⟨B, 0, none⟩), .int .i64 ((k : Int) + 257), .agg arr] w (CopQ w B s o (copied dl s k p out)) := by
  have h1 := h.alloc (.cells arr 46)
  have F1 := Fr.alloc B o w (.cells arr 46)
  have hT1 := hT.kept F1 hB20 h.bt.lt h.own
  have cb := hT1.base k (by simpa [baseT] using hk)
  have ce := hT1.extra k (by simpa [extraT] using hk)
  have hle := extra_le k
  have hlb := base_le k
  have hd : decide ((29 : Int) ≤ (k : Int)) = false := by simp; omega
  have hd1 : ((k : Int)) < 29 := by omega
  have hX0 : (w.alloc (.cells arr 46)).heap[w.heap.size]? = some (.cells arr 46 (0, 0)) := World.alloc_heap_new w _
  have hSg1 := hsg.kept F1
  have hlt := h.bt.lt
  go_enter Tryd.func27, Tryd.ntmps27
  go_wp2_with fail
  obtain ⟨W0, hW0⟩ : ∃ W0, w.alloc (.cells arr 46) = W0 := ⟨_, rfl⟩
  rw [hW0] at h1 F1 hT1 cb ce hX0 hSg1 ⊢
  clear hW0
  go_cut [7] (fun nv wx => ∃ (x q1 : Nat) (b1 : Bool), nv = .int .i64 ((nth baseT k : Int) + (x : Int)) ∧ Rf wx B s o q1 b1 out ∧ Fr B o W0 o wx ∧ wx.heap[w.heap.size]? = some (.cells arr 46 (0, 0)) ∧ x < 32 ∧
      b1 = (false || over s p (nth extraT k)) ∧ (b1 = false → x = numOf s p (nth extraT k) ∧ q1 = p + nth extraT k))
  case first =>
    go_region_with (go_at_call 12; refine (bits_rf _ B s p (nth extraT k) (nth extraT k : Int) false o out (by exact h1.drew) hs rfl (by omega)).mono ?_; rintro e w1 ⟨x, q1, b1, rfl, hR1, g1, hx, hb1, hv1⟩; have hT2 := hT1.kept ((Fr.drew B o W0).trans (Fr.of_grown o g1)) hB20 (by exact h1.bt.lt) h1.own; have cb2 := hT2.base k (by simpa [baseT] using hk); have hxx : x < 32 := Nat.lt_of_lt_of_le hx (Nat.pow_le_pow_right (n := 2) (by decide) hle))
    all_goals
      go_wp2_with fail
      go_meet
      case rel =>
        refine ⟨x, q1, b1, congrArg (Value.int .i64) (wraps_i64 _ (by omega) (by omega)), hR1, (Fr.drew B o W0).trans (Fr.of_grown o g1), ?_, hxx, hb1, hv1⟩
        rw [g1.block w.heap.size (Array.getElem?_eq_some_iff.1 hX0).1 (by simp; omega)]; exact hX0
  case rest =>
    obtain ⟨x, q1, b1, rfl, hR, hF, hX, hx, hb1, hv1⟩ := hcut
    have H1 : Hid (b1 = (false || over s p (nth extraT k))) := hb1
    have V1 : Hid (b1 = false → x = numOf s p (nth extraT k) ∧ q1 = p + nth extraT k) := hv1
    clear hb1 hv1 cb ce hX0 h1
    have hS2 := hSg1.kept hF
    go_wp2_with (refine load_whole rfl 46 _ rfl w.heap.size rfl 46 arr (0, 0) hX Tryd.aggCode (Tryd.infoCode arr hc.size) ?_)
    refine (sign_any _ B s q1 b1 o out arr dl sg hR hs hc hS2).mono ?_
    rintro e w2 ⟨d, q2, b2, rfl, hR2, hF2, hE2, hz⟩
    have E2 : Hid ((if b2 then none else some (d, q2)) = (if b1 then none else decode dl s q1)) := hE2
    clear hE2
    have c2 := hR2.bt.c2
    have f2 := hR2.bt.fr 2
    have FT : Fr B o w o w2 := (F1.trans hF).trans hF2
    cases b2 with
    | true =>
      have FIN : Hid (copied dl s k p out = none) := copied_no (b2 := true) hk H1.out V1.out E2.out (by simp)
      clear H1 V1 E2
      go_wp2_with fail
      first | go_end0 | refine bodyPost_ret (results_none rfl _ _ _) rfl ?_
      exact ⟨rfl, o, q2, true, out, hR2.setBad, FT.trans (Fr.of_grown o (grownBy_setCell _ _ _ _)), FIN.out.symm⟩
    | false =>
      by_cases hd30 : d < 30
      · have hdd : (d : Int) < 30 := by omega
        have hdb : decide ((30 : Int) ≤ (d : Int)) = false := by simp; omega
        have hmore := more_eq d hd30
        have hT2 := hT1.kept (hF.trans hF2) hB20 (Nat.lt_of_lt_of_le hlt F1.size) h.own
        have cf := hT2.far d (by simpa [farT] using hd30)
        have hfl := far_le d
        have hfp := far_pos d hd30
        have hm16 : nth moreT d ≤ 13 := by rw [hmore]; split <;> omega
        have YES : Hid (∀ (y q3 : Nat) (b3 : Bool), b3 = (false || over s q2 (nth moreT d)) → (b3 = false → y = numOf s q2 (nth moreT d) ∧ q3 = q2 + nth moreT d) →
            copied dl s k p out = if b3 || decide (out.length < nth farT d + y) then none else (copyN (nth farT d + y) (nth baseT k + x) out).map (fun o => (q3, o))) :=
          fun y q3 b3 h3 v3 => copied_yes hk H1.out V1.out E2.out hd30 h3 v3
        clear H1 V1 E2 hS2 hSg1
        have hmm : ∃ mi : Int, mi = (nth moreT d : Int) ∧ ((4 ≤ d ∧ mi = (d : Int) / 2 - 1) ∨ (d < 4 ∧ mi = 0)) := by
          refine ⟨_, rfl, ?_⟩
          rw [hmore]; split <;> omega
        clear hmore
        obtain ⟨mi, hmi, hmc⟩ := hmm
        have HMI : Hid (mi = (nth moreT d : Int)) := hmi
        clear hmi
        rcases hmc with ⟨h4, hq⟩ | ⟨h4, hq⟩
        all_goals
          have HQ := hide hq
          clear hq
          go_wp2_with fail
          go_cut [10] (fun bv wx => ∃ (y q3 : Nat) (b3 : Bool), bv = .int .i64 ((nth farT d : Int) + (y : Int)) ∧ Rf wx B s o q3 b3 out ∧ Fr B o w2 o wx ∧ y < 8192 ∧
              b3 = (false || over s q2 (nth moreT d)) ∧ (b3 = false → y = numOf s q2 (nth moreT d) ∧ q3 = q2 + nth moreT d))
          case first =>
            go_region_with (go_at_call 12; refine (bits_rf _ B s q2 (nth moreT d) _ false o out (by exact hR2.drew) hs (by have h1 := HMI.out; have h2 := unhide HQ; omega) (by omega)).mono ?_; rintro e w3 ⟨y, q3, b3, rfl, hR3, g3, hy, hb3, hv3⟩; have hT3 := hT2.kept ((Fr.drew B o w2).trans (Fr.of_grown o g3)) hB20 (by exact hR2.bt.lt) hR2.own; have cf2 := hT3.far d (by simpa [farT] using hd30); have hyy : y < 8192 := Nat.lt_of_lt_of_le hy (Nat.pow_le_pow_right (n := 2) (by decide) hm16))
            all_goals
              go_wp2_with fail
              go_meet
              case rel =>
                exact ⟨y, q3, b3, congrArg (Value.int .i64) (wraps_i64 _ (by omega) (by omega)), hR3, (Fr.drew B o w2).trans (Fr.of_grown o g3), hyy, hb3, hv3⟩
          case rest =>
            obtain ⟨y, q3, b3, rfl, hR3, hF3, hyy, hb3, hv3⟩ := hcut
            have FIN : Hid (copied dl s k p out = cop (b3 || decide (out.length < nth farT d + y)) (nth farT d + y) (nth baseT k + x) q3 out) := (YES.out y q3 b3 hb3 hv3)
            clear YES hb3 hv3 HMI HQ cf hT2 c2 f2
            have c3 := hR3.bt.c3
            have c2 := hR3.bt.c2
            have f2 := hR3.bt.fr 2
            obtain ⟨ao, cp, ho⟩ := hR3.row.shape
            rw [ho] at c3
            have HO := hide ho
            clear ho
            have FT3 := FT.trans hF3
            by_cases hbk : out.length < nth farT d + y
            all_goals
              first
                | have hbk' : decide ((out.length : Int) < (nth farT d : Int) + (y : Int)) = true := by simp; omega
                | have hbk' : decide ((out.length : Int) < (nth farT d : Int) + (y : Int)) = false := by simp; omega
              go_wp2_with fail
              go_loopw [11] (fun iv wr => ∃ (i q : Nat) (bd : Bool) (outi : List UInt8) (oi : Value), iv = .int .i64 (i : Int) ∧ i ≤ nth baseT k + x ∧ Rf wr B s oi q bd outi ∧ Fr B o w oi wr ∧ (bd = false → nth farT d + y ≤ outi.length) ∧
                  cop bd (nth farT d + y) (nth baseT k + x - i) q outi = copied dl s k p out)
                (fun iv _ => nth baseT k + x - (intOf iv).toNat)
              case atStart =>
                first
                  | exact ⟨0, q3, true, out, o, rfl, by omega, hR3.setBad, FT3.trans (Fr.of_grown o (grownBy_setCell _ _ _ _)), by simp, by rw [FIN.out, show (b3 || decide (out.length < nth farT d + y)) = true by simp [hbk]]; rfl⟩
                  | exact ⟨0, q3, b3, out, o, rfl, by omega, hR3, FT3, fun _ => by omega, by rw [FIN.out, show (b3 || decide (out.length < nth farT d + y)) = b3 by simp; omega]; rfl⟩
              case round =>
                clear hR3 hF3 c3 c2 f2 HO FT3 FIN hbk hbk' hR2 FT hR hF
                obtain ⟨i, q, bd, outi, oi, rfl, hi, hRi, hFi, hbi, hEi⟩ := hrel
                have HE := hide hEi
                clear hEi
                have c2 := hRi.bt.c2
                by_cases hlt : i < nth baseT k + x
                · cases bd with
                  | true =>
                    have FIN : Hid (copied dl s k p out = none) := (unhide HE).symm.trans cop_bad
                    clear HE
                    go_wp2_with fail
                    first | go_end0 | refine bodyPost_ret (results_none rfl _ _ _) rfl ?_
                    exact ⟨rfl, oi, q, true, outi, hRi, hFi, FIN.out.symm⟩
                  | false =>
                    have hbb := hbi rfl
                    have HBB := hide hbb
                    clear hbi
                    obtain ⟨g, cp, ho, hcell⟩ := hRi.row.cellAt (j := outi.length - (nth farT d + y)) (by omega)
                    have c3 := hRi.bt.c3
                    rw [ho] at c3
                    have HO := hide ho
                    clear ho
                    obtain ⟨bt, hbt⟩ : ∃ bt : UInt8, outi.getD (outi.length - (nth farT d + y)) 0 = bt := ⟨_, rfl⟩
                    rw [hbt] at hcell
                    unfold byteV at hcell
                    have HBT := hide hbt
                    clear hbt
                    have hln := hRi.hl
                    obtain ⟨j, hj⟩ : ∃ j : Nat, outi.length - (nth farT d + y) = j := ⟨_, rfl⟩
                    rw [hj] at hcell HBT
                    have hix : (outi.length : Int) - ((nth farT d : Int) + (y : Int)) = (j : Int) := by omega
                    have hwr : IntKind.i64.wrap ((outi.length : Int) - ((nth farT d : Int) + (y : Int))) = (j : Int) := by rw [hix]; exact wraps_i64 _ (by omega) (by omega)
                    have hidx : j < outi.length := by omega
                    have hidx' : (j : Int) < (outi.length : Int) := by omega
                    have HJ := hide hj
                    clear hj hix hbb
                    go_wp2_with fail
                    go_region_with (go_at_call 25; refine (put_rf _ B s q (bt.toNat : Int) false oi outi (by exact hRi.drew) (by have := UInt8.toNat_lt bt; omega)).mono ?_; rintro e w4 ⟨rfl, o4, b4, out4, h4, F4, hb4, hv4⟩)
                    all_goals
                      have hE4 : cop b4 (nth farT d + y) (nth baseT k + x - (i + 1)) q out4 = copied dl s k p out := (cop_step hlt hb4 (fun e => by rw [hv4 e, unhide HJ, unhide HBT]; simp)).trans (unhide HE)
                      have hb4' : b4 = false → nth farT d + y ≤ out4.length := fun e => by have := unhide HBB; rw [hv4 e]; simp; omega
                      have HE4 := hide hE4
                      have HB4 := hide hb4'
                      clear hE4 hb4' hb4 hv4 HE
                      go_wp2_with fail
                      go_roundw
                      case rel => exact ⟨i + 1, q, b4, out4, o4, by go_num, by omega, h4, hFi.trans ((Fr.drew B oi wr).trans F4), unhide HB4, unhide HE4⟩
                      case measure => simp [intOf]; omega
                · have e : nth baseT k + x - i = 0 := by omega
                  have FIN : Hid (copied dl s k p out = st bd q outi) := by
                    have := unhide HE
                    rw [e, cop_end] at this
                    exact this.symm
                  clear HE e
                  go_wp2_with fail
                  first | go_end0 | refine bodyPost_ret (results_none rfl _ _ _) rfl ?_
                  exact ⟨rfl, oi, q, bd, outi, hRi, hFi, FIN.out.symm⟩
      · have hdd : (30 : Int) ≤ (d : Int) := by omega
        have hdb : decide ((30 : Int) ≤ (d : Int)) = true := by simp; omega
        have FIN : Hid (copied dl s k p out = none) := copied_no (b2 := false) hk H1.out V1.out E2.out (fun _ => hd30)
        clear H1 V1 E2
        go_wp2_with fail
        first | go_end0 | refine bodyPost_ret (results_none rfl _ _ _) rfl ?_
        exact ⟨rfl, o, q2, true, out, hR2.setBad, FT.trans (Fr.of_grown o (grownBy_setCell _ _ _ _)), FIN.out.symm⟩
end Go.Proofs.YtgffljllfenhkaaDoor
