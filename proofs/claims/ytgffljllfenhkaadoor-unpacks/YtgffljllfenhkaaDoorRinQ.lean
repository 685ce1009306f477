import Derived.Test.YtgffljllfenhkaaDoorRinQa
import Derived.Deep.CutRange
namespace Go.Proofs.YtgffljllfenhkaaDoor
open Go.RowKit

attribute [local go_sem ↓] load_aside Go.wp_at_zero Go.wp_at_succ

set_option maxHeartbeats 4000000 in
set_option maxRecDepth 100000 in
theorem psigns_walk (w : World) (U R A M b0 : Nat) (s : ByteArray) (p : Nat) (o : Value) (out : List UInt8) (a1 a2 : Array Value) (l dl : List Nat) (s1 s2 : Value) (h : Up w U R A M b0 s p o out)
    (hc1 : CodeP a1 l s1) (hc2 : CodeP a2 dl s2) (hS1 : SpU w U R A M o s1 l) (hS2 : SpU w U R A M o s2 dl) (hT : PTabs w) (h9 : 9 ≤ U ∧ 9 ≤ R ∧ 9 ≤ A ∧ 9 ≤ M) (hb9 : 9 ≤ b0) :
    Calls Tryd.prog 34 #[.pointer (some ⟨U, 0, none⟩), .agg (a1 ++ a2)] w (StQ w U R A M b0 s o (blk l dl s (8 * s.size + 1 - p) p out)) := by
  have h34 : (a1 ++ a2).size = 34 := by rw [Array.size_append, hc1.size, hc2.size]
  obtain ⟨arr, harr⟩ : ∃ arr, a1 ++ a2 = arr := ⟨_, rfl⟩
  rw [harr] at h34 ⊢
  have HARR := hide harr
  clear harr
  have h1 := h.alloc (.cells arr 71)
  have F1 := Fu.alloc U R A M o w (.cells arr 71)
  have hT1 := hT.keptU F1 h9 h.ltU (fun k e => by have := (h.own k e).1; omega)
  have hX : (w.alloc (.cells arr 71)).heap[w.heap.size]? = some (.cells arr 71 (0, 0)) := World.alloc_heap_new w _
  have hS1a := hS1.kept F1
  have hS2a := hS2.kept F1
  have hltU := h.ltU
  have hltR := h.rd.ltR
  have hltA := h.rd.ltA
  have hltM := h.ltM
  go_enter Tryd.func34, Tryd.ntmps34
  go_wp2_with fail
  obtain ⟨r, hr⟩ : ∃ r, blk l dl s (8 * s.size + 1 - p) p out = r := ⟨_, rfl⟩
  obtain ⟨W0, hW0⟩ : ∃ W0, w.alloc (.cells arr 71) = W0 := ⟨_, rfl⟩
  have hs0 : W0.heap.size = w.heap.size + 1 := by rw [← hW0]; simp
  rw [hW0] at h1 F1 hT1 hX hS1a hS2a ⊢
  rw [hr]
  have HR := hide hr
  obtain ⟨B, hB⟩ : ∃ B, w.heap.size = B := ⟨_, rfl⟩
  rw [hB] at hX ⊢
  have hoB : o.ownBlock ≠ some B := fun e => by have := (h.own B e).2; omega
  have hu1 := Tryd.underlying69
  have hi1 : (Tryd.prog.info? 69).map (·.size) = some a1.toList.length := by rw [Array.length_toList, hc1.size]; kernel_rfl
  have hi2 : (Tryd.prog.info? 69).map (·.size) = some a2.toList.length := by rw [Array.length_toList, hc2.size]; kernel_rfl
  clear hW0 hr
  go_loopw [4] (fun _ wr => ∃ (q f : Nat) (outi : List UInt8) (oi : Value), 8 * s.size + 1 ≤ f + q ∧ Up wr U R A M b0 s q oi outi ∧ Fu U R A M o W0 oi wr ∧ Hid (blk l dl s f q outi = r)) (fun _ wr => measP R (8 * s.size + 1) wr)
  case atStart => exact ⟨p, _, out, o, by omega, h1, Fu.refl _ _ _ _ _ _, HR⟩
  case round =>
    obtain ⟨q, f, outi, oi, hf, hU, hF, HE⟩ := hrel
    have hq := hU.rd.hp
    obtain ⟨f, rfl⟩ : ∃ f', f = f' + 1 := ⟨f - 1, by omega⟩
    have c0 := hU.cu0
    have hXr := (hF.block B (by omega) (by omega) (by omega) (by omega) (by omega) hoB).trans hX
    have hFw := F1.trans hF
    have hSi1 := hS1a.kept hF
    have hSi2 := hS2a.kept hF
    have hTi := hT1.keptU hF h9 (by omega) (fun k e => by have := (h.own k e).1; omega)
    have hm0 := hide (measP_of hU.rd (8 * s.size + 1))
    have hra : wr.rangeAt B 0 a1.toList := range_one (by rw [unhide HARR]; exact hXr)
    clear hX hS1a hS2a hT1 h1
    go_wp2_with fail
    go_cut [4] from 6 to 45 (fun xv wx => ∃ x q1 : Nat, xv = .int .i64 (x : Int) ∧ Hid (decode l s q = some (x, q1)) ∧ Rd wx R A s q1 ∧ Fp R A wr wx)
    case first =>
      go_region_with (first | (go_at_call 40; refine (psign_any _ R A s q a1 l s1 hU.rd.drew hc1 hSi1.sp).mono ?_; rintro e w2 (⟨x, q1, hx, rfl, hR2, hF2⟩ | ⟨hx, rfl, hF2⟩); rotate_left; exact ⟨rfl, .inr ⟨(unhide HE).symm.trans (blk_none hx), rfl, oi, hFw.trans ((Fu.drew U R A M oi wr).trans (Fu.of_fp oi hF2))⟩⟩) | (refine LoadWp.row _ rfl B 0 a1 rfl hra hc1.size ?_))
      all_goals
        go_wp2_with fail
        go_meet
        case rel => exact ⟨x, q1, rfl, hx, hR2, (Fp.drew R A wr).trans hF2⟩
    case rest =>
      obtain ⟨x, q1, rfl, hx, hR2, hF2⟩ := hcut
      obtain ⟨w2, hw2⟩ : ∃ w2, w2 = wc := ⟨_, rfl⟩
      subst hw2
      have hU2 := hU.read hR2 hF2
      have hFw2 := hFw.trans (Fu.of_fp oi hF2)
      obtain ⟨hq1, hq8, hxl⟩ := decode_some (unhide hx)
      have hx4 : x < 400 := Nat.lt_of_lt_of_le hxl hc1.le
      clear hxl hra c0
      by_cases hx256 : x < 256
      · have hd1 : decide ((x : Int) < 256) = true := by simp; omega
        have hw8 : IntKind.u8.wrap (x : Int) = (x : Int) := by rw [IntKind.wrap_u8]; omega
        go_wp2_with fail
        refine (pput_any _ U R A M b0 s q1 oi outi (x : Int) hU2 ⟨by omega, by omega⟩).mono ?_
        rintro e w3 (⟨out', ho, rfl, o', hU3, hF3⟩ | ⟨ho, rfl, o', hF3⟩)
        · have HE3 : Hid (blk l dl s f q1 out' = r) := by
            show _ = _
            rw [← unhide HE, blk_put (unhide hx) hx256]
            split at ho
            · rename_i hlen
              simp only [Option.some.injEq, Int.toNat_natCast] at ho
              rw [if_pos hlen, ho]
            · cases ho
          have hm3 := hide (measP_of hU3.rd (8 * s.size + 1))
          clear ho
          go_wp2_with fail
          exact ⟨⟨q1, f, out', o', by omega, hU3, (hF.trans (Fu.of_fp oi hF2)).trans hF3, HE3⟩, by rw [unhide hm3, unhide hm0]; omega⟩
        · have HE3 : r = none := by
            rw [← unhide HE, blk_put (unhide hx) hx256]
            split at ho
            · cases ho
            · rename_i hlen
              rw [if_neg hlen]
          exact ⟨rfl, .inr ⟨HE3, rfl, o', hFw2.trans hF3⟩⟩
      · have hd1 : decide ((x : Int) < 256) = false := by simp; omega
        by_cases hxe : x = 256
        · subst hxe
          have FIN := hide ((unhide HE).symm.trans (blk_end (unhide hx)))
          go_wp2_with fail
          first | go_end0 | refine bodyPost_ret (results_none rfl _ _ _) rfl ?_
          exact .inl ⟨q1, outi, unhide FIN, rfl, oi, hU2, hFw2⟩
        · have hd2 : ((x : Int) == 256) = false := by simp; omega
          have hk : (x : Int) - 256 - 1 = ((x - 257 : Nat) : Int) := by omega
          have c2 := hU2.cu0
          have hT2 := hTi.kept hF2 h9.2.1 h9.2.2.1 hU.rd.ltR
          go_wp2_with fail
          refine (copyLength_any _ R A s q1 (x - 257) _ rfl hR2 hT2 ⟨h9.2.1, h9.2.2.1⟩ (by omega)).mono ?_
          rintro e w3 (⟨n, q2, hL, rfl, hR3, hF3⟩ | ⟨hL, rfl, hF3⟩)
          · have HL : Hid (cpL s (x - 257) q1 = some (n, q2)) := hL
            obtain ⟨hn4, hq12⟩ := cpL_some (unhide HL)
            have hU3 := hU2.read hR3 hF3
            have hFw3 := hFw2.trans (Fu.of_fp oi hF3)
            have c3 := hU3.cu0
            have hX3 := (hF3.block B (by have := hF2.size; have := hF.size; omega) (by omega) (by omega)).trans ((hF2.block B (by have := hF.size; omega) (by omega) (by omega)).trans hXr)
            have hra : w3.rangeAt B 17 a2.toList := range_two (by rw [unhide HARR]; exact hX3) hc1.size
            have hS3 := (hSi2.kept (Fu.of_fp oi hF2)).kept (Fu.of_fp oi hF3)
            have hT3 := hT2.kept hF3 h9.2.1 h9.2.2.1 hR2.ltR
            clear hL
            go_wp2_with fail
            go_region_with (first | (go_at_call 40; refine (psign_any _ R A s q2 a2 dl s2 hU3.rd.drew hc2 hS3.sp).mono ?_; rintro e w4 (⟨d, q3, hd, rfl, hR4, hF4⟩ | ⟨hd, rfl, hF4⟩); rotate_left; exact ⟨rfl, .inr ⟨(unhide HE).symm.trans (blk_c1 (unhide hx) hx256 hxe (unhide HL) hd), rfl, oi, hFw3.trans ((Fu.drew U R A M oi w3).trans (Fu.of_fp oi hF4))⟩⟩; have hU4 := hU3.drew.read hR4 hF4; have k4 := hU4.cu0; have hT4 := hT3.kept ((Fp.drew R A w3).trans hF4) h9.2.1 h9.2.2.1 hR3.ltR; have HD := hide hd; have hdl := decode_some hd; clear hd) | (go_at_call 43; refine (distance_any _ R A s q3 d _ rfl hR4 hT4 ⟨h9.2.1, h9.2.2.1⟩ (by have := hc2.le; omega)).mono ?_; rintro e w5 (⟨back, q4, hb, rfl, hR5, hF5⟩ | ⟨hb, rfl, hF5⟩); rotate_left; exact ⟨rfl, .inr ⟨(unhide HE).symm.trans (blk_c2 (unhide hx) hx256 hxe (unhide HL) (unhide HD) hb), rfl, oi, hFw3.trans ((Fu.drew U R A M oi w3).trans ((Fu.of_fp oi hF4).trans (Fu.of_fp oi hF5)))⟩⟩; have hU5 := hU4.read hR5 hF5; have HB : Hid (cpD s d q3 = some (back, q4)) := hb; have hbk := cpD_some (unhide HB); clear hb) | (go_at_call 42; refine (copyBack_any _ U R A M b0 s q4 n back oi outi hU5 hn4 hbk.1 hbk.2.1).mono ?_; rintro e w6 (⟨out', ho, rfl, o', hU6, hF6⟩ | ⟨ho, rfl, o', hF6⟩); rotate_left; exact ⟨rfl, .inr ⟨(unhide HE).symm.trans (blk_c3 (unhide hx) hx256 hxe (unhide HL) (unhide HD) (unhide HB) ho), rfl, o', hFw3.trans ((Fu.drew U R A M oi w3).trans ((Fu.of_fp oi hF4).trans ((Fu.of_fp oi hF5).trans hF6)))⟩⟩; have HO := hide ho; clear ho) | (refine LoadWp.row _ rfl B 17 a2 rfl hra hc2.size ?_))
            all_goals
              have hm6 := hide (measP_of hU6.rd (8 * s.size + 1))
              go_wp2_with fail
              exact ⟨⟨q4, f, out', o', by omega, hU6, (hF.trans (Fu.of_fp oi hF2)).trans ((Fu.of_fp oi hF3).trans ((Fu.drew U R A M oi w3).trans ((Fu.of_fp oi hF4).trans ((Fu.of_fp oi hF5).trans hF6)))), (blk_c4 (unhide hx) hx256 hxe (unhide HL) (unhide HD) (unhide HB) (unhide HO)).trans (unhide HE)⟩, by rw [unhide hm6, unhide hm0]; omega⟩
          · exact ⟨rfl, .inr ⟨(unhide HE).symm.trans (blk_c0 (unhide hx) hx256 hxe hL), rfl, oi, hFw2.trans (Fu.of_fp oi hF3)⟩⟩
end Go.Proofs.YtgffljllfenhkaaDoor
