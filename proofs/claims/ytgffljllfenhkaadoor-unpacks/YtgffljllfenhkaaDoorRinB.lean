import Derived.Test.YtgffljllfenhkaaDoorRinA
import Derived.Deep.QuietTactic
import Derived.BigQuiet
namespace Go.Proofs.YtgffljllfenhkaaDoor
open Go.RowKit Go.Shelf
attribute [local go_sem] Oper.semAt_some

theorem unhide' {p : Prop} (h : Hid p) : p := h

set_option maxRecDepth 100000 in
set_option maxHeartbeats 2000000 in
/-- The iterator's own function: it hands out bit by bit, or throws. -/
theorem next1_in (m : Nat) (hm : 3 ≤ m) (l NB RB R A : Nat) (s : ByteArray) (p n : Nat) (hn : n ≤ 40) (I Ix : Nat → World → Prop)
    (hI : ∀ k W W', I k W → Two R A W W' → I k W')
    (hB : ∀ k W, I k W → W.cell? ⟨NB, 0, none⟩ = some (.int .i64 (n : Int)) ∧ W.cell? ⟨RB, 0, none⟩ = some (.pointer (some ⟨R, 0, none⟩)))
    (hY : ∀ k W, I k W → Rd W R A s (p + k + 1) → k < n → YieldAt Fence.wide (m - 1) Tryd.prog l #[.int .i64 (k : Int), .int .i64 (bitOf s (p + k) : Int)] W fun e W' =>
      (e = .returned (.bool true) ∧ I (k + 1) W' ∧ Rd W' R A s (p + k + 1)) ∨ (e = .returned (.bool false) ∧ Ix (k + 1) W' ∧ Rd W' R A s (p + k + 1)))
    (W : World) (hR : Rd W R A s p) (h0 : I 0 W) :
    CallsIn Fence.wide m Tryd.prog 37 #[.func (.yield l) #[] #[], .pointer (some ⟨NB, 0, none⟩), .pointer (some ⟨RB, 0, none⟩)] W fun e W' =>
      (∃ v, e = .returned v ∧ ((I n W' ∧ Rd W' R A s (p + n)) ∨ ∃ k, k < n ∧ Ix (k + 1) W' ∧ Rd W' R A s (p + k + 1))) ∨
      (e = .panicked thrown ∧ ∃ k, k < n ∧ p + k = 8 * s.size ∧ I k W' ∧ Rd W' R A s (p + k)) := by
  have hs := hR.hs
  have hpp := hR.hp
  obtain ⟨hNB, hRB⟩ := hB 0 W h0
  refine callsIn_of_wp Tryd.func37 rfl trivial ?_ rfl
  simp only [Tryd.ntmps37, List.size_toArray, List.length_cons, List.length_nil, Nat.reduceAdd, Nat.reduceSub, Array.replicate_succ, Array.replicate_zero, List.push_toArray, List.append_toArray, List.nil_append, List.cons_append]
  gi_wp2
  clear hNB hRB
  gi_loopw [7] (fun i wr => ∃ k : Nat, k ≤ n ∧ i = .int .i64 (k : Int) ∧ I k wr ∧ Rd wr R A s (p + k))
    (fun i _ => n - (intOf i).toNat)
  case atStart => exact ⟨0, Nat.zero_le _, rfl, h0, hR⟩
  case round =>
    clear hR h0
    obtain ⟨k, hk, rfl, hIk, hRk⟩ := hrel
    obtain ⟨hNB, hRB⟩ := hB k wr hIk
    by_cases hlt : k < n
    · have c2 := hRk.c2
      have c3 := hRk.c3
      have ca := hRk.ca
      have cy := hRk.cy
      have fa := hRk.fa 0
      have hpk := hRk.hp
      by_cases hb : p + k < 8 * s.size
      · have hY0 := fun W h1 h2 => hY k W h1 h2 hlt
        have hfin : ∀ nq, Rd (((wr.setCell ⟨A, 0, none⟩ (.int .i64 ((8 * s.size - (p + k) : Nat) - 1 : Int))).drewN nq).setCell ⟨R, 1, none⟩ (.int .i64 (((p + k : Nat) : Int) + 1))) R A s (p + k + 1) := fun nq => hRk.step hb nq
        have hTw : ∀ nq, Two R A wr (((wr.setCell ⟨A, 0, none⟩ (.int .i64 ((8 * s.size - (p + k) : Nat) - 1 : Int))).drewN nq).setCell ⟨R, 1, none⟩ (.int .i64 (((p + k : Nat) : Int) + 1))) := fun nq => (((Two.refl R A wr).setA 0 _).drewN nq).setR 1 _
        have hRA : A + 1 < R := hRk.lt
        have hc1' := hRk.c0
        have hc2' := hRk.c1
        have hf' := hRk.fr 1
        obtain ⟨t, ht⟩ : ∃ t, p + k = t := ⟨_, rfl⟩
        rw [ht] at hY0 hfin hTw hb ca hc2' hpk
        have hq' : t / 8 < s.size := by omega
        have hwq : IntKind.i64.wrap ((t : Int) / 8) = (t : Int) / 8 := wrap_i64_ediv _ _ (by omega) (by omega) (by omega)
        have hix := index_byte s t hq'
        have HT : Hid (p + k = t) := ht
        clear ht
        gi_wp2
        refine ⟨trivial, fun _ => by omega, ?_⟩
        refine (callsIn_wide.2 (free_any wr 1)).mono ?_
        rintro e w0 ⟨rfl, rfl⟩
        gi_wp2
        refine ⟨trivial, fun _ => by omega, ?_⟩
        refine (callsIn_wide.2 (take_ok wr A (8 * s.size - t) ca fa (by omega) (by omega))).mono ?_
        rintro e w1 ⟨rfl, hw1⟩
        have hRB1 : w1.cell? ⟨RB, 0, none⟩ = some (.pointer (some ⟨R, 0, none⟩)) := by
          rw [← hw1]
          exact (hB k _ (hI k _ _ hIk ((Two.refl R A wr).setA 0 _))).2
        have hc2 : w1.cell? ⟨R, 0, none⟩ = some (.string s) := by
          rw [← hw1, World.cell?_of_block (w := wr) (Below.heap_setCell _ _ _ _ (by show R ≠ A; omega))]; exact hc1'
        have hc3 : w1.cell? ⟨R, 1, none⟩ = some (.int .i64 (t : Int)) := by
          rw [← hw1, World.cell?_of_block (w := wr) (Below.heap_setCell _ _ _ _ (by show R ≠ A; omega))]; exact hc2'
        have hf3 : w1.frozen? ⟨R, 1, none⟩ = false := by
          rw [← hw1, World.frozen?_of_block (w := wr) (Below.heap_setCell _ _ _ _ (by show R ≠ A; omega))]; exact hf'
        rw [hw1] at hfin hTw
        clear hw1 ca cy fa c2 c3 hc1' hc2' hf' hNB hRB
        gi_wp2
        gi_quiet (fail)
        have hf2 := hfin nq
        have hI2 := hI k _ _ hIk (hTw nq)
        have hbv := bit_value s t hq'
        obtain ⟨fn, tmps, assign, body, hy, hR3⟩ := hY0 _ hI2 hf2
        clear hfin hTw hY0 hf2 hI2
        gi_wp2
        refine ⟨fun _ => by omega, ?_⟩
        refine hR3.mono ?_
        rintro e W3 (⟨rfl, hI3, hRd3⟩ | ⟨rfl, hIx3, hRd3⟩)
        · gi_wp2
          go_roundw
          case rel => exact ⟨k + 1, by omega, by go_num, hI3, by have := unhide' HT; rw [show p + (k + 1) = t + 1 by omega]; exact hRd3⟩
          case measure => simp [intOf]; omega
        · gi_wp2
          refine bodyPost_ret (results_none rfl _ _ _) rfl ?_
          exact .inl ⟨_, rfl, .inr ⟨k, hlt, hIx3, by rw [unhide' HT]; exact hRd3⟩⟩
      · have h0 : 8 * s.size - (p + k) = 0 := by omega
        rw [h0] at ca
        have hy := hRk.y
        gi_wp2
        refine ⟨trivial, fun _ => by omega, ?_⟩
        refine (callsIn_wide.2 (free_any wr 1)).mono ?_
        rintro e w0 ⟨rfl, rfl⟩
        gi_wp2
        refine ⟨trivial, fun _ => by omega, ?_⟩
        refine (callsIn_wide.2 (take_no wr A ca hy)).mono ?_
        rintro e w1 ⟨rfl, rfl⟩
        exact ⟨rfl, .inr ⟨rfl, k, hlt, by omega, hIk, hRk⟩⟩
    · have e : k = n := by omega
      subst e
      gi_wp2
      first | go_end0 | refine bodyPost_ret (results_none rfl _ _ _) rfl ?_
      exact .inl ⟨_, rfl, .inl ⟨hIk, hRk⟩⟩
end Go.Proofs.YtgffljllfenhkaaDoor
