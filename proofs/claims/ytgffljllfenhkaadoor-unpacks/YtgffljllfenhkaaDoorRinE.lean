import Derived.Test.YtgffljllfenhkaaDoorRinD
import Derived.Test.YtgffljllfenhkaaDoorRefF
namespace Go.Proofs.YtgffljllfenhkaaDoor
open Go.RowKit Go.Shelf
attribute [local go_sem] Oper.semAt_some

/-- The program's code: its cells. -/
structure CodeP (arr : Array Value) (l : List Nat) (sg : Value) : Prop where
  size : arr.size = 17
  c : ∀ n : Nat, n ≤ 15 → arr[n]? = some (.int .i64 ((if n = 0 then 0 else cnt n l : Nat) : Int))
  s : arr[16]? = some sg
  le : l.length ≤ 400
/-- Where its signs lie. -/
def Sp (w : World) (R A : Nat) (sg : Value) (l : List Nat) : Prop :=
  ∃ g cap, sg = .slice (some ⟨g, 0, none⟩) (used l) cap ∧ g < w.heap.size ∧ g ≠ R ∧ g ≠ A ∧
    ∀ n a, 1 ≤ n → n ≤ 15 → a < cnt n l → w.cell? ⟨g, start l n + a, none⟩ = some (.int .i64 (((idxs n l).getD a 0 : Nat) : Int))
theorem Sp.kept {w w' : World} {R A : Nat} {sg : Value} {l : List Nat} (h : Sp w R A sg l) (hf : Fp R A w w') : Sp w' R A sg l := by
  obtain ⟨g, cap, h1, h2, h3, h4, h5⟩ := h
  refine ⟨g, cap, h1, Nat.lt_of_lt_of_le h2 hf.size, h3, h4, fun n a hn hn' ha => ?_⟩
  rw [World.cell?_of_block (w := w) (hf.block g h2 h3 h4)]; exact h5 n a hn hn' ha

/-- What a search for a sign comes to. -/
def SgnQ (w : World) (R A : Nat) (s : ByteArray) (p : Nat) (l : List Nat) (e : Ending) (w' : World) : Prop :=
  (∃ x q, decode l s p = some (x, q) ∧ e = .returned (.int .i64 (x : Int)) ∧ Rd w' R A s q ∧ Fp R A w w') ∨ (decode l s p = none ∧ e = .panicked thrown ∧ Fp R A w w')

set_option maxRecDepth 100000 in
set_option maxHeartbeats 2000000 in
theorem psign_in (w : World) (R A : Nat) (s : ByteArray) (p : Nat) (arr : Array Value) (l : List Nat) (sg : Value) (hR : Rd w R A s p) (hc : CodeP arr l sg) (hsg : Sp w R A sg l) :
    CallsIn Fence.wide 9 Tryd.prog 40 #[.pointer (some ⟨R, 0, none⟩), .agg arr] w (SgnQ w R A s p l) := by
  have hlR := hR.ltR
  have hlA := hR.ltA
  refine callsIn_of_wp_marks Tryd.func40 rfl trivial ?_ rfl
  simp only [Tryd.ntmps40, List.size_toArray, List.length_cons, List.length_nil, Nat.reduceAdd, Nat.reduceSub, Array.replicate_succ, Array.replicate_zero, List.push_toArray, List.append_toArray, List.nil_append, List.cons_append]
  gi_wp2_with fail
  obtain ⟨W0, hW0⟩ : ∃ W0, (((w.alloc (.cells arr 69)).alloc (.cells #[.int .i64 0] 3)).alloc (.cells #[.int .i64 0] 3)).alloc (.cells #[.int .i64 0] 3) = W0 := ⟨_, rfl⟩
  rw [hW0]
  have hF0 : Fp R A w W0 := by rw [← hW0]; exact (((Fp.alloc R A w _).trans (Fp.alloc R A _ _)).trans (Fp.alloc R A _ _)).trans (Fp.alloc R A _ _)
  have hR0 : Rd W0 R A s p := by rw [← hW0]; exact (((hR.alloc _).alloc _).alloc _).alloc _
  have hs0 : W0.heap.size = w.heap.size + 4 := by rw [← hW0]; simp
  have hC0 : W0.heap[w.heap.size]? = some (.cells arr 69 (0, 0)) := by
    rw [← hW0, Below.heap_alloc _ _ _ (by simp only [World.size_alloc]; omega), Below.heap_alloc _ _ _ (by simp only [World.size_alloc]; omega), Below.heap_alloc _ _ _ (by simp)]; exact World.alloc_heap_new _ _
  have hX0 : W0.heap[w.heap.size + 1]? = some (.cells #[.int .i64 0] 3 (0, 0)) := by
    rw [← hW0, Below.heap_alloc _ _ _ (by simp only [World.size_alloc]; omega), Below.heap_alloc _ _ _ (by simp)]; have := World.alloc_heap_new (w.alloc (.cells arr 69)) (.cells #[.int .i64 0] 3); rwa [World.size_alloc] at this
  have hA0 : W0.heap[w.heap.size + 2]? = some (.cells #[.int .i64 0] 3 (0, 0)) := by
    rw [← hW0, Below.heap_alloc _ _ _ (by simp)]; have := World.alloc_heap_new ((w.alloc (.cells arr 69)).alloc (.cells #[.int .i64 0] 3)) (.cells #[.int .i64 0] 3); rwa [World.size_alloc, World.size_alloc] at this
  have hH0 : W0.heap[w.heap.size + 3]? = some (.cells #[.int .i64 0] 3 (0, 0)) := by
    rw [← hW0]; have := World.alloc_heap_new (((w.alloc (.cells arr 69)).alloc (.cells #[.int .i64 0] 3)).alloc (.cells #[.int .i64 0] 3)) (.cells #[.int .i64 0] 3); rwa [World.size_alloc, World.size_alloc, World.size_alloc] at this
  clear hW0
  refine ⟨trivial, (callsIn_wide.2 (next_any W0 R 15)).mono ?_⟩
  rintro e w1 ⟨rfl, hw1⟩
  have hF1 : Fp R A w w1 := by rw [← hw1]; exact hF0.trans ((Fp.alloc R A _ _).trans (Fp.alloc R A _ _))
  have hR1 : Rd w1 R A s p := by rw [← hw1]; exact (hR0.alloc _).alloc _
  have hsz : w1.heap.size = w.heap.size + 6 := by rw [← hw1]; simp [hs0]
  have hold : ∀ k, k < w.heap.size + 4 → w1.heap[k]? = W0.heap[k]? := fun k hk => by rw [← hw1, Below.heap_alloc _ _ _ (by simp; omega), Below.heap_alloc _ _ _ (by omega)]
  have hRB1 : w1.heap[W0.heap.size]? = some (.cells #[.pointer (some ⟨R, 0, none⟩)] 48 (0, 0)) := by
    rw [← hw1]; exact heap_alloc2_old W0 _ _
  have hNB1 : w1.heap[W0.heap.size + 1]? = some (.cells #[.int .i64 ((15 : Nat) : Int)] 3 (0, 0)) := by
    rw [← hw1]; exact heap_alloc2_new W0 _ _
  have HSZ : Hid (w1.heap.size = w.heap.size + 6) := hsz
  have HS0 : Hid (W0.heap.size = w.heap.size + 4) := hs0
  have hC1 := (hold _ (by omega)).trans hC0
  have hX1 := (hold _ (by omega)).trans hX0
  have hA1 := (hold _ (by omega)).trans hA0
  have hH1 := (hold _ (by omega)).trans hH0
  clear hw1 hsz hs0 hold hC0 hX0 hA0 hH0 hF0 hR0
  gi_wp2_with fail
  have hsz : w1.heap.size = w.heap.size + 6 := HSZ
  have hs0 : W0.heap.size = w.heap.size + 4 := HS0
  refine range_next (by omega) (W0.heap.size + 1) W0.heap.size R A s p 15 (by omega) rfl rfl hR1 hNB1 hRB1 (by omega)
    (fun k W => W.heap[w.heap.size]? = some (.cells arr 69 (0, 0)) ∧ (∃ z, W.heap[w.heap.size + 1]? = some (.cells #[.int .i64 z] 3 (0, 0))) ∧ W.heap[w.heap.size + 3]? = some (.cells #[.int .i64 (start l (k + 1) : Int)] 3 (0, 0)) ∧ Fp R A w W ∧
      ∃ above : Nat, W.heap[w.heap.size + 2]? = some (.cells #[.int .i64 (above : Int)] 3 (0, 0)) ∧ above ≤ 2 ^ k - 1 ∧ decodeFrom l s (15 - k) (p + k) above = decode l s p)
    (fun c k W => c = .ret ∧ Fp R A w W ∧ ∃ x : Nat, W.heap[w.heap.size + 1]? = some (.cells #[.int .i64 (x : Int)] 3 (0, 0)) ∧ decode l s p = some (x, p + k))
    ?cI ?cIx ⟨hC1, ⟨0, hX1⟩, hH1, hF1, 0, hA1, by simp, rfl⟩
    (fun k b => { tmps := #[.pointer (some ⟨R, 0, none⟩), .agg arr, undef, .pointer (some ⟨w.heap.size, 0, none⟩), .pointer (some ⟨w.heap.size + 1, 0, none⟩), .pointer (some ⟨w.heap.size + 1 + 1, 0, none⟩), .pointer (some ⟨w.heap.size + 1 + 1 + 1, 0, none⟩), .int .i64 (k : Int), .int .i64 (b : Int), undef, .pointer (some ⟨R, 0, none⟩), .func (.func 37) #[] #[.pointer (some ⟨W0.heap.size + 1, 0, none⟩), .pointer (some ⟨W0.heap.size, 0, none⟩)], .int .i64 (k : Int), .int .i64 (b : Int), undef, undef, undef, undef, undef, undef, undef, undef, undef, undef, undef, undef, undef, undef, undef, undef, undef, undef, undef, undef, undef, undef, undef, undef, undef, undef, undef, undef, undef, undef], defers := [] })
    ?assign ?body ?done ?stop ?panic
  case cI =>
    rintro k W W' ⟨h1, ⟨z, h2⟩, h3, h4, above, h5, h6, h7⟩ hl
    refine ⟨by rw [hl.block _ (by omega) (by omega) (by omega)]; exact h1, ⟨z, by rw [hl.block _ (by omega) (by omega) (by omega)]; exact h2⟩, by rw [hl.block _ (by omega) (by omega) (by omega)]; exact h3, ?_, above, by rw [hl.block _ (by omega) (by omega) (by omega)]; exact h5, h6, h7⟩
    exact ⟨hl.os.trans h4.os, hl.tape.trans h4.tape, hl.output.trans h4.output, Nat.le_trans h4.size hl.size, fun b hb h3 h4' => (hl.block b (by omega) h3 h4').trans (h4.block b hb h3 h4')⟩
  case cIx =>
    rintro c k W W' ⟨h1, h4, x, h2, h3⟩ hl
    refine ⟨h1, ?_, x, by rw [hl.block _ (by omega) (by omega) (by omega)]; exact h2, h3⟩
    exact ⟨hl.os.trans h4.os, hl.tape.trans h4.tape, hl.output.trans h4.output, Nat.le_trans h4.size hl.size, fun b hb h3 h4' => (hl.block b (by omega) h3 h4').trans (h4.block b hb h3 h4')⟩
  case assign =>
    clear hs0 hsz
    intro l' k b W K hK
    gi_wp2
    exact hK
  case body =>
    rintro l' k W ⟨hC, ⟨z, hX⟩, hH, hF, above, hA, hab, hE⟩ hRk hk
    have hca : W.cell? ⟨w.heap.size + 1 + 1, 0, none⟩ = some (.int .i64 (above : Int)) := by simp [World.cell?, hA]
    have hfa : W.frozen? ⟨w.heap.size + 1 + 1, 0, none⟩ = false := by simp [World.frozen?, hA]
    have hch : W.cell? ⟨w.heap.size + 1 + 1 + 1, 0, none⟩ = some (.int .i64 (start l (k + 1) : Int)) := by simp [World.cell?, hH]
    have hfh : W.frozen? ⟨w.heap.size + 1 + 1 + 1, 0, none⟩ = false := by simp [World.frozen?, hH]
    have hcx : W.cell? ⟨w.heap.size + 1, 0, none⟩ = some (.int .i64 z) := by simp [World.cell?, hX]
    have hfx : W.frozen? ⟨w.heap.size + 1, 0, none⟩ = false := by simp [World.frozen?, hX]
    have hcc : W.cell? ⟨w.heap.size, k + 1, none⟩ = some (.int .i64 (cnt (k + 1) l : Int)) := by
      simp only [World.cell?, hC]; simpa using hc.c (k + 1) (by omega)
    obtain ⟨g, cap, hsl, hg, hgR, hgA, hgc⟩ := hsg.kept hF
    have hcs : W.cell? ⟨w.heap.size, 16, none⟩ = some (.slice (some ⟨g, 0, none⟩) (used l) cap) := by
      simp only [World.cell?, hC]; rw [← hsl]; simpa using hc.s
    have hb := bitOf_lt s (p + k)
    have hcl := cnt_le (k + 1) l
    have hll := hc.le
    have hpw : 2 ^ k ≤ 2 ^ 15 := Nat.pow_le_pow_right (by decide) (by omega)
    have hab' : above ≤ 32768 := by omega
    have hpw1 : 2 ^ (k + 1) = 2 ^ k + 2 ^ k := by rw [Nat.pow_succ]; omega
    have hone : 1 ≤ 2 ^ k := Nat.one_le_two_pow
    have hsl4 : start l (k + 1) ≤ 6400 := Nat.le_trans (start_le l (k + 1)) (Nat.mul_le_mul (show k + 1 ≤ 16 by omega) hc.le)
    have hov : over s (p + k) 1 = false := by have := hRk.hp; simp [over]; omega
    by_cases ha : 2 * above + bitOf s (p + k) < cnt (k + 1) l
    · have DEC : Hid (decode l s p = some ((idxs (k + 1) l).getD (2 * above + bitOf s (p + k)) 0, p + (k + 1))) := by
        refine hE.symm.trans ?_
        exact dec_hit hk hov rfl ha
      have hcv := hgc (k + 1) (2 * above + bitOf s (p + k)) (by omega) (by omega) ha
      have hin := start_used l (show 1 ≤ k + 1 by omega) (by omega) ha
      obtain ⟨b, hbb⟩ : ∃ b, bitOf s (p + k) = b := ⟨_, rfl⟩
      rw [hbb] at ha DEC hb hcv hin ⊢
      have hgn : g ≠ w.heap.size ∧ g ≠ w.heap.size + 1 ∧ g ≠ w.heap.size + 1 + 1 ∧ g ≠ w.heap.size + 1 + 1 + 1 := by obtain ⟨g', cap', e', hg', _⟩ := hsg; rw [hsl] at e'; simp at e'; omega
      obtain ⟨hg1, hg2, hg3, hg4⟩ := hgn
      clear hE hov hbb hgc hpw hsg hsz hs0 hsl
      have hd : 2 * (above : Int) + (b : Int) < (cnt (k + 1) l : Int) := by omega
      obtain ⟨j, hj⟩ : ∃ j, start l (k + 1) + (2 * above + b) = j := ⟨_, rfl⟩
      rw [hj] at hcv hin
      have hix : (start l (k + 1) : Int) + (2 * (above : Int) + (b : Int)) = (j : Int) := by omega
      have hin' : (j : Int) < (used l : Int) := by omega
      obtain ⟨xv, hxv⟩ : ∃ xv, (idxs (k + 1) l).getD (2 * above + b) 0 = xv := ⟨_, rfl⟩
      rw [hxv] at hcv DEC
      clear hj hxv hab hone hpw1
      gi_wp2
      refine ⟨fun b' hb' => ?_, rfl, ?_, xv, ?_, DEC⟩
      · have := unhide' HSZ; have := unhide' HS0
        rw [Below.heap_setCell _ _ _ _ (by show b' ≠ w.heap.size + 1; omega), Below.heap_setCell _ _ _ _ (by show b' ≠ w.heap.size + 1 + 1; omega)]
      · exact (hF.set _ _ _ (by omega)).set _ _ _ (by omega)
      · have h1 : (W.setCell ⟨w.heap.size + 1 + 1, 0, none⟩ (.int .i64 (2 * (above : Int) + (b : Int)))).heap[w.heap.size + 1]? = _ := (Below.heap_setCell _ _ _ _ (by show w.heap.size + 1 ≠ w.heap.size + 1 + 1; omega)).trans hX
        have := heap_setCell_same _ (w.heap.size + 1) 0 _ _ (.int .i64 (xv : Int)) h1
        simpa using this
    · have DEC : Hid (decodeFrom l s (15 - (k + 1)) (p + (k + 1)) (2 * above + bitOf s (p + k) - cnt (k + 1) l) = decode l s p) := by
        refine Eq.trans ?_ hE
        exact (dec_miss hk hov rfl ha).symm
      obtain ⟨b, hbb⟩ : ∃ b, bitOf s (p + k) = b := ⟨_, rfl⟩
      rw [hbb] at ha DEC hb ⊢
      clear hE hov hbb hgc hcs hpw hsg hsz hs0
      have hd : ¬ 2 * (above : Int) + (b : Int) < (cnt (k + 1) l : Int) := by omega
      gi_wp2
      refine ⟨fun b' hb' => ?_, ?_, ⟨z, ?_⟩, ?_, ?_, 2 * above + b - cnt (k + 1) l, ?_, by omega, DEC⟩
      · have := unhide' HSZ; have := unhide' HS0
        rw [Below.heap_setCell _ _ _ _ (by show b' ≠ w.heap.size + 1 + 1 + 1; omega), Below.heap_setCell _ _ _ _ (by show b' ≠ w.heap.size + 1 + 1; omega), Below.heap_setCell _ _ _ _ (by show b' ≠ w.heap.size + 1 + 1; omega)]
      · rw [Below.heap_setCell _ _ _ _ (by show w.heap.size ≠ w.heap.size + 1 + 1 + 1; omega), Below.heap_setCell _ _ _ _ (by show w.heap.size ≠ w.heap.size + 1 + 1; omega), Below.heap_setCell _ _ _ _ (by show w.heap.size ≠ w.heap.size + 1 + 1; omega)]; exact hC
      · rw [Below.heap_setCell _ _ _ _ (by show w.heap.size + 1 ≠ w.heap.size + 1 + 1 + 1; omega), Below.heap_setCell _ _ _ _ (by show w.heap.size + 1 ≠ w.heap.size + 1 + 1; omega), Below.heap_setCell _ _ _ _ (by show w.heap.size + 1 ≠ w.heap.size + 1 + 1; omega)]; exact hX
      · have h1 : ((W.setCell ⟨w.heap.size + 1 + 1, 0, none⟩ (.int .i64 (2 * (above : Int) + (b : Int)))).setCell ⟨w.heap.size + 1 + 1, 0, none⟩ (.int .i64 (2 * (above : Int) + (b : Int) - (cnt (k + 1) l : Int)))).heap[w.heap.size + 3]? = _ :=
          ((Below.heap_setCell _ _ _ _ (by show w.heap.size + 3 ≠ w.heap.size + 1 + 1; omega)).trans (Below.heap_setCell _ _ _ _ (by show w.heap.size + 3 ≠ w.heap.size + 1 + 1; omega))).trans hH
        have := heap_setCell_same _ (w.heap.size + 3) 0 _ _ (.int .i64 ((start l (k + 1) : Int) + (cnt (k + 1) l : Int))) h1
        have e : ((start l (k + 1 + 1) : Nat) : Int) = (start l (k + 1) : Int) + (cnt (k + 1) l : Int) := by rw [start_succ l (show 1 ≤ k + 1 by omega)]; omega
        rw [e]; simpa using this
      · exact ((hF.set _ _ _ (by omega)).set _ _ _ (by omega)).set _ _ _ (by omega)
      · have h1 := heap_setCell_same W (w.heap.size + 2) 0 _ _ (.int .i64 (2 * (above : Int) + (b : Int))) hA
        have h2 := heap_setCell_same _ (w.heap.size + 2) 0 _ _ (.int .i64 (2 * (above : Int) + (b : Int) - (cnt (k + 1) l : Int))) h1
        have e : ((2 * above + b - cnt (k + 1) l : Nat) : Int) = 2 * (above : Int) + (b : Int) - (cnt (k + 1) l : Int) := by omega
        rw [e, Below.heap_setCell _ _ _ _ (by show w.heap.size + 2 ≠ w.heap.size + 1 + 1 + 1; omega)]
        simpa using h2
  case done =>
    rintro W ⟨hC, ⟨z, hX⟩, hH, hF, above, hA, _, hE⟩ hRn hD
    have hE' : Hid (decode l s p = none) := hE.symm
    have c4 := hRn.c4
    have c5 := hRn.c5
    clear hE
    gi_wp2
    refine ⟨by simp, .inl ⟨_, _, rfl, run_takeDeferred hD, ?_⟩⟩
    exact .inr ⟨hE', rfl, hF.put _ _ (by omega)⟩
  case stop =>
    rintro c k W ⟨rfl, hF, x, hX, hdec⟩ hk hRk hD
    have HD : Hid (decode l s p = some (x, p + (k + 1))) := hdec
    clear hdec
    gi_wp2
    refine ⟨by simp, .inl ⟨_, _, rfl, run_takeDeferred hD, ?_⟩⟩
    have hcx : (W.putObj w1.heap.size (.deferred none)).cell? ⟨w.heap.size + 1, 0, none⟩ = some (.int .i64 (x : Int)) := by
      simp only [World.cell?]; rw [World.putObj_heap_other (by omega), hX]; rfl
    refine ⟨.int .i64 (x : Int), by simp [results, Tryd.results40, go_sem, hcx], ?_⟩
    exact .inl ⟨x, p + (k + 1), HD, rfl, hRk.put _ _ (by omega), hF.put _ _ (by omega)⟩
  case panic =>
    rintro k W ⟨hC, ⟨z, hX⟩, hH, hF, above, hA, _, hE⟩ hk hpk hD
    refine ⟨by simp, .inl ⟨_, _, rfl, run_takeDeferred hD, ?_⟩⟩
    refine .inr ⟨?_, rfl, hF.put _ _ (by omega)⟩
    rw [← hE, show 15 - k = (14 - k) + 1 from by omega, decodeFrom_succ, if_neg (by omega)]

theorem psign_any (w : World) (R A : Nat) (s : ByteArray) (p : Nat) (arr : Array Value) (l : List Nat) (sg : Value) (hR : Rd w R A s p) (hc : CodeP arr l sg) (hsg : Sp w R A sg l) :
    Calls Tryd.prog 40 #[.pointer (some ⟨R, 0, none⟩), .agg arr] w (SgnQ w R A s p l) := callsIn_wide.1 (psign_in w R A s p arr l sg hR hc hsg)
end Go.Proofs.YtgffljllfenhkaaDoor
