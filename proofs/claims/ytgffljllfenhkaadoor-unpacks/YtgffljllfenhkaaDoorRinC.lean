import Derived.Test.YtgffljllfenhkaaDoorRinB
import Derived.RangeFuncBox
namespace Go.Proofs.YtgffljllfenhkaaDoor
open Go.RowKit Go.Shelf
attribute [local go_sem] Oper.semAt_some

theorem Tryd.mfn (P : Program) : ∀ (fn : Fn) (first cap : Array Value) (w : World), (Instr.makeFunc fn first cap).run P w = .ok (.func fn first cap) w := fun _ _ _ _ => rfl

set_option maxHeartbeats 400000 in
/-- 'r.next(n)': the two parameters move into variables of their own. -/
theorem next_any (w : World) (R : Nat) (n : Int) :
    Calls Tryd.prog 32 #[.pointer (some ⟨R, 0, none⟩), .int .i64 n] w fun e w' =>
      e = .returned (.func (.func 37) #[] #[.pointer (some ⟨w.heap.size + 1, 0, none⟩), .pointer (some ⟨w.heap.size, 0, none⟩)]) ∧
      (w.alloc (.cells #[.pointer (some ⟨R, 0, none⟩)] 48)).alloc (.cells #[.int .i64 n] 3) = w' := by
  have hmf := Tryd.mfn Tryd.prog
  go_enter Tryd.func32, Tryd.ntmps32
  go_wp2
  go_ret
  exact ⟨rfl, rfl⟩

/-- What a read of the program's may turn: blocks R and A; what is new. -/
structure Fp (R A : Nat) (w w' : World) : Prop where
  os : w'.os = w.os
  tape : w'.tape = w.tape
  output : w'.output = w.output
  size : w.heap.size ≤ w'.heap.size
  block : ∀ k, k < w.heap.size → k ≠ R → k ≠ A → w'.heap[k]? = w.heap[k]?
theorem Fp.refl (R A : Nat) (w : World) : Fp R A w w := ⟨rfl, rfl, rfl, Nat.le_refl _, fun _ _ _ _ => rfl⟩
theorem Fp.trans {R A : Nat} {a b c : World} (h : Fp R A a b) (k : Fp R A b c) : Fp R A a c :=
  ⟨k.os.trans h.os, k.tape.trans h.tape, k.output.trans h.output, Nat.le_trans h.size k.size, fun i hi h1 h2 => (k.block i (Nat.lt_of_lt_of_le hi h.size) h1 h2).trans (h.block i hi h1 h2)⟩
theorem Fp.of_two {R A : Nat} {w w' : World} (h : Two R A w w') : Fp R A w w' := ⟨h.os, h.tape, h.output, Nat.le_of_eq h.size.symm, fun k _ h1 h2 => h.block k h1 h2⟩
theorem Fp.alloc (R A : Nat) (w : World) (o : Obj) : Fp R A w (w.alloc o) := ⟨rfl, rfl, rfl, by simp, fun k hk _ _ => Below.heap_alloc _ _ _ hk⟩
theorem Fp.drew (R A : Nat) (w : World) : Fp R A w w.drew := ⟨rfl, rfl, rfl, Nat.le_refl _, fun _ _ _ _ => rfl⟩
/-- A turn of a block that is new. -/
theorem Fp.new {R A : Nat} {w w1 w2 : World} (h : Fp R A w w1) (ho : w2.os = w1.os) (ht : w2.tape = w1.tape) (hp : w2.output = w1.output) (hs : w2.heap.size = w1.heap.size) (b : Nat) (hb : w.heap.size ≤ b) (hk : ∀ k, k ≠ b → w2.heap[k]? = w1.heap[k]?) : Fp R A w w2 :=
  ⟨ho.trans h.os, ht.trans h.tape, hp.trans h.output, by rw [hs]; exact h.size, fun k h1 h2 h3 => (hk k (by omega)).trans (h.block k h1 h2 h3)⟩
theorem Fp.put {R A : Nat} {w w1 : World} (h : Fp R A w w1) (b : Nat) (o : Obj) (hb : w.heap.size ≤ b) : Fp R A w (w1.putObj b o) := h.new rfl rfl rfl (by simp) b hb (fun _ e => World.putObj_heap_other e)
theorem Fp.set {R A : Nat} {w w1 : World} (h : Fp R A w w1) (b i : Nat) (v : Value) (hb : w.heap.size ≤ b) : Fp R A w (w1.setCell ⟨b, i, none⟩ v) := h.new rfl rfl rfl (by simp) b hb (fun _ e => Below.heap_setCell _ _ _ _ e)

theorem Rd.of_blocks {w w' : World} {R A : Nat} {s : ByteArray} {p : Nat} (h : Rd w R A s p) (hb : ∀ k, k = R ∨ k = A ∨ k = A + 1 → w'.heap[k]? = w.heap[k]?) : Rd w' R A s p :=
  ⟨by rw [hb R (.inl rfl)]; exact h.r, by rw [hb A (.inr (.inl rfl))]; exact h.a, by rw [hb (A + 1) (.inr (.inr rfl))]; exact h.y, h.lt, h.hp, h.hs⟩
theorem Rd.ltA {w : World} {R A : Nat} {s : ByteArray} {p : Nat} (h : Rd w R A s p) : A + 1 < w.heap.size := (Array.getElem?_eq_some_iff.1 h.y).1
theorem Rd.alloc {w : World} {R A : Nat} {s : ByteArray} {p : Nat} (h : Rd w R A s p) (o : Obj) : Rd (w.alloc o) R A s p :=
  h.of_blocks (fun k hk => Below.heap_alloc _ _ _ (by have := h.ltA; have := h.ltR; omega))
theorem Rd.put {w : World} {R A : Nat} {s : ByteArray} {p : Nat} (h : Rd w R A s p) (b : Nat) (o : Obj) (hb : b ≠ R ∧ b ≠ A ∧ b ≠ A + 1) : Rd (w.putObj b o) R A s p :=
  h.of_blocks (fun k hk => World.putObj_heap_other (by omega))
theorem Rd.set {w : World} {R A : Nat} {s : ByteArray} {p : Nat} (h : Rd w R A s p) (b i : Nat) (v : Value) (hb : b ≠ R ∧ b ≠ A ∧ b ≠ A + 1) : Rd (w.setCell ⟨b, i, none⟩ v) R A s p :=
  h.of_blocks (fun k hk => Below.heap_setCell _ _ _ _ (by show k ≠ b; omega))
theorem Rd.drew {w : World} {R A : Nat} {s : ByteArray} {p : Nat} (h : Rd w R A s p) : Rd w.drew R A s p := ⟨h.r, h.a, h.y, h.lt, h.hp, h.hs⟩

/-- What a read of a number comes to. -/
def NumQ (w : World) (R A : Nat) (s : ByteArray) (p n : Nat) (e : Ending) (w' : World) : Prop :=
  (p + n ≤ 8 * s.size ∧ e = .returned (.int .i64 (numOf s p n : Int)) ∧ Rd w' R A s (p + n) ∧ Fp R A w w') ∨ (8 * s.size < p + n ∧ e = .panicked thrown ∧ Fp R A w w')

/-- Nothing below N has turned but R and A. -/
structure Loc (N R A : Nat) (w w' : World) : Prop where
  os : w'.os = w.os
  tape : w'.tape = w.tape
  output : w'.output = w.output
  size : w.heap.size ≤ w'.heap.size
  block : ∀ k, k < N → k ≠ R → k ≠ A → w'.heap[k]? = w.heap[k]?
theorem Loc.of_two {N R A : Nat} {w w' : World} (h : Two R A w w') : Loc N R A w w' := ⟨h.os, h.tape, h.output, Nat.le_of_eq h.size.symm, fun k _ h1 h2 => h.block k h1 h2⟩
theorem Loc.put {N R A : Nat} (w : World) (b : Nat) (o : Obj) (hb : N ≤ b) : Loc N R A w (w.putObj b o) := ⟨rfl, rfl, rfl, by simp, fun _ hk _ _ => World.putObj_heap_other (by omega)⟩
theorem Loc.alloc {N R A : Nat} (w : World) (o : Obj) (hN : N ≤ w.heap.size) : Loc N R A w (w.alloc o) := ⟨rfl, rfl, rfl, by simp, fun _ hk _ _ => Below.heap_alloc _ _ _ (by omega)⟩

/-- What a round must leave alone. -/
def Kept (bs : Nat → Prop) (w w' : World) : Prop := ∀ b, bs b → w'.heap[b]? = w.heap[b]?
def roundQ (I : Nat → World → Prop) (Ix : Code → Nat → World → Prop) (bs : Nat → Prop) (k : Nat) (W : World) : Exit → Act → World → Prop
  | .normal, _, W' => Kept bs W W' ∧ I (k + 1) W'
  | .ret, _, W' => Kept bs W W' ∧ Ix .ret (k + 1) W'
  | .exit id, _, W' => Kept bs W W' ∧ Ix (.exit id) (k + 1) W'
  | _, _, _ => False

/-- **A loop over the reader's bits.** -/
theorem range_next {g : Operand} {ps : Array Tmp} {assign body : Code} {Q : Exit → Act → World → Prop} {a : Act} {w : World} {m : Nat} (hm : 6 ≤ m) (NB RB R A : Nat) (s : ByteArray) (p n : Nat) (hn : n ≤ 40)
    (hg : a.eval g = .func (.func 37) #[] #[.pointer (some ⟨NB, 0, none⟩), .pointer (some ⟨RB, 0, none⟩)]) (hps : ps.size = 2)
    (hR : Rd w R A s p) (hNB : w.heap[NB]? = some (.cells #[.int .i64 (n : Int)] 3 (0, 0))) (hRB : w.heap[RB]? = some (.cells #[.pointer (some ⟨R, 0, none⟩)] 48 (0, 0))) (hne : NB ≠ R ∧ NB ≠ A ∧ RB ≠ R ∧ RB ≠ A)
    (I : Nat → World → Prop) (Ix : Code → Nat → World → Prop) (hI : ∀ k W W', I k W → Loc w.heap.size R A W W' → I k W') (hIx : ∀ c k W W', Ix c k W → Loc w.heap.size R A W W' → Ix c k W') (h0 : I 0 w) (a₁ : Nat → Nat → Act)
    (hassign : ∀ (l k b : Nat) (W : World) (K : Act → World → Prop), K (a₁ k b) W →
      assign.wpIn (Fence.wide.inRound l) (m - 1 - 1) Tryd.prog (Exit.then K (fun _ _ _ => False)) { tmps := (ps.zip #[.int .i64 (k : Int), .int .i64 (b : Int)]).foldl (fun t (p, v) => t.setIfInBounds p v) a.tmps, defers := [] } W)
    (hbody : ∀ (l k : Nat) (W : World), I k W → Rd W R A s (p + k + 1) → k < n → body.wpIn (Fence.wide.inRound l) (m - 1 - 1) Tryd.prog (roundQ I Ix (fun b => b = R ∨ b = A ∨ b = A + 1 ∨ b = NB ∨ b = RB ∨ b = w.heap.size ∨ b = w.heap.size + 1) k W) (a₁ k (bitOf s (p + k))) W)
    (hdone : ∀ W, I n W → Rd W R A s (p + n) → W.heap[w.heap.size]? = some (.deferred (some [])) → Q .normal { a with defers := { target := .collected w.heap.size, args := #[] } :: a.defers } W)
    (hstop : ∀ c k W, Ix c (k + 1) W → k < n → Rd W R A s (p + k + 1) → W.heap[w.heap.size]? = some (.deferred (some [])) → c.wpIn Fence.wide m Tryd.prog Q { a with defers := { target := .collected w.heap.size, args := #[] } :: a.defers } W)
    (hpanic : ∀ k W, I k W → k < n → p + k = 8 * s.size → W.heap[w.heap.size]? = some (.deferred (some [])) → Q (.panic thrown) { a with defers := { target := .collected w.heap.size, args := #[] } :: a.defers } W) :
    (Code.rangeFunc g ps assign body).wpIn Fence.wide m Tryd.prog Q a w := by
  have hlNB : NB < w.heap.size := (Array.getElem?_eq_some_iff.1 hNB).1
  have hlRB : RB < w.heap.size := (Array.getElem?_eq_some_iff.1 hRB).1
  have hlR := hR.ltR
  have hlA := hR.ltA
  refine wpIn_rangeFunc ?_
  intro fn hfn
  obtain ⟨rec, hrec⟩ : ∃ rec : LoopState → Option Code → Loop, rec = fun st pe => { state := st, pending := pe, fn, tmps := a.tmps, params := ps, assign, body, defers := w.heap.size } := ⟨_, rfl⟩
  obtain ⟨W1, hW1⟩ : ∃ W1, (w.alloc (.deferred (some []))).alloc (.loop (rec .ready none)) = W1 := ⟨_, rfl⟩
  have hL1 : W1.heap[w.heap.size + 1]? = some (.loop (rec .ready none)) := by rw [← hW1]; exact heap_alloc2_new w _ _
  have hD1 : W1.heap[w.heap.size]? = some (.deferred (some [])) := by rw [← hW1]; exact heap_alloc2_old w _ _
  have hold : ∀ k, k < w.heap.size → W1.heap[k]? = w.heap[k]? := fun k hk => by
    rw [← hW1, Below.heap_alloc _ _ _ (by simp; omega), Below.heap_alloc _ _ _ hk]
  have hloc1 : Loc w.heap.size R A w W1 := ⟨by rw [← hW1]; rfl, by rw [← hW1]; rfl, by rw [← hW1]; rfl, by rw [← hW1]; simp; omega, fun k hk _ _ => hold k hk⟩
  have hR1 : Rd W1 R A s p := hR.of_blocks (fun k hk => hold k (by omega))
  -- between two rounds
  let J : Nat → World → Prop := fun k W => I k W ∧ W.heap[NB]? = some (.cells #[.int .i64 (n : Int)] 3 (0, 0)) ∧ W.heap[RB]? = some (.cells #[.pointer (some ⟨R, 0, none⟩)] 48 (0, 0)) ∧
    W.heap[w.heap.size]? = some (.deferred (some [])) ∧ W.heap[w.heap.size + 1]? = some (.loop (rec .ready none))
  let Jx : Nat → World → Prop := fun k W => ∃ c, Ix c k W ∧ W.heap[w.heap.size]? = some (.deferred (some [])) ∧ W.heap[w.heap.size + 1]? = some (.loop (rec .done (some c)))
  refine ⟨w.heap.size + 1, [{ target := .collected w.heap.size, args := #[] }], W1, { target := .fn (.func 37) #[.pointer (some ⟨NB, 0, none⟩), .pointer (some ⟨RB, 0, none⟩)], args := #[.func (.yield (w.heap.size + 1)) #[] #[]] }, W1, 37,
    #[.func (.yield (w.heap.size + 1)) #[] #[], .pointer (some ⟨NB, 0, none⟩), .pointer (some ⟨RB, 0, none⟩)], W1, ?_, ?_, ?_, ?_, fun _ => by omega, ?_⟩
  · rw [← hW1, hrec]; exact run_enterLoop_outer _ _ _ _ _
  · simp only [resolve, hg]; simp [go_sem]
  · intro _ _; trivial
  · simp [invoke, go_sem]
  · refine (next1_in (m - 1) (by omega) (w.heap.size + 1) NB RB R A s p n hn J Jx ?_ ?_ ?_ W1 hR1 ?_).mono ?_
    · rintro k W W' ⟨h1, h2, h3, h4, h5⟩ ht
      exact ⟨hI k W W' h1 (Loc.of_two ht), by rw [ht.block NB hne.1 hne.2.1]; exact h2, by rw [ht.block RB hne.2.2.1 hne.2.2.2]; exact h3, by rw [ht.block _ (by omega) (by omega)]; exact h4, by rw [ht.block _ (by omega) (by omega)]; exact h5⟩
    · rintro k W ⟨_, h2, h3, _, _⟩
      exact ⟨by simp [World.cell?, h2], by simp [World.cell?, h3]⟩
    · rintro k W ⟨h1, h2, h3, h4, h5⟩ hRk hk
      have hy := run_yield (P := Tryd.prog) (args := #[.int .i64 (k : Int), .int .i64 (bitOf s (p + k) : Int)]) h5 (by rw [hrec]; exact hps.symm)
      rw [hrec] at hy
      refine ⟨fn, _, assign, body, hy, roundIn_of_wpIn hfn (hassign _ k _ W _ ⟨_, run_beginRound h5 (by rw [hrec]), ?_⟩)⟩
      have hlt5 : w.heap.size + 1 < W.heap.size := (Array.getElem?_eq_some_iff.1 h5).1
      obtain ⟨W2, hW2⟩ : ∃ W2, W.putObj (w.heap.size + 1) (.loop { rec .ready none with state := .busy }) = W2 := ⟨_, rfl⟩
      have hl2 : W2.heap[w.heap.size + 1]? = some (.loop { rec .ready none with state := .busy }) := by rw [← hW2]; exact World.putObj_heap_same hlt5
      have hoth : ∀ b, b ≠ w.heap.size + 1 → W2.heap[b]? = W.heap[b]? := fun b hb => by rw [← hW2]; exact World.putObj_heap_other hb
      have hI2 : I k W2 := hI k W W2 h1 (by rw [← hW2]; exact Loc.put W _ _ (by omega))
      have hRd2 : Rd W2 R A s (p + k + 1) := hRk.of_blocks (fun b hb => hoth b (by omega))
      rw [hW2]
      refine wpIn_mono (hbody _ k W2 hI2 hRd2 hk) ?_
      have fin : ∀ (jump : Option Code) (W3 : World), Kept (fun b => b = R ∨ b = A ∨ b = A + 1 ∨ b = NB ∨ b = RB ∨ b = w.heap.size ∨ b = w.heap.size + 1) W2 W3 →
          (Instr.endRound (w.heap.size + 1) jump).run Tryd.prog W3 = .ok (.bool jump.isNone) (W3.putObj (w.heap.size + 1) (.loop (rec (if jump.isNone then .ready else .done) jump))) ∧
          (W3.putObj (w.heap.size + 1) (.loop (rec (if jump.isNone then .ready else .done) jump))).heap[w.heap.size + 1]? = some (.loop (rec (if jump.isNone then .ready else .done) jump)) ∧
          (∀ b, b ≠ w.heap.size + 1 → (W3.putObj (w.heap.size + 1) (.loop (rec (if jump.isNone then .ready else .done) jump))).heap[b]? = W3.heap[b]?) ∧
          Rd (W3.putObj (w.heap.size + 1) (.loop (rec (if jump.isNone then .ready else .done) jump))) R A s (p + k + 1) := by
        intro jump W3 hk3
        have hl3 := (hk3 (w.heap.size + 1) (by simp)).trans hl2
        have hr3 := run_endRound (P := Tryd.prog) jump hl3
        have hRd3 : Rd W3 R A s (p + k + 1) := hRd2.of_blocks (fun b hb => hk3 b (by omega))
        refine ⟨?_, World.putObj_heap_same (Array.getElem?_eq_some_iff.1 hl3).1, fun b hb => World.putObj_heap_other hb, hRd3.put _ _ (by omega)⟩
        rw [hr3, hrec]
      rintro e a3 W3 hp
      cases e with
      | normal =>
        obtain ⟨hk3, hi3⟩ := hp
        obtain ⟨hr, hl4, ho4, hRd4⟩ := fin none W3 hk3
        refine ⟨_, _, hr, .inl ⟨rfl, ⟨hI _ _ _ hi3 (Loc.put W3 _ _ (by omega)), ?_, ?_, ?_, hl4⟩, hRd4⟩⟩
        · rw [ho4 NB (by omega), hk3 NB (by simp), hoth NB (by omega)]; exact h2
        · rw [ho4 RB (by omega), hk3 RB (by simp), hoth RB (by omega)]; exact h3
        · rw [ho4 _ (by omega), hk3 _ (by simp), hoth _ (by omega)]; exact h4
      | ret =>
        obtain ⟨hk3, hi3⟩ := hp
        obtain ⟨hr, hl4, ho4, hRd4⟩ := fin (some .ret) W3 hk3
        exact ⟨_, _, hr, .inr ⟨rfl, ⟨.ret, hIx _ _ _ _ hi3 (Loc.put W3 _ _ (by omega)), by rw [ho4 _ (by omega), hk3 _ (by simp), hoth _ (by omega)]; exact h4, hl4⟩, hRd4⟩⟩
      | exit id =>
        obtain ⟨hk3, hi3⟩ := hp
        obtain ⟨hr, hl4, ho4, hRd4⟩ := fin (some (.exit id)) W3 hk3
        exact ⟨_, _, hr, .inr ⟨rfl, ⟨.exit id, hIx _ _ _ _ hi3 (Loc.put W3 _ _ (by omega)), by rw [ho4 _ (by omega), hk3 _ (by simp), hoth _ (by omega)]; exact h4, hl4⟩, hRd4⟩⟩
      | goto t => exact hp.elim
      | panic ch => exact hp.elim
      | outgrown => exact hp.elim
    · exact ⟨hI 0 w W1 h0 hloc1, by rw [hold NB hlNB]; exact hNB, by rw [hold RB hlRB]; exact hRB, hD1, hL1⟩
    · rintro e W2 (⟨v, rfl, (⟨⟨hi, _, _, hd, hl⟩, hRd⟩ | ⟨k, hk, ⟨c, hi, hd, hl⟩, hRd⟩)⟩ | ⟨rfl, k, hk, hpk, ⟨hi, _, _, hd, hl⟩, hRd⟩)
      · refine ⟨none, _, by have := run_endLoop (P := Tryd.prog) hl (by rw [hrec]; simp); rw [hrec] at this; exact this, ?_⟩
        exact hdone _ (hI _ _ _ hi (Loc.put W2 _ _ (by omega))) (hRd.put _ _ (by omega)) ((World.putObj_heap_other (by omega)).trans hd)
      · refine ⟨some c, _, by have := run_endLoop (P := Tryd.prog) hl (by rw [hrec]; simp); rw [hrec] at this; exact this, ?_⟩
        exact hstop c k _ (hIx _ _ _ _ hi (Loc.put W2 _ _ (by omega))) hk (hRd.put _ _ (by omega)) ((World.putObj_heap_other (by omega)).trans hd)
      · exact hpanic k W2 hi hk hpk hd

end Go.Proofs.YtgffljllfenhkaaDoor
