import Derived.Test.YtgffljllfenhkaaDoorRefB
import Derived.Maps.AppendAt
import Derived.RangeFuncBox
namespace Go.Proofs.YtgffljllfenhkaaDoor
open Go.RowKit

def byteV (c : UInt8) : Value := .int .u8 (c.toNat : Int)
/-- A row of bytes that the call owns, laid from block 'base' on. -/
def Row8 (w : World) (base : Nat) (o : Value) (out : List UInt8) : Prop := w.ownsRow base 5 1 o out.length (out.map byteV)

/-- What a step may turn: block B, the row o; what came anew. -/
structure Fr (B : Nat) (o : Value) (w : World) (o' : Value) (w' : World) : Prop where
  os : w'.os = w.os
  tape : w'.tape = w.tape
  output : w'.output = w.output
  size : w.heap.size ≤ w'.heap.size
  block : ∀ k, k < w.heap.size → k ≠ B → o.ownBlock ≠ some k → w'.heap[k]? = w.heap[k]?
  own : o'.ownBlock = o.ownBlock ∨ ∃ g, o'.ownBlock = some g ∧ w.heap.size ≤ g

theorem Fr.refl (B : Nat) (o : Value) (w : World) : Fr B o w o w := ⟨rfl, rfl, rfl, Nat.le_refl _, fun _ _ _ _ => rfl, .inl rfl⟩
theorem Fr.trans {B : Nat} {o o' o'' : Value} {w w' w'' : World} (h : Fr B o w o' w') (k : Fr B o' w' o'' w'') : Fr B o w o'' w'' := by
  refine ⟨k.os.trans h.os, k.tape.trans h.tape, k.output.trans h.output, Nat.le_trans h.size k.size, ?_, ?_⟩
  · intro b hb h1 h2
    rw [k.block b (Nat.lt_of_lt_of_le hb h.size) h1 ?_, h.block b hb h1 h2]
    rcases h.own with e | ⟨g, e, hg⟩
    · rw [e]; exact h2
    · rw [e]; intro e'; simp at e'; omega
  · rcases k.own with e | ⟨g, e, hg⟩
    · rcases h.own with e' | ⟨g, e', hg⟩
      · exact .inl (e.trans e')
      · exact .inr ⟨g, e.trans e', hg⟩
    · exact .inr ⟨g, e, Nat.le_trans h.size hg⟩
theorem Fr.of_grown {B : Nat} {w w' : World} (o : Value) (h : w.grownBy w' (some B)) : Fr B o w o w' :=
  ⟨h.os, h.tape, h.output, h.size, fun k hk h1 _ => h.block k hk (fun e => h1 (by simpa using e)), .inl rfl⟩
theorem Fr.of_grown_none {B : Nat} {w w' : World} (o : Value) (h : w.grownBy w' none) : Fr B o w o w' :=
  ⟨h.os, h.tape, h.output, h.size, fun k hk _ _ => h.block k hk (fun e => by cases e), .inl rfl⟩
theorem Fr.alloc (B : Nat) (o : Value) (w : World) (x : Obj) : Fr B o w o (w.alloc x) := Fr.of_grown_none o (World.grownBy_alloc w x none)
theorem Fr.drewN (B : Nat) (o : Value) (w : World) (n : Nat) : Fr B o w o (w.drewN n) := ⟨rfl, rfl, rfl, Nat.le_refl _, fun _ _ _ _ => rfl, .inl rfl⟩
theorem Fr.drew (B : Nat) (o : Value) (w : World) : Fr B o w o w.drew := ⟨rfl, rfl, rfl, Nat.le_refl _, fun _ _ _ _ => rfl, .inl rfl⟩

theorem Row8.shape {w : World} {base : Nat} {o : Value} {out : List UInt8} (h : Row8 w base o out) : ∃ a cap, o = .slice a out.length cap := by
  rcases h.2 with ⟨e, hn⟩ | ⟨g, cap, _, e, _⟩
  · exact ⟨none, 0, by rw [hn]; exact e⟩
  · exact ⟨_, _, e⟩
theorem Row8.kept {w w' : World} {base : Nat} {o : Value} {out : List UInt8} {r : Option Nat} (h : Row8 w base o out) (hg : w.grownBy w' r) (hne : o.ownBlock = none ∨ o.ownBlock ≠ r) : Row8 w' base o out :=
  World.ownsRow.kept h hg hne
theorem Row8.ne {w : World} {B : Nat} {o : Value} {out : List UInt8} (h : Row8 w (B + 1) o out) : o.ownBlock = none ∨ o.ownBlock ≠ some B := by
  right; intro e; have := World.ownsRow.lt h B e; omega
theorem Row8.byB {w w' : World} {B : Nat} {o : Value} {out : List UInt8} (h : Row8 w (B + 1) o out) (hg : w.grownBy w' (some B)) : Row8 w' (B + 1) o out := h.kept hg h.ne
theorem Bt.kept {w w' : World} {B : Nat} {s : ByteArray} {p : Nat} {bad : Bool} {o : Value} {r : Option Nat} (h : Bt w B s p bad o) (hg : w.grownBy w' r) (hne : r ≠ some B) : Bt w' B s p bad o := by
  have hl := h.lt
  unfold Bt at h ⊢
  rw [hg.block B hl (fun e => hne e.symm)]; exact h

theorem Fr.put {B : Nat} {o o' : Value} {w w1 w2 : World} (h : w.grownBy w1 o.ownBlock) (hat : o'.ownBlock = o.ownBlock ∨ o'.ownBlock = some (w.heap.size + 1)) (k : w1.grownBy w2 (some B)) : Fr B o w o' w2 := by
  refine ⟨k.os.trans h.os, k.tape.trans h.tape, k.output.trans h.output, Nat.le_trans h.size k.size, ?_, ?_⟩
  · intro b hb h1 h2
    rw [k.block b (Nat.lt_of_lt_of_le hb h.size) (fun e => h1 (by simpa using e)), h.block b hb (fun e => h2 e.symm)]
  · rcases hat with e | e
    · exact .inl e
    · exact .inr ⟨_, e, by omega⟩

theorem Bt.alloc {w : World} {B : Nat} {s : ByteArray} {p : Nat} {bad : Bool} {o : Value} (h : Bt w B s p bad o) (x : Obj) : Bt (w.alloc x) B s p bad o :=
  h.kept (World.grownBy_alloc w x none) (by simp)

theorem Tryd.underlying35 : Tryd.prog.underlying 35 = some (.slice 5) := by kernel_rfl
theorem Tryd.info5 : (Tryd.prog.info? 5).map (fun i => (i.zero, i.size, i.bytes)) = some (some (.int .u8 0), 1, 1) := by kernel_rfl

set_option maxHeartbeats 400000 in
theorem put_full (w : World) (B : Nat) (s : ByteArray) (p : Nat) (bad : Bool) (o : Value) (out : List UInt8) (c : UInt8) (h : Bt w B s p bad o) (hr : Row8 w (B + 1) o out) (hf : 2000 ≤ out.length) :
    Calls Tryd.prog 25 #[.pointer (some ⟨B, 0, none⟩), byteV c] w fun e w' => e = .returned (.tuple #[]) ∧ Bt w' B s p true o ∧ w.grownBy w' (some B) := by
  obtain ⟨a, cap, rfl⟩ := hr.shape
  have h2 := h.c2
  have h3 := h.c3
  have g2 := h.fr 2
  have hf' : (2000 : Int) ≤ (out.length : Int) := by omega
  go_enter Tryd.func25, Tryd.ntmps25
  go_wp2
  first | go_end0 | refine bodyPost_ret (results_none rfl _ _ _) rfl ?_
  exact ⟨rfl, h.setBad true, grownBy_setCell _ _ _ _⟩

set_option maxHeartbeats 400000 in
set_option maxRecDepth 100000 in
theorem put_room (w : World) (B : Nat) (s : ByteArray) (p : Nat) (bad : Bool) (o : Value) (out : List UInt8) (c : UInt8) (h : Bt w B s p bad o) (hr : Row8 w (B + 1) o out) (hf : out.length < 2000) :
    Calls Tryd.prog 25 #[.pointer (some ⟨B, 0, none⟩), byteV c] w fun e w' => e = .returned (.tuple #[]) ∧ ∃ o', Bt w' B s p bad o' ∧ Row8 w' (B + 1) o' (out ++ [c]) ∧ Fr B o w o' w' := by
  obtain ⟨i0, hi, hz0, hz1, hz2⟩ := info_parts Tryd.info5
  obtain ⟨a, cap, rfl⟩ := hr.shape
  have h3 := h.c3
  have g3 := h.fr 3
  have hlt := h.lt
  have hf' : ¬ (2000 : Int) ≤ (out.length : Int) := by omega
  have hne : (Value.slice a out.length cap).ownBlock ≠ some B := by rcases hr.ne with e | e; (rw [e]; simp); exact e
  have hr' : w.ownsRow (B + 1) 5 1 (.slice a out.length cap) out.length (out.map byteV) := hr
  unfold byteV
  go_enter Tryd.func25, Tryd.ntmps25
  go_wp2_with (at_builtin; (refine wpList_append_own_at _ rfl _ _ 35 rfl (B + 1) 5 i0 (.int .u8 0) 1 1 Tryd.underlying35 hi hz0 hz1 hz2 rfl (by decide) _ _ _ rfl (World.ownsRow.alloc hr' _) ⟨w.heap.size, 0, none⟩ 1 1 [.int .u8 (c.toNat : Int)] rfl rfl (cell_one_new _ _ _) (by simp [Value.oneCell']) (by unfold maxLen; omega) (by omega) (by simp; omega) ?_; intro v' w1 hown' hgrow _ hat; obtain ⟨g', cap', rfl⟩ := ownsRow_succ hown'; have hB1 := (h.alloc (.cells #[.int .u8 (c.toNat : Int)] 5)).kept hgrow hne; have k3 := hB1.c3; have j3 := hB1.fr 3))
  first | go_end0 | refine bodyPost_ret (results_none rfl _ _ _) rfl ?_
  refine ⟨rfl, _, hB1.setOut _, ?_, ?_⟩
  · have : Row8 w1 (B + 1) (.slice (some ⟨g', 0, none⟩) (out.length + 1) cap') (out ++ [c]) := by
      unfold Row8; simpa [byteV] using hown'
    exact this.byB (grownBy_setCell _ _ _ _)
  · have hat' : (Value.slice (some ⟨g', 0, none⟩) (out.length + 1) cap').ownBlock = (Value.slice a out.length cap).ownBlock ∨ (Value.slice (some ⟨g', 0, none⟩) (out.length + 1) cap').ownBlock = some (w.heap.size + 1) := by
      have := hat; rw [World.size_alloc] at this; exact this
    have hg0 := (World.grownBy_alloc w (.cells #[.int .u8 (c.toNat : Int)] 5) (Value.slice a out.length cap).ownBlock)
    have hg1 := grownBy_trans hg0 hgrow
    exact Fr.put hg1 hat' (grownBy_setCell _ _ _ _)

theorem put_any (w : World) (B : Nat) (s : ByteArray) (p : Nat) (bad : Bool) (o : Value) (out : List UInt8) (c : UInt8) (h : Bt w B s p bad o) (hr : Row8 w (B + 1) o out) :
    Calls Tryd.prog 25 #[.pointer (some ⟨B, 0, none⟩), byteV c] w fun e w' => e = .returned (.tuple #[]) ∧ ∃ o' bad' out', Bt w' B s p bad' o' ∧ Row8 w' (B + 1) o' out' ∧ Fr B o w o' w' ∧
      bad' = (bad || decide (2000 ≤ out.length)) ∧ (bad' = false → out' = out ++ [c]) ∧ (out.length ≤ 2000 → out'.length ≤ 2000) := by
  by_cases hf : out.length < 2000
  · refine (put_room w B s p bad o out c h hr hf).mono ?_
    rintro e w' ⟨rfl, o', h1, h2, h3⟩
    exact ⟨rfl, o', bad, _, h1, h2, h3, by simp; omega, fun _ => rfl, fun _ => by simp; omega⟩
  · refine (put_full w B s p bad o out c h hr (by omega)).mono ?_
    rintro e w' ⟨rfl, h1, h2⟩
    exact ⟨rfl, o, true, out, h1, hr.byB h2, Fr.of_grown _ h2, by simp; omega, by simp, fun h => h⟩
end Go.Proofs.YtgffljllfenhkaaDoor
