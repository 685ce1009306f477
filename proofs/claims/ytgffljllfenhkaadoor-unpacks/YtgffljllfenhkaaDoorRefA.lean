import Derived.Test.YtgffljllfenhkaaDoorRows
import Derived.Test.YtgffljllfenhkaaDoorNumA
import Derived.WalkKit
import Derived.WalkSpells
import Derived.WalkLawsBesides
import Derived.Deep.QuietTactic
import Derived.BigQuiet
namespace Go.Proofs.YtgffljllfenhkaaDoor
open Go.RowKit

/-- The reference's bits, in memory: block B. -/
def Bt (w : World) (B : Nat) (s : ByteArray) (at_ : Nat) (bad : Bool) (out : Value) : Prop :=
  w.heap[B]? = some (.cells #[.string s, .int .i64 at_, .bool bad, out] 37 (0, 0))

theorem Bt.c0 {w : World} {B : Nat} {s : ByteArray} {p : Nat} {bad : Bool} {o : Value} (h : Bt w B s p bad o) : w.cell? ⟨B, 0, none⟩ = some (.string s) := by
  unfold Bt at h; simp [World.cell?, h]
theorem Bt.c1 {w : World} {B : Nat} {s : ByteArray} {p : Nat} {bad : Bool} {o : Value} (h : Bt w B s p bad o) : w.cell? ⟨B, 1, none⟩ = some (.int .i64 p) := by
  unfold Bt at h; simp [World.cell?, h]
theorem Bt.c2 {w : World} {B : Nat} {s : ByteArray} {p : Nat} {bad : Bool} {o : Value} (h : Bt w B s p bad o) : w.cell? ⟨B, 2, none⟩ = some (.bool bad) := by
  unfold Bt at h; simp [World.cell?, h]
theorem Bt.c3 {w : World} {B : Nat} {s : ByteArray} {p : Nat} {bad : Bool} {o : Value} (h : Bt w B s p bad o) : w.cell? ⟨B, 3, none⟩ = some o := by
  unfold Bt at h; simp [World.cell?, h]
theorem Bt.fr {w : World} {B : Nat} {s : ByteArray} {p : Nat} {bad : Bool} {o : Value} (h : Bt w B s p bad o) (i : Nat) : w.frozen? ⟨B, i, none⟩ = false := by
  unfold Bt at h; simp [World.frozen?, h]
theorem Bt.lt {w : World} {B : Nat} {s : ByteArray} {p : Nat} {bad : Bool} {o : Value} (h : Bt w B s p bad o) : B < w.heap.size := (Array.getElem?_eq_some_iff.1 h).1

theorem Bt.drewN {w : World} {B : Nat} {s : ByteArray} {p : Nat} {bad : Bool} {o : Value} (h : Bt w B s p bad o) (n : Nat) : Bt (w.drewN n) B s p bad o := h
theorem Bt.setBad {w : World} {B : Nat} {s : ByteArray} {p : Nat} {bad : Bool} {o : Value} (h : Bt w B s p bad o) (b : Bool) : Bt (w.setCell ⟨B, 2, none⟩ (.bool b)) B s p b o := by
  unfold Bt at h ⊢
  simp [World.setCell, Array.getElem?_modify, h]
theorem Bt.setAt {w : World} {B : Nat} {s : ByteArray} {p : Nat} {bad : Bool} {o : Value} (h : Bt w B s p bad o) (q : Nat) : Bt (w.setCell ⟨B, 1, none⟩ (.int .i64 q)) B s q bad o := by
  unfold Bt at h ⊢
  simp [World.setCell, Array.getElem?_modify, h]
theorem Bt.setOut {w : World} {B : Nat} {s : ByteArray} {p : Nat} {bad : Bool} {o : Value} (h : Bt w B s p bad o) (q : Value) : Bt (w.setCell ⟨B, 3, none⟩ q) B s p bad q := by
  unfold Bt at h ⊢
  simp [World.setCell, Array.getElem?_modify, h]
theorem grownBy_setCell (w : World) (B i : Nat) (v : Value) : w.grownBy (w.setCell ⟨B, i, none⟩ v) (some B) :=
  ⟨rfl, rfl, rfl, by simp, fun k _ hne => Below.heap_setCell _ _ _ _ (by intro e; apply hne; rw [e])⟩
theorem grownBy_drewN {w w' : World} {r : Option Nat} (h : w.grownBy w' r) (n : Nat) : w.grownBy (w'.drewN n) r := ⟨h.os, h.tape, h.output, h.size, h.block⟩
theorem grownBy_refl (w : World) (r : Option Nat) : w.grownBy w r := ⟨rfl, rfl, rfl, Nat.le_refl _, fun _ _ _ => rfl⟩
theorem grownBy_trans {a b c : World} {r : Option Nat} (h : a.grownBy b r) (k : b.grownBy c r) : a.grownBy c r :=
  ⟨k.os.trans h.os, k.tape.trans h.tape, k.output.trans h.output, Nat.le_trans h.size k.size, fun i hi hr => (k.block i (Nat.lt_of_lt_of_le hi h.size) hr).trans (h.block i hi hr)⟩

set_option maxHeartbeats 400000 in
theorem bit_bad (w : World) (B : Nat) (s : ByteArray) (p : Nat) (o : Value) (h : Bt w B s p true o) :
    Calls Tryd.prog 11 #[.pointer (some ⟨B, 0, none⟩)] w fun e w' => e = .returned (.int .i64 0) ∧ Bt w' B s p true o ∧ w.grownBy w' (some B) := by
  have h0 := h.c0
  have h1 := h.c1
  have h2 := h.c2
  have g2 := h.fr 2
  go_enter Tryd.func11, Tryd.ntmps11
  go_wp2
  go_quiet (fail)
  go_wp2
  go_ret
  exact ⟨rfl, (h.drewN nq).setBad true, grownBy_trans (grownBy_drewN (grownBy_refl _ _) nq) (grownBy_setCell _ _ _ _)⟩

set_option maxHeartbeats 400000 in
theorem bit_end (w : World) (B : Nat) (s : ByteArray) (p : Nat) (o : Value) (h : Bt w B s p false o) (hs : s.size ≤ 9000) (hp : 8 * s.size ≤ p) (_hm : p ≤ 100000) :
    Calls Tryd.prog 11 #[.pointer (some ⟨B, 0, none⟩)] w fun e w' => e = .returned (.int .i64 0) ∧ Bt w' B s p true o ∧ w.grownBy w' (some B) := by
  have h0 := h.c0
  have h1 := h.c1
  have h2 := h.c2
  have g2 := h.fr 2
  have hd : (8 : Int) * (s.size : Int) ≤ (p : Int) := by omega
  go_enter Tryd.func11, Tryd.ntmps11
  go_wp2
  go_quiet (fail)
  go_wp2
  go_ret
  exact ⟨rfl, (h.drewN nq).setBad true, grownBy_trans (grownBy_drewN (grownBy_refl _ _) nq) (grownBy_setCell _ _ _ _)⟩

theorem Tryd.underlying9 : Tryd.prog.underlying 9 = some .string := by kernel_rfl

/-- 's[p/8]'. -/
theorem index_byte (s : ByteArray) (p : Nat) (h : p / 8 < s.size) (w : World) :
    (Instr.index 9 (.string s) (.int .i64 ((p : Int) / 8))).run Tryd.prog w = .ok (.int .u8 ((s.data.toList.getD (p / 8) 0).toNat : Int)) w := by
  rw [run_index_string w _ _ _ _ Tryd.underlying9, dif_pos ⟨by omega, by omega⟩]
  have e : ((p : Int) / 8).toNat = p / 8 := by omega
  congr 3
  simp only [e]
  rw [List.getD_eq_getElem?_getD]
  simp [ByteArray.getElem_eq_getElem_data, h]

set_option maxHeartbeats 400000 in
theorem bit_ok (w : World) (B : Nat) (s : ByteArray) (p : Nat) (o : Value) (h : Bt w B s p false o) (hs : s.size ≤ 9000) (hp : p < 8 * s.size) :
    Calls Tryd.prog 11 #[.pointer (some ⟨B, 0, none⟩)] w fun e w' => e = .returned (.int .i64 (bitOf s p)) ∧ Bt w' B s (p + 1) false o ∧ w.grownBy w' (some B) := by
  have h0 := h.c0
  have h1 := h.c1
  have h2 := h.c2
  have g1 := h.fr 1
  have hd : ¬ (8 : Int) * (s.size : Int) ≤ (p : Int) := by omega
  have hq : (p : Int) / 8 < (s.size : Int) := by omega
  have hq' : p / 8 < s.size := by omega
  have hw : IntKind.i64.wrap ((p : Int) / 8) = (p : Int) / 8 := wrap_i64_ediv _ _ (by omega) (by omega) (by omega)
  have hix := index_byte s p hq'
  go_enter Tryd.func11, Tryd.ntmps11
  go_wp2
  go_quiet (fail)
  go_wp2
  go_quiet (fail)
  go_wp2
  go_ret
  refine ⟨?_, ?_, ?_⟩
  · exact congrArg (fun n => Ending.returned (Value.int .i64 n)) (bit_value s p hq')
  · exact (h.drewN _).setAt (p + 1)
  · exact grownBy_trans (grownBy_drewN (grownBy_refl _ _) _) (grownBy_setCell _ _ _ _)
end Go.Proofs.YtgffljllfenhkaaDoor
