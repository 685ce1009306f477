import Derived.Test.YtgffljllfenhkaaDoorRinE
import Derived.Test.YtgffljllfenhkaaDoorRefJ
namespace Go.Proofs.YtgffljllfenhkaaDoor
open Go.RowKit

/-- The program's unpacker, in memory. -/
structure Up (w : World) (U R A M b0 : Nat) (s : ByteArray) (p : Nat) (o : Value) (out : List UInt8) : Prop where
  u : w.heap[U]? = some (.cells #[.pointer (some ⟨R, 0, none⟩), o, .func (.func 31) #[] #[.pointer (some ⟨M, 0, none⟩), .pointer (some ⟨M + 1, 0, none⟩)]] 52 (0, 0))
  rd : Rd w R A s p
  m : w.heap[M]? = some (.cells #[.int .i64 ((2000 - out.length : Nat) : Int)] 3 (0, 0))
  y : w.heap[M + 1]? = some (.cells #[.int .i64 9, .int .i64 0] 30 (0, 0))
  row : Row8 w b0 o out
  hl : out.length ≤ 2000
  ne : U ≠ R ∧ U ≠ A ∧ U ≠ A + 1 ∧ U ≠ M ∧ U ≠ M + 1 ∧ M ≠ R ∧ M ≠ A ∧ M ≠ A + 1 ∧ M + 1 ≠ R ∧ M + 1 ≠ A ∧ M + 1 ≠ A + 1
  lt : U < b0 ∧ R < b0 ∧ A + 1 < b0 ∧ M + 1 < b0
  hb : b0 ≤ w.heap.size

/-- What a step of the unpacker's may turn. -/
structure Fu (U R A M : Nat) (o : Value) (w : World) (o' : Value) (w' : World) : Prop where
  os : w'.os = w.os
  tape : w'.tape = w.tape
  output : w'.output = w.output
  size : w.heap.size ≤ w'.heap.size
  block : ∀ k, k < w.heap.size → k ≠ R → k ≠ A → k ≠ U → k ≠ M → o.ownBlock ≠ some k → w'.heap[k]? = w.heap[k]?
  own : o'.ownBlock = o.ownBlock ∨ ∃ g, o'.ownBlock = some g ∧ w.heap.size ≤ g

theorem Fu.refl (U R A M : Nat) (o : Value) (w : World) : Fu U R A M o w o w := ⟨rfl, rfl, rfl, Nat.le_refl _, fun _ _ _ _ _ _ _ => rfl, .inl rfl⟩
theorem Fu.trans {U R A M : Nat} {o o' o'' : Value} {w w' w'' : World} (h : Fu U R A M o w o' w') (k : Fu U R A M o' w' o'' w'') : Fu U R A M o w o'' w'' := by
  refine ⟨k.os.trans h.os, k.tape.trans h.tape, k.output.trans h.output, Nat.le_trans h.size k.size, ?_, ?_⟩
  · intro b hb h1 h2 h3 h4 h5
    rw [k.block b (Nat.lt_of_lt_of_le hb h.size) h1 h2 h3 h4 ?_, h.block b hb h1 h2 h3 h4 h5]
    rcases h.own with e | ⟨g, e, hg⟩
    · rw [e]; exact h5
    · rw [e]; intro e'; simp at e'; omega
  · rcases k.own with e | ⟨g, e, hg⟩
    · rcases h.own with e' | ⟨g, e', hg⟩
      · exact .inl (e.trans e')
      · exact .inr ⟨g, e.trans e', hg⟩
    · exact .inr ⟨g, e, Nat.le_trans h.size hg⟩
theorem Fu.of_fp {U R A M : Nat} {w w' : World} (o : Value) (h : Fp R A w w') : Fu U R A M o w o w' := ⟨h.os, h.tape, h.output, h.size, fun k hk h1 h2 _ _ _ => h.block k hk h1 h2, .inl rfl⟩
theorem Fu.of_grown {U R A M b : Nat} {w w' : World} (o : Value) (h : w.grownBy w' (some b)) (hb : b = R ∨ b = A ∨ b = U ∨ b = M) : Fu U R A M o w o w' :=
  ⟨h.os, h.tape, h.output, h.size, fun k hk h1 h2 h3 h4 _ => h.block k hk (by simp; omega), .inl rfl⟩
theorem Fu.alloc (U R A M : Nat) (o : Value) (w : World) (x : Obj) : Fu U R A M o w o (w.alloc x) := Fu.of_fp o (Fp.alloc R A w x)
theorem Fu.drew (U R A M : Nat) (o : Value) (w : World) : Fu U R A M o w o w.drew := Fu.of_fp o (Fp.drew R A w)

theorem Up.cu0 {w : World} {U R A M b0 : Nat} {s : ByteArray} {p : Nat} {o : Value} {out : List UInt8} (h : Up w U R A M b0 s p o out) : w.cell? ⟨U, 0, none⟩ = some (.pointer (some ⟨R, 0, none⟩)) := by simp [World.cell?, h.u]
theorem Up.cu1 {w : World} {U R A M b0 : Nat} {s : ByteArray} {p : Nat} {o : Value} {out : List UInt8} (h : Up w U R A M b0 s p o out) : w.cell? ⟨U, 1, none⟩ = some o := by simp [World.cell?, h.u]
theorem Up.cu2 {w : World} {U R A M b0 : Nat} {s : ByteArray} {p : Nat} {o : Value} {out : List UInt8} (h : Up w U R A M b0 s p o out) : w.cell? ⟨U, 2, none⟩ = some (.func (.func 31) #[] #[.pointer (some ⟨M, 0, none⟩), .pointer (some ⟨M + 1, 0, none⟩)]) := by simp [World.cell?, h.u]
theorem Up.fu {w : World} {U R A M b0 : Nat} {s : ByteArray} {p : Nat} {o : Value} {out : List UInt8} (h : Up w U R A M b0 s p o out) (i : Nat) : w.frozen? ⟨U, i, none⟩ = false := by simp [World.frozen?, h.u]
theorem Up.cm {w : World} {U R A M b0 : Nat} {s : ByteArray} {p : Nat} {o : Value} {out : List UInt8} (h : Up w U R A M b0 s p o out) : w.cell? ⟨M, 0, none⟩ = some (.int .i64 ((2000 - out.length : Nat) : Int)) := by simp [World.cell?, h.m]
theorem Up.cy {w : World} {U R A M b0 : Nat} {s : ByteArray} {p : Nat} {o : Value} {out : List UInt8} (h : Up w U R A M b0 s p o out) : w.cell? ⟨M + 1, 0, none⟩ = some (.int .i64 9) := by simp [World.cell?, h.y]
theorem Up.fm {w : World} {U R A M b0 : Nat} {s : ByteArray} {p : Nat} {o : Value} {out : List UInt8} (h : Up w U R A M b0 s p o out) (i : Nat) : w.frozen? ⟨M, i, none⟩ = false := by simp [World.frozen?, h.m]
theorem Up.own {w : World} {U R A M b0 : Nat} {s : ByteArray} {p : Nat} {o : Value} {out : List UInt8} (h : Up w U R A M b0 s p o out) : ∀ k, o.ownBlock = some k → b0 ≤ k ∧ k < w.heap.size := World.ownsRow.lt h.row
theorem Up.ltU {w : World} {U R A M b0 : Nat} {s : ByteArray} {p : Nat} {o : Value} {out : List UInt8} (h : Up w U R A M b0 s p o out) : U < w.heap.size := (Array.getElem?_eq_some_iff.1 h.u).1
theorem Up.ltM {w : World} {U R A M b0 : Nat} {s : ByteArray} {p : Nat} {o : Value} {out : List UInt8} (h : Up w U R A M b0 s p o out) : M + 1 < w.heap.size := (Array.getElem?_eq_some_iff.1 h.y).1

/-- A read: the reader has gone on; all else is as it was. -/
theorem Up.read {w w' : World} {U R A M b0 : Nat} {s : ByteArray} {p q : Nat} {o : Value} {out : List UInt8} (h : Up w U R A M b0 s p o out) (hr : Rd w' R A s q) (hf : Fp R A w w') : Up w' U R A M b0 s q o out := by
  obtain ⟨n1, n2, n3, n4, n5, n6, n7, n8, n9, n10, n11⟩ := h.ne
  have hlt := h.lt
  refine ⟨by rw [hf.block U h.ltU n1 n2]; exact h.u, hr, by rw [hf.block M (by have := h.ltM; omega) n6 n7]; exact h.m, by rw [hf.block (M + 1) h.ltM n9 n10]; exact h.y, ?_, h.hl, h.ne, h.lt, Nat.le_trans h.hb hf.size⟩
  refine ⟨h.row.1, ?_⟩
  rcases h.row.2 with hn | ⟨g, cap, cur, rfl, hb, hg, rest⟩
  · exact .inl hn
  · exact .inr ⟨g, cap, cur, rfl, hb, by rw [hf.block g (Array.getElem?_eq_some_iff.1 hg).1 (by omega) (by omega)]; exact hg, rest⟩
theorem Up.alloc {w : World} {U R A M b0 : Nat} {s : ByteArray} {p : Nat} {o : Value} {out : List UInt8} (h : Up w U R A M b0 s p o out) (x : Obj) : Up (w.alloc x) U R A M b0 s p o out := h.read (h.rd.alloc x) (Fp.alloc R A w x)
theorem Up.drew {w : World} {U R A M b0 : Nat} {s : ByteArray} {p : Nat} {o : Value} {out : List UInt8} (h : Up w U R A M b0 s p o out) : Up w.drew U R A M b0 s p o out := h.read h.rd.drew (Fp.drew R A w)

def PutQ (w : World) (U R A M b0 : Nat) (s : ByteArray) (p : Nat) (o : Value) (r : Option (List UInt8)) (e : Ending) (w' : World) : Prop :=
  (∃ out', r = some out' ∧ e = .returned (.tuple #[]) ∧ ∃ o', Up w' U R A M b0 s p o' out' ∧ Fu U R A M o w o' w') ∨ (r = none ∧ e = .panicked thrown ∧ ∃ o', Fu U R A M o w o' w')

/-- A way that has ended: what 'go_region_with' may walk on from, which asks nothing. -/
theorem dead_end {C : Prop} (a : Act) (w : World) (h : C) (_ : wpAny Tryd.prog .any #[] (fun _ _ _ => True) 0 #[] a w) : C := h

set_option maxHeartbeats 400000 in
theorem demand_ok (w : World) {v : Value} : Calls Tryd.prog 23 #[v, .bool true] w fun e w' => e = .returned (.tuple #[]) ∧ w = w' := by
  go_enter Tryd.func23, Tryd.ntmps23
  go_wp2
  first | go_end0 | refine bodyPost_ret (results_none rfl _ _ _) rfl ?_
  exact ⟨rfl, rfl⟩
set_option maxHeartbeats 400000 in
theorem demand_no {w : World} {R A : Nat} {s : ByteArray} {p : Nat} (hR : Rd w R A s p) : Calls Tryd.prog 23 #[.pointer (some ⟨R, 0, none⟩), .bool false] w fun e w' => e = .panicked thrown ∧ w = w' := by
  have c4 := hR.c4
  have c5 := hR.c5
  go_enter Tryd.func23, Tryd.ntmps23
  go_wp2_with fail
  exact ⟨rfl, rfl, rfl⟩

set_option maxHeartbeats 1000000 in
set_option maxRecDepth 100000 in
theorem pput_any (w : World) (U R A M b0 : Nat) (s : ByteArray) (p : Nat) (o : Value) (out : List UInt8) (c : Int) (h : Up w U R A M b0 s p o out) (hc : 0 ≤ c ∧ c < 256) :
    Calls Tryd.prog 39 #[.pointer (some ⟨U, 0, none⟩), .int .u8 c] w (PutQ w U R A M b0 s p o (if out.length < 2000 then some (out ++ [UInt8.ofNat c.toNat]) else none)) := by
  obtain ⟨i0, hi, hz0, hz1, hz2⟩ := info_parts Tryd.info5
  obtain ⟨n1, n2, n3, n4, n5, n6, n7, n8, n9, n10, n11⟩ := h.ne
  have c2 := h.cu2
  have c0 := h.cu0
  have c3 := h.rd.c3
  have cm := h.cm
  have cy := h.cy
  have fm := h.fm 0
  have hl := h.hl
  have hltb := h.lt
  by_cases hf : out.length < 2000
  · rw [if_pos hf]
    go_enter Tryd.func39, Tryd.ntmps39
    go_wp2_with (go_at_call 10; refine (free_any w 1).mono ?_; rintro e w0 ⟨rfl, rfl⟩)
    refine (take_ok w M (2000 - out.length) cm fm (by omega) (by omega)).mono ?_
    rintro e w1 ⟨rfl, hw1⟩
    have hg1 : w.grownBy w1 (some M) := by rw [← hw1]; exact grownBy_setCell _ _ _ _
    have hm1 : w1.heap[M]? = some (.cells #[.int .i64 ((2000 - (out.length + 1) : Nat) : Int)] 3 (0, 0)) := by
      rw [← hw1, heap_setCell_same w M 0 _ _ _ h.m]
      have e : ((2000 - out.length : Nat) : Int) - 1 = ((2000 - (out.length + 1) : Nat) : Int) := by omega
      rw [e]; simp
    have hu1 : w1.heap[U]? = _ := (hg1.block U h.ltU (by simp; omega)).trans h.u
    have hrow1 : Row8 w1 b0 o out := h.row.kept hg1 (.inr (fun e => by have := (h.own M e).1; omega))
    have hcu1 : w1.cell? ⟨U, 1, none⟩ = some o := by simp [World.cell?, hu1]
    have hfu1 : w1.frozen? ⟨U, 1, none⟩ = false := by simp [World.frozen?, hu1]
    have hrd1 : Rd w1 R A s p := h.rd.of_blocks (fun k hk => hg1.block k (by have := h.rd.ltA; have := h.rd.ltR; omega) (by simp; omega))
    have hy1 : w1.heap[M + 1]? = _ := (hg1.block (M + 1) h.ltM (by simp)).trans h.y
    have hs1 := hg1.size
    have HW := hg1
    clear hw1 cm cy fm c2 c0 c3
    obtain ⟨ao, cp, ho⟩ := hrow1.shape
    subst ho
    have hr' : w1.ownsRow b0 5 1 (.slice ao out.length cp) out.length (out.map byteV) := hrow1
    have hb0 : b0 ≤ w1.heap.size := Nat.le_trans h.hb hs1
    have hneU : (Value.slice ao out.length cp).ownBlock ≠ some U := fun e => by have := (h.own U e).1; omega
    have hneR : ∀ k, k < b0 → (Value.slice ao out.length cp).ownBlock ≠ some k := fun k hk e => by have := (h.own k e).1; omega
    obtain ⟨W2, hW2⟩ : ∃ W2, w1.alloc (.cells #[.int .u8 c] 5) = W2 := ⟨_, rfl⟩
    have hg2 := World.grownBy_alloc w1 (.cells #[.int .u8 c] 5) (Value.slice ao out.length cp).ownBlock
    have HW2 := hW2
    clear hW2 HW2 W2
    go_wp2_with (at_builtin; refine wpList_append_own_at _ rfl _ _ 35 rfl b0 5 i0 (.int .u8 0) 1 1 Tryd.underlying35 hi hz0 hz1 hz2 rfl (by decide) _ _ _ rfl (World.ownsRow.alloc hr' _) ⟨w1.heap.size, 0, none⟩ 1 1 [.int .u8 c] rfl rfl (cell_one_new _ _ _) (by simp [Value.oneCell']) (by unfold maxLen; omega) (by omega) (by simp; omega) ?_; intro v' w2 hown' hgrow _ hat; obtain ⟨g', cap', rfl⟩ := ownsRow_succ hown'; have hgg := grownBy_trans hg2 hgrow; have hu2 := (hgg.block U (Nat.lt_of_lt_of_le h.ltU hs1) (fun e => hneU e.symm)).trans hu1; have hcu2 : w2.cell? ⟨U, 1, none⟩ = some (.slice ao out.length cp) := (by simp [World.cell?, hu2]); have hfu2 : w2.frozen? ⟨U, 1, none⟩ = false := (by simp [World.frozen?, hu2]))
    first | go_end0 | refine bodyPost_ret (results_none rfl _ _ _) rfl ?_
    have hset := grownBy_setCell w2 U 1 (.slice (some ⟨g', 0, none⟩) (out.length + 1) cap')
    have hrowN : Row8 w2 b0 (.slice (some ⟨g', 0, none⟩) (out.length + 1) cap') (out ++ [UInt8.ofNat c.toNat]) := by
      unfold Row8
      have e : byteV (UInt8.ofNat c.toNat) = .int .u8 c := by unfold byteV; rw [UInt8.toNat_ofNat']; congr 1; omega
      simpa [e] using hown'
    refine .inl ⟨_, rfl, rfl, .slice (some ⟨g', 0, none⟩) (out.length + 1) cap', ⟨?_, ?_, ?_, ?_, ?_, by simp; omega, h.ne, h.lt, ?_⟩, ?_⟩
    · have := heap_setCell_same w2 U 1 _ _ (.slice (some ⟨g', 0, none⟩) (out.length + 1) cap') hu2
      rw [this]; simp
    · refine hrd1.of_blocks (fun k hk => ?_)
      rw [hset.block k (by have := hgg.size; have := hrd1.ltA; have := hrd1.ltR; omega) (by simp; omega), hgg.block k (by have := hrd1.ltA; have := hrd1.ltR; omega) (fun e => hneR k (by omega) e.symm)]
    · rw [hset.block M (by have := hgg.size; have := h.ltM; omega) (by simp; omega), hgg.block M (by have := h.ltM; omega) (fun e => hneR M (by omega) e.symm)]
      simpa using hm1
    · rw [hset.block (M + 1) (by have := hgg.size; have := h.ltM; omega) (by simp; omega), hgg.block (M + 1) (by have := h.ltM; omega) (fun e => hneR (M + 1) (by omega) e.symm)]
      exact hy1
    · exact hrowN.kept hset (.inr (fun e => by have := (World.ownsRow.lt hrowN U e).1; omega))
    · have := hgg.size; simp; omega
    · refine ⟨?_, ?_, ?_, ?_, ?_, ?_⟩
      · exact hset.os.trans (hgg.os.trans HW.os)
      · exact hset.tape.trans (hgg.tape.trans HW.tape)
      · exact hset.output.trans (hgg.output.trans HW.output)
      · have := hgg.size; simp; omega
      · intro k hk h1 h2 h3 h4 h5
        rw [hset.block k (by have := hgg.size; omega) (by simp; omega), hgg.block k (by omega) (fun e => h5 e.symm), HW.block k hk (by simp; omega)]
      · rcases hat with e | e
        · exact .inl e
        · exact .inr ⟨_, e, by simp; omega⟩
  · rw [if_neg hf]
    have e0 : 2000 - out.length = 0 := by omega
    rw [e0] at cm
    go_enter Tryd.func39, Tryd.ntmps39
    have hy := h.y
    go_wp2_with (go_at_call 10; refine (free_any w 1).mono ?_; rintro e w0 ⟨rfl, rfl⟩)
    refine (take_no w M cm hy).mono ?_
    rintro e w1 ⟨rfl, rfl⟩
    exact ⟨rfl, .inr ⟨rfl, rfl, o, Fu.refl _ _ _ _ _ _⟩⟩
end Go.Proofs.YtgffljllfenhkaaDoor
