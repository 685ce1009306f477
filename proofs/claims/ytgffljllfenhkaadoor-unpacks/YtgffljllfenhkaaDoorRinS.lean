import Derived.Test.YtgffljllfenhkaaDoorRinR
import Derived.Test.YtgffljllfenhkaaDoorRefP
namespace Go.Proofs.YtgffljllfenhkaaDoor
open Go.RowKit

set_option maxHeartbeats 1000000 in
set_option maxRecDepth 100000 in
theorem atEnd_any (w : World) (R A : Nat) (s : ByteArray) (p : Nat) (h : Rd w R A s p) :
    Calls Tryd.prog 24 #[.pointer (some ⟨R, 0, none⟩)] w fun e w' => e = .returned (.bool (decide ((p + 7) / 8 = s.size))) ∧ w' = w.drew := by
  have c0 := h.c0
  have c1 := h.c1
  have hp := h.hp
  have hs := h.hs
  go_enter Tryd.func24, Tryd.ntmps24
  go_wp2_with fail
  go_region
  go_wp2_with fail
  go_ret
  refine ⟨congrArg (fun b => Ending.returned (Value.bool b)) ?_, rfl⟩
  rw [Bool.eq_iff_iff]; simp; omega

set_option maxHeartbeats 1000000 in
theorem allowance_any (w : World) (n : Int) :
    Calls Tryd.prog 20 #[.int .i64 n, .agg #[.int .i64 9, .int .i64 0]] w fun e w' => e = .returned (.func (.func 31) #[] #[.pointer (some ⟨w.heap.size, 0, none⟩), .pointer (some ⟨w.heap.size + 1, 0, none⟩)]) ∧ w' = (w.alloc (.cells #[.int .i64 n] 3)).alloc (.cells #[.int .i64 9, .int .i64 0] 30) := by
  have hmf := Tryd.mfn Tryd.prog
  go_enter Tryd.func20, Tryd.ntmps20
  go_wp2_with fail
  go_ret
  exact ⟨rfl, rfl⟩

theorem heap3 (w : World) (o1 o2 o3 : Obj) : (((w.alloc o1).alloc o2).alloc o3).heap[w.heap.size]? = some o1 ∧ (((w.alloc o1).alloc o2).alloc o3).heap[w.heap.size + 1]? = some o2 ∧ (((w.alloc o1).alloc o2).alloc o3).heap[w.heap.size + 2]? = some o3 := by
  refine ⟨?_, ?_, ?_⟩
  · rw [Below.heap_alloc _ _ _ (by simp; omega)]; exact heap_alloc2_old w _ _
  · rw [Below.heap_alloc _ _ _ (by simp)]; exact heap_alloc2_new w _ _
  · have := World.alloc_heap_new ((w.alloc o1).alloc o2) o3
    simpa using this

/-- The same, by what stands behind it. -/
theorem allow_n (w : World) (n : Int) :
    Calls Tryd.prog 20 #[.int .i64 n, .agg #[.int .i64 9, .int .i64 0]] w fun e w' => e = .returned (.func (.func 31) #[] #[.pointer (some ⟨w.heap.size, 0, none⟩), .pointer (some ⟨w.heap.size + 1, 0, none⟩)]) ∧
      w'.heap[w.heap.size]? = some (.cells #[.int .i64 n] 3 (0, 0)) ∧ w'.heap[w.heap.size + 1]? = some (.cells #[.int .i64 9, .int .i64 0] 30 (0, 0)) ∧ Below w.heap.size w w' ∧ w'.heap.size = w.heap.size + 2 := by
  refine (allowance_any w n).mono ?_
  rintro e w' ⟨rfl, rfl⟩
  exact ⟨rfl, heap_alloc2_old w _ _, heap_alloc2_new w _ _, ((Below.refl _ _).alloc (Nat.le_refl _) _).alloc (by simp) _, by simp⟩

theorem why_at {w : World} {N : Nat} (h : w.heap[N]? = some (.cells #[.int .i64 9, .int .i64 0] 30 (0, 0))) : w.cell? ⟨N, 0, none⟩ = some (.int .i64 9) ∧ w.cell? ⟨N, 1, none⟩ = some (.int .i64 0) := by
  constructor <;> simp [World.cell?, h]

set_option maxHeartbeats 2000000 in
theorem newReader_any (w : World) (s : ByteArray) (hs : s.size ≤ 9000) :
    Calls Tryd.prog 19 #[.string s, .func (.func 10) #[] #[], .agg #[.int .i64 9, .int .i64 0]] w fun e w' => e = .returned (.pointer (some ⟨w.heap.size + 3, 0, none⟩)) ∧ Rd w' (w.heap.size + 3) (w.heap.size + 1) s 0 ∧ Below w.heap.size w w' ∧ w'.heap.size = w.heap.size + 4 := by
  go_enter Tryd.func19, Tryd.ntmps19
  go_wp2_with fail
  have hy : (w.alloc (.cells #[.int .i64 9, .int .i64 0] 30)).drew.heap[w.heap.size]? = some (.cells #[.int .i64 9, .int .i64 0] 30 (0, 0)) := World.alloc_heap_new w _
  have hB0 : Below w.heap.size w (w.alloc (.cells #[.int .i64 9, .int .i64 0] 30)).drew := ((Below.refl _ _).alloc (Nat.le_refl _) _).drew
  have hs0 : (w.alloc (.cells #[.int .i64 9, .int .i64 0] 30)).drew.heap.size = w.heap.size + 1 := by simp [World.drew]
  obtain ⟨y0, y1⟩ := why_at hy
  have hw8 : IntKind.i64.wrap (8 * (s.size : Int)) = 8 * (s.size : Int) := wraps_i64 _ (by omega) (by omega)
  go_region_with (go_at_call 20; refine (allow_n _ _).mono ?_; rintro e w1 ⟨rfl, h0, h1, hB1, hs1⟩; have hy1 := (hB1.block w.heap.size (by simp [World.drew])).trans hy; obtain ⟨z0, z1⟩ := why_at hy1)
  all_goals
    go_wp2_with fail
    go_ret
    rw [hs0] at h0 h1 hB1 hs1
    try rw [hw8] at h0
    have hBw : Below w.heap.size w w1 := hB0.trans (hB1.mono (by omega))
    have hR := World.alloc_heap_new w1 (.cells #[.string s, .int .i64 0, .func (.func 31) #[] #[.pointer (some ⟨w.heap.size + 1, 0, none⟩), .pointer (some ⟨w.heap.size + 1 + 1, 0, none⟩)], .func (.func 10) #[] #[], .int .i64 9, .int .i64 0] 62)
    rw [show w1.heap.size = w.heap.size + 3 by omega] at hR
    refine ⟨rfl, ⟨hR, ?_, (Below.heap_alloc _ _ _ (by omega)).trans h1, by omega, by omega, hs⟩, hBw.alloc hBw.size _, by simp; omega⟩
    rw [show ((8 * s.size - 0 : Nat) : Int) = 8 * (s.size : Int) by omega]
    exact (Below.heap_alloc _ _ _ (by omega)).trans h0

theorem PTabs.below {w w' : World} (h : PTabs w) (hB : Below w.heap.size w w') (h9 : 9 ≤ w.heap.size) : PTabs w' := by
  have hk : ∀ G T, G < 9 → Tab w G T → Tab w' G T := fun G T hG h i hi => (hB.cell (p := ⟨G, i, none⟩) (by show G < w.heap.size; omega)).trans (h i hi)
  exact ⟨hk _ _ (by omega) h.base, hk _ _ (by omega) h.extra, hk _ _ (by omega) h.far, hk _ _ (by omega) h.more, hk _ _ (by omega) h.order⟩

/-- What unpacking comes to. -/
def PunQ (w : World) (s : ByteArray) (e : Ending) (w' : World) : Prop :=
  Below w.heap.size w w' ∧ ((∃ out, unpackS s = some out ∧ e = .returned (.string (strOf out))) ∨ (unpackS s = none ∧ e = .panicked thrown))

theorem blocks_none1 {s : ByteArray} {f q : Nat} {out : List UInt8} (h : ¬ q + 1 ≤ 8 * s.size) : blocks s (f + 1) q out = none := by
  rw [blocks_succ]; unfold blockStep; rw [if_neg (by omega)]
theorem blocks_bad {s : ByteArray} {f q : Nat} {out : List UInt8} (h : blockP s (q + 1) out = none) : blocks s (f + 1) q out = none := by
  rw [blocks_succ]; unfold blockStep; unfold blockP at h
  by_cases h3 : q + 3 ≤ 8 * s.size
  · rw [if_pos h3]; rw [if_pos (by omega), show q + 1 + 2 = q + 3 by omega] at h; rw [h]
  · rw [if_neg h3]
theorem blocks_good {s : ByteArray} {f q q' : Nat} {out out' : List UInt8} (h : blockP s (q + 1) out = some (q', out')) : blocks s (f + 1) q out = (if numOf s q 1 = 1 then some (q', out') else blocks s f q' out') ∧ q < q' := by
  rw [blocks_succ]; unfold blockStep; unfold blockP at h
  by_cases h3 : q + 3 ≤ 8 * s.size
  · rw [if_pos h3]
    rw [if_pos (by omega), show q + 1 + 2 = q + 3 by omega] at h
    have := block_pos h
    rw [h]
    exact ⟨rfl, by omega⟩
  · rw [if_neg (by omega)] at h; cases h
theorem Fu.below {w W : World} {U R A M : Nat} {o' : Value} {w' : World} (h : Fu U R A M (.slice none 0 0) W o' w') (hB : Below w.heap.size w W) (h4 : w.heap.size ≤ U ∧ w.heap.size ≤ R ∧ w.heap.size ≤ A ∧ w.heap.size ≤ M) : Below w.heap.size w w' :=
  ⟨h.os.trans hB.os, h.tape.trans hB.tape, h.output.trans hB.output, Nat.le_trans hB.size h.size, fun k hk => (h.block k (Nat.lt_of_lt_of_le hk hB.size) (by omega) (by omega) (by omega) (by omega) (by simp [Value.ownBlock])).trans (hB.block k hk)⟩

/-- The unpacker's variable, empty. -/
def UnAt (w : World) (g : Nat) : Prop := w.heap[g]? = some (.cells #[.pointer none, .slice none 0 0, .nilFunc] 52 (0, 0))
theorem UnAt.keep {w w' : World} {g : Nat} (hB : Below w.heap.size w w') (h : UnAt w g) : UnAt w' g := (hB.block g (Array.getElem?_eq_some_iff.1 h).1).trans h
theorem UnAt.new (w : World) : UnAt (w.alloc (.cells #[.pointer none, .slice none 0 0, .nilFunc] 52)) w.heap.size := World.alloc_heap_new w _
/-- What stands when the unpacker is made. -/
def UnpR (w : World) (s : ByteArray) (uv : Value) (wx : World) : Prop :=
  ∃ U R A M b0, uv = .pointer (some ⟨U, 0, none⟩) ∧ Up wx U R A M b0 s 0 (.slice none 0 0) [] ∧ Below w.heap.size w wx ∧ w.heap.size ≤ U ∧ w.heap.size ≤ R ∧ w.heap.size ≤ A ∧ w.heap.size ≤ M
theorem unp_rel {w W : World} {s : ByteArray} {U R A M : Nat} (hB : Below w.heap.size w W) (hR : Rd W R A s 0) (hU : UnAt W U) (h0 : W.heap[M]? = some (.cells #[.int .i64 2000] 3 (0, 0)))
    (h1 : W.heap[M + 1]? = some (.cells #[.int .i64 9, .int .i64 0] 30 (0, 0))) (ne : U ≠ R ∧ U ≠ A ∧ U ≠ A + 1 ∧ U ≠ M ∧ U ≠ M + 1 ∧ M ≠ R ∧ M ≠ A ∧ M ≠ A + 1 ∧ M + 1 ≠ R ∧ M + 1 ≠ A ∧ M + 1 ≠ A + 1)
    (hl : w.heap.size ≤ U ∧ w.heap.size ≤ R ∧ w.heap.size ≤ A ∧ w.heap.size ≤ M) :
    UnpR w s (.pointer (some ⟨U, 0, none⟩)) (W.setRow U #[.pointer (some ⟨R, 0, none⟩), .slice none 0 0, .func (.func 31) #[] #[.pointer (some ⟨M, 0, none⟩), .pointer (some ⟨M + 1, 0, none⟩)]]) := by
  have hlU : U < W.heap.size := (Array.getElem?_eq_some_iff.1 hU).1
  have hlM : M + 1 < W.heap.size := (Array.getElem?_eq_some_iff.1 h1).1
  have hlR := hR.ltR
  have hlA := hR.ltA
  refine ⟨U, R, A, M, W.heap.size, rfl, ⟨setRow_heap _ _ _ _ _ _ hU, ?_, ?_, ?_, World.ownsRow_nil _ _ _ _, by simp, ne, ⟨hlU, hlR, hlA, hlM⟩, by simp [World.setRow]⟩, below_setRow hB hl.1 _, hl⟩
  · exact hR.of_blocks (fun k hk => setRow_other _ _ _ _ (by omega))
  · rw [setRow_other _ _ _ _ (by omega)]; exact h0
  · rw [setRow_other _ _ _ _ (by omega)]; exact h1

/-- A store of an unpacker, laid aside. -/
def StoreUn (P : Program) (o : Oper) (a : Act) (w : World) (K : Act → World → Prop) (Q : Exit → Act → World → Prop) : Prop := o.wp P a w K Q
theorem store_un {P : Program} {d : Option Tmp} {x y : Operand} {ty : TypeId} {ps : String} {af : Array Edge} {gd : Option (Nat × Bool)} {a : Act} {w : World} {K : Act → World → Prop} {Q : Exit → Act → World → Prop} :
    Oper.wp P { dst := d, op := .store 52 x y, type := ty, pos := ps, after := af, guard := gd } a w K Q = StoreUn P { dst := d, op := .store 52 x y, type := ty, pos := ps, after := af, guard := gd } a w K Q := rfl
theorem Tryd.infoUn : (Tryd.prog.info? 52).map (·.size) = some 3 := by kernel_rfl
theorem StoreUn.row {o : Oper} {a : Act} {w : World} {K : Act → World → Prop} {Q : Exit → Act → World → Prop} (x y : Operand) (ho : o.op = .store 52 x y)
    (g : Nat) (cells : Array Value) (hx : a.eval x = .pointer (some ⟨g, 0, none⟩)) (hy : a.eval y = .agg cells) (hg : UnAt w g) (h3 : cells.size = 3) (h1 : cells.all (·.oneCell') = true)
    (h : K (a.put o.dst undef) (w.setRow g cells)) : StoreUn Tryd.prog o a w K Q :=
  wp_store_row 52 x y ho g cells hx hy 52 _ hg (by rw [h3]; exact Tryd.infoUn) h3.symm h1 h
attribute [local go_sem ↓] store_un Go.wp_at_zero Go.wp_at_succ

set_option maxHeartbeats 4000000 in
set_option maxRecDepth 100000 in
theorem punpack_walk (w : World) (s : ByteArray) (hs : s.size ≤ 9000) (hT : PTabs w) (h9 : 9 ≤ w.heap.size) :
    Calls Tryd.prog 9 #[.string s, .func (.func 10) #[] #[], .agg #[.int .i64 9, .int .i64 0]] w (PunQ w s) := by
  go_enter Tryd.func9, Tryd.ntmps9
  go_wp2_with fail
  obtain ⟨W0, hW0⟩ : ∃ W0, w.alloc (.cells #[.int .i64 9, .int .i64 0] 30) = W0 := ⟨_, rfl⟩
  have hy : W0.heap[w.heap.size]? = some (.cells #[.int .i64 9, .int .i64 0] 30 (0, 0)) := by rw [← hW0]; exact World.alloc_heap_new w _
  have hBW : Below w.heap.size w W0 := by rw [← hW0]; exact (Below.refl _ _).alloc (Nat.le_refl _) _
  have hs0 : W0.heap.size = w.heap.size + 1 := by rw [← hW0]; simp
  rw [hW0]
  clear hW0
  have hyd : W0.drew.heap[w.heap.size]? = some (.cells #[.int .i64 9, .int .i64 0] 30 (0, 0)) := hy
  have hsd : W0.drew.heap.size = w.heap.size + 1 := hs0
  have hBd : Below w.heap.size w W0.drew := hBW.drew
  obtain ⟨Wd, hWd⟩ : ∃ Wd, W0.drew = Wd := ⟨_, rfl⟩
  have hya : (W0.drew.alloc (.cells #[.pointer none, .slice none 0 0, .nilFunc] 52)).heap[w.heap.size]? = some (.cells #[.int .i64 9, .int .i64 0] 30 (0, 0)) := (Below.heap_alloc _ _ _ (by omega)).trans hyd
  have hsa : (W0.drew.alloc (.cells #[.pointer none, .slice none 0 0, .nilFunc] 52)).heap.size = w.heap.size + 2 := by rw [World.size_alloc, hsd]
  obtain ⟨y0, y1⟩ := why_at hyd
  obtain ⟨y2, y3⟩ := why_at hya
  obtain ⟨y4, y5⟩ := why_at hy
  have HS0 := hide hs0
  have hn0 : w.heap.size < W0.heap.size := by omega
  have hn0' : ¬ w.heap.size = W0.heap.size := by omega
  have hn0d : w.heap.size < W0.drew.heap.size := hn0
  have hn0e : ¬ w.heap.size = W0.drew.heap.size := hn0'
  clear hWd hs0 hsd hsa
  go_cut [7] (fun uv wx => UnpR w s uv wx)
  case first =>
    go_region_with (first
      | (go_at_call 19; refine (newReader_any _ s hs).mono ?_; rintro e w1 ⟨rfl, hR1, hB1, hs1⟩; have HS1 := hide hs1; clear hs1; (first | (have hk1 := UnAt.keep hB1 (UnAt.new W0.drew)) | skip); (first | (have hy1 := (hB1.block w.heap.size (Array.getElem?_eq_some_iff.1 hyd).1).trans hyd) | (have hy1 := (hB1.block w.heap.size (Array.getElem?_eq_some_iff.1 hya).1).trans hya)); have hyb := (Below.heap_alloc w1 (.cells #[.pointer none, .slice none 0 0, .nilFunc] 52) w.heap.size (Array.getElem?_eq_some_iff.1 hy1).1).trans hy1; have hn1 : w.heap.size < w1.heap.size := (Array.getElem?_eq_some_iff.1 hy1).1; have hn1' : ¬ w.heap.size = w1.heap.size := Nat.ne_of_lt hn1; obtain ⟨z0, z1⟩ := why_at hy1; obtain ⟨z2, z3⟩ := why_at hyb)
      | (go_at_call 20; refine (allow_n _ _).mono ?_; rintro e w2 ⟨rfl, m0, m1, hB2, hs2⟩; have HS2 := hide hs2; clear hs2; (first | (have hk2 := UnAt.keep hB2 hk1) | (have hk2 := UnAt.keep hB2 (UnAt.new w1)) | skip))
      | (refine StoreUn.row _ _ rfl _ _ rfl rfl ?hcg rfl (by simp [Value.oneCell']) ?_; (case hcg => first | exact hk2 | exact UnAt.new _)))
    all_goals
      go_wp2_with fail
      go_meet
      case rel =>
        have hs0 := unhide HS0
        have hs1 := unhide HS1
        have hs2 := unhide HS2
        have hsd : W0.drew.heap.size = w.heap.size + 1 := hs0
        try rw [World.size_alloc] at hs1
        try rw [World.size_alloc] at hs2
        first
          | (have hse : (W0.alloc (.cells #[.pointer none, .slice none 0 0, .nilFunc] 52)).drew.heap.size = W0.heap.size + 1 := by show (W0.alloc _).heap.size = _; rw [World.size_alloc]
             rw [hse] at hR1 hB1 hs1
             have hBx : Below w.heap.size w w1 := (hBW.alloc hBW.size _).drew.trans (hB1.mono (by omega))
             have hBy : Below w.heap.size w w2 := hBx.trans (hB2.mono (by omega))
             exact unp_rel hBy (hR1.below hB2) hk2 m0 m1 (by omega) (by omega))
          | (have hBx : Below w.heap.size w w1 := hBd.trans (hB1.mono (by omega))
             have hBy : Below w.heap.size w w2 := (hBx.alloc hBx.size _).trans (hB2.mono (by rw [World.size_alloc]; omega))
             rw [World.size_alloc] at m0 m1
             exact unp_rel hBy ((hR1.alloc _).below hB2) hk2 m0 m1 (by omega) (by omega))
          | (have hBx : Below w.heap.size w w1 := hBd.trans (hB1.mono (by omega))
             have hBy : Below w.heap.size w w2 := hBx.trans (hB2.mono (by omega))
             exact unp_rel (hBy.alloc hBy.size _) ((hR1.below hB2).alloc _) (UnAt.new w2) ((Below.heap_alloc _ _ _ (by omega)).trans m0) ((Below.heap_alloc _ _ _ (by omega)).trans m1) (by omega) (by omega))
  case rest =>
    obtain ⟨U, R, A, M, b0, rfl, hU0, hB0, h4⟩ := hcut
    have hT0 : PTabs wc := hT.below hB0 h9
    have h94 : 9 ≤ U ∧ 9 ≤ R ∧ 9 ≤ A ∧ 9 ≤ M := by omega
    have hb9 : 9 ≤ b0 := by have := hU0.lt; omega
    clear hy hBW hyd hBd hya y0 y1 y2 y3 y4 y5 HS0 hn0 hn0' hn0d hn0e
    go_wp2_with fail
    obtain ⟨r, hr⟩ : ∃ r, blocks s (8 * s.size + 1) 0 [] = r := ⟨_, rfl⟩
    have HR := hide hr
    clear hr
    have UN : Hid (r = none → unpackS s = none) := fun h => by unfold unpackS; rw [unhide HR, h]
    have US : Hid (∀ q out, some (q, out) = r → unpackS s = if (q + 7) / 8 = s.size then some out else none) := fun q out h => by unfold unpackS; rw [unhide HR, ← h]
    go_loopw [8] (fun lv wr => ∃ (b : Bool) (q f : Nat) (outi : List UInt8) (oi : Value), lv = .bool b ∧ (b = false → 8 * s.size + 1 ≤ f + q) ∧ Up wr U R A M b0 s q oi outi ∧ Fu U R A M (.slice none 0 0) wc oi wr ∧ Hid ((if b then some (q, outi) else blocks s f q outi) = r))
      (fun lv wr => if boolOf lv then 0 else 1 + measP R (8 * s.size + 1) wr)
    case atStart => exact ⟨false, 0, 8 * s.size + 1, [], _, rfl, fun _ => by omega, hU0, Fu.refl _ _ _ _ _ _, HR⟩
    case round =>
      obtain ⟨b, q, f, outi, oi, rfl, hf, hU, hF, HE⟩ := hrel
      have c0 := hU.cu0
      have hq := hU.rd.hp
      have hT1 := hT0.keptU hF h94 hU0.ltU (fun k e => by simp [Value.ownBlock] at e)
      have hm0 := hide (measP_of hU.rd (8 * s.size + 1))
      cases b with
      | true =>
        have FIN : Hid (some (q, outi) = r) := unhide HE
        clear HE hm0
        have hBw := ((hF.trans (Fu.drew U R A M oi wr)).trans (Fu.drew U R A M oi wr.drew)).below hB0 h4
        go_wp2_with fail
        by_cases hd : (q + 7) / 8 = s.size
        · have AE : ∀ W, Rd W R A s q → Calls Tryd.prog 24 #[.pointer (some ⟨R, 0, none⟩)] W fun e w' => e = .returned (.bool true) ∧ w' = W.drew := fun W h => by
            have := atEnd_any W R A s q h
            rw [decide_eq_true hd] at this; exact this
          have FIN2 : Hid (unpackS s = some outi) := (unhide US q outi (unhide FIN)).trans (if_pos hd)
          go_cut [] (fun wx => wx = wr.drew.drew)
          case first =>
            go_region_with (first | (go_at_call 24; refine (AE _ hU.rd.drew).mono ?_; rintro e w2 ⟨rfl, rfl⟩) | (go_at_call 23; refine (demand_ok _).mono ?_; rintro e w3 ⟨rfl, rfl⟩))
            all_goals
              go_wp2_with fail
              go_meet
              case rel => rfl
          case rest =>
            subst hcut
            have c1 := hU.drew.drew.cu1
            have hcv := hU.drew.drew.row.str
            go_wp2_with fail
            go_ret
            exact ⟨hBw, .inl ⟨outi, unhide FIN2, rfl⟩⟩
        · have AE : ∀ W, Rd W R A s q → Calls Tryd.prog 24 #[.pointer (some ⟨R, 0, none⟩)] W fun e w' => e = .returned (.bool false) ∧ w' = W.drew := fun W h => by
            have := atEnd_any W R A s q h
            rw [decide_eq_false hd] at this; exact this
          have FIN2 : Hid (unpackS s = none) := (unhide US q outi (unhide FIN)).trans (if_neg hd)
          go_region_with (first | (go_at_call 24; refine (AE _ hU.rd.drew).mono ?_; rintro e w2 ⟨rfl, rfl⟩) | (go_at_call 23; refine (demand_no hU.rd.drew.drew).mono ?_; rintro e w3 ⟨rfl, rfl⟩; refine dead_end ⟨#[], []⟩ w (show _ from ⟨rfl, hBw, .inr ⟨unhide FIN2, rfl⟩⟩) ?_))
          all_goals trivial
      | false =>
        have hf' := hf rfl
        obtain ⟨f, rfl⟩ : ∃ f', f = f' + 1 := ⟨f - 1, by omega⟩
        have HB : Hid (blocks s (f + 1) q outi = r) := unhide HE
        clear HE
        go_wp2_with fail
        by_cases hq1 : q + 1 ≤ 8 * s.size
        · refine (number_yes _ R A s q 1 _ rfl hU.rd (by omega) hq1).mono ?_
          rintro e w2 ⟨rfl, hR2, hF2⟩
          have hU2 := hU.read hR2 hF2
          have hT2 := hT1.kept hF2 h94.2.1 h94.2.2.1 hU.rd.ltR
          have hx2 := numOf_lt s q 1
          have BAD : Hid (blockP s (q + 1) outi = none → r = none) := fun h => (unhide HB).symm.trans (blocks_bad h)
          have GOOD : Hid (∀ q' out', blockP s (q + 1) outi = some (q', out') → (if numOf s q 1 = 1 then some (q', out') else blocks s f q' out') = r ∧ q < q') := fun q' out' h => ⟨(blocks_good h).1.symm.trans (unhide HB), (blocks_good (f := f) h).2⟩
          obtain ⟨x, hx⟩ : ∃ x, numOf s q 1 = x := ⟨_, rfl⟩
          rw [hx] at GOOD hx2
          rw [hx]
          clear hx HB
          by_cases hx1 : x = 1
          · subst hx1
            go_wp2_with fail
            refine (pblock_walk _ U R A M b0 s (q + 1) oi outi hU2 hT2 h94 hb9).mono ?_
            rintro e w3 (⟨q', out', hb, rfl, o', hU3, hF3⟩ | ⟨hb, rfl, o', hF3⟩)
            · obtain ⟨hg1, hg2⟩ := unhide GOOD q' out' hb
              have HG : Hid (some (q', out') = r) := hg1
              clear hg1 hb GOOD BAD
              go_wp2_with fail
              exact ⟨⟨true, q', f, out', o', rfl, fun e => (by cases e), hU3, (hF.trans (Fu.of_fp oi hF2)).trans hF3, HG⟩, by simp [boolOf]; omega⟩
            · exact ⟨rfl, ((hF.trans (Fu.of_fp oi hF2)).trans hF3).below hB0 h4, .inr ⟨unhide UN (unhide BAD hb), rfl⟩⟩
          · have hx0 : x = 0 := by omega
            subst hx0
            go_wp2_with fail
            refine (pblock_walk _ U R A M b0 s (q + 1) oi outi hU2 hT2 h94 hb9).mono ?_
            rintro e w3 (⟨q', out', hb, rfl, o', hU3, hF3⟩ | ⟨hb, rfl, o', hF3⟩)
            · obtain ⟨hg1, hg2⟩ := unhide GOOD q' out' hb
              have HG : Hid (blocks s f q' out' = r) := hg1
              have hm3 := hide (measP_of hU3.rd (8 * s.size + 1))
              have hq3 := hU3.rd.hp
              clear hg1 hb GOOD BAD
              go_wp2_with fail
              exact ⟨⟨false, q', f, out', o', rfl, fun e => (by omega), hU3, (hF.trans (Fu.of_fp oi hF2)).trans hF3, HG⟩, by simp only [boolOf]; rw [unhide hm3, unhide hm0]; simp; omega⟩
            · exact ⟨rfl, ((hF.trans (Fu.of_fp oi hF2)).trans hF3).below hB0 h4, .inr ⟨unhide UN (unhide BAD hb), rfl⟩⟩
        · refine (number_no _ R A s q 1 _ rfl hU.rd (by omega) hq1).mono ?_
          rintro e w2 ⟨rfl, hF2⟩
          exact ⟨rfl, (hF.trans (Fu.of_fp oi hF2)).below hB0 h4, .inr ⟨unhide UN ((unhide HB).symm.trans (blocks_none1 hq1)), rfl⟩⟩
end Go.Proofs.YtgffljllfenhkaaDoor
