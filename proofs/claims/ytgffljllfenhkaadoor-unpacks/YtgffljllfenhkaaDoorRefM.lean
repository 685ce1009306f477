import Derived.Test.YtgffljllfenhkaaDoorRefL
namespace Go.Proofs.YtgffljllfenhkaaDoor
open Go.RowKit

theorem RowI.byFr {w w' : World} {B base : Nat} {o o' v : Value} {xs : List Nat} (h : RowI w base v xs) (hf : Fr B o w o' w') (hB : B < base) (ho : ∀ k, o.ownBlock = some k → k < base) : RowI w' base v xs := by
  refine ⟨h.1, ?_⟩
  rcases h.2 with hn | ⟨g, cap, cur, rfl, hb, hg, rest⟩
  · exact .inl hn
  · refine .inr ⟨g, cap, cur, rfl, hb, ?_, rest⟩
    rw [hf.block g (Array.getElem?_eq_some_iff.1 hg).1 (by omega) (fun e => by have := ho g e; omega)]; exact hg
theorem Rf.byGrown {w w' : World} {B : Nat} {s : ByteArray} {o : Value} {p : Nat} {bad : Bool} {out : List UInt8} {r : Option Nat} (h : Rf w B s o p bad out) (hg : w.grownBy w' r) (h1 : r ≠ some B) (h2 : o.ownBlock = none ∨ o.ownBlock ≠ r) : Rf w' B s o p bad out :=
  ⟨h.bt.kept hg h1, h.row.kept hg h2, h.hp, h.hpb, h.hl⟩
theorem Fr.grow {B : Nat} {o o' : Value} {w w1 w2 : World} {r : Option Nat} (h : Fr B o w o' w1) (hg : w1.grownBy w2 r) (hr : ∀ k, r = some k → w.heap.size ≤ k) : Fr B o w o' w2 :=
  ⟨hg.os.trans h.os, hg.tape.trans h.tape, hg.output.trans h.output, Nat.le_trans h.size hg.size,
   fun k hk h1 h2 => (hg.block k (Nat.lt_of_lt_of_le hk h.size) (fun e => by have := hr k e.symm; omega)).trans (h.block k hk h1 h2), h.own⟩
theorem RowI.cellAt {w : World} {base : Nat} {v : Value} {xs : List Nat} (h : RowI w base v xs) {j : Nat} (hj : j < xs.length) : ∃ g cap, v = .slice (some ⟨g, 0, none⟩) xs.length cap ∧ w.cell? ⟨g, j, none⟩ = some (.int .i64 (nth xs j : Int)) := by
  obtain ⟨g, cap, e, _, hn⟩ := h.nums (by omega)
  refine ⟨g, cap, e, ?_⟩
  have := hn.2 j hj
  simpa using this

def lenOf : Value → Nat | .slice _ n _ => n | _ => 0

def readStep (cl : List Nat) (s : ByteArray) (many : Nat) (k : Nat → List Nat → Option (Nat × List Nat)) (p : Nat) (l : List Nat) : Option (Nat × List Nat) :=
    if l.length < many then
      match decode cl s p with
      | none => none
      | some (g, p1) =>
        if g < 16 then k p1 (l ++ [g])
        else if g = 16 then
          (if l = [] then none
          else match rd s 2 p1 with
            | none => none
            | some (n, p2) => k p2 (l ++ List.replicate (3 + n) (l.getLastD 0)))
        else if g = 17 then
          match rd s 3 p1 with
          | none => none
          | some (n, p2) => k p2 (l ++ List.replicate (3 + n) 0)
        else
          match rd s 7 p1 with
          | none => none
          | some (n, p2) => k p2 (l ++ List.replicate (11 + n) 0)
    else if l.length = many then some (p, l) else none
set_option maxRecDepth 100000 in
theorem readL_succ (cl : List Nat) (s : ByteArray) (many f p : Nat) (l : List Nat) : readL cl s many (f + 1) p l = readStep cl s many (readL cl s many f) p l := by
  delta readStep
  exact rfl

/-- The lengths from a state on. -/
def rdS (cl : List Nat) (s : ByteArray) (many : Nat) (bd : Bool) (f q : Nat) (l : List Nat) : Option (Nat × List Nat) := if bd then none else readL cl s many f q l
variable {cl : List Nat} {s : ByteArray} {many f q g q2 n q3 : Nat} {b3 : Bool} {l : List Nat}
theorem rdS_false : rdS cl s many false (f + 1) q l = readStep cl s many (readL cl s many f) q l := readL_succ ..
theorem rdS_stop (hl : l.length < many) (h : none = decode cl s q) : rdS cl s many false (f + 1) q l = none := by
  rw [rdS_false, readStep, if_pos hl, ← h]
theorem rdS_one (hl : l.length < many) (h : some (g, q2) = decode cl s q) (hg : g < 16) : rdS cl s many false f q2 (l ++ List.replicate 1 g) = rdS cl s many false (f + 1) q l := by
  rw [rdS_false, readStep, if_pos hl, ← h]; dsimp only; rw [if_pos hg]; rfl
theorem rdS_no16 (hl : l.length < many) (h : some (16, q2) = decode cl s q) (he : l = []) : rdS cl s many false (f + 1) q l = none := by
  rw [rdS_false, readStep, if_pos hl, ← h]; dsimp only; rw [if_neg (by omega), if_pos rfl, if_pos he]
theorem rdS_16 (hl : l.length < many) (h : some (16, q2) = decode cl s q) (he : l ≠ []) (h3 : b3 = (false || over s q2 2)) (v3 : b3 = false → n = numOf s q2 2 ∧ q3 = q2 + 2) (x : Nat) (hx : x = l.getLastD 0) :
    rdS cl s many b3 f q3 (l ++ List.replicate (3 + n) x) = rdS cl s many false (f + 1) q l := by
  rw [rdS_false, readStep, if_pos hl, ← h, hx]; dsimp only; rw [if_neg (by omega), if_pos rfl, if_neg he, rd_of h3 v3]
  cases b3 <;> rfl
theorem rdS_17 (hl : l.length < many) (h : some (17, q2) = decode cl s q) (h3 : b3 = (false || over s q2 3)) (v3 : b3 = false → n = numOf s q2 3 ∧ q3 = q2 + 3) :
    rdS cl s many b3 f q3 (l ++ List.replicate (3 + n) 0) = rdS cl s many false (f + 1) q l := by
  rw [rdS_false, readStep, if_pos hl, ← h]; dsimp only; rw [if_neg (by omega), if_neg (by omega), if_pos rfl, rd_of h3 v3]
  cases b3 <;> rfl
theorem rdS_18 (hl : l.length < many) (h : some (g, q2) = decode cl s q) (hg : 18 ≤ g) (h3 : b3 = (false || over s q2 7)) (v3 : b3 = false → n = numOf s q2 7 ∧ q3 = q2 + 7) :
    rdS cl s many b3 f q3 (l ++ List.replicate (11 + n) 0) = rdS cl s many false (f + 1) q l := by
  rw [rdS_false, readStep, if_pos hl, ← h]; dsimp only; rw [if_neg (by omega), if_neg (by omega), if_neg (by omega), rd_of h3 v3]
  cases b3 <;> rfl
theorem rdS_end (hl : ¬ l.length < many) : rdS cl s many false (f + 1) q l = if l.length = many then some (q, l) else none := by
  rw [rdS_false, readStep, if_neg hl]

def LenQ (w : World) (B : Nat) (s : ByteArray) (o : Value) (out : List UInt8) (r : Option (Nat × List Nat)) (e : Ending) (w' : World) : Prop :=
  ∃ v q bad' all, e = .returned v ∧ RowI w' (w.heap.size + 1) v all ∧ Rf w' B s o q bad' out ∧ Fr B o w o w' ∧ (if bad' then none else some (q, all)) = r

theorem nth_last (l : List Nat) : nth l (l.length - 1) = l.getLastD 0 := by
  unfold nth
  rw [List.getLastD_eq_getLast?, List.getLast?_eq_getElem?, List.getD_eq_getElem?_getD]
theorem replicate_snoc (l : List Nat) (i x : Nat) : l ++ List.replicate (i + 1) x = (l ++ List.replicate i x) ++ [x] := by
  rw [List.replicate_succ', List.append_assoc]

set_option maxHeartbeats 4000000 in
set_option maxRecDepth 100000 in
theorem lengths_walk (w : World) (B : Nat) (s : ByteArray) (p many : Nat) (mi : Int) (o : Value) (out : List UInt8) (arr : Array Value) (cl : List Nat) (sg : Value) (h : Rf w B s o p false out) (hs : s.size ≤ 9000)
    (hc : CodeA arr cl sg) (hsg : Sg w B o sg cl) (hm : many ≤ 400) (hmi : mi = (many : Int)) :
    Calls Tryd.prog 29 #[.pointer (some ⟨B, 0, none⟩), .agg arr, .int .i64 mi] w (LenQ w B s o out (readL cl s many (many + 1) p [])) := by
  subst hmi
  obtain ⟨i0, hi, hz0, hz1, hz2⟩ := info_parts Tryd.info3
  have h1 := h.alloc (.cells arr 46)
  have F1 := Fr.alloc B o w (.cells arr 46)
  have hX0 : (w.alloc (.cells arr 46)).heap[w.heap.size]? = some (.cells arr 46 (0, 0)) := World.alloc_heap_new w _
  have hlt := h.bt.lt
  have hoo : ∀ k, o.ownBlock = some k → k < w.heap.size := fun k e => (World.ownsRow.lt h.row k e).2
  go_enter Tryd.func29, Tryd.ntmps29
  go_wp2_with fail
  obtain ⟨W0, hW0⟩ : ∃ W0, w.alloc (.cells arr 46) = W0 := ⟨_, rfl⟩
  rw [hW0] at h1 F1 hX0 ⊢
  have hsz0 : W0.heap.size = w.heap.size + 1 := by rw [← hW0]; simp
  have HSZ := hide hsz0
  clear hW0 hsz0
  have hS0 : RowI W0 (w.heap.size + 1) (.slice none 0 0) [] := World.ownsRow_nil _ _ _ _
  go_loopw [7] (fun lv wr => ∃ (q f : Nat) (bd : Bool) (lst : List Nat) (a : Option Addr) (cp : Nat), lv = .slice a lst.length cp ∧ (bd = false → many + 1 ≤ f + lst.length) ∧ lst.length ≤ 540 ∧ RowI wr (w.heap.size + 1) (.slice a lst.length cp) lst ∧ Rf wr B s o q bd out ∧ Fr B o W0 o wr ∧
      wr.heap[w.heap.size]? = some (.cells arr 46 (0, 0)) ∧ rdS cl s many bd f q lst = readL cl s many (many + 1) p [])
    (fun lv wr => if boolOf ((wr.cell? ⟨B, 2, none⟩).getD undef) then 0 else 1000 - lenOf lv)
  case atStart => exact ⟨p, many + 1, false, [], none, 0, rfl, fun _ => by simp, by simp, hS0, h1, Fr.refl _ _ _, hX0, rfl⟩
  case round =>
    clear hS0 hX0
    obtain ⟨q, f, bd, lst, a, cp, rfl, hf, hll, hS, hR, hF, hX, hE⟩ := hrel
    have HE := hide hE
    clear hE
    have c2 := hR.bt.c2
    have f2 := hR.bt.fr 2
    have hFw := F1.trans hF
    have hSi := hsg.kept hFw
    by_cases hlm : lst.length < many
    · cases bd with
      | true =>
        have FIN : Hid (readL cl s many (many + 1) p [] = none) := (unhide HE).symm
        clear HE
        have hng : decide ((many : Int) < (lst.length : Int)) = false := by simp; omega
        go_wp2_with fail
        go_ret
        exact ⟨_, q, true, lst, rfl, hS, hR, hFw, FIN.out.symm⟩
      | false =>
        have hf' := hf rfl
        clear hf
        obtain ⟨f, rfl⟩ : ∃ f', f = f' + 1 := ⟨f - 1, by omega⟩
        go_wp2_with (refine load_whole rfl 46 _ rfl w.heap.size rfl 46 arr (0, 0) hX Tryd.aggCode (Tryd.infoCode arr hc.size) ?_)
        refine (sign_any _ B s q false o out arr cl sg hR hs hc hSi).mono ?_
        rintro e w2 ⟨x, q2, b2, rfl, hR2, hF2, hE2, hz⟩
        have c2 := hR2.bt.c2
        have f2 := hR2.bt.fr 2
        have hS2 := hS.byFr hF2 (by omega) (fun k e => by have := hoo k e; omega)
        have hX2 : w2.heap[w.heap.size]? = some (.cells arr 46 (0, 0)) := by
          rw [hF2.block _ (Array.getElem?_eq_some_iff.1 hX).1 (by omega) (fun e => by have := hoo _ e; omega)]; exact hX
        have hFw2 := hFw.trans hF2
        have hF02 := hF.trans hF2
        cases b2 with
        | true =>
          have FIN : Hid (readL cl s many (many + 1) p [] = none) := (unhide HE).symm.trans (rdS_stop hlm (by simpa using hE2))
          clear HE hE2
          go_wp2_with fail
          go_ret
          exact ⟨_, q2, true, lst, rfl, hS2, hR2, hFw2, FIN.out.symm⟩
        | false =>
          have hdec : some (x, q2) = decode cl s q := by simpa using hE2
          have hds := decode_some hdec.symm
          have hll4 := hc.le
          clear hE2 hz
          -- what each way through the switch comes to
          have hway : (x = 16 ∧ lst = []) ∨ (x < 16) ∨ (x = 16 ∧ lst ≠ []) ∨ x = 17 ∨ 18 ≤ x := by
            by_cases e : x = 16
            · by_cases e2 : lst = []
              · exact .inl ⟨e, e2⟩
              · exact .inr (.inr (.inl ⟨e, e2⟩))
            · omega
          have hd0 := hide hdec
          clear hdec
          have hm0 : Hid ((wr.cell? ⟨B, 2, none⟩) = some (.bool false)) := hR.bt.c2
          rcases hway with ⟨rfl, hnil⟩ | hx | ⟨rfl, hnil⟩ | rfl | hx
          · -- again, and nothing to be again
            have FIN : Hid (readL cl s many (many + 1) p [] = none) := (unhide HE).symm.trans (rdS_no16 hlm (unhide hd0) hnil)
            clear HE hd0
            have hl0 : ((lst.length : Int) == 0) = true := by rw [hnil]; rfl
            have HN := hide hnil
            clear hnil
            go_wp2_with fail
            go_ret
            exact ⟨_, q2, true, lst, rfl, hS2.byFr (Fr.of_grown o (grownBy_setCell _ _ _ _)) (by omega) (fun k e => by have := hoo k e; omega), hR2.setBad, hFw2.trans (Fr.of_grown o (grownBy_setCell _ _ _ _)), FIN.out.symm⟩
          · -- one length
            have STEP : Hid (rdS cl s many false f q2 (lst ++ List.replicate 1 x) = readL cl s many (many + 1) p []) := (rdS_one (f := f) hlm (unhide hd0) hx).trans (unhide HE)
            clear HE hd0
            have hxd : (x : Int) < 16 := by omega
            go_wp2_with fail
            obtain ⟨nn, hle1, hle2, hn1, hn2, ST⟩ : ∃ nn : Nat, (nn : Int) ≤ 1 ∧ (1 : Int) ≤ (nn : Int) ∧ 1 ≤ nn ∧ nn ≤ 138 ∧ Hid (rdS cl s many false f q2 (lst ++ List.replicate nn x) = readL cl s many (many + 1) p []) := ⟨1, by omega, by omega, by omega, by omega, STEP⟩
            obtain ⟨xv, hxv⟩ : ∃ xv, xv = x := ⟨_, rfl⟩
            subst hxv
            obtain ⟨q3, hq3⟩ : ∃ q3, q3 = q2 := ⟨_, rfl⟩
            subst hq3
            obtain ⟨W3, hW3⟩ : ∃ W3, W3 = w2 := ⟨_, rfl⟩
            subst hW3
            obtain ⟨b3, hb3⟩ : ∃ b3, b3 = false := ⟨_, rfl⟩
            have XE : Hid ((xv : Int) = (xv : Int)) := rfl
            have hR3 : Rf W3 B s o q3 b3 out := by rw [hb3]; exact hR2
            have hF3 := hF02
            have hS3 := hS2
            have hX3 := hX2
            rw [← hb3] at ST
            clear hb3 hR2 hS2 hX2 hR hF hX hS hF2 hF02 hFw2 hFw c2 f2 STEP hxd hx
            go_loopw [7, 11] (fun lv iv wr => ∃ (i : Nat) (a' : Option Addr) (cp' : Nat), i ≤ nn ∧ iv = .int .i64 (i : Int) ∧ lv = .slice a' (lst.length + i) cp' ∧ RowI wr (w.heap.size + 1) (.slice a' (lst.length + i) cp') (lst ++ List.replicate i xv) ∧ Rf wr B s o q3 b3 out ∧ Fr B o W0 o wr ∧
                wr.heap[w.heap.size]? = some (.cells arr 46 (0, 0)))
              (fun _ iv _ => nn - (intOf iv).toNat)
            case atStart => exact ⟨0, a, cp, by omega, rfl, rfl, by simpa using hS3, hR3, hF3, hX3⟩
            case round =>
              clear hS3 hR3 hF3 hX3
              obtain ⟨i, a', cp', hil, rfl, rfl, hS, hR, hF, hX⟩ := hrel
              have hszr := hR.bt.lt
              have hsX := (Array.getElem?_eq_some_iff.1 hX).1
              by_cases hii : i < nn
              · obtain ⟨xs, hxs⟩ : ∃ xs, lst ++ List.replicate i xv = xs := ⟨_, rfl⟩
                have hxl : xs.length = lst.length + i := by rw [← hxs]; simp
                rw [hxs] at hS
                have HXS := hide hxs
                have HXL := hide hxl
                clear hxs hxl
                have hS1' : wr.ownsRow (w.heap.size + 1) 3 1 (.slice a' (lst.length + i) cp') (lst.length + i) (xs.map intV) := by have := hS; unfold RowI at this; rw [unhide HXL] at this; exact this
                have hoB : (Value.slice a' (lst.length + i) cp').ownBlock ≠ some B := hS.ne (by omega)
                have hoX : (Value.slice a' (lst.length + i) cp').ownBlock ≠ some w.heap.size := hS.ne (by omega)
                have hoo' : o.ownBlock = none ∨ o.ownBlock ≠ (Value.slice a' (lst.length + i) cp').ownBlock := by
                  cases eo : o.ownBlock with
                  | none => exact .inl rfl
                  | some k => right; intro e; have := hoo k eo; have := (World.ownsRow.lt hS1' k e.symm).1; omega
                have hfin : ∀ (xi : Int) (v' : Value) (w1 : World), xi = (xv : Int) → (w1.ownsRow (w.heap.size + 1) 3 1 v' (lst.length + i + 1) (xs.map intV ++ [.int .i64 xi])) → (wr.alloc (.cells #[.int .i64 xi] 3)).grownBy w1 (Value.slice a' (lst.length + i) cp').ownBlock →
                    ∃ (i2 : Nat) (a2 : Option Addr) (c2 : Nat), i2 = i + 1 ∧ v' = .slice a2 (lst.length + i2) c2 ∧ RowI w1 (w.heap.size + 1) (.slice a2 (lst.length + i2) c2) (lst ++ List.replicate i2 xv) ∧ Rf w1 B s o q3 b3 out ∧ Fr B o W0 o w1 ∧ w1.heap[w.heap.size]? = some (.cells arr 46 (0, 0)) := by
                  intro xi v' w1 hxi h1 h2
                  obtain ⟨g', c', rfl⟩ := ownsRow_succ h1
                  refine ⟨i + 1, _, _, rfl, rfl, ?_, ?_, ?_, ?_⟩
                  · rw [replicate_snoc, unhide HXS]; unfold RowI
                    have e : (xs ++ [xv]).length = lst.length + (i + 1) := by have := unhide HXL; simp; omega
                    rw [e]; rw [hxi] at h1; rw [← Nat.add_assoc]; simpa [intV] using h1
                  · exact (hR.alloc _).byGrown h2 hoB hoo'
                  · exact (hF.trans (Fr.alloc B o _ _)).grow h2 (fun k e => by have := (World.ownsRow.lt hS1' k e).1; have := unhide HSZ; omega)
                  · rw [h2.block _ (by simp; omega) (fun e => hoX e.symm), Below.heap_alloc _ _ _ hsX]; exact hX
                go_wp2_with (at_builtin; refine wpList_append_own_at _ rfl _ _ 40 rfl (w.heap.size + 1) 3 i0 (.int .i64 0) 1 8 Tryd.underlying40 hi hz0 hz1 hz2 rfl (by decide) _ _ _ rfl (World.ownsRow.alloc hS1' _) ⟨wr.heap.size, 0, none⟩ 1 1 [_] rfl rfl (cell_one_new _ _ _) (by simp [Value.oneCell']) (by unfold maxLen; omega) (by omega) (by simp; omega) ?_; intro v' w1 hown' hgrow _ hat)
                obtain ⟨i2, a2, c2, hi2, rfl, hS2, hR2, hF2, hX2⟩ := hfin _ v' w1 (unhide XE) hown' hgrow
                first
                  | exact ⟨⟨i2, a2, c2, by omega, by rw [hi2]; go_num, rfl, hS2, hR2, hF2, hX2⟩, by simp [intOf]; omega⟩
                  | (refine ⟨?_, by simp [intOf]; omega⟩; (repeat apply Exists.intro); exact ⟨⟨i2, a2, c2, by omega, by rw [hi2]; go_num, rfl, hS2, hR2, hF2, hX2⟩, rfl⟩)
              · have e : i = nn := by omega
                subst e
                go_wp2
                have hlen : (lst ++ List.replicate i xv).length = lst.length + i := by simp
                have hfin : ∀ v : Value, v = .slice a' (lst.length + i) cp' → ∃ (q f : Nat) (bd : Bool) (l2 : List Nat) (a : Option Addr) (cp : Nat), v = .slice a l2.length cp ∧ (bd = false → many + 1 ≤ f + l2.length) ∧ l2.length ≤ 540 ∧ RowI wr (w.heap.size + 1) (.slice a l2.length cp) l2 ∧ Rf wr B s o q bd out ∧ Fr B o W0 o wr ∧
                    wr.heap[w.heap.size]? = some (.cells arr 46 (0, 0)) ∧ rdS cl s many bd f q l2 = readL cl s many (many + 1) p [] := by
                  rintro v rfl
                  exact ⟨q3, f, b3, lst ++ List.replicate i xv, a', cp', by rw [hlen], fun _ => by rw [hlen]; omega, by rw [hlen]; omega, by rw [hlen]; exact hS, hR, hF, hX, unhide ST⟩
                have hc2 := hR.bt.c2
                have hms : (if boolOf ((wr.cell? ⟨B, 2, none⟩).getD undef) then 0 else 1000 - (lst.length + i)) < 1000 - lst.length := by
                  rw [hc2]; cases b3 <;> simp [boolOf] <;> omega
                first
                  | exact ⟨hfin _ rfl, by rw [unhide hm0]; simp only [Option.getD_some, boolOf, Bool.false_eq_true, if_false, lenOf]; exact hms⟩
                  | (refine ⟨?_, by rw [unhide hm0]; simp only [Option.getD_some, boolOf, Bool.false_eq_true, if_false, lenOf]; exact hms⟩; (repeat apply Exists.intro); exact ⟨hfin _ rfl, rfl⟩)
          · -- the last one again
            have STEP0 : Hid (∀ (n q3 : Nat) (b3 : Bool), b3 = (false || over s q2 2) → (b3 = false → n = numOf s q2 2 ∧ q3 = q2 + 2) → Hid (rdS cl s many b3 f q3 (lst ++ List.replicate (3 + n) (nth lst (lst.length - 1))) = readL cl s many (many + 1) p [])) :=
              fun n q3 b3 h3 v3 => (rdS_16 (f := f) hlm (unhide hd0) hnil h3 v3 _ (nth_last lst)).trans (unhide HE)
            clear HE hd0
            have hpos : 0 < lst.length := List.length_pos_iff.2 hnil
            clear hnil
            have hl0 : ((lst.length : Int) == 0) = false := by rw [beq_eq_false_iff_ne]; omega
            obtain ⟨ga, ca, hsl, hcl⟩ := hS2.cellAt (j := lst.length - 1) (by omega)
            obtain ⟨j, hj⟩ : ∃ j : Nat, lst.length - 1 = j := ⟨_, rfl⟩
            rw [hj] at hcl
            have hix : (lst.length : Int) - 1 = (j : Int) := by omega
            have hjl : (j : Int) < (lst.length : Int) := by omega
            simp only [Value.slice.injEq] at hsl
            obtain ⟨rfl, _, rfl⟩ := hsl
            rw [hj] at STEP0
            have HJ := hide hj
            clear hj
            go_wp2_with fail
            refine (bits_rf _ B s q2 2 _ false o out hR2 hs rfl (by omega)).mono ?_
            rintro e W3 ⟨kk, q3, b3, rfl, hR3, k3, hkk, hb3, hv3⟩
            have hkk' : kk < 128 := Nat.lt_of_lt_of_le hkk (by decide)
            have STEP := STEP0.out kk q3 b3 hb3 hv3
            clear STEP0 hb3 hv3
            go_wp2_with fail
            obtain ⟨nn, hle1, hle2, hn1, hn2, ST⟩ : ∃ nn : Nat, (nn : Int) ≤ 3 + (kk : Int) ∧ 3 + (kk : Int) ≤ (nn : Int) ∧ 1 ≤ nn ∧ nn ≤ 138 ∧ Hid (rdS cl s many b3 f q3 (lst ++ List.replicate nn (nth lst j)) = readL cl s many (many + 1) p []) := ⟨3 + kk, by omega, by omega, by omega, by omega, STEP⟩
            obtain ⟨xv, hxv⟩ : ∃ xv, xv = nth lst j := ⟨_, rfl⟩
            rw [← hxv] at ST
            have XE : Hid ((nth lst j : Int) = (xv : Int)) := by rw [hxv]; rfl
            clear hxv
            have hF3 := hF02.trans (Fr.of_grown o k3)
            have hS3 := hS2.byFr (Fr.of_grown o k3) (by omega) (fun k e => by have := hoo k e; omega)
            have hX3 : W3.heap[w.heap.size]? = some (.cells arr 46 (0, 0)) := by
              rw [k3.block _ (Array.getElem?_eq_some_iff.1 hX2).1 (by simp; omega)]; exact hX2
            clear hR2 hS2 hX2 hR hF hX hS hF2 hF02 hFw2 hFw c2 f2 STEP k3 hl0 hpos hcl hix hjl HJ
            go_loopw [7, 11] (fun lv iv wr => ∃ (i : Nat) (a' : Option Addr) (cp' : Nat), i ≤ nn ∧ iv = .int .i64 (i : Int) ∧ lv = .slice a' (lst.length + i) cp' ∧ RowI wr (w.heap.size + 1) (.slice a' (lst.length + i) cp') (lst ++ List.replicate i xv) ∧ Rf wr B s o q3 b3 out ∧ Fr B o W0 o wr ∧
                wr.heap[w.heap.size]? = some (.cells arr 46 (0, 0)))
              (fun _ iv _ => nn - (intOf iv).toNat)
            case atStart => exact ⟨0, some ⟨ga, 0, none⟩, cp, by omega, rfl, rfl, by simpa using hS3, hR3, hF3, hX3⟩
            case round =>
              clear hS3 hR3 hF3 hX3
              obtain ⟨i, a', cp', hil, rfl, rfl, hS, hR, hF, hX⟩ := hrel
              have hszr := hR.bt.lt
              have hsX := (Array.getElem?_eq_some_iff.1 hX).1
              by_cases hii : i < nn
              · obtain ⟨xs, hxs⟩ : ∃ xs, lst ++ List.replicate i xv = xs := ⟨_, rfl⟩
                have hxl : xs.length = lst.length + i := by rw [← hxs]; simp
                rw [hxs] at hS
                have HXS := hide hxs
                have HXL := hide hxl
                clear hxs hxl
                have hS1' : wr.ownsRow (w.heap.size + 1) 3 1 (.slice a' (lst.length + i) cp') (lst.length + i) (xs.map intV) := by have := hS; unfold RowI at this; rw [unhide HXL] at this; exact this
                have hoB : (Value.slice a' (lst.length + i) cp').ownBlock ≠ some B := hS.ne (by omega)
                have hoX : (Value.slice a' (lst.length + i) cp').ownBlock ≠ some w.heap.size := hS.ne (by omega)
                have hoo' : o.ownBlock = none ∨ o.ownBlock ≠ (Value.slice a' (lst.length + i) cp').ownBlock := by
                  cases eo : o.ownBlock with
                  | none => exact .inl rfl
                  | some k => right; intro e; have := hoo k eo; have := (World.ownsRow.lt hS1' k e.symm).1; omega
                have hfin : ∀ (xi : Int) (v' : Value) (w1 : World), xi = (xv : Int) → (w1.ownsRow (w.heap.size + 1) 3 1 v' (lst.length + i + 1) (xs.map intV ++ [.int .i64 xi])) → (wr.alloc (.cells #[.int .i64 xi] 3)).grownBy w1 (Value.slice a' (lst.length + i) cp').ownBlock →
                    ∃ (i2 : Nat) (a2 : Option Addr) (c2 : Nat), i2 = i + 1 ∧ v' = .slice a2 (lst.length + i2) c2 ∧ RowI w1 (w.heap.size + 1) (.slice a2 (lst.length + i2) c2) (lst ++ List.replicate i2 xv) ∧ Rf w1 B s o q3 b3 out ∧ Fr B o W0 o w1 ∧ w1.heap[w.heap.size]? = some (.cells arr 46 (0, 0)) := by
                  intro xi v' w1 hxi h1 h2
                  obtain ⟨g', c', rfl⟩ := ownsRow_succ h1
                  refine ⟨i + 1, _, _, rfl, rfl, ?_, ?_, ?_, ?_⟩
                  · rw [replicate_snoc, unhide HXS]; unfold RowI
                    have e : (xs ++ [xv]).length = lst.length + (i + 1) := by have := unhide HXL; simp; omega
                    rw [e]; rw [hxi] at h1; rw [← Nat.add_assoc]; simpa [intV] using h1
                  · exact (hR.alloc _).byGrown h2 hoB hoo'
                  · exact (hF.trans (Fr.alloc B o _ _)).grow h2 (fun k e => by have := (World.ownsRow.lt hS1' k e).1; have := unhide HSZ; omega)
                  · rw [h2.block _ (by simp; omega) (fun e => hoX e.symm), Below.heap_alloc _ _ _ hsX]; exact hX
                go_wp2_with (at_builtin; refine wpList_append_own_at _ rfl _ _ 40 rfl (w.heap.size + 1) 3 i0 (.int .i64 0) 1 8 Tryd.underlying40 hi hz0 hz1 hz2 rfl (by decide) _ _ _ rfl (World.ownsRow.alloc hS1' _) ⟨wr.heap.size, 0, none⟩ 1 1 [_] rfl rfl (cell_one_new _ _ _) (by simp [Value.oneCell']) (by unfold maxLen; omega) (by omega) (by simp; omega) ?_; intro v' w1 hown' hgrow _ hat)
                obtain ⟨i2, a2, c2, hi2, rfl, hS2, hR2, hF2, hX2⟩ := hfin _ v' w1 (unhide XE) hown' hgrow
                first
                  | exact ⟨⟨i2, a2, c2, by omega, by rw [hi2]; go_num, rfl, hS2, hR2, hF2, hX2⟩, by simp [intOf]; omega⟩
                  | (refine ⟨?_, by simp [intOf]; omega⟩; (repeat apply Exists.intro); exact ⟨⟨i2, a2, c2, by omega, by rw [hi2]; go_num, rfl, hS2, hR2, hF2, hX2⟩, rfl⟩)
              · have e : i = nn := by omega
                subst e
                go_wp2
                have hlen : (lst ++ List.replicate i xv).length = lst.length + i := by simp
                have hfin : ∀ v : Value, v = .slice a' (lst.length + i) cp' → ∃ (q f : Nat) (bd : Bool) (l2 : List Nat) (a : Option Addr) (cp : Nat), v = .slice a l2.length cp ∧ (bd = false → many + 1 ≤ f + l2.length) ∧ l2.length ≤ 540 ∧ RowI wr (w.heap.size + 1) (.slice a l2.length cp) l2 ∧ Rf wr B s o q bd out ∧ Fr B o W0 o wr ∧
                    wr.heap[w.heap.size]? = some (.cells arr 46 (0, 0)) ∧ rdS cl s many bd f q l2 = readL cl s many (many + 1) p [] := by
                  rintro v rfl
                  exact ⟨q3, f, b3, lst ++ List.replicate i xv, a', cp', by rw [hlen], fun _ => by rw [hlen]; omega, by rw [hlen]; omega, by rw [hlen]; exact hS, hR, hF, hX, unhide ST⟩
                have hc2 := hR.bt.c2
                have hms : (if boolOf ((wr.cell? ⟨B, 2, none⟩).getD undef) then 0 else 1000 - (lst.length + i)) < 1000 - lst.length := by
                  rw [hc2]; cases b3 <;> simp [boolOf] <;> omega
                first
                  | exact ⟨hfin _ rfl, by rw [unhide hm0]; simp only [Option.getD_some, boolOf, Bool.false_eq_true, if_false, lenOf]; exact hms⟩
                  | (refine ⟨?_, by rw [unhide hm0]; simp only [Option.getD_some, boolOf, Bool.false_eq_true, if_false, lenOf]; exact hms⟩; (repeat apply Exists.intro); exact ⟨hfin _ rfl, rfl⟩)
          · -- few of none
            have STEP0 : Hid (∀ (n q3 : Nat) (b3 : Bool), b3 = (false || over s q2 3) → (b3 = false → n = numOf s q2 3 ∧ q3 = q2 + 3) → Hid (rdS cl s many b3 f q3 (lst ++ List.replicate (3 + n) 0) = readL cl s many (many + 1) p [])) :=
              fun n q3 b3 h3 v3 => (rdS_17 (f := f) hlm (unhide hd0) h3 v3).trans (unhide HE)
            clear HE hd0
            go_wp2_with fail
            refine (bits_rf _ B s q2 3 _ false o out hR2 hs rfl (by omega)).mono ?_
            rintro e W3 ⟨kk, q3, b3, rfl, hR3, k3, hkk, hb3, hv3⟩
            have hkk' : kk < 128 := Nat.lt_of_lt_of_le hkk (by decide)
            have STEP := STEP0.out kk q3 b3 hb3 hv3
            clear STEP0 hb3 hv3
            go_wp2_with fail
            obtain ⟨nn, hle1, hle2, hn1, hn2, ST⟩ : ∃ nn : Nat, (nn : Int) ≤ 3 + (kk : Int) ∧ 3 + (kk : Int) ≤ (nn : Int) ∧ 1 ≤ nn ∧ nn ≤ 138 ∧ Hid (rdS cl s many b3 f q3 (lst ++ List.replicate nn 0) = readL cl s many (many + 1) p []) := ⟨3 + kk, by omega, by omega, by omega, by omega, STEP⟩
            obtain ⟨xv, hxv⟩ : ∃ xv : Nat, xv = 0 := ⟨_, rfl⟩
            rw [← hxv] at ST
            have XE : Hid ((0 : Int) = (xv : Int)) := by rw [hxv]; rfl
            clear hxv
            have hF3 := hF02.trans (Fr.of_grown o k3)
            have hS3 := hS2.byFr (Fr.of_grown o k3) (by omega) (fun k e => by have := hoo k e; omega)
            have hX3 : W3.heap[w.heap.size]? = some (.cells arr 46 (0, 0)) := by
              rw [k3.block _ (Array.getElem?_eq_some_iff.1 hX2).1 (by simp; omega)]; exact hX2
            clear hR2 hS2 hX2 hR hF hX hS hF2 hF02 hFw2 hFw c2 f2 STEP k3 
            go_loopw [7, 11] (fun lv iv wr => ∃ (i : Nat) (a' : Option Addr) (cp' : Nat), i ≤ nn ∧ iv = .int .i64 (i : Int) ∧ lv = .slice a' (lst.length + i) cp' ∧ RowI wr (w.heap.size + 1) (.slice a' (lst.length + i) cp') (lst ++ List.replicate i xv) ∧ Rf wr B s o q3 b3 out ∧ Fr B o W0 o wr ∧
                wr.heap[w.heap.size]? = some (.cells arr 46 (0, 0)))
              (fun _ iv _ => nn - (intOf iv).toNat)
            case atStart => exact ⟨0, a, cp, by omega, rfl, rfl, by simpa using hS3, hR3, hF3, hX3⟩
            case round =>
              clear hS3 hR3 hF3 hX3
              obtain ⟨i, a', cp', hil, rfl, rfl, hS, hR, hF, hX⟩ := hrel
              have hszr := hR.bt.lt
              have hsX := (Array.getElem?_eq_some_iff.1 hX).1
              by_cases hii : i < nn
              · obtain ⟨xs, hxs⟩ : ∃ xs, lst ++ List.replicate i xv = xs := ⟨_, rfl⟩
                have hxl : xs.length = lst.length + i := by rw [← hxs]; simp
                rw [hxs] at hS
                have HXS := hide hxs
                have HXL := hide hxl
                clear hxs hxl
                have hS1' : wr.ownsRow (w.heap.size + 1) 3 1 (.slice a' (lst.length + i) cp') (lst.length + i) (xs.map intV) := by have := hS; unfold RowI at this; rw [unhide HXL] at this; exact this
                have hoB : (Value.slice a' (lst.length + i) cp').ownBlock ≠ some B := hS.ne (by omega)
                have hoX : (Value.slice a' (lst.length + i) cp').ownBlock ≠ some w.heap.size := hS.ne (by omega)
                have hoo' : o.ownBlock = none ∨ o.ownBlock ≠ (Value.slice a' (lst.length + i) cp').ownBlock := by
                  cases eo : o.ownBlock with
                  | none => exact .inl rfl
                  | some k => right; intro e; have := hoo k eo; have := (World.ownsRow.lt hS1' k e.symm).1; omega
                have hfin : ∀ (xi : Int) (v' : Value) (w1 : World), xi = (xv : Int) → (w1.ownsRow (w.heap.size + 1) 3 1 v' (lst.length + i + 1) (xs.map intV ++ [.int .i64 xi])) → (wr.alloc (.cells #[.int .i64 xi] 3)).grownBy w1 (Value.slice a' (lst.length + i) cp').ownBlock →
                    ∃ (i2 : Nat) (a2 : Option Addr) (c2 : Nat), i2 = i + 1 ∧ v' = .slice a2 (lst.length + i2) c2 ∧ RowI w1 (w.heap.size + 1) (.slice a2 (lst.length + i2) c2) (lst ++ List.replicate i2 xv) ∧ Rf w1 B s o q3 b3 out ∧ Fr B o W0 o w1 ∧ w1.heap[w.heap.size]? = some (.cells arr 46 (0, 0)) := by
                  intro xi v' w1 hxi h1 h2
                  obtain ⟨g', c', rfl⟩ := ownsRow_succ h1
                  refine ⟨i + 1, _, _, rfl, rfl, ?_, ?_, ?_, ?_⟩
                  · rw [replicate_snoc, unhide HXS]; unfold RowI
                    have e : (xs ++ [xv]).length = lst.length + (i + 1) := by have := unhide HXL; simp; omega
                    rw [e]; rw [hxi] at h1; rw [← Nat.add_assoc]; simpa [intV] using h1
                  · exact (hR.alloc _).byGrown h2 hoB hoo'
                  · exact (hF.trans (Fr.alloc B o _ _)).grow h2 (fun k e => by have := (World.ownsRow.lt hS1' k e).1; have := unhide HSZ; omega)
                  · rw [h2.block _ (by simp; omega) (fun e => hoX e.symm), Below.heap_alloc _ _ _ hsX]; exact hX
                go_wp2_with (at_builtin; refine wpList_append_own_at _ rfl _ _ 40 rfl (w.heap.size + 1) 3 i0 (.int .i64 0) 1 8 Tryd.underlying40 hi hz0 hz1 hz2 rfl (by decide) _ _ _ rfl (World.ownsRow.alloc hS1' _) ⟨wr.heap.size, 0, none⟩ 1 1 [_] rfl rfl (cell_one_new _ _ _) (by simp [Value.oneCell']) (by unfold maxLen; omega) (by omega) (by simp; omega) ?_; intro v' w1 hown' hgrow _ hat)
                obtain ⟨i2, a2, c2, hi2, rfl, hS2, hR2, hF2, hX2⟩ := hfin _ v' w1 (unhide XE) hown' hgrow
                first
                  | exact ⟨⟨i2, a2, c2, by omega, by rw [hi2]; go_num, rfl, hS2, hR2, hF2, hX2⟩, by simp [intOf]; omega⟩
                  | (refine ⟨?_, by simp [intOf]; omega⟩; (repeat apply Exists.intro); exact ⟨⟨i2, a2, c2, by omega, by rw [hi2]; go_num, rfl, hS2, hR2, hF2, hX2⟩, rfl⟩)
              · have e : i = nn := by omega
                subst e
                go_wp2
                have hlen : (lst ++ List.replicate i xv).length = lst.length + i := by simp
                have hfin : ∀ v : Value, v = .slice a' (lst.length + i) cp' → ∃ (q f : Nat) (bd : Bool) (l2 : List Nat) (a : Option Addr) (cp : Nat), v = .slice a l2.length cp ∧ (bd = false → many + 1 ≤ f + l2.length) ∧ l2.length ≤ 540 ∧ RowI wr (w.heap.size + 1) (.slice a l2.length cp) l2 ∧ Rf wr B s o q bd out ∧ Fr B o W0 o wr ∧
                    wr.heap[w.heap.size]? = some (.cells arr 46 (0, 0)) ∧ rdS cl s many bd f q l2 = readL cl s many (many + 1) p [] := by
                  rintro v rfl
                  exact ⟨q3, f, b3, lst ++ List.replicate i xv, a', cp', by rw [hlen], fun _ => by rw [hlen]; omega, by rw [hlen]; omega, by rw [hlen]; exact hS, hR, hF, hX, unhide ST⟩
                have hc2 := hR.bt.c2
                have hms : (if boolOf ((wr.cell? ⟨B, 2, none⟩).getD undef) then 0 else 1000 - (lst.length + i)) < 1000 - lst.length := by
                  rw [hc2]; cases b3 <;> simp [boolOf] <;> omega
                first
                  | exact ⟨hfin _ rfl, by rw [unhide hm0]; simp only [Option.getD_some, boolOf, Bool.false_eq_true, if_false, lenOf]; exact hms⟩
                  | (refine ⟨?_, by rw [unhide hm0]; simp only [Option.getD_some, boolOf, Bool.false_eq_true, if_false, lenOf]; exact hms⟩; (repeat apply Exists.intro); exact ⟨hfin _ rfl, rfl⟩)
          · -- many of none
            have STEP0 : Hid (∀ (n q3 : Nat) (b3 : Bool), b3 = (false || over s q2 7) → (b3 = false → n = numOf s q2 7 ∧ q3 = q2 + 7) → Hid (rdS cl s many b3 f q3 (lst ++ List.replicate (11 + n) 0) = readL cl s many (many + 1) p [])) :=
              fun n q3 b3 h3 v3 => (rdS_18 (f := f) hlm (unhide hd0) hx h3 v3).trans (unhide HE)
            clear HE hd0
            have hxa : ¬ (x : Int) < 16 := by omega
            have hxb : ((x : Int) == 16) = false := by rw [beq_eq_false_iff_ne]; omega
            have hxc : ((x : Int) == 17) = false := by rw [beq_eq_false_iff_ne]; omega
            go_wp2_with fail
            refine (bits_rf _ B s q2 7 _ false o out hR2 hs rfl (by omega)).mono ?_
            rintro e W3 ⟨kk, q3, b3, rfl, hR3, k3, hkk, hb3, hv3⟩
            have hkk' : kk < 128 := Nat.lt_of_lt_of_le hkk (by decide)
            have STEP := STEP0.out kk q3 b3 hb3 hv3
            clear STEP0 hb3 hv3
            go_wp2_with fail
            obtain ⟨nn, hle1, hle2, hn1, hn2, ST⟩ : ∃ nn : Nat, (nn : Int) ≤ 11 + (kk : Int) ∧ 11 + (kk : Int) ≤ (nn : Int) ∧ 1 ≤ nn ∧ nn ≤ 138 ∧ Hid (rdS cl s many b3 f q3 (lst ++ List.replicate nn 0) = readL cl s many (many + 1) p []) := ⟨11 + kk, by omega, by omega, by omega, by omega, STEP⟩
            obtain ⟨xv, hxv⟩ : ∃ xv : Nat, xv = 0 := ⟨_, rfl⟩
            rw [← hxv] at ST
            have XE : Hid ((0 : Int) = (xv : Int)) := by rw [hxv]; rfl
            clear hxv
            have hF3 := hF02.trans (Fr.of_grown o k3)
            have hS3 := hS2.byFr (Fr.of_grown o k3) (by omega) (fun k e => by have := hoo k e; omega)
            have hX3 : W3.heap[w.heap.size]? = some (.cells arr 46 (0, 0)) := by
              rw [k3.block _ (Array.getElem?_eq_some_iff.1 hX2).1 (by simp; omega)]; exact hX2
            clear hR2 hS2 hX2 hR hF hX hS hF2 hF02 hFw2 hFw c2 f2 STEP k3 hxa hxb hxc hx
            go_loopw [7, 11] (fun lv iv wr => ∃ (i : Nat) (a' : Option Addr) (cp' : Nat), i ≤ nn ∧ iv = .int .i64 (i : Int) ∧ lv = .slice a' (lst.length + i) cp' ∧ RowI wr (w.heap.size + 1) (.slice a' (lst.length + i) cp') (lst ++ List.replicate i xv) ∧ Rf wr B s o q3 b3 out ∧ Fr B o W0 o wr ∧
                wr.heap[w.heap.size]? = some (.cells arr 46 (0, 0)))
              (fun _ iv _ => nn - (intOf iv).toNat)
            case atStart => exact ⟨0, a, cp, by omega, rfl, rfl, by simpa using hS3, hR3, hF3, hX3⟩
            case round =>
              clear hS3 hR3 hF3 hX3
              obtain ⟨i, a', cp', hil, rfl, rfl, hS, hR, hF, hX⟩ := hrel
              have hszr := hR.bt.lt
              have hsX := (Array.getElem?_eq_some_iff.1 hX).1
              by_cases hii : i < nn
              · obtain ⟨xs, hxs⟩ : ∃ xs, lst ++ List.replicate i xv = xs := ⟨_, rfl⟩
                have hxl : xs.length = lst.length + i := by rw [← hxs]; simp
                rw [hxs] at hS
                have HXS := hide hxs
                have HXL := hide hxl
                clear hxs hxl
                have hS1' : wr.ownsRow (w.heap.size + 1) 3 1 (.slice a' (lst.length + i) cp') (lst.length + i) (xs.map intV) := by have := hS; unfold RowI at this; rw [unhide HXL] at this; exact this
                have hoB : (Value.slice a' (lst.length + i) cp').ownBlock ≠ some B := hS.ne (by omega)
                have hoX : (Value.slice a' (lst.length + i) cp').ownBlock ≠ some w.heap.size := hS.ne (by omega)
                have hoo' : o.ownBlock = none ∨ o.ownBlock ≠ (Value.slice a' (lst.length + i) cp').ownBlock := by
                  cases eo : o.ownBlock with
                  | none => exact .inl rfl
                  | some k => right; intro e; have := hoo k eo; have := (World.ownsRow.lt hS1' k e.symm).1; omega
                have hfin : ∀ (xi : Int) (v' : Value) (w1 : World), xi = (xv : Int) → (w1.ownsRow (w.heap.size + 1) 3 1 v' (lst.length + i + 1) (xs.map intV ++ [.int .i64 xi])) → (wr.alloc (.cells #[.int .i64 xi] 3)).grownBy w1 (Value.slice a' (lst.length + i) cp').ownBlock →
                    ∃ (i2 : Nat) (a2 : Option Addr) (c2 : Nat), i2 = i + 1 ∧ v' = .slice a2 (lst.length + i2) c2 ∧ RowI w1 (w.heap.size + 1) (.slice a2 (lst.length + i2) c2) (lst ++ List.replicate i2 xv) ∧ Rf w1 B s o q3 b3 out ∧ Fr B o W0 o w1 ∧ w1.heap[w.heap.size]? = some (.cells arr 46 (0, 0)) := by
                  intro xi v' w1 hxi h1 h2
                  obtain ⟨g', c', rfl⟩ := ownsRow_succ h1
                  refine ⟨i + 1, _, _, rfl, rfl, ?_, ?_, ?_, ?_⟩
                  · rw [replicate_snoc, unhide HXS]; unfold RowI
                    have e : (xs ++ [xv]).length = lst.length + (i + 1) := by have := unhide HXL; simp; omega
                    rw [e]; rw [hxi] at h1; rw [← Nat.add_assoc]; simpa [intV] using h1
                  · exact (hR.alloc _).byGrown h2 hoB hoo'
                  · exact (hF.trans (Fr.alloc B o _ _)).grow h2 (fun k e => by have := (World.ownsRow.lt hS1' k e).1; have := unhide HSZ; omega)
                  · rw [h2.block _ (by simp; omega) (fun e => hoX e.symm), Below.heap_alloc _ _ _ hsX]; exact hX
                go_wp2_with (at_builtin; refine wpList_append_own_at _ rfl _ _ 40 rfl (w.heap.size + 1) 3 i0 (.int .i64 0) 1 8 Tryd.underlying40 hi hz0 hz1 hz2 rfl (by decide) _ _ _ rfl (World.ownsRow.alloc hS1' _) ⟨wr.heap.size, 0, none⟩ 1 1 [_] rfl rfl (cell_one_new _ _ _) (by simp [Value.oneCell']) (by unfold maxLen; omega) (by omega) (by simp; omega) ?_; intro v' w1 hown' hgrow _ hat)
                obtain ⟨i2, a2, c2, hi2, rfl, hS2, hR2, hF2, hX2⟩ := hfin _ v' w1 (unhide XE) hown' hgrow
                first
                  | exact ⟨⟨i2, a2, c2, by omega, by rw [hi2]; go_num, rfl, hS2, hR2, hF2, hX2⟩, by simp [intOf]; omega⟩
                  | (refine ⟨?_, by simp [intOf]; omega⟩; (repeat apply Exists.intro); exact ⟨⟨i2, a2, c2, by omega, by rw [hi2]; go_num, rfl, hS2, hR2, hF2, hX2⟩, rfl⟩)
              · have e : i = nn := by omega
                subst e
                go_wp2
                have hlen : (lst ++ List.replicate i xv).length = lst.length + i := by simp
                have hfin : ∀ v : Value, v = .slice a' (lst.length + i) cp' → ∃ (q f : Nat) (bd : Bool) (l2 : List Nat) (a : Option Addr) (cp : Nat), v = .slice a l2.length cp ∧ (bd = false → many + 1 ≤ f + l2.length) ∧ l2.length ≤ 540 ∧ RowI wr (w.heap.size + 1) (.slice a l2.length cp) l2 ∧ Rf wr B s o q bd out ∧ Fr B o W0 o wr ∧
                    wr.heap[w.heap.size]? = some (.cells arr 46 (0, 0)) ∧ rdS cl s many bd f q l2 = readL cl s many (many + 1) p [] := by
                  rintro v rfl
                  exact ⟨q3, f, b3, lst ++ List.replicate i xv, a', cp', by rw [hlen], fun _ => by rw [hlen]; omega, by rw [hlen]; omega, by rw [hlen]; exact hS, hR, hF, hX, unhide ST⟩
                have hc2 := hR.bt.c2
                have hms : (if boolOf ((wr.cell? ⟨B, 2, none⟩).getD undef) then 0 else 1000 - (lst.length + i)) < 1000 - lst.length := by
                  rw [hc2]; cases b3 <;> simp [boolOf] <;> omega
                first
                  | exact ⟨hfin _ rfl, by rw [unhide hm0]; simp only [Option.getD_some, boolOf, Bool.false_eq_true, if_false, lenOf]; exact hms⟩
                  | (refine ⟨?_, by rw [unhide hm0]; simp only [Option.getD_some, boolOf, Bool.false_eq_true, if_false, lenOf]; exact hms⟩; (repeat apply Exists.intro); exact ⟨hfin _ rfl, rfl⟩)
    · by_cases hgt : many < lst.length
      · have hng : decide ((many : Int) < (lst.length : Int)) = true := by simp; omega
        have FIN : Hid (readL cl s many (many + 1) p [] = none) := by
          refine (unhide HE).symm.trans ?_
          cases bd with
          | true => rfl
          | false =>
            have hf' := hf rfl
            cases f with
            | zero => rfl
            | succ f => rw [rdS_end hlm, if_neg (by omega)]
        clear HE
        go_wp2_with fail
        go_ret
        exact ⟨_, q, true, lst, rfl, hS.byFr (Fr.of_grown o (grownBy_setCell _ _ _ _)) (by omega) (fun k e => by have := hoo k e; omega), hR.setBad, hFw.trans (Fr.of_grown o (grownBy_setCell _ _ _ _)), FIN.out.symm⟩
      · have hng : decide ((many : Int) < (lst.length : Int)) = false := by simp; omega
        have FIN : Hid (readL cl s many (many + 1) p [] = if bd then none else some (q, lst)) := by
          refine (unhide HE).symm.trans ?_
          cases bd with
          | true => rfl
          | false =>
            have hf' := hf rfl
            obtain ⟨f, rfl⟩ : ∃ f', f = f' + 1 := ⟨f - 1, by omega⟩
            rw [rdS_end hlm, if_pos (by omega)]; rfl
        clear HE
        go_wp2_with fail
        go_ret
        exact ⟨_, q, bd, lst, rfl, hS, hR, hFw, FIN.out.symm⟩
end Go.Proofs.YtgffljllfenhkaaDoor
