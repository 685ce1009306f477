import Derived.Test.YtgffljllfenhkaaDoorRinL
import Derived.Test.YtgffljllfenhkaaDoorRinG
import Derived.Test.YtgffljllfenhkaaDoorRefM
import Derived.Deep.DeepCutAuto
namespace Go.Proofs.YtgffljllfenhkaaDoor
open Go.RowKit

theorem RowI.byFp {w w' : World} {R A base : Nat} {v : Value} {xs : List Nat} (h : RowI w base v xs) (hf : Fp R A w w') (hR : R < base) (hA : A < base) : RowI w' base v xs := by
  refine ⟨h.1, ?_⟩
  rcases h.2 with hn | ⟨g, cap, cur, rfl, hb, hg, rest⟩
  · exact .inl hn
  · refine .inr ⟨g, cap, cur, rfl, hb, ?_, rest⟩
    rw [hf.block g (Array.getElem?_eq_some_iff.1 hg).1 (by omega) (by omega)]; exact hg
theorem Rd.byGrown {w w' : World} {R A : Nat} {s : ByteArray} {p : Nat} {r : Option Nat} (h : Rd w R A s p) (hg : w.grownBy w' r) (hr : ∀ k, r = some k → k ≠ R ∧ k ≠ A ∧ k ≠ A + 1) : Rd w' R A s p := by
  have h1 := h.ltR
  have h2 := h.ltA
  refine h.of_blocks (fun k hk => hg.block k (by omega) (fun e => ?_))
  have := hr k e.symm; omega
theorem Fp.grow {R A : Nat} {w w1 w2 : World} {r : Option Nat} (h : Fp R A w w1) (hg : w1.grownBy w2 r) (hr : ∀ k, r = some k → w.heap.size ≤ k) : Fp R A w w2 :=
  ⟨hg.os.trans h.os, hg.tape.trans h.tape, hg.output.trans h.output, Nat.le_trans h.size hg.size,
   fun k hk h1 h2 => (hg.block k (Nat.lt_of_lt_of_le hk h.size) (fun e => by have := hr k e.symm; omega)).trans (h.block k hk h1 h2)⟩

/-- What the program's lengths come to. -/
def LenP (w : World) (R A : Nat) (s : ByteArray) (r : Option (Nat × List Nat)) (e : Ending) (w' : World) : Prop :=
  (∃ v q all, r = some (q, all) ∧ e = .returned v ∧ RowI w' (w.heap.size + 1) v all ∧ Rd w' R A s q ∧ Fp R A w w') ∨ (r = none ∧ e = .panicked thrown ∧ Fp R A w w')

variable {cl : List Nat} {s : ByteArray} {many f q g q2 n q3 : Nat} {l : List Nat}
theorem rdP_stop (hl : l.length < many) (h : decode cl s q = none) : readL cl s many (f + 1) q l = none := by
  rw [readL_succ, readStep, if_pos hl, h]
theorem rdP_one (hl : l.length < many) (h : decode cl s q = some (g, q2)) (hg : g < 16) : readL cl s many f q2 (l ++ List.replicate 1 g) = readL cl s many (f + 1) q l := by
  rw [readL_succ, readStep, if_pos hl, h]; dsimp only; rw [if_pos hg]; rfl
theorem rdP_no16 (hl : l.length < many) (h : decode cl s q = some (16, q2)) (he : l = []) : readL cl s many (f + 1) q l = none := by
  rw [readL_succ, readStep, if_pos hl, h]; dsimp only; rw [if_neg (by omega), if_pos rfl, if_pos he]
theorem rdP_16 (hl : l.length < many) (h : decode cl s q = some (16, q2)) (he : l ≠ []) (h3 : rd s 2 q2 = some (n, q3)) (x : Nat) (hx : x = l.getLastD 0) :
    readL cl s many f q3 (l ++ List.replicate (3 + n) x) = readL cl s many (f + 1) q l := by
  rw [readL_succ, readStep, if_pos hl, h, hx]; dsimp only; rw [if_neg (by omega), if_pos rfl, if_neg he, h3]
theorem rdP_16n (hl : l.length < many) (h : decode cl s q = some (16, q2)) (he : l ≠ []) (h3 : rd s 2 q2 = none) : readL cl s many (f + 1) q l = none := by
  rw [readL_succ, readStep, if_pos hl, h]; dsimp only; rw [if_neg (by omega), if_pos rfl, if_neg he, h3]
theorem rdP_17 (hl : l.length < many) (h : decode cl s q = some (17, q2)) (h3 : rd s 3 q2 = some (n, q3)) : readL cl s many f q3 (l ++ List.replicate (3 + n) 0) = readL cl s many (f + 1) q l := by
  rw [readL_succ, readStep, if_pos hl, h]; dsimp only; rw [if_neg (by omega), if_neg (by omega), if_pos rfl, h3]
theorem rdP_17n (hl : l.length < many) (h : decode cl s q = some (17, q2)) (h3 : rd s 3 q2 = none) : readL cl s many (f + 1) q l = none := by
  rw [readL_succ, readStep, if_pos hl, h]; dsimp only; rw [if_neg (by omega), if_neg (by omega), if_pos rfl, h3]
theorem rdP_18 (hl : l.length < many) (h : decode cl s q = some (18, q2)) (h3 : rd s 7 q2 = some (n, q3)) : readL cl s many f q3 (l ++ List.replicate (11 + n) 0) = readL cl s many (f + 1) q l := by
  rw [readL_succ, readStep, if_pos hl, h]; dsimp only; rw [if_neg (by omega), if_neg (by omega), if_neg (by omega), h3]
theorem rdP_18n (hl : l.length < many) (h : decode cl s q = some (18, q2)) (h3 : rd s 7 q2 = none) : readL cl s many (f + 1) q l = none := by
  rw [readL_succ, readStep, if_pos hl, h]; dsimp only; rw [if_neg (by omega), if_neg (by omega), if_neg (by omega), h3]
theorem rdP_end (hl : ¬ l.length < many) : readL cl s many (f + 1) q l = if l.length = many then some (q, l) else none := by
  rw [readL_succ, readStep, if_neg hl]

set_option maxHeartbeats 8000000 in
set_option maxRecDepth 100000 in
theorem plengths_walk (w : World) (R A : Nat) (s : ByteArray) (p many : Nat) (mi : Int) (arr : Array Value) (cl : List Nat) (sg : Value) (h : Rd w R A s p)
    (hc : CodeP arr cl sg) (hsg : Sp w R A sg cl) (hcl : cl.length ≤ 19) (hm : many ≤ 400) (hmi : mi = (many : Int)) :
    Calls Tryd.prog 47 #[.pointer (some ⟨R, 0, none⟩), .agg arr, .int .i64 mi] w (LenP w R A s (readL cl s many (many + 1) p [])) := by
  subst hmi
  obtain ⟨i0, hi, hz0, hz1, hz2⟩ := info_parts Tryd.info3
  have hlR := h.ltR
  have hlA := h.ltA
  have h1 := h.alloc (.cells arr 69)
  have F1 := Fp.alloc R A w (.cells arr 69)
  have hX0 : (w.alloc (.cells arr 69)).heap[w.heap.size]? = some (.cells arr 69 (0, 0)) := World.alloc_heap_new w _
  go_enter Tryd.func47, Tryd.ntmps47
  go_wp2_with fail
  obtain ⟨W0, hW0⟩ : ∃ W0, w.alloc (.cells arr 69) = W0 := ⟨_, rfl⟩
  rw [hW0] at h1 F1 hX0 ⊢
  clear hW0
  have hS0 : RowI W0 (w.heap.size + 1) (.slice none 0 0) [] := World.ownsRow_nil _ _ _ _
  go_loopw [7] (fun lv wr => ∃ (q f : Nat) (lst : List Nat) (a : Option Addr) (cp : Nat), lv = .slice a lst.length cp ∧ 1 ≤ f ∧ many + 1 ≤ f + lst.length ∧ lst.length ≤ 540 ∧ RowI wr (w.heap.size + 1) (.slice a lst.length cp) lst ∧ Rd wr R A s q ∧ Fp R A w wr ∧
      wr.heap[w.heap.size]? = some (.cells arr 69 (0, 0)) ∧ readL cl s many f q lst = readL cl s many (many + 1) p [])
    (fun lv _ => 1000 - lenOf lv)
  case atStart => exact ⟨p, many + 1, [], none, 0, rfl, by omega, by simp, by simp, hS0, h1, F1, hX0, rfl⟩
  case round =>
    clear hS0 hX0 h1 F1 W0
    obtain ⟨q, f, lst, a, cp, rfl, hf1, hf, hll, hS, hR, hF, hX, hE⟩ := hrel
    have HE := hide hE
    clear hE
    have hSi := hsg.kept hF
    by_cases hlm : lst.length < many
    · obtain ⟨f, rfl⟩ : ∃ f', f = f' + 1 := ⟨f - 1, by omega⟩
      go_wp2_with (refine load_whole rfl 69 _ rfl w.heap.size rfl 69 arr (0, 0) hX Tryd.aggCodeP (Tryd.infoCodeP arr hc.size) ?_)
      refine (psign_any _ R A s q arr cl sg hR hc hSi).mono ?_
      rintro e w2 (⟨x, q2, hdec, rfl, hR2, hF2⟩ | ⟨hdec, rfl, hF2⟩)
      · have hS2 := hS.byFp hF2 (by omega) (by omega)
        have hX2 : w2.heap[w.heap.size]? = some (.cells arr 69 (0, 0)) := by
          rw [hF2.block _ (Array.getElem?_eq_some_iff.1 hX).1 (by omega) (by omega)]; exact hX
        have hFw2 := hF.trans hF2
        have hds := decode_some hdec
        have hx18 : x ≤ 18 := by omega
        have hway : (x = 16 ∧ lst = []) ∨ (x < 16) ∨ (x = 16 ∧ lst ≠ []) ∨ x = 17 ∨ x = 18 := by
          by_cases e : x = 16
          · by_cases e2 : lst = []
            · exact .inl ⟨e, e2⟩
            · exact .inr (.inr (.inl ⟨e, e2⟩))
          · omega
        have hd0 := hide hdec
        clear hdec hx18 hds
        rcases hway with ⟨rfl, hnil⟩ | hx | ⟨rfl, hnil⟩ | rfl | rfl
        · have FIN : Hid (readL cl s many (many + 1) p [] = none) := (unhide HE).symm.trans (rdP_no16 hlm (unhide hd0) hnil)
          clear HE hd0
          have hl0 : decide (0 < lst.length) = false := by rw [hnil]; rfl
          clear hnil
          go_wp2_with fail

          refine (demand_no hR2).mono ?_
          rintro e w3 ⟨rfl, rfl⟩
          exact ⟨rfl, .inr ⟨unhide FIN, rfl, hFw2⟩⟩
        · have STEP : Hid (readL cl s many f q2 (lst ++ List.replicate 1 x) = readL cl s many (many + 1) p []) := (rdP_one (f := f) hlm (unhide hd0) hx).trans (unhide HE)
          clear HE hd0
          have hx16 : ((x : Int) == 16) = false := by rw [beq_eq_false_iff_ne]; omega
          have hx17 : ((x : Int) == 17) = false := by rw [beq_eq_false_iff_ne]; omega
          have hx18 : ((x : Int) == 18) = false := by rw [beq_eq_false_iff_ne]; omega
          go_wp2_with fail
          obtain ⟨nn, hle1, hle2, hn1, hn2, ST⟩ : ∃ nn : Nat, (nn : Int) ≤ 1 ∧ (1 : Int) ≤ (nn : Int) ∧ 1 ≤ nn ∧ nn ≤ 138 ∧ Hid (readL cl s many f q2 (lst ++ List.replicate nn x) = readL cl s many (many + 1) p []) := ⟨1, by omega, by omega, by omega, by omega, STEP⟩
          obtain ⟨xv, hxv⟩ : ∃ xv, xv = x := ⟨_, rfl⟩
          subst hxv
          obtain ⟨q3, hq3⟩ : ∃ q3, q3 = q2 := ⟨_, rfl⟩
          subst hq3
          have XE : Hid ((xv : Int) = (xv : Int)) := rfl
          have hR3 := hR2
          have hF3 := hFw2
          have hS3 := hS2
          have hX3 := hX2
          clear hR2 hS2 hX2 hR hF hX hS hF2 hFw2 STEP hx16 hx17 hx18 hx
          go_loopw [7, 45] (fun lv iv wr => ∃ (i : Nat) (a' : Option Addr) (cp' : Nat), i ≤ nn ∧ iv = .int .i64 (i : Int) ∧ lv = .slice a' (lst.length + i) cp' ∧ RowI wr (w.heap.size + 1) (.slice a' (lst.length + i) cp') (lst ++ List.replicate i xv) ∧ Rd wr R A s q3 ∧ Fp R A w wr ∧
              wr.heap[w.heap.size]? = some (.cells arr 69 (0, 0)))
            (fun _ iv _ => nn - (intOf iv).toNat)
          case atStart => exact ⟨0, _, cp, by omega, rfl, rfl, by simpa using hS3, hR3, hF3, hX3⟩
          case round =>
            clear hS3 hR3 hF3 hX3
            obtain ⟨i, a', cp', hil, rfl, rfl, hS, hR, hF, hX⟩ := hrel
            have hsX := (Array.getElem?_eq_some_iff.1 hX).1
            by_cases hii : i < nn
            · obtain ⟨xs, hxs⟩ : ∃ xs, lst ++ List.replicate i xv = xs := ⟨_, rfl⟩
              have hxl : xs.length = lst.length + i := by rw [← hxs]; simp
              rw [hxs] at hS
              have HXS := hide hxs
              have HXL := hide hxl
              clear hxs hxl
              have hS1' : wr.ownsRow (w.heap.size + 1) 3 1 (.slice a' (lst.length + i) cp') (lst.length + i) (xs.map intV) := by have := hS; unfold RowI at this; rw [unhide HXL] at this; exact this
              have hfin : ∀ (xi : Int) (v' : Value) (w1 : World), xi = (xv : Int) → (w1.ownsRow (w.heap.size + 1) 3 1 v' (lst.length + i + 1) (xs.map intV ++ [.int .i64 xi])) → (wr.alloc (.cells #[.int .i64 xi] 3)).grownBy w1 (Value.slice a' (lst.length + i) cp').ownBlock →
                  ∃ (i2 : Nat) (a2 : Option Addr) (c2 : Nat), i2 = i + 1 ∧ v' = .slice a2 (lst.length + i2) c2 ∧ RowI w1 (w.heap.size + 1) (.slice a2 (lst.length + i2) c2) (lst ++ List.replicate i2 xv) ∧ Rd w1 R A s q3 ∧ Fp R A w w1 ∧ w1.heap[w.heap.size]? = some (.cells arr 69 (0, 0)) := by
                intro xi v' w1 hxi h1 h2
                obtain ⟨g', c', rfl⟩ := ownsRow_succ h1
                refine ⟨i + 1, _, _, rfl, rfl, ?_, ?_, ?_, ?_⟩
                · rw [replicate_snoc, unhide HXS]; unfold RowI
                  have e : (xs ++ [xv]).length = lst.length + (i + 1) := by have := unhide HXL; simp; omega
                  rw [e]; rw [hxi] at h1; rw [← Nat.add_assoc]; simpa [intV] using h1
                · exact (hR.alloc _).byGrown h2 (fun k e => by have := (World.ownsRow.lt hS1' k e).1; omega)
                · exact (hF.trans (Fp.alloc R A _ _)).grow h2 (fun k e => by have := (World.ownsRow.lt hS1' k e).1; omega)
                · rw [h2.block _ (by simp; omega) (fun e => by have := (World.ownsRow.lt hS1' _ e.symm).1; omega), Below.heap_alloc _ _ _ hsX]; exact hX
              go_wp2_with (at_builtin; refine wpList_append_own_at _ rfl _ _ 40 rfl (w.heap.size + 1) 3 i0 (.int .i64 0) 1 8 Tryd.underlying40 hi hz0 hz1 hz2 rfl (by decide) _ _ _ rfl (World.ownsRow.alloc hS1' _) ⟨wr.heap.size, 0, none⟩ 1 1 [_] rfl rfl (cell_one_new _ _ _) (by simp [Value.oneCell']) (by unfold maxLen; omega) (by omega) (by simp; omega) ?_; intro v' w1 hown' hgrow _ hat)
              obtain ⟨i2, a2, c2, hi2, rfl, hS2, hR2, hF2, hX2⟩ := hfin _ v' w1 (unhide XE) hown' hgrow
              first
                | exact ⟨⟨i2, a2, c2, by omega, by rw [hi2]; go_num, rfl, hS2, hR2, hF2, hX2⟩, by simp [intOf]; omega⟩
                | (refine ⟨?_, by simp [intOf]; omega⟩; (repeat apply Exists.intro); exact ⟨⟨i2, a2, c2, by omega, by rw [hi2]; go_num, rfl, hS2, hR2, hF2, hX2⟩, rfl⟩)
            · have e : i = nn := by omega
              subst e
              go_wp2
              have hlen : (lst ++ List.replicate i xv).length = lst.length + i := by simp
              have hfin : ∀ v : Value, v = .slice a' (lst.length + i) cp' → ∃ (q f : Nat) (l2 : List Nat) (a : Option Addr) (cp : Nat), v = .slice a l2.length cp ∧ 1 ≤ f ∧ many + 1 ≤ f + l2.length ∧ l2.length ≤ 540 ∧ RowI wr (w.heap.size + 1) (.slice a l2.length cp) l2 ∧ Rd wr R A s q ∧ Fp R A w wr ∧
                  wr.heap[w.heap.size]? = some (.cells arr 69 (0, 0)) ∧ readL cl s many f q l2 = readL cl s many (many + 1) p [] := by
                rintro v rfl
                exact ⟨q3, f, lst ++ List.replicate i xv, a', cp', by rw [hlen], by omega, by rw [hlen]; omega, by rw [hlen]; omega, by rw [hlen]; exact hS, hR, hF, hX, unhide ST⟩
              have hms : 1000 - (lst.length + i) < 1000 - lst.length := by omega
              first
                | exact ⟨hfin _ rfl, by simp only [lenOf]; exact hms⟩
                | (refine ⟨?_, by simp only [lenOf]; exact hms⟩; (repeat apply Exists.intro); exact ⟨hfin _ rfl, rfl⟩)
        · have hpos : 0 < lst.length := List.length_pos_iff.2 hnil
          have hl0 : decide (0 < lst.length) = true := by simp; omega
          obtain ⟨ga, ca, hsl, hcell⟩ := hS2.cellAt (j := lst.length - 1) (by omega)
          obtain ⟨j, hj⟩ : ∃ j : Nat, lst.length - 1 = j := ⟨_, rfl⟩
          have hix : (lst.length : Int) - 1 = (j : Int) := by omega
          have hiw : IntKind.i64.wrap (j : Int) = (j : Int) := wraps_i64 _ (by omega) (by omega)
          have hj0 : (0 : Int) ≤ (j : Int) := by omega
          have hjl : (j : Int) < (lst.length : Int) := by omega
          simp only [Value.slice.injEq] at hsl
          obtain ⟨rfl, _, rfl⟩ := hsl
          have hgr := World.ownsRow.lt hS2 ga rfl
          have hgaw : ga < w2.heap.size := hgr.2
          have hgaR : ga ≠ R := by omega
          have hgaA : ga ≠ A := by omega
          clear hgr
          by_cases hle8 : q2 + 2 ≤ 8 * s.size
          · have STEP : Hid (readL cl s many f (q2 + 2) (lst ++ List.replicate (3 + numOf s q2 2) (nth lst (lst.length - 1))) = readL cl s many (many + 1) p []) := (rdP_16 hlm (unhide hd0) hnil (rd_pos hle8) _ (nth_last lst)).trans (unhide HE)
            have hnl : numOf s q2 2 < 128 := Nat.lt_of_lt_of_le (numOf_lt s q2 2) (by decide)
            rw [hj] at STEP hcell
            have HJ := hide hj
            clear HE hd0 hj hnil HJ
            have hkw : IntKind.i64.wrap (3 + (numOf s q2 2 : Int)) = 3 + (numOf s q2 2 : Int) := wraps_i64 _ (by omega) (by omega)
            go_wp2_with (go_at_call 23; refine (demand_ok w2).mono ?_; rintro e w1 ⟨rfl, rfl⟩)
            go_region_with (go_at_call 21; refine (number_yes _ R A s q2 2 _ rfl (by exact hR2.drew) (by omega) hle8).mono ?_; rintro e W3 ⟨rfl, hR3, k3⟩; have hcell3 : W3.cell? ⟨ga, j, none⟩ = some (.int .i64 (nth lst j : Int)) := by rw [World.cell?_of_block (w := w2) (((Fp.drew R A w2).trans k3).block ga hgaw hgaR hgaA)]; exact hcell)
            all_goals
              obtain ⟨kk, hkk⟩ : ∃ kk, numOf s q2 2 = kk := ⟨_, rfl⟩
              rw [hkk] at STEP hnl hkw
              try rw [hkk]
              clear hkk
              go_wp2_with fail
              obtain ⟨nn, hle1, hle2, hn1, hn2, ST⟩ : ∃ nn : Nat, (nn : Int) ≤ 3 + (kk : Int) ∧ 3 + (kk : Int) ≤ (nn : Int) ∧ 1 ≤ nn ∧ nn ≤ 138 ∧ Hid (readL cl s many f (q2 + 2) (lst ++ List.replicate nn (nth lst j)) = readL cl s many (many + 1) p []) := ⟨3 + kk, by omega, by omega, by omega, by omega, STEP⟩
              obtain ⟨xv, hxv⟩ : ∃ xv, xv = nth lst j := ⟨_, rfl⟩
              rw [← hxv] at ST
              have XE : Hid ((nth lst j : Int) = (xv : Int)) := by rw [hxv]; rfl
              clear hxv
              obtain ⟨q3, hq3⟩ : ∃ q3, q2 + 2 = q3 := ⟨_, rfl⟩
              rw [hq3] at ST hR3
              have hF3 := hFw2.trans ((Fp.drew R A w2).trans k3)
              have hS3 := hS2.byFp ((Fp.drew R A w2).trans k3) (by omega) (by omega)
              have hX3 : W3.heap[w.heap.size]? = some (.cells arr 69 (0, 0)) := by
                rw [((Fp.drew R A w2).trans k3).block _ (Array.getElem?_eq_some_iff.1 hX2).1 (by omega) (by omega)]; exact hX2
              clear hq3 hR2 hS2 hX2 hR hF hX hS hF2 hFw2 STEP k3 hle8 hcell hcell3 hix hiw hj0 hjl hl0 hpos hgaw hgaR hgaA hkw
              go_loopw [7, 45] (fun lv iv wr => ∃ (i : Nat) (a' : Option Addr) (cp' : Nat), i ≤ nn ∧ iv = .int .i64 (i : Int) ∧ lv = .slice a' (lst.length + i) cp' ∧ RowI wr (w.heap.size + 1) (.slice a' (lst.length + i) cp') (lst ++ List.replicate i xv) ∧ Rd wr R A s q3 ∧ Fp R A w wr ∧
                  wr.heap[w.heap.size]? = some (.cells arr 69 (0, 0)))
                (fun _ iv _ => nn - (intOf iv).toNat)
              case atStart => exact ⟨0, _, cp, by omega, rfl, rfl, by simpa using hS3, hR3, hF3, hX3⟩
              case round =>
                clear hS3 hR3 hF3 hX3
                obtain ⟨i, a', cp', hil, rfl, rfl, hS, hR, hF, hX⟩ := hrel
                have hsX := (Array.getElem?_eq_some_iff.1 hX).1
                by_cases hii : i < nn
                · obtain ⟨xs, hxs⟩ : ∃ xs, lst ++ List.replicate i xv = xs := ⟨_, rfl⟩
                  have hxl : xs.length = lst.length + i := by rw [← hxs]; simp
                  rw [hxs] at hS
                  have HXS := hide hxs
                  have HXL := hide hxl
                  clear hxs hxl
                  have hS1' : wr.ownsRow (w.heap.size + 1) 3 1 (.slice a' (lst.length + i) cp') (lst.length + i) (xs.map intV) := by have := hS; unfold RowI at this; rw [unhide HXL] at this; exact this
                  have hfin : ∀ (xi : Int) (v' : Value) (w1 : World), xi = (xv : Int) → (w1.ownsRow (w.heap.size + 1) 3 1 v' (lst.length + i + 1) (xs.map intV ++ [.int .i64 xi])) → (wr.alloc (.cells #[.int .i64 xi] 3)).grownBy w1 (Value.slice a' (lst.length + i) cp').ownBlock →
                      ∃ (i2 : Nat) (a2 : Option Addr) (c2 : Nat), i2 = i + 1 ∧ v' = .slice a2 (lst.length + i2) c2 ∧ RowI w1 (w.heap.size + 1) (.slice a2 (lst.length + i2) c2) (lst ++ List.replicate i2 xv) ∧ Rd w1 R A s q3 ∧ Fp R A w w1 ∧ w1.heap[w.heap.size]? = some (.cells arr 69 (0, 0)) := by
                    intro xi v' w1 hxi h1 h2
                    obtain ⟨g', c', rfl⟩ := ownsRow_succ h1
                    refine ⟨i + 1, _, _, rfl, rfl, ?_, ?_, ?_, ?_⟩
                    · rw [replicate_snoc, unhide HXS]; unfold RowI
                      have e : (xs ++ [xv]).length = lst.length + (i + 1) := by have := unhide HXL; simp; omega
                      rw [e]; rw [hxi] at h1; rw [← Nat.add_assoc]; simpa [intV] using h1
                    · exact (hR.alloc _).byGrown h2 (fun k e => by have := (World.ownsRow.lt hS1' k e).1; omega)
                    · exact (hF.trans (Fp.alloc R A _ _)).grow h2 (fun k e => by have := (World.ownsRow.lt hS1' k e).1; omega)
                    · rw [h2.block _ (by simp; omega) (fun e => by have := (World.ownsRow.lt hS1' _ e.symm).1; omega), Below.heap_alloc _ _ _ hsX]; exact hX
                  go_wp2_with (at_builtin; refine wpList_append_own_at _ rfl _ _ 40 rfl (w.heap.size + 1) 3 i0 (.int .i64 0) 1 8 Tryd.underlying40 hi hz0 hz1 hz2 rfl (by decide) _ _ _ rfl (World.ownsRow.alloc hS1' _) ⟨wr.heap.size, 0, none⟩ 1 1 [_] rfl rfl (cell_one_new _ _ _) (by simp [Value.oneCell']) (by unfold maxLen; omega) (by omega) (by simp; omega) ?_; intro v' w1 hown' hgrow _ hat)
                  obtain ⟨i2, a2, c2, hi2, rfl, hS2, hR2, hF2, hX2⟩ := hfin _ v' w1 (unhide XE) hown' hgrow
                  first
                    | exact ⟨⟨i2, a2, c2, by omega, by rw [hi2]; go_num, rfl, hS2, hR2, hF2, hX2⟩, by simp [intOf]; omega⟩
                    | (refine ⟨?_, by simp [intOf]; omega⟩; (repeat apply Exists.intro); exact ⟨⟨i2, a2, c2, by omega, by rw [hi2]; go_num, rfl, hS2, hR2, hF2, hX2⟩, rfl⟩)
                · have e : i = nn := by omega
                  subst e
                  go_wp2
                  have hlen : (lst ++ List.replicate i xv).length = lst.length + i := by simp
                  have hfin : ∀ v : Value, v = .slice a' (lst.length + i) cp' → ∃ (q f : Nat) (l2 : List Nat) (a : Option Addr) (cp : Nat), v = .slice a l2.length cp ∧ 1 ≤ f ∧ many + 1 ≤ f + l2.length ∧ l2.length ≤ 540 ∧ RowI wr (w.heap.size + 1) (.slice a l2.length cp) l2 ∧ Rd wr R A s q ∧ Fp R A w wr ∧
                      wr.heap[w.heap.size]? = some (.cells arr 69 (0, 0)) ∧ readL cl s many f q l2 = readL cl s many (many + 1) p [] := by
                    rintro v rfl
                    exact ⟨q3, f, lst ++ List.replicate i xv, a', cp', by rw [hlen], by omega, by rw [hlen]; omega, by rw [hlen]; omega, by rw [hlen]; exact hS, hR, hF, hX, unhide ST⟩
                  have hms : 1000 - (lst.length + i) < 1000 - lst.length := by omega
                  first
                    | exact ⟨hfin _ rfl, by simp only [lenOf]; exact hms⟩
                    | (refine ⟨?_, by simp only [lenOf]; exact hms⟩; (repeat apply Exists.intro); exact ⟨hfin _ rfl, rfl⟩)
          · have FIN : Hid (readL cl s many (many + 1) p [] = none) := (unhide HE).symm.trans (rdP_16n hlm (unhide hd0) hnil (rd_neg hle8))
            rw [hj] at hcell
            clear HE hd0 hj hnil
            go_wp2_with (go_at_call 23; refine (demand_ok w2).mono ?_; rintro e w1 ⟨rfl, rfl⟩)
            go_region_dies
            all_goals
              refine (number_no _ R A s q2 2 _ rfl (by exact hR2.drew) (by omega) hle8).mono ?_
              rintro e w3 ⟨rfl, hF3⟩
              exact ⟨rfl, .inr ⟨unhide FIN, rfl, hFw2.trans ((Fp.drew R A w2).trans hF3)⟩⟩
        · by_cases hle8 : q2 + 3 ≤ 8 * s.size
          · have STEP : Hid (readL cl s many f (q2 + 3) (lst ++ List.replicate (3 + numOf s q2 3) 0) = readL cl s many (many + 1) p []) := (rdP_17 hlm (unhide hd0) (rd_pos hle8)).trans (unhide HE)
            have hnl : numOf s q2 3 < 128 := Nat.lt_of_lt_of_le (numOf_lt s q2 3) (by decide)
            clear HE hd0
            go_wp2_with fail
            refine (number_yes _ R A s q2 3 _ rfl hR2 (by omega) hle8).mono ?_
            rintro e W3 ⟨rfl, hR3, k3⟩
            obtain ⟨kk, hkk⟩ : ∃ kk, numOf s q2 3 = kk := ⟨_, rfl⟩
            rw [hkk] at STEP hnl
            rw [hkk]
            clear hkk
            go_wp2_with fail
            obtain ⟨nn, hle1, hle2, hn1, hn2, ST⟩ : ∃ nn : Nat, (nn : Int) ≤ 3 + (kk : Int) ∧ 3 + (kk : Int) ≤ (nn : Int) ∧ 1 ≤ nn ∧ nn ≤ 138 ∧ Hid (readL cl s many f (q2 + 3) (lst ++ List.replicate nn 0) = readL cl s many (many + 1) p []) := ⟨3 + kk, by omega, by omega, by omega, by omega, STEP⟩
            obtain ⟨xv, hxv⟩ : ∃ xv : Nat, xv = 0 := ⟨_, rfl⟩
            rw [← hxv] at ST
            have XE : Hid ((0 : Int) = (xv : Int)) := by rw [hxv]; rfl
            clear hxv
            obtain ⟨q3, hq3⟩ : ∃ q3, q2 + 3 = q3 := ⟨_, rfl⟩
            rw [hq3] at ST hR3
            have hF3 := hFw2.trans k3
            have hS3 := hS2.byFp k3 (by omega) (by omega)
            have hX3 : W3.heap[w.heap.size]? = some (.cells arr 69 (0, 0)) := by
              rw [k3.block _ (Array.getElem?_eq_some_iff.1 hX2).1 (by omega) (by omega)]; exact hX2
            clear hq3 hR2 hS2 hX2 hR hF hX hS hF2 hFw2 STEP k3 hle8
            go_loopw [7, 45] (fun lv iv wr => ∃ (i : Nat) (a' : Option Addr) (cp' : Nat), i ≤ nn ∧ iv = .int .i64 (i : Int) ∧ lv = .slice a' (lst.length + i) cp' ∧ RowI wr (w.heap.size + 1) (.slice a' (lst.length + i) cp') (lst ++ List.replicate i xv) ∧ Rd wr R A s q3 ∧ Fp R A w wr ∧
                wr.heap[w.heap.size]? = some (.cells arr 69 (0, 0)))
              (fun _ iv _ => nn - (intOf iv).toNat)
            case atStart => exact ⟨0, _, cp, by omega, rfl, rfl, by simpa using hS3, hR3, hF3, hX3⟩
            case round =>
              clear hS3 hR3 hF3 hX3
              obtain ⟨i, a', cp', hil, rfl, rfl, hS, hR, hF, hX⟩ := hrel
              have hsX := (Array.getElem?_eq_some_iff.1 hX).1
              by_cases hii : i < nn
              · obtain ⟨xs, hxs⟩ : ∃ xs, lst ++ List.replicate i xv = xs := ⟨_, rfl⟩
                have hxl : xs.length = lst.length + i := by rw [← hxs]; simp
                rw [hxs] at hS
                have HXS := hide hxs
                have HXL := hide hxl
                clear hxs hxl
                have hS1' : wr.ownsRow (w.heap.size + 1) 3 1 (.slice a' (lst.length + i) cp') (lst.length + i) (xs.map intV) := by have := hS; unfold RowI at this; rw [unhide HXL] at this; exact this
                have hfin : ∀ (xi : Int) (v' : Value) (w1 : World), xi = (xv : Int) → (w1.ownsRow (w.heap.size + 1) 3 1 v' (lst.length + i + 1) (xs.map intV ++ [.int .i64 xi])) → (wr.alloc (.cells #[.int .i64 xi] 3)).grownBy w1 (Value.slice a' (lst.length + i) cp').ownBlock →
                    ∃ (i2 : Nat) (a2 : Option Addr) (c2 : Nat), i2 = i + 1 ∧ v' = .slice a2 (lst.length + i2) c2 ∧ RowI w1 (w.heap.size + 1) (.slice a2 (lst.length + i2) c2) (lst ++ List.replicate i2 xv) ∧ Rd w1 R A s q3 ∧ Fp R A w w1 ∧ w1.heap[w.heap.size]? = some (.cells arr 69 (0, 0)) := by
                  intro xi v' w1 hxi h1 h2
                  obtain ⟨g', c', rfl⟩ := ownsRow_succ h1
                  refine ⟨i + 1, _, _, rfl, rfl, ?_, ?_, ?_, ?_⟩
                  · rw [replicate_snoc, unhide HXS]; unfold RowI
                    have e : (xs ++ [xv]).length = lst.length + (i + 1) := by have := unhide HXL; simp; omega
                    rw [e]; rw [hxi] at h1; rw [← Nat.add_assoc]; simpa [intV] using h1
                  · exact (hR.alloc _).byGrown h2 (fun k e => by have := (World.ownsRow.lt hS1' k e).1; omega)
                  · exact (hF.trans (Fp.alloc R A _ _)).grow h2 (fun k e => by have := (World.ownsRow.lt hS1' k e).1; omega)
                  · rw [h2.block _ (by simp; omega) (fun e => by have := (World.ownsRow.lt hS1' _ e.symm).1; omega), Below.heap_alloc _ _ _ hsX]; exact hX
                go_wp2_with (at_builtin; refine wpList_append_own_at _ rfl _ _ 40 rfl (w.heap.size + 1) 3 i0 (.int .i64 0) 1 8 Tryd.underlying40 hi hz0 hz1 hz2 rfl (by decide) _ _ _ rfl (World.ownsRow.alloc hS1' _) ⟨wr.heap.size, 0, none⟩ 1 1 [_] rfl rfl (cell_one_new _ _ _) (by simp [Value.oneCell']) (by unfold maxLen; omega) (by omega) (by simp; omega) ?_; intro v' w1 hown' hgrow _ hat)
                obtain ⟨i2, a2, c2, hi2, rfl, hS2, hR2, hF2, hX2⟩ := hfin _ v' w1 (unhide XE) hown' hgrow
                first
                  | exact ⟨⟨i2, a2, c2, by omega, by rw [hi2]; go_num, rfl, hS2, hR2, hF2, hX2⟩, by simp [intOf]; omega⟩
                  | (refine ⟨?_, by simp [intOf]; omega⟩; (repeat apply Exists.intro); exact ⟨⟨i2, a2, c2, by omega, by rw [hi2]; go_num, rfl, hS2, hR2, hF2, hX2⟩, rfl⟩)
              · have e : i = nn := by omega
                subst e
                go_wp2
                have hlen : (lst ++ List.replicate i xv).length = lst.length + i := by simp
                have hfin : ∀ v : Value, v = .slice a' (lst.length + i) cp' → ∃ (q f : Nat) (l2 : List Nat) (a : Option Addr) (cp : Nat), v = .slice a l2.length cp ∧ 1 ≤ f ∧ many + 1 ≤ f + l2.length ∧ l2.length ≤ 540 ∧ RowI wr (w.heap.size + 1) (.slice a l2.length cp) l2 ∧ Rd wr R A s q ∧ Fp R A w wr ∧
                    wr.heap[w.heap.size]? = some (.cells arr 69 (0, 0)) ∧ readL cl s many f q l2 = readL cl s many (many + 1) p [] := by
                  rintro v rfl
                  exact ⟨q3, f, lst ++ List.replicate i xv, a', cp', by rw [hlen], by omega, by rw [hlen]; omega, by rw [hlen]; omega, by rw [hlen]; exact hS, hR, hF, hX, unhide ST⟩
                have hms : 1000 - (lst.length + i) < 1000 - lst.length := by omega
                first
                  | exact ⟨hfin _ rfl, by simp only [lenOf]; exact hms⟩
                  | (refine ⟨?_, by simp only [lenOf]; exact hms⟩; (repeat apply Exists.intro); exact ⟨hfin _ rfl, rfl⟩)
          · have FIN : Hid (readL cl s many (many + 1) p [] = none) := (unhide HE).symm.trans (rdP_17n hlm (unhide hd0) (rd_neg hle8))
            clear HE hd0
            go_wp2_with fail
            refine (number_no _ R A s q2 3 _ rfl hR2 (by omega) hle8).mono ?_
            rintro e W3 ⟨rfl, k3⟩
            exact ⟨rfl, .inr ⟨unhide FIN, rfl, hFw2.trans k3⟩⟩
        · by_cases hle8 : q2 + 7 ≤ 8 * s.size
          · have STEP : Hid (readL cl s many f (q2 + 7) (lst ++ List.replicate (11 + numOf s q2 7) 0) = readL cl s many (many + 1) p []) := (rdP_18 hlm (unhide hd0) (rd_pos hle8)).trans (unhide HE)
            have hnl : numOf s q2 7 < 128 := Nat.lt_of_lt_of_le (numOf_lt s q2 7) (by decide)
            clear HE hd0
            go_wp2_with fail
            refine (number_yes _ R A s q2 7 _ rfl hR2 (by omega) hle8).mono ?_
            rintro e W3 ⟨rfl, hR3, k3⟩
            obtain ⟨kk, hkk⟩ : ∃ kk, numOf s q2 7 = kk := ⟨_, rfl⟩
            rw [hkk] at STEP hnl
            rw [hkk]
            clear hkk
            go_wp2_with fail
            obtain ⟨nn, hle1, hle2, hn1, hn2, ST⟩ : ∃ nn : Nat, (nn : Int) ≤ 11 + (kk : Int) ∧ 11 + (kk : Int) ≤ (nn : Int) ∧ 1 ≤ nn ∧ nn ≤ 138 ∧ Hid (readL cl s many f (q2 + 7) (lst ++ List.replicate nn 0) = readL cl s many (many + 1) p []) := ⟨11 + kk, by omega, by omega, by omega, by omega, STEP⟩
            obtain ⟨xv, hxv⟩ : ∃ xv : Nat, xv = 0 := ⟨_, rfl⟩
            rw [← hxv] at ST
            have XE : Hid ((0 : Int) = (xv : Int)) := by rw [hxv]; rfl
            clear hxv
            obtain ⟨q3, hq3⟩ : ∃ q3, q2 + 7 = q3 := ⟨_, rfl⟩
            rw [hq3] at ST hR3
            have hF3 := hFw2.trans k3
            have hS3 := hS2.byFp k3 (by omega) (by omega)
            have hX3 : W3.heap[w.heap.size]? = some (.cells arr 69 (0, 0)) := by
              rw [k3.block _ (Array.getElem?_eq_some_iff.1 hX2).1 (by omega) (by omega)]; exact hX2
            clear hq3 hR2 hS2 hX2 hR hF hX hS hF2 hFw2 STEP k3 hle8
            go_loopw [7, 45] (fun lv iv wr => ∃ (i : Nat) (a' : Option Addr) (cp' : Nat), i ≤ nn ∧ iv = .int .i64 (i : Int) ∧ lv = .slice a' (lst.length + i) cp' ∧ RowI wr (w.heap.size + 1) (.slice a' (lst.length + i) cp') (lst ++ List.replicate i xv) ∧ Rd wr R A s q3 ∧ Fp R A w wr ∧
                wr.heap[w.heap.size]? = some (.cells arr 69 (0, 0)))
              (fun _ iv _ => nn - (intOf iv).toNat)
            case atStart => exact ⟨0, _, cp, by omega, rfl, rfl, by simpa using hS3, hR3, hF3, hX3⟩
            case round =>
              clear hS3 hR3 hF3 hX3
              obtain ⟨i, a', cp', hil, rfl, rfl, hS, hR, hF, hX⟩ := hrel
              have hsX := (Array.getElem?_eq_some_iff.1 hX).1
              by_cases hii : i < nn
              · obtain ⟨xs, hxs⟩ : ∃ xs, lst ++ List.replicate i xv = xs := ⟨_, rfl⟩
                have hxl : xs.length = lst.length + i := by rw [← hxs]; simp
                rw [hxs] at hS
                have HXS := hide hxs
                have HXL := hide hxl
                clear hxs hxl
                have hS1' : wr.ownsRow (w.heap.size + 1) 3 1 (.slice a' (lst.length + i) cp') (lst.length + i) (xs.map intV) := by have := hS; unfold RowI at this; rw [unhide HXL] at this; exact this
                have hfin : ∀ (xi : Int) (v' : Value) (w1 : World), xi = (xv : Int) → (w1.ownsRow (w.heap.size + 1) 3 1 v' (lst.length + i + 1) (xs.map intV ++ [.int .i64 xi])) → (wr.alloc (.cells #[.int .i64 xi] 3)).grownBy w1 (Value.slice a' (lst.length + i) cp').ownBlock →
                    ∃ (i2 : Nat) (a2 : Option Addr) (c2 : Nat), i2 = i + 1 ∧ v' = .slice a2 (lst.length + i2) c2 ∧ RowI w1 (w.heap.size + 1) (.slice a2 (lst.length + i2) c2) (lst ++ List.replicate i2 xv) ∧ Rd w1 R A s q3 ∧ Fp R A w w1 ∧ w1.heap[w.heap.size]? = some (.cells arr 69 (0, 0)) := by
                  intro xi v' w1 hxi h1 h2
                  obtain ⟨g', c', rfl⟩ := ownsRow_succ h1
                  refine ⟨i + 1, _, _, rfl, rfl, ?_, ?_, ?_, ?_⟩
                  · rw [replicate_snoc, unhide HXS]; unfold RowI
                    have e : (xs ++ [xv]).length = lst.length + (i + 1) := by have := unhide HXL; simp; omega
                    rw [e]; rw [hxi] at h1; rw [← Nat.add_assoc]; simpa [intV] using h1
                  · exact (hR.alloc _).byGrown h2 (fun k e => by have := (World.ownsRow.lt hS1' k e).1; omega)
                  · exact (hF.trans (Fp.alloc R A _ _)).grow h2 (fun k e => by have := (World.ownsRow.lt hS1' k e).1; omega)
                  · rw [h2.block _ (by simp; omega) (fun e => by have := (World.ownsRow.lt hS1' _ e.symm).1; omega), Below.heap_alloc _ _ _ hsX]; exact hX
                go_wp2_with (at_builtin; refine wpList_append_own_at _ rfl _ _ 40 rfl (w.heap.size + 1) 3 i0 (.int .i64 0) 1 8 Tryd.underlying40 hi hz0 hz1 hz2 rfl (by decide) _ _ _ rfl (World.ownsRow.alloc hS1' _) ⟨wr.heap.size, 0, none⟩ 1 1 [_] rfl rfl (cell_one_new _ _ _) (by simp [Value.oneCell']) (by unfold maxLen; omega) (by omega) (by simp; omega) ?_; intro v' w1 hown' hgrow _ hat)
                obtain ⟨i2, a2, c2, hi2, rfl, hS2, hR2, hF2, hX2⟩ := hfin _ v' w1 (unhide XE) hown' hgrow
                first
                  | exact ⟨⟨i2, a2, c2, by omega, by rw [hi2]; go_num, rfl, hS2, hR2, hF2, hX2⟩, by simp [intOf]; omega⟩
                  | (refine ⟨?_, by simp [intOf]; omega⟩; (repeat apply Exists.intro); exact ⟨⟨i2, a2, c2, by omega, by rw [hi2]; go_num, rfl, hS2, hR2, hF2, hX2⟩, rfl⟩)
              · have e : i = nn := by omega
                subst e
                go_wp2
                have hlen : (lst ++ List.replicate i xv).length = lst.length + i := by simp
                have hfin : ∀ v : Value, v = .slice a' (lst.length + i) cp' → ∃ (q f : Nat) (l2 : List Nat) (a : Option Addr) (cp : Nat), v = .slice a l2.length cp ∧ 1 ≤ f ∧ many + 1 ≤ f + l2.length ∧ l2.length ≤ 540 ∧ RowI wr (w.heap.size + 1) (.slice a l2.length cp) l2 ∧ Rd wr R A s q ∧ Fp R A w wr ∧
                    wr.heap[w.heap.size]? = some (.cells arr 69 (0, 0)) ∧ readL cl s many f q l2 = readL cl s many (many + 1) p [] := by
                  rintro v rfl
                  exact ⟨q3, f, lst ++ List.replicate i xv, a', cp', by rw [hlen], by omega, by rw [hlen]; omega, by rw [hlen]; omega, by rw [hlen]; exact hS, hR, hF, hX, unhide ST⟩
                have hms : 1000 - (lst.length + i) < 1000 - lst.length := by omega
                first
                  | exact ⟨hfin _ rfl, by simp only [lenOf]; exact hms⟩
                  | (refine ⟨?_, by simp only [lenOf]; exact hms⟩; (repeat apply Exists.intro); exact ⟨hfin _ rfl, rfl⟩)
          · have FIN : Hid (readL cl s many (many + 1) p [] = none) := (unhide HE).symm.trans (rdP_18n hlm (unhide hd0) (rd_neg hle8))
            clear HE hd0
            go_wp2_with fail
            refine (number_no _ R A s q2 7 _ rfl hR2 (by omega) hle8).mono ?_
            rintro e W3 ⟨rfl, k3⟩
            exact ⟨rfl, .inr ⟨unhide FIN, rfl, hFw2.trans k3⟩⟩
      · have FIN : Hid (readL cl s many (many + 1) p [] = none) := (unhide HE).symm.trans (rdP_stop hlm hdec)
        exact ⟨rfl, .inr ⟨unhide FIN, rfl, hF.trans hF2⟩⟩
    · obtain ⟨f, rfl⟩ : ∃ f', f = f' + 1 := ⟨f - 1, by omega⟩
      have FIN := (unhide HE).symm.trans (rdP_end hlm)
      clear HE
      by_cases hll2 : lst.length = many
      · rw [if_pos hll2] at FIN
        have HF := hide FIN
        have hnl : decide ((lst.length : Int) < (many : Int)) = false := by simp; omega
        have heq : ((lst.length : Int) == (many : Int)) = true := by simp [hll2]
        clear FIN hll2
        go_wp2_with (go_at_call 23; refine (demand_ok wr).mono ?_; rintro e w1 ⟨rfl, rfl⟩)
        go_ret
        exact .inl ⟨_, q, lst, unhide HF, rfl, hS, hR, hF⟩
      · rw [if_neg hll2] at FIN
        have HF := hide FIN
        have hnl : decide ((lst.length : Int) < (many : Int)) = false := by simp; omega
        have heq : ((lst.length : Int) == (many : Int)) = false := by rw [beq_eq_false_iff_ne]; omega
        clear FIN hll2
        go_wp2_with fail
        refine (demand_no hR).mono ?_
        rintro e w3 ⟨rfl, rfl⟩
        exact ⟨rfl, .inr ⟨unhide HF, rfl, hF⟩⟩
end Go.Proofs.YtgffljllfenhkaaDoor
