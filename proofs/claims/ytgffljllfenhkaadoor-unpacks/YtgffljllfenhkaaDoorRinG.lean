import Derived.Test.YtgffljllfenhkaaDoorRinF
import Derived.RegionDies
namespace Go.Proofs.YtgffljllfenhkaaDoor
open Go.RowKit

/-- The program's tables. -/
structure PTabs (w : World) : Prop where
  base : Tab w 4 baseT
  extra : Tab w 5 extraT
  far : Tab w 6 farT
  more : Tab w 7 moreT
  order : Tab w 8 orderT
theorem Tab.keptP {w w' : World} {G R A : Nat} {T : List Nat} (h : Tab w G T) (hf : Fp R A w w') (hR : G ≠ R) (hA : G ≠ A) (hG : G < w.heap.size) : Tab w' G T := by
  intro i hi
  rw [World.cell?_of_block (w := w) (hf.block G hG hR hA)]
  exact h i hi
theorem PTabs.kept {w w' : World} {R A : Nat} (h : PTabs w) (hf : Fp R A w w') (hR : 9 ≤ R) (hA : 9 ≤ A) (hs : R < w.heap.size) : PTabs w' :=
  ⟨h.base.keptP hf (by omega) (by omega) (by omega), h.extra.keptP hf (by omega) (by omega) (by omega), h.far.keptP hf (by omega) (by omega) (by omega), h.more.keptP hf (by omega) (by omega) (by omega), h.order.keptP hf (by omega) (by omega) (by omega)⟩

/-- What a read of a number, or of what hangs on one, comes to. -/
def RedQ (w : World) (R A : Nat) (s : ByteArray) (r : Option (Nat × Nat)) (e : Ending) (w' : World) : Prop :=
  (∃ x q, r = some (x, q) ∧ e = .returned (.int .i64 (x : Int)) ∧ Rd w' R A s q ∧ Fp R A w w') ∨ (r = none ∧ e = .panicked thrown ∧ Fp R A w w')

theorem number_red (w : World) (R A : Nat) (s : ByteArray) (p n : Nat) (mi : Int) (hmi : mi = (n : Int)) (hR : Rd w R A s p) (hn : n ≤ 16) :
    Calls Tryd.prog 21 #[.pointer (some ⟨R, 0, none⟩), .int .i64 mi] w (RedQ w R A s (rd s n p)) := by
  refine (number_any w R A s p n mi hmi hR hn).mono ?_
  rintro e w' (⟨hle, rfl, hR', hF⟩ | ⟨hgt, rfl, hF⟩)
  · exact .inl ⟨_, _, rd_pos hle, rfl, hR', hF⟩
  · exact .inr ⟨rd_neg (by omega), rfl, hF⟩

theorem moreT_le (k : Nat) : nth moreT k ≤ 13 := by
  by_cases h : k < 30
  · revert k; decide
  · unfold nth; rw [List.getD_eq_getElem?_getD, List.getElem?_eq_none (by simp [moreT]; omega)]; simp

theorem number_yes (w : World) (R A : Nat) (s : ByteArray) (p n : Nat) (mi : Int) (hmi : mi = (n : Int)) (hR : Rd w R A s p) (hn : n ≤ 16) (h : p + n ≤ 8 * s.size) :
    Calls Tryd.prog 21 #[.pointer (some ⟨R, 0, none⟩), .int .i64 mi] w fun e w' => e = .returned (.int .i64 (numOf s p n : Int)) ∧ Rd w' R A s (p + n) ∧ Fp R A w w' := by
  refine (number_any w R A s p n mi hmi hR hn).mono ?_
  rintro e w' (⟨hle, rfl, hR', hF⟩ | ⟨hgt, rfl, hF⟩)
  · exact ⟨rfl, hR', hF⟩
  · omega
theorem number_no (w : World) (R A : Nat) (s : ByteArray) (p n : Nat) (mi : Int) (hmi : mi = (n : Int)) (hR : Rd w R A s p) (hn : n ≤ 16) (h : ¬ p + n ≤ 8 * s.size) :
    Calls Tryd.prog 21 #[.pointer (some ⟨R, 0, none⟩), .int .i64 mi] w fun e w' => e = .panicked thrown ∧ Fp R A w w' := by
  refine (number_any w R A s p n mi hmi hR hn).mono ?_
  rintro e w' (⟨hle, rfl, hR', hF⟩ | ⟨hgt, rfl, hF⟩)
  · omega
  · exact ⟨rfl, hF⟩

def addTo (b : Nat) (r : Option (Nat × Nat)) : Option (Nat × Nat) := r.map (fun z => (b + z.1, z.2))

set_option maxHeartbeats 1000000 in
set_option maxRecDepth 100000 in
theorem copyLength_any (w : World) (R A : Nat) (s : ByteArray) (p k : Nat) (ki : Int) (hki : ki = (k : Int)) (hR : Rd w R A s p) (hT : PTabs w) (h9 : 9 ≤ R ∧ 9 ≤ A) (hk2 : k ≤ 100000) :
    Calls Tryd.prog 41 #[.pointer (some ⟨R, 0, none⟩), .int .i64 ki] w (RedQ w R A s (if k < 29 then addTo (nth baseT k) (rd s (nth extraT k) p) else none)) := by
  subst hki
  by_cases hk : k < 29
  · rw [if_pos hk]
    have cb := hT.base k (by simpa [baseT] using hk)
    have ce := hT.extra k (by simpa [extraT] using hk)
    have hle := extra_le k
    have hlb := base_le k
    have hkI : (k : Int) < 29 := by omega
    have hd : decide ((k : Int) < 29) = true := by simp; omega
    go_enter Tryd.func41, Tryd.ntmps41
    go_wp2_with (go_at_call 23; refine (demand_ok w).mono ?_; rintro e w1 ⟨rfl, rfl⟩)
    by_cases hle8 : p + nth extraT k ≤ 8 * s.size
    · have FIN : Hid (addTo (nth baseT k) (rd s (nth extraT k) p) = some (nth baseT k + numOf s p (nth extraT k), p + nth extraT k)) := by rw [rd_pos hle8]; rfl
      have hnl := numOf_lt s p (nth extraT k)
      have hn32 : numOf s p (nth extraT k) < 32 := Nat.lt_of_lt_of_le hnl (Nat.pow_le_pow_right (n := 2) (by decide) hle)
      go_region_with (go_at_call 21; refine (number_yes _ R A s p (nth extraT k) _ rfl (by exact hR.drew) (by omega) hle8).mono ?_; rintro e w2 ⟨rfl, hR2, hF2⟩; have hT2 := hT.kept ((Fp.drew R A w).trans hF2) h9.1 h9.2 hR.ltR; have cb2 := hT2.base k (by simpa [baseT] using hk))
      all_goals
        go_wp2_with fail
        go_ret
        exact .inl ⟨_, _, FIN, congrArg (fun n => Ending.returned (Value.int .i64 n)) ((wraps_i64 _ (by omega) (by omega)).trans (by omega)), hR2, (Fp.drew R A w).trans hF2⟩
    · have FIN : Hid (addTo (nth baseT k) (rd s (nth extraT k) p) = none) := by rw [rd_neg hle8]; rfl
      go_region_dies
      all_goals
        refine (number_no _ R A s p (nth extraT k) _ rfl (by exact hR.drew) (by omega) hle8).mono ?_
        rintro e w2 ⟨rfl, hF2⟩
        exact ⟨rfl, .inr ⟨FIN, rfl, (Fp.drew R A w).trans hF2⟩⟩
  · rw [if_neg hk]
    have hd : decide ((k : Int) < 29) = false := by simp; omega
    go_enter Tryd.func41, Tryd.ntmps41
    go_wp2_with fail
    refine (demand_no hR).mono ?_
    rintro e w1 ⟨rfl, rfl⟩
    exact ⟨rfl, .inr ⟨rfl, rfl, Fp.refl _ _ _⟩⟩

set_option maxHeartbeats 1000000 in
set_option maxRecDepth 100000 in
theorem distance_any (w : World) (R A : Nat) (s : ByteArray) (p k : Nat) (ki : Int) (hki : ki = (k : Int)) (hR : Rd w R A s p) (hT : PTabs w) (h9 : 9 ≤ R ∧ 9 ≤ A) (hk2 : k ≤ 100000) :
    Calls Tryd.prog 43 #[.pointer (some ⟨R, 0, none⟩), .int .i64 ki] w (RedQ w R A s (if k < 30 then addTo (nth farT k) (rd s (nth moreT k) p) else none)) := by
  subst hki
  by_cases hk : k < 30
  · rw [if_pos hk]
    have cb := hT.far k (by simpa [farT] using hk)
    have ce := hT.more k (by simpa [moreT] using hk)
    have hle := moreT_le k
    have hlb := far_le k
    have hkI : (k : Int) < 30 := by omega
    have hd : decide ((k : Int) < 30) = true := by simp; omega
    go_enter Tryd.func43, Tryd.ntmps43
    go_wp2_with (go_at_call 23; refine (demand_ok w).mono ?_; rintro e w1 ⟨rfl, rfl⟩)
    by_cases hle8 : p + nth moreT k ≤ 8 * s.size
    · have FIN : Hid (addTo (nth farT k) (rd s (nth moreT k) p) = some (nth farT k + numOf s p (nth moreT k), p + nth moreT k)) := by rw [rd_pos hle8]; rfl
      have hnl := numOf_lt s p (nth moreT k)
      have hn32 : numOf s p (nth moreT k) < 8192 := Nat.lt_of_lt_of_le hnl (Nat.pow_le_pow_right (n := 2) (by decide) hle)
      go_region_with (go_at_call 21; refine (number_yes _ R A s p (nth moreT k) _ rfl (by exact hR.drew) (by omega) hle8).mono ?_; rintro e w2 ⟨rfl, hR2, hF2⟩; have hT2 := hT.kept ((Fp.drew R A w).trans hF2) h9.1 h9.2 hR.ltR; have cb2 := hT2.far k (by simpa [farT] using hk))
      all_goals
        go_wp2_with fail
        go_ret
        exact .inl ⟨_, _, FIN, congrArg (fun n => Ending.returned (Value.int .i64 n)) ((wraps_i64 _ (by omega) (by omega)).trans (by omega)), hR2, (Fp.drew R A w).trans hF2⟩
    · have FIN : Hid (addTo (nth farT k) (rd s (nth moreT k) p) = none) := by rw [rd_neg hle8]; rfl
      go_region_dies
      all_goals
        refine (number_no _ R A s p (nth moreT k) _ rfl (by exact hR.drew) (by omega) hle8).mono ?_
        rintro e w2 ⟨rfl, hF2⟩
        exact ⟨rfl, .inr ⟨FIN, rfl, (Fp.drew R A w).trans hF2⟩⟩
  · rw [if_neg hk]
    have hd : decide ((k : Int) < 30) = false := by simp; omega
    go_enter Tryd.func43, Tryd.ntmps43
    go_wp2_with fail
    refine (demand_no hR).mono ?_
    rintro e w1 ⟨rfl, rfl⟩
    exact ⟨rfl, .inr ⟨rfl, rfl, Fp.refl _ _ _⟩⟩
end Go.Proofs.YtgffljllfenhkaaDoor
