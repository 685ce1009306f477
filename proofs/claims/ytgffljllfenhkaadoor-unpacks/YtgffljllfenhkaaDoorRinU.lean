import Derived.Test.YtgffljllfenhkaaDoorRinT
namespace Go.Proofs.YtgffljllfenhkaaDoor
open Go.RowKit

set_option maxHeartbeats 400000 in
theorem punpack_long (w : World) (s : ByteArray) (hs : 9000 < s.size) (hm : s.size ≤ maxLen) :
    Calls Tryd.prog 4 #[.string s] w fun e w' => e = .returned (.tuple #[.string ByteArray.empty, .int .i64 2]) ∧ Below w.heap.size w w' := by
  unfold maxLen at hm
  have hd : (9000 : Int) < (s.size : Int) := by omega
  go_enter Tryd.func4, Tryd.ntmps4
  go_wp2
  go_ret2
  exact ⟨rfl, (Below.refl _ _).alloc (Nat.le_refl _) _⟩

set_option maxHeartbeats 400000 in
theorem num_any (w : World) (n : Int) : Calls Tryd.prog 6 #[.int .i64 n] w fun e w' => e = .returned (.int .i64 n) ∧ w = w' := by
  go_enter Tryd.func6, Tryd.ntmps6
  go_wp2
  go_ret
  exact ⟨rfl, rfl⟩

set_option maxHeartbeats 1000000 in
theorem law_walk (w : World) (s : ByteArray) (hm : s.size ≤ maxLen) (hT : PTabs w) (hR : RTabs w) (h9 : 9 ≤ w.heap.size) :
    Calls Tryd.prog 3 #[.string s] w fun e w' => e = .returned (.bool true) ∧ Below w.heap.size w w' := by
  go_enter Tryd.func3, Tryd.ntmps3
  go_wp2_with fail
  by_cases hs : 9000 < s.size
  · refine (punpack_long _ s hs hm).mono ?_
    rintro e w1 ⟨rfl, hB1⟩
    go_wp2_with fail
    refine (unpack_long _ s hs hm).mono ?_
    rintro e w2 ⟨rfl, rfl⟩
    go_wp2_with (go_at_call 6; refine (num_any _ _).mono ?_; rintro e w1 ⟨rfl, rfl⟩)
    go_ret
    exact ⟨rfl, hB1⟩
  · have hs' : s.size ≤ 9000 := by omega
    refine (punpack_short _ s hs' hT h9).mono ?_
    rintro e w1 ⟨hB1, h1⟩
    have hR1 : RTabs w1 := by
      have hk : ∀ G T, G < 9 → Tab w G T → Tab w1 G T := fun G T hG h i hi => (hB1.cell (p := ⟨G, i, none⟩) (by show G < w.heap.size; omega)).trans (h i hi)
      exact ⟨hk _ _ (by omega) hR.base, hk _ _ (by omega) hR.extra, hk _ _ (by omega) hR.far, hk _ _ (by omega) hR.order⟩
    have h91 : 9 ≤ w1.heap.size := Nat.le_trans h9 hB1.size
    rcases h1 with ⟨out, ho, rfl⟩ | ⟨ho, rfl⟩
    · have HO := hide ho
      clear ho
      go_wp2_with fail
      refine (unpack_walk _ s hs' hR1 h91).mono ?_
      rintro e w2 ⟨hB2, h2⟩
      have hBw := hB1.trans (hB2.mono hB1.size)
      rcases h2 with ⟨out2, ho2, rfl⟩ | ⟨ho2, rfl⟩
      · have e : out2 = out := by have := (unhide HO).symm.trans ho2; simpa using this.symm
        subst e
        clear ho2
        go_wp2_with (go_at_call 6; refine (num_any _ _).mono ?_; rintro e w1 ⟨rfl, rfl⟩)
        go_ret
        exact ⟨rfl, hBw⟩
      · exact absurd ((unhide HO).symm.trans ho2) (by simp)
    · have HO := hide ho
      clear ho
      go_wp2_with fail
      refine (unpack_walk _ s hs' hR1 h91).mono ?_
      rintro e w2 ⟨hB2, h2⟩
      have hBw := hB1.trans (hB2.mono hB1.size)
      rcases h2 with ⟨out2, ho2, rfl⟩ | ⟨ho2, rfl⟩
      · exact absurd ((unhide HO).symm.trans ho2) (by simp)
      · clear ho2
        go_wp2_with (go_at_call 6; refine (num_any _ _).mono ?_; rintro e w1 ⟨rfl, rfl⟩)
        go_ret
        exact ⟨rfl, hBw⟩
end Go.Proofs.YtgffljllfenhkaaDoor
