import Derived.Test.YtgffljllfenhkaaDoorRinU
import Derived.ProofKit
import Derived.LaidMore
import Derived.OpenShut
import Derived.MakeChecks
import Derived.Stop.Joined
namespace Go.Proofs.YtgffljllfenhkaaDoor
open Go.ChangeShapes Go.WideShapes Go.ChangeAt Go.WideMaps Go.WideElems Go.RowKit

theorem Tryd.own : ownKnob Tryd.prog.godebug = none := by kernel_rfl
theorem Tryd.cellsInt : Tryd.prog.cellsOf 3 = 1 := by kernel_rfl
theorem Tryd.arr19 : Tryd.prog.underlying 58 = some (.array 19 3) := by kernel_rfl
theorem Tryd.arr29 : Tryd.prog.underlying 74 = some (.array 29 3) := by kernel_rfl
theorem Tryd.arr30 : Tryd.prog.underlying 75 = some (.array 30 3) := by kernel_rfl

/-- What the row says of the tables when the call begins. -/
def laidL : List (String × DataW Unit) := Rows.unpacksRow.laid

/-- A table that reads as a list of numbers holds them. -/
theorem tab_of {H : Type} {enc : TypeId × Value → H} {sp : Nat → Bool} {held : Bool} {base : Nat} {name : String} {n t G G' t' fuel : Nat} {T : List Nat} {W : World} {cs : Array Value} {d : DataW H} {p : List MemPlace} (ht : Tryd.prog.underlying t = some (.array n 3)) (hT : T.length = n)
    (hG : Tryd.prog.globalNamed name = some G) (hty : (Tryd.prog.globals[G]?).map (·.type) = some t) (hg : Tryd.prog.globalNamed name = some G') (ht' : (Tryd.prog.globals[G']?).map (·.type) = some t') (hv : W.var? Tryd.prog name = some cs)
    (hd : DataW.trod enc Tryd.prog W base sp held fuel t' cs.toList = some (d, p)) (hdT : d = .agg (T.map fun x : Nat => .lit (.int .i64 (x : Int)))) : Tab W G T := by
  obtain rfl := Option.some.inj (hG.symm.trans hg)
  obtain rfl := Option.some.inj (hty.symm.trans ht')
  subst hdT
  obtain ⟨xs, m, rfl, hx, hlen, hxn, hel⟩ := DataW.trod_array ht hd
  intro i hi
  have h1 := hel i (by omega)
  rw [Tryd.cellsInt, Nat.mul_one] at h1
  rw [List.getElem?_eq_getElem (show i < xs.length by omega)] at h1
  obtain ⟨k, hk1, hk2, _⟩ := DataW.trod_int Tryd.underlying3 h1
  simp only [Prod.mk.injEq, DataW.agg.injEq] at hx
  have h2 : (T.map fun x : Nat => DataW.lit (H := H) (.int .i64 (x : Int)))[i]? = (xs.map (·.1))[i]? := by rw [hx.1]
  rw [List.getElem?_map, List.getElem?_map, List.getElem?_eq_getElem hi, List.getElem?_eq_getElem (show i < xs.length by omega), hk2] at h2
  simp at h2
  have h3 : cs.toList[i]? = some (.int .i64 k) := by
    have : ((cs.toList.drop i).take 1)[0]? = some (.int .i64 k) := by rw [hk1]; rfl
    rw [List.getElem?_take, if_pos (by omega), List.getElem?_drop] at this
    exact this
  rw [World.var?_cell hG hv i, ← Array.getElem?_toList, h3, ← h2]
  unfold nth
  rw [List.getD_eq_getElem?_getD, List.getElem?_eq_getElem hi]; rfl

set_option maxRecDepth 100000 in
theorem of_laid {W : World} (h : laidMetH Tryd.prog laidL W) : PTabs W ∧ RTabs W := by
  rw [MakeChecks.laidMetH_plain _ _ _ (by kernel_rfl)] at h
  obtain ⟨ps, h, _, _⟩ := h
  obtain ⟨g0, t0, c0, f0, p0, q0, hg0, ht0, hv0, hd0, h, _⟩ := h
  obtain ⟨g1, t1, c1, f1, p1, q1, hg1, ht1, hv1, hd1, h, _⟩ := h
  obtain ⟨g2, t2, c2, f2, p2, q2, hg2, ht2, hv2, hd2, h, _⟩ := h
  obtain ⟨g3, t3, c3, f3, p3, q3, hg3, ht3, hv3, hd3, h, _⟩ := h
  obtain ⟨g4, t4, c4, f4, p4, q4, hg4, ht4, hv4, hd4, h, _⟩ := h
  obtain ⟨g5, t5, c5, f5, p5, q5, hg5, ht5, hv5, hd5, h, _⟩ := h
  obtain ⟨g6, t6, c6, f6, p6, q6, hg6, ht6, hv6, hd6, h, _⟩ := h
  obtain ⟨g7, t7, c7, f7, p7, q7, hg7, ht7, hv7, hd7, h, _⟩ := h
  obtain ⟨g8, t8, c8, f8, p8, q8, hg8, ht8, hv8, hd8, h, _⟩ := h
  have k0 : Tab W 1 baseT := tab_of Tryd.arr29 (by decide) (by kernel_rfl) (by kernel_rfl) hg0 ht0 hv0 hd0 rfl
  have k1 : Tab W 2 extraT := tab_of Tryd.arr29 (by decide) (by kernel_rfl) (by kernel_rfl) hg1 ht1 hv1 hd1 rfl
  have k2 : Tab W 3 farT := tab_of Tryd.arr30 (by decide) (by kernel_rfl) (by kernel_rfl) hg2 ht2 hv2 hd2 rfl
  have k3 : Tab W 0 orderT := tab_of Tryd.arr19 (by decide) (by kernel_rfl) (by kernel_rfl) hg3 ht3 hv3 hd3 rfl
  have k4 : Tab W 8 orderT := tab_of Tryd.arr19 (by decide) (by kernel_rfl) (by kernel_rfl) hg4 ht4 hv4 hd4 rfl
  have k5 : Tab W 4 baseT := tab_of Tryd.arr29 (by decide) (by kernel_rfl) (by kernel_rfl) hg5 ht5 hv5 hd5 rfl
  have k6 : Tab W 5 extraT := tab_of Tryd.arr29 (by decide) (by kernel_rfl) (by kernel_rfl) hg6 ht6 hv6 hd6 rfl
  have k7 : Tab W 6 farT := tab_of Tryd.arr30 (by decide) (by kernel_rfl) (by kernel_rfl) hg7 ht7 hv7 hd7 rfl
  have k8 : Tab W 7 moreT := tab_of Tryd.arr30 (by decide) (by kernel_rfl) (by kernel_rfl) hg8 ht8 hv8 hd8 rfl
  exact ⟨⟨k5, k6, k7, k8, k4⟩, ⟨k0, k1, k2, k3⟩⟩

set_option maxRecDepth 100000 in
/-- The door's own heap meets the condition. -/
theorem door_met (os : Os) (args : Array Value) : laidMetH Tryd.prog laidL ((World.doorLaid Tryd.prog 400 os).forCall (fun _ _ => 0) ⟨#[], args, []⟩).memory :=
  laidMetH_of_parts3 (fuel := 8) (laidMet_of_run' 8 (by kernel_rfl) (by kernel_rfl)) (by kernel_rfl) (by kernel_rfl)
end Go.Proofs.YtgffljllfenhkaaDoor
