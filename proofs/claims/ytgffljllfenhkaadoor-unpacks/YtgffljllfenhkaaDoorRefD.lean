import Derived.Test.YtgffljllfenhkaaDoorRefC
namespace Go.Proofs.YtgffljllfenhkaaDoor
open Go.RowKit

/-- The state: none: bad. -/
def st (bad : Bool) (p : Nat) (out : List UInt8) : Option (Nat × List UInt8) := if bad then none else some (p, out)
@[simp] theorem st_true (p : Nat) (out : List UInt8) : st true p out = none := rfl
@[simp] theorem st_false (p : Nat) (out : List UInt8) : st false p out = some (p, out) := rfl

/-- The reference's bits, its row and its bounds. -/
structure Rf (w : World) (B : Nat) (s : ByteArray) (o : Value) (p : Nat) (bad : Bool) (out : List UInt8) : Prop where
  bt : Bt w B s p bad o
  row : Row8 w (B + 1) o out
  hp : p ≤ 72000
  hpb : bad = false → p ≤ 8 * s.size
  hl : out.length ≤ 2000

theorem Rf.bits {w w' : World} {B : Nat} {s : ByteArray} {o : Value} {p n q x : Nat} {bad bad' : Bool} {out : List UInt8} (h : Rf w B s o p bad out) (hB : Bt w' B s q bad' o) (hg : w.grownBy w' (some B)) (hq : q ≤ 72000)
    (hb : bad' = (bad || over s p n)) (hv : bad' = false → x = numOf s p n ∧ q = p + n) : Rf w' B s o q bad' out := by
  refine ⟨hB, h.row.byB hg, hq, fun e => ?_, h.hl⟩
  obtain ⟨_, e2⟩ := hv e
  rw [e] at hb
  have := Bool.or_eq_false_iff.1 hb.symm
  have h2 := this.2
  simp [over] at h2
  omega

theorem bits_rf (w : World) (B : Nat) (s : ByteArray) (p n : Nat) (m : Int) (bad : Bool) (o : Value) (out : List UInt8) (h : Rf w B s o p bad out) (hs : s.size ≤ 9000) (hm : m = (n : Int)) (hn : n ≤ 16) :
    Calls Tryd.prog 12 #[.pointer (some ⟨B, 0, none⟩), .int .i64 m] w fun e w' => ∃ x q bad' : _, e = .returned (.int .i64 ((x : Nat) : Int)) ∧ Rf w' B s o q bad' out ∧ w.grownBy w' (some B) ∧
      x < 2 ^ n ∧ bad' = (bad || over s p n) ∧ (bad' = false → x = numOf s p n ∧ q = p + n) := by
  subst hm
  refine (bits_any w B s p n bad o h.bt hs h.hp hn h.hpb).mono ?_
  rintro e w' ⟨x, q, bad', rfl, hB, hg, hx, hq, hb, hv⟩
  exact ⟨x, q, bad', rfl, h.bits hB hg hq hb hv, hg, hx, hb, hv⟩

theorem put_rf (w : World) (B : Nat) (s : ByteArray) (p : Nat) (c : Int) (bad : Bool) (o : Value) (out : List UInt8) (h : Rf w B s o p bad out) (hc : 0 ≤ c ∧ c < 256) :
    Calls Tryd.prog 25 #[.pointer (some ⟨B, 0, none⟩), .int .u8 c] w fun e w' => e = .returned (.tuple #[]) ∧ ∃ o' bad' out', Rf w' B s o' p bad' out' ∧ Fr B o w o' w' ∧
      bad' = (bad || decide (2000 ≤ out.length)) ∧ (bad' = false → out' = out ++ [UInt8.ofNat c.toNat]) := by
  have e : (Value.int .u8 c) = byteV (UInt8.ofNat c.toNat) := by
    unfold byteV
    rw [UInt8.toNat_ofNat']
    congr 1; omega
  rw [e]
  refine (put_any w B s p bad o out _ h.bt h.row).mono ?_
  rintro e w' ⟨rfl, o', bad', out', hB, hr, hf, hb, hv, hl⟩
  refine ⟨rfl, o', bad', out', ⟨hB, hr, h.hp, fun e => h.hpb ?_, hl h.hl⟩, hf, hb, hv⟩
  rw [e] at hb; exact (Bool.or_eq_false_iff.1 hb.symm).1

theorem Rf.setBad {w : World} {B : Nat} {s : ByteArray} {o : Value} {p : Nat} {bad : Bool} {out : List UInt8} (h : Rf w B s o p bad out) : Rf (w.setCell ⟨B, 2, none⟩ (.bool true)) B s o p true out :=
  ⟨h.bt.setBad true, h.row.byB (grownBy_setCell _ _ _ _), h.hp, by simp, h.hl⟩
theorem Rf.round8 {w : World} {B : Nat} {s : ByteArray} {o : Value} {p : Nat} {bad : Bool} {out : List UInt8} (h : Rf w B s o p bad out) : Rf (w.setCell ⟨B, 1, none⟩ (.int .i64 (((p : Int) + 7) / 8 * 8))) B s o ((p + 7) / 8 * 8) bad out := by
  have e : (((p : Int) + 7) / 8 * 8) = (((p + 7) / 8 * 8 : Nat) : Int) := by omega
  rw [e]
  have := h.hp
  refine ⟨h.bt.setAt _, h.row.byB (grownBy_setCell _ _ _ _), by omega, fun e => ?_, h.hl⟩
  have := h.hpb e
  omega

/-- What a stored block's two numbers and its bytes come to. -/
theorem stored_of {s : ByteArray} {p x y q1 q2 : Nat} {bad b1 b2 : Bool} {out : List UInt8}
    (h1 : b1 = (bad || over s ((p + 7) / 8 * 8) 16)) (v1 : b1 = false → x = numOf s ((p + 7) / 8 * 8) 16 ∧ q1 = (p + 7) / 8 * 8 + 16)
    (h2 : b2 = (b1 || over s q1 16)) (v2 : b2 = false → y = numOf s q1 16 ∧ q2 = q1 + 16) (hxy : b2 = false → x + y = 65535) :
    (st b2 q2 out).bind (fun z => storeN s x z.1 z.2) = (st bad p out).bind (fun z => stored s z.1 z.2) := by
  cases b2 with
  | true =>
    cases bad with
    | true => rfl
    | false =>
      simp only [st_true, st_false, Option.bind_none, Option.bind_some]
      unfold stored
      rw [if_neg]
      intro hle
      have e1 : b1 = false := by rw [h1]; simp [over]; omega
      have := v1 e1
      rw [e1, this.2] at h2
      simp [over] at h2
      omega
  | false =>
    have e1 := Bool.or_eq_false_iff.1 h2.symm
    have e0 := Bool.or_eq_false_iff.1 (h1.symm.trans e1.1)
    obtain ⟨rfl, rfl⟩ := v1 e1.1
    obtain ⟨rfl, rfl⟩ := v2 rfl
    have hb := e1.2
    simp only [over, decide_eq_false_iff_not] at hb
    rw [e0.1]
    simp only [st_false, Option.bind_some]
    unfold stored
    rw [if_pos (by omega), if_pos (hxy rfl)]
theorem stored_bad {s : ByteArray} {p x y q1 q2 : Nat} {bad b1 b2 : Bool} {out : List UInt8}
    (h1 : b1 = (bad || over s ((p + 7) / 8 * 8) 16)) (v1 : b1 = false → x = numOf s ((p + 7) / 8 * 8) 16 ∧ q1 = (p + 7) / 8 * 8 + 16)
    (h2 : b2 = (b1 || over s q1 16)) (v2 : b2 = false → y = numOf s q1 16 ∧ q2 = q1 + 16) (hxy : ¬ x + y = 65535) :
    none = (st bad p out).bind (fun z => stored s z.1 z.2) := by
  cases bad with
  | true => rfl
  | false =>
    simp only [st_false, Option.bind_some]
    unfold stored
    split
    · rename_i hle
      have e1 : b1 = false := by rw [h1]; simp [over]; omega
      obtain ⟨rfl, rfl⟩ := v1 e1
      have e2 : b2 = false := by rw [h2, e1]; simp [over]; omega
      obtain ⟨rfl, rfl⟩ := v2 e2
      rw [if_neg hxy]
    · rfl
theorem storeN_succ (s : ByteArray) (n p : Nat) (out : List UInt8) : storeN s (n + 1) p out = if p + 8 ≤ 8 * s.size then (if out.length < 2000 then storeN s n (p + 8) (out ++ [UInt8.ofNat (numOf s p 8)]) else none) else none := rfl
/-- One byte more. -/
theorem storeN_step {s : ByteArray} {n k x q q1 : Nat} {b1 b2 : Bool} {out out2 : List UInt8} (hk : k < n) (h1 : b1 = (false || over s q 8)) (v1 : b1 = false → x = numOf s q 8 ∧ q1 = q + 8)
    (h2 : b2 = (b1 || decide (2000 ≤ out.length))) (v2 : b2 = false → out2 = out ++ [UInt8.ofNat x]) :
    (st b2 q1 out2).bind (fun z => storeN s (n - (k + 1)) z.1 z.2) = (st false q out).bind (fun z => storeN s (n - k) z.1 z.2) := by
  simp only [st_false, Option.bind_some]
  rw [show n - k = (n - (k + 1)) + 1 from by omega, storeN_succ]
  cases b2 with
  | true =>
    simp only [st_true, Option.bind_none]
    split
    · have e1 : b1 = false := by rw [h1]; simp [over]; omega
      rw [e1] at h2
      simp at h2
      rw [if_neg (by omega)]
    · rfl
  | false =>
    have e := Bool.or_eq_false_iff.1 h2.symm
    obtain ⟨rfl, rfl⟩ := v1 e.1
    have e1 := e.1
    rw [h1] at e1
    simp [over] at e1
    have e2 := e.2
    simp only [decide_eq_false_iff_not] at e2
    rw [if_pos (by omega), if_pos (by omega), v2 rfl]
    simp only [st_false, Option.bind_some]

set_option maxHeartbeats 1000000 in
set_option maxRecDepth 100000 in
theorem plain_any (w : World) (B : Nat) (s : ByteArray) (p : Nat) (bad : Bool) (o : Value) (out : List UInt8) (h : Rf w B s o p bad out) (hs : s.size ≤ 9000) :
    Calls Tryd.prog 13 #[.pointer (some ⟨B, 0, none⟩)] w fun e w' => e = .returned (.tuple #[]) ∧ ∃ o' q bad' out', Rf w' B s o' q bad' out' ∧ Fr B o w o' w' ∧
      st bad' q out' = (st bad p out).bind (fun x => stored s x.1 x.2) := by
  have h1 := h.bt.c1
  have g1 := h.bt.fr 1
  have hp := h.hp
  go_enter Tryd.func13, Tryd.ntmps13
  go_wp2_with fail
  refine (bits_rf _ B s _ 16 _ bad o out h.round8 hs rfl (by omega)).mono ?_
  rintro e w1 ⟨x, q1, b1, rfl, h1, k1, hx, hb1, hv1⟩
  have H1 : Hid (b1 = (bad || over s ((p + 7) / 8 * 8) 16)) := hb1
  have V1 : Hid (b1 = false → x = numOf s ((p + 7) / 8 * 8) 16 ∧ q1 = (p + 7) / 8 * 8 + 16) := hv1
  clear hb1 hv1
  go_wp2_with fail
  refine (bits_rf _ B s _ 16 _ b1 o out h1 hs rfl (by omega)).mono ?_
  rintro e w2 ⟨y, q2, b2, rfl, h2, k2, hy, hb2, hv2⟩
  have H2 : Hid (b2 = (b1 || over s q1 16)) := hb2
  have V2 : Hid (b2 = false → y = numOf s q1 16 ∧ q2 = q1 + 16) := hv2
  clear hb2 hv2
  have f2 := h2.bt.fr 2
  have c2 := h2.bt.c2
  have F2 : Fr B o w o w2 := (Fr.of_grown o (grownBy_setCell _ _ _ _)).trans ((Fr.of_grown o k1).trans (Fr.of_grown o k2))
  clear k1 k2
  -- the rest, from whatever state
  by_cases hxy : x + y = 65535
  all_goals
    first
      | have hne : ((x : Int) != 65535 - (y : Int)) = false := by simp; omega
      | have hne : ((x : Int) != 65535 - (y : Int)) = true := by simp; omega
    go_wp2_with fail
    go_loopw [4] (fun i wr => ∃ (k q : Nat) (bd : Bool) (outk : List UInt8) (o' : Value), i = .int .i64 (k : Int) ∧ k ≤ x ∧ Rf wr B s o' q bd outk ∧ Fr B o w o' wr ∧
        (st bd q outk).bind (fun z => storeN s (x - k) z.1 z.2) = (st bad p out).bind (fun z => stored s z.1 z.2))
      (fun i _ => x - (intOf i).toNat)
    case atStart =>
      first
        | exact ⟨0, q2, b2, out, o, rfl, by omega, h2, F2, stored_of H1.out V1.out H2.out V2.out (fun _ => hxy)⟩
        | exact ⟨0, q2, true, out, o, rfl, by omega, h2.setBad, F2.trans (Fr.of_grown o (grownBy_setCell _ _ _ _)), stored_bad H1.out V1.out H2.out V2.out hxy⟩
    case round =>
      clear h2 F2 f2 c2 h1 hne H1 V1 H2 V2 hxy
      obtain ⟨k, q, bd, outk, o', rfl, hk, hR, hF, hE⟩ := hrel
      have HE : Hid ((st bd q outk).bind (fun z => storeN s (x - k) z.1 z.2) = (st bad p out).bind (fun z => stored s z.1 z.2)) := hE
      clear hE
      have c2 := hR.bt.c2
      have hx' : x < 65536 := by simpa using hx
      by_cases hlt : k < x
      · cases bd with
        | true =>
          go_wp2
          first | go_end0 | refine bodyPost_ret (results_none rfl _ _ _) rfl ?_
          exact ⟨rfl, o', q, true, outk, hR, hF, HE.out⟩
        | false =>
          go_wp2_with fail
          refine (bits_rf _ B s _ 8 _ false o' outk hR hs rfl (by omega)).mono ?_
          rintro e w3 ⟨c, q3, b3, rfl, h3, k3, hc, hb3, hv3⟩
          have H3 : Hid (b3 = (false || over s q 8)) := hb3
          have V3 : Hid (b3 = false → c = numOf s q 8 ∧ q3 = q + 8) := hv3
          clear hb3 hv3
          have c2' := h3.bt.c2
          have hc' : c < 256 := by simpa using hc
          cases b3 with
          | true =>
            go_wp2
            go_roundw
            case rel => exact ⟨k + 1, q3, true, outk, o', by go_num, by omega, h3, hF.trans (Fr.of_grown o' k3), (storeN_step (b2 := true) (out2 := outk) hlt H3.out V3.out rfl (by simp)).trans HE.out⟩
            case measure => simp [intOf]; omega
          | false =>
            go_wp2_with fail
            refine (put_rf _ B s _ _ false o' outk h3 (by omega)).mono ?_
            rintro e w4 ⟨rfl, o4, b4, out4, h4, F4, hb4, hv4⟩
            go_wp2
            go_roundw
            case rel => exact ⟨k + 1, q3, b4, out4, o4, by go_num, by omega, h4, (hF.trans (Fr.of_grown o' k3)).trans F4, (storeN_step hlt H3.out (fun _ => V3.out trivial) hb4 (by simpa using hv4)).trans HE.out⟩
            case measure => simp [intOf]; omega
      · go_wp2
        first | go_end0 | refine bodyPost_ret (results_none rfl _ _ _) rfl ?_
        have e : x - k = 0 := by omega
        refine ⟨rfl, o', q, bd, outk, hR, hF, ?_⟩
        have := HE.out
        rw [e] at this
        rw [← this]
        cases bd <;> rfl
end Go.Proofs.YtgffljllfenhkaaDoor
