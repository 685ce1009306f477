import Derived.Lib.ConvBytes
import Derived.Test.YtgffljllfenhkaaGreatDoorGwas
import Derived.Test.YtgffljllfenhkaaGreatDoorGwaw
import Derived.Test.YtgffljllfenhkaaGreatDoorGwba
import Derived.Test.YtgffljllfenhkaaGreatDoorGwbj
namespace Go.Proofs.YtgffljllfenhkaaGreatDoor
section
open Go.RowKit
attribute [local go_sem] Oper.semAt_some
set_option maxHeartbeats 1000000 in
set_option maxRecDepth 100000 in
theorem atEnd_any (w:World) (R A:Nat) (V:Ux) (t:St) (h:Rx w R A V t) :
  Calls Tryz.prog 137 #[.pointer (some ⟨R,0,none⟩)] w fun e w'=>e=.returned (.bool (decide ((t.k+7)/8=V.s.size)))/\w'=w.drew:=by
 have c0:=h.c0;have c1:=h.c1;have hp:=h.hp;have hs:=h.hs
 go_enter Tryz.func137,Tryz.ntmps137
 go_wp2_with fail
 go_region
 go_wp2_with fail
 go_ret
 refine⟨congrArg (fun b=>Ending.returned (Value.bool b)) ?_,rfl⟩;rw[Bool.eq_iff_iff];simp;omega
set_option maxHeartbeats 1000000 in
theorem allowance_any (w:World) (n c d:Int) :
  Calls Tryz.prog 38 #[.int .i64 n,.agg #[.int .i64 c,.int .i64 d]] w fun e w'=>e=.returned (.func (.func 60) #[] #[.pointer (some ⟨w.heap.size,0,none⟩),.pointer (some ⟨w.heap.size+1,0,none⟩)])/\w'=(w.alloc (.cells #[.int .i64 n] 3)).alloc (.cells #[.int .i64 c,.int .i64 d] 45):=by
 have hmf:=Tryz.mfn Tryz.prog
 go_enter Tryz.func38,Tryz.ntmps38
 go_wp2_with fail
 go_ret
 exact⟨rfl,rfl⟩
theorem allow_n (w:World) (n c d:Int) :
  Calls Tryz.prog 38 #[.int .i64 n,.agg #[.int .i64 c,.int .i64 d]] w fun e w'=>e=.returned (.func (.func 60) #[] #[.pointer (some ⟨w.heap.size,0,none⟩),.pointer (some ⟨w.heap.size+1,0,none⟩)]) /\
   w'.heap[w.heap.size]?=some (.cells #[.int .i64 n] 3 (0,0))/\w'.heap[w.heap.size+1]?=some (.cells #[.int .i64 c,.int .i64 d] 45 (0,0))/\Below w.heap.size w w'/\w'.heap.size=w.heap.size+2:=by
 refine (allowance_any w n c d).mono ?_;rintro e w' ⟨rfl,rfl⟩;exact⟨rfl,heap_alloc2_old w _ _,heap_alloc2_new w _ _,((Below.refl _ _).alloc (Nat.le_refl _) _).alloc (by simp) _,by simp⟩
theorem why_at {w:World}{N:Nat}{c d:Int}(h:w.heap[N]?=some (.cells #[.int .i64 c,.int .i64 d] 45 (0,0))):w.cell? ⟨N,0,none⟩=some (.int .i64 c)/\w.cell? ⟨N,1,none⟩=some (.int .i64 d):=by
 constructor <;> simp[World.cell?,h]
set_option maxHeartbeats 2000000 in
theorem newReader_any (w:World) (s:ByteArray) (B b n9:Nat) (hs:s.size<=9000) (hBd:Bud w B b) :
  Calls Tryz.prog 133 #[.string s,chg B,.agg #[.int .i64 9,.int .i64 (n9:Int)]] w fun e w'=>e=.returned (.pointer (some ⟨w.heap.size+3,0,none⟩))/\Rx w' (w.heap.size+3) (w.heap.size+1) ⟨s,n9,B⟩ ⟨b,0,0,0,0⟩/\Below w.heap.size w w'/\w'.heap.size=w.heap.size+4:=by
 unfold chg;have hlt:=hBd.lt
 go_enter Tryz.func133,Tryz.ntmps133
 go_wp2_with fail
 have hy:(w.alloc (.cells #[.int .i64 9,.int .i64 (n9:Int)] 45)).drew.heap[w.heap.size]?=some (.cells #[.int .i64 9,.int .i64 (n9:Int)] 45 (0,0)):=World.alloc_heap_new w _;have hB0:Below w.heap.size w (w.alloc (.cells #[.int .i64 9,.int .i64 (n9:Int)] 45)).drew:=((Below.refl _ _).alloc (Nat.le_refl _) _).drew;have hs0:(w.alloc (.cells #[.int .i64 9,.int .i64 (n9:Int)] 45)).drew.heap.size=w.heap.size+1:=by simp[World.drew]
 obtain⟨y0,y1⟩:=why_at hy;have hw8:IntKind.i64.wrap (8*(s.size:Int))=8*(s.size:Int):=wraps_i64 _ (by omega) (by omega)
 go_region_with (go_at_call 38;refine (allow_n _ _ _ _).mono ?_;rintro e w1 ⟨rfl,h0,h1,hB1,hs1⟩;have hy1:=(hB1.block w.heap.size (by simp[World.drew])).trans hy;obtain⟨z0,z1⟩:=why_at hy1)
 all_goals
  go_wp2_with fail
  go_ret
  rw[hs0] at h0 h1 hB1 hs1
  try rw[hw8] at h0
  have hBw:Below w.heap.size w w1:=hB0.trans (hB1.mono (by omega));have hR:=World.alloc_heap_new w1 (.cells #[.string s,.int .i64 0,.func (.func 60) #[] #[.pointer (some ⟨w.heap.size+1,0,none⟩),.pointer (some ⟨w.heap.size+1+1,0,none⟩)],.func (.func 60) #[] #[.pointer (some ⟨B,0,none⟩),.pointer (some ⟨B+1,0,none⟩)],.int .i64 9,.int .i64 (n9:Int)] 197);rw[show w1.heap.size=w.heap.size+3 by omega] at hR;have hBz:Below w.heap.size w (w1.alloc (.cells #[.string s,.int .i64 0,.func (.func 60) #[] #[.pointer (some ⟨w.heap.size+1,0,none⟩),.pointer (some ⟨w.heap.size+1+1,0,none⟩)],.func (.func 60) #[] #[.pointer (some ⟨B,0,none⟩),.pointer (some ⟨B+1,0,none⟩)],.int .i64 9,.int .i64 (n9:Int)] 197)):=hBw.alloc hBw.size _;refine⟨rfl,⟨hR,?_,(Below.heap_alloc _ _ _ (by omega)).trans h1,hBd.of_blocks (fun k hk=>hBz.block k (by omega)),⟨by omega,by show B+1<_;omega⟩,by show 0<=_;omega,hs⟩,hBz,by simp;omega⟩;show _=some (Obj.cells #[.int .i64 ((8*s.size-0:Nat):Int)] 3 (0,0));rw[show ((8*s.size-0:Nat):Int)=8*(s.size:Int) by omega];exact (Below.heap_alloc _ _ _ (by omega)).trans h0
theorem PTabs.below {w w':World}(h:PTabs w) (hB:Below w.heap.size w w') (h22:22<w.heap.size):PTabs w':=h.blk (fun k hk=>hB.block k (by omega))
theorem Fv.toFb {w W:World}{U R A M B:Nat}{o':Value}{w':World}(h:Fv U R A M B (.slice none 0 0) W o' w') (hB:Below w.heap.size w W) (h4:w.heap.size<=U/\w.heap.size<=R/\w.heap.size<=A/\w.heap.size<=M):Fb B w w':=
 ⟨h.os.trans hB.os,h.tape.trans hB.tape,h.output.trans hB.output,Nat.le_trans hB.size h.size,fun k hk hb=>(h.block k (Nat.lt_of_lt_of_le hk hB.size) (by omega) (by omega) (by omega) (by omega) hb (by simp[Value.ownBlock])).trans (hB.block k hk)⟩
def UnAt (w:World) (g:Nat):Prop:=w.heap[g]?=some (.cells #[.pointer none,.slice none 0 0,.nilFunc] 182 (0,0))
theorem UnAt.keep {w w':World}{g:Nat}(hB:Below w.heap.size w w') (h:UnAt w g):UnAt w' g:=(hB.block g (Array.getElem?_eq_some_iff.1 h).1).trans h
theorem UnAt.new (w:World):UnAt (w.alloc (.cells #[.pointer none,.slice none 0 0,.nilFunc] 182)) w.heap.size:=World.alloc_heap_new w _
def UnpR (w:World) (V:Ux) (t:St) (uv:Value) (wx:World):Prop:=
 ∃ U R A M b0,uv=.pointer (some ⟨U,0,none⟩)/\Uq wx U R A M b0 V t (.slice none 0 0) []/\Below w.heap.size w wx/\w.heap.size<=U/\w.heap.size<=R/\w.heap.size<=A/\w.heap.size<=M
theorem unp_rel {w W:World}{V:Ux}{t:St}{U R A M:Nat}(hB:Below w.heap.size w W) (hR:Rx W R A V t) (hU:UnAt W U) (h0:W.heap[M]?=some (.cells #[.int .i64 2000] 3 (0,0)))
  (h1:W.heap[M+1]?=some (.cells #[.int .i64 9,.int .i64 (V.n9:Int)] 45 (0,0))) (ne:U≠R/\U≠A/\U≠A+1/\U≠M/\U≠M+1/\M≠R/\M≠A/\M≠A+1/\M+1≠R/\M+1≠A/\M+1≠A+1)
  (hl:w.heap.size<=U/\w.heap.size<=R/\w.heap.size<=A/\w.heap.size<=M) (hb:V.B+1<w.heap.size) :
  UnpR w V t (.pointer (some ⟨U,0,none⟩)) (W.setRow U #[.pointer (some ⟨R,0,none⟩),.slice none 0 0,.func (.func 60) #[] #[.pointer (some ⟨M,0,none⟩),.pointer (some ⟨M+1,0,none⟩)]]):=by
 have hlU:U<W.heap.size:=(Array.getElem?_eq_some_iff.1 hU).1;have hlM:M+1<W.heap.size:=(Array.getElem?_eq_some_iff.1 h1).1;have hlR:=hR.ltR;have hlA:=hR.ltA;refine⟨U,R,A,M,W.heap.size,rfl,⟨setRow_heap _ _ _ _ _ _ hU,?_,?_,?_,World.ownsRow_nil _ _ _ _,by simp,ne,⟨by omega,by omega⟩,⟨hlU,hlR,hlA,hlM⟩,by simp[World.setRow]⟩,below_setRow hB hl.1 _,hl⟩
 ·exact hR.of_blocks (fun k hk=>setRow_other _ _ _ _ (by omega))
 ·rw[setRow_other _ _ _ _ (by omega)];exact h0
 ·rw[setRow_other _ _ _ _ (by omega)];exact h1
def StoreUn (P:Program) (o:Oper) (a:Act) (w:World) (K:Act->World->Prop) (Q:Exit->Act->World->Prop):Prop:=o.wp P a w K Q
theorem store_un {P:Program}{d:Option Tmp}{x y:Operand}{ty:TypeId}{ps:String}{af:Array Edge}{gd:Option (Nat×Bool)}{a:Act}{w:World}{K:Act->World->Prop}{Q:Exit->Act->World->Prop} :
  Oper.wp P { dst:=d,op:=.store 182 x y,type:=ty,pos:=ps,after:=af,guard:=gd } a w K Q=StoreUn P { dst:=d,op:=.store 182 x y,type:=ty,pos:=ps,after:=af,guard:=gd } a w K Q:=rfl
theorem Tryz.infoUn:(Tryz.prog.info? 182).map (·.size)=some 3:=by kernel_rfl
theorem StoreUn.row {o:Oper}{a:Act}{w:World}{K:Act->World->Prop}{Q:Exit->Act->World->Prop}(x y:Operand) (ho:o.op=.store 182 x y)
  (g:Nat) (cells:Array Value) (hx:a.eval x=.pointer (some ⟨g,0,none⟩)) (hy:a.eval y=.agg cells) (hg:UnAt w g) (h3:cells.size=3) (h1:cells.all (·.oneCell')=true)
  (h:K (a.put o.dst undef) (w.setRow g cells)):StoreUn Tryz.prog o a w K Q:=
 wp_store_row 182 x y ho g cells hx hy 182 _ hg (by rw[h3];exact Tryz.infoUn) h3.symm h1 h
def boolOf':Value->Bool | .bool b=>b | _=>false
def endX (V:Ux) (out:List UInt8):Rdr (List UInt8):=fun t=>(demandX V (decide ((t.k+7)/8=V.s.size))).then (fun _=>Rdr.ret out) t
attribute [local go_sem ↓] store_un Go.wp_at_zero Go.wp_at_succ
set_option maxHeartbeats 8000000 in
set_option maxRecDepth 100000 in
theorem punpack_walk (w : World) (s : ByteArray) (B b n9 : Nat) (hs : s.size <= 9000) (hBd : Bud w B b) (hT : PTabs w) (h22 : 22<B) :
    Calls Tryz.prog 109 #[.string s, chg B, .agg #[.int .i64 9, .int .i64 (n9 : Int)]] w (PostB B w (fun t v _ => v = .string t) (unpackU s n9 b)) := by
  have hltB := hBd.lt;have NR := newReader_any (s := s) (B := B) (b := b) (n9 := n9) (hs := hs);obtain⟨V, hV⟩ : ∃ V : Ux, V = ⟨s, n9, B⟩ := ⟨_, rfl⟩;have hVB : V.B = B := by rw[hV]
  have hVn : V.n9 = n9 := by rw[hV]
  have hVs : V.s = s := by rw[hV]
  have UE : Hid (unpackU s n9 b = match unpackX V ⟨b, 0, 0, 0, 0⟩ with
    | .ok out t => .ok ⟨out.toArray⟩ t.b
    | .no y => .no y) := by
    have key : ∀ (B1 B2 : Nat), unpackX ⟨s, n9, B1⟩ = unpackX ⟨s, n9, B2⟩ := fun B1 B2 => unpackX_B s n9 B1 B2
    rw[hV];show unpackU s n9 b = _;unfold unpackU;rw[key 0 B];rfl
  obtain⟨r, hr⟩ : ∃ r, unpackU s n9 b = r := ⟨_, rfl⟩;rw[hr] at UE;rw[hr]
  have NR' : ∀ W, Bud W B b -> Calls Tryz.prog 133 #[.string s, chg B, .agg #[.int .i64 9, .int .i64 (n9 : Int)]] W fun e w' => e = .returned (.pointer (some ⟨W.heap.size + 3, 0, none⟩)) /\ Rx w' (W.heap.size + 3) (W.heap.size + 1) V ⟨b, 0, 0, 0, 0⟩ /\ Below W.heap.size W w' /\ w'.heap.size = W.heap.size + 4 := fun W hW => by
    rw[hV]; exact NR W hW
  clear NR hr hV;unfold chg at NR' ⊢
  go_enter Tryz.func109, Tryz.ntmps109
  go_wp2_with fail
  obtain⟨W0, hW0⟩ : ∃ W0, w.alloc (.cells #[.int .i64 9, .int .i64 (n9 : Int)] 45) = W0 := ⟨_, rfl⟩;have hy : W0.heap[w.heap.size]? = some (.cells #[.int .i64 9, .int .i64 (n9 : Int)] 45 (0, 0)) := by rw[← hW0]; exact World.alloc_heap_new w _
  have hBW : Below w.heap.size w W0 := by rw[← hW0]; exact (Below.refl _ _).alloc (Nat.le_refl _) _
  have hs0 : W0.heap.size = w.heap.size + 1 := by rw[← hW0]; simp
  have hBu0 : Bud W0.drew B b := hBd.of_blocks (fun k hk => hBW.block k (by omega));have hBu1 : ∀ x, Bud (W0.drew.alloc x) B b := fun x => hBu0.alloc x
  have hBu2 : ∀ x, Bud ((W0.alloc x).drew) B b := fun x => (Bud.alloc (w := W0) ⟨hBu0.a, hBu0.y, hBu0.hb⟩ x).drew
  rw[hW0];clear hW0;have hyd : W0.drew.heap[w.heap.size]? = some (.cells #[.int .i64 9, .int .i64 (n9 : Int)] 45 (0, 0)) := hy;have hsd : W0.drew.heap.size = w.heap.size + 1 := hs0;have hBd0 : Below w.heap.size w W0.drew := hBW.drew;obtain⟨Wd, hWd⟩ : ∃ Wd, W0.drew = Wd := ⟨_, rfl⟩;have hya : (W0.drew.alloc (.cells #[.pointer none, .slice none 0 0, .nilFunc] 182)).heap[w.heap.size]? = some (.cells #[.int .i64 9, .int .i64 (n9 : Int)] 45 (0, 0)) := (Below.heap_alloc _ _ _ (by omega)).trans hyd;have hsa : (W0.drew.alloc (.cells #[.pointer none, .slice none 0 0, .nilFunc] 182)).heap.size = w.heap.size + 2 := by rw[World.size_alloc, hsd]
  obtain⟨y0, y1⟩ := why_at hyd;obtain⟨y2, y3⟩ := why_at hya;obtain⟨y4, y5⟩ := why_at hy;have HS0 := hide hs0;have hn0 : w.heap.size<W0.heap.size := by omega
  have hn0' : ¬ w.heap.size = W0.heap.size := by omega
  have hn0d : w.heap.size<W0.drew.heap.size := hn0;have hn0e : ¬ w.heap.size = W0.drew.heap.size := hn0';have hVB1 : V.B + 1<w.heap.size := by omega
  clear hWd hs0 hsd hsa
  go_cut [7] (fun uv wx => UnpR w V ⟨b, 0, 0, 0, 0⟩ uv wx)
  case first =>
    go_region_with (first
      | (go_at_call 133; refine (NR' _ (by first | exact hBu0 | exact hBu1 _ | exact hBu2 _)).mono ?_; rintro e w1 ⟨rfl, hR1, hB1, hs1⟩; have HS1 := hide hs1; clear hs1; (first | (have hk1 := UnAt.keep hB1 (UnAt.new W0.drew)) | skip); (first | (have hy1 := (hB1.block w.heap.size (Array.getElem?_eq_some_iff.1 hyd).1).trans hyd) | (have hy1 := (hB1.block w.heap.size (Array.getElem?_eq_some_iff.1 hya).1).trans hya)); have hyb := (Below.heap_alloc w1 (.cells #[.pointer none, .slice none 0 0, .nilFunc] 182) w.heap.size (Array.getElem?_eq_some_iff.1 hy1).1).trans hy1; have hn1 : w.heap.size<w1.heap.size := (Array.getElem?_eq_some_iff.1 hy1).1; have hn1' : ¬ w.heap.size = w1.heap.size := Nat.ne_of_lt hn1; obtain⟨z0, z1⟩ := why_at hy1; obtain⟨z2, z3⟩ := why_at hyb)
      | (go_at_call 38; refine (allow_n _ _ _ _).mono ?_; rintro e w2 ⟨rfl, m0, m1, hB2, hs2⟩; have HS2 := hide hs2; clear hs2; (first | (have hk2 := UnAt.keep hB2 hk1) | (have hk2 := UnAt.keep hB2 (UnAt.new w1)) | skip))
      | (refine StoreUn.row _ _ rfl _ _ rfl rfl ?hcg rfl (by simp[Value.oneCell']) ?_; (case hcg => first | exact hk2 | exact UnAt.new _)))
    all_goals
      go_wp2_with fail
      go_meet
      case rel =>
        have hs0 := unhide HS0;have hs1 : _ = _ := unhide HS1;have hs2 := unhide HS2;have hsd : W0.drew.heap.size = w.heap.size + 1 := hs0;rw[← hVn] at m1
        try rw[World.size_alloc] at hs1
        try rw[World.size_alloc] at hs2
        first
          | (have hse : (W0.alloc (.cells #[.pointer none, .slice none 0 0, .nilFunc] 182)).drew.heap.size = W0.heap.size + 1 := by show (W0.alloc _).heap.size = _; rw[World.size_alloc]
             rw[hse] at hR1 hB1 hs1;have hBx : Below w.heap.size w w1 := (hBW.alloc hBW.size _).drew.trans (hB1.mono (by omega));have hBy : Below w.heap.size w w2 := hBx.trans (hB2.mono (by omega))
             exact unp_rel hBy (hR1.below hB2) hk2 m0 m1 (by omega) (by omega) hVB1)
          | (have hBx : Below w.heap.size w w1 := hBd0.trans (hB1.mono (by omega))
             have hBy : Below w.heap.size w w2 := (hBx.alloc hBx.size _).trans (hB2.mono (by rw[World.size_alloc]; omega));rw[World.size_alloc] at m0 m1
             exact unp_rel hBy ((hR1.alloc _).below hB2) hk2 m0 m1 (by omega) (by omega) hVB1)
          | (have hBx : Below w.heap.size w w1 := hBd0.trans (hB1.mono (by omega))
             have hBy : Below w.heap.size w w2 := hBx.trans (hB2.mono (by omega))
             exact unp_rel (hBy.alloc hBy.size _) ((hR1.below hB2).alloc _) (UnAt.new w2) ((Below.heap_alloc _ _ _ (by omega)).trans m0) ((Below.heap_alloc _ _ _ (by omega)).trans m1) (by omega) (by omega) hVB1)
  case rest =>
    obtain⟨U, R, A, M, b0, rfl, hU0, hB0, h4⟩ := hcut;have hT0 : PTabs wc := hT.below hB0 (by omega);have h22V : 22<V.B := by omega
    have hs9 : 8*V.s.size <= 72000 := by have := hU0.rd.hs; omega
    clear hy hBW hyd hBd0 hya y0 y1 y2 y3 y4 y5 HS0 hn0 hn0' hn0d hn0e hBu0 hBu1 hBu2 NR'
    go_wp2_with fail
    obtain⟨t0, ht0⟩ : ∃ t0 : St, t0 = ⟨b, 0, 0, 0, 0⟩ := ⟨_, rfl⟩;have UX : Hid (unpackX V t0 = ((blocksX V 80000 []).then fun out => endX V out) t0) := rfl;rw[← ht0] at UE hU0;have hk0 : t0.k = 0 := by rw[ht0]
    obtain⟨rx, hrx⟩ : ∃ rx, unpackX V t0 = rx := ⟨_, rfl⟩;rw[hrx] at UE UX;clear ht0 hrx
    go_loopw [8] (fun lv wr => ∃ (l : Bool) (q : St) (f : Nat) (outi : List UInt8) (oi : Value), lv = .bool l /\ (l = false -> 8*V.s.size + 1 <= f + q.k) /\ Uq wr U R A M b0 V q oi outi /\ Fv U R A M V.B (.slice none 0 0) wc oi wr /\ Hid (rx = ((if l then Rdr.ret outi else blocksX V f outi).then fun out => endX V out) q))
      (fun lv wr => if boolOf' lv then 0 else 1 + measP R (8*V.s.size + 1) wr)
    case atStart => exact⟨false, t0, 80000, [], _, rfl, fun _ => by omega, hU0, Fv.refl _ _ _ _ _ _ _, UX⟩
    case round =>
      obtain⟨l, q, f, outi, oi, rfl, hf, hU, hF, HE⟩ := hrel;have c0 := hU.cu0;have hq := hU.rd.hp;have hT1 := hT0.keptU hF h22V hU0;have hm0 := hide (measP_of hU.rd (8*V.s.size + 1));cases l with
      | true =>
        have FIN : Hid (rx = endX V outi q) := unh HE;clear HE hm0;have hFd := (hF.trans (Fv.drew U R A M V.B oi wr)).trans (Fv.drew U R A M V.B oi wr.drew);have hBw := hFd.toFb hB0 h4
        go_wp2_with fail
        by_cases hd : (q.k + 7)/8 = V.s.size
        · have AE : ∀ W, Rx W R A V q -> Calls Tryz.prog 137 #[.pointer (some ⟨R, 0, none⟩)] W fun e w' => e = .returned (.bool true) /\ w' = W.drew := fun W h => by
            have := atEnd_any W R A V q h;rw[decide_eq_true hd] at this; exact this
          have FIN2 : Hid (r = .ok ⟨outi.toArray⟩ q.b) := (unh UE).trans (by
            rw[unh FIN];unfold endX;rw[Rdr.then_ok (demandX_ok (by simpa using hd))]
            rfl)
          go_cut [] (fun wx => wx = wr.drew.drew)
          case first =>
            go_region_with (first | (go_at_call 137; refine (AE _ hU.rd.drew).mono ?_; rintro e w2 ⟨rfl, rfl⟩) | (go_at_call 136; refine (demand_ok _).mono ?_; rintro e w3 ⟨rfl, rfl⟩))
            all_goals
              go_wp2_with fail
              go_meet
              case rel => rfl
          case rest =>
            subst hcut;have c1 := hU.drew.drew.cu1;have hcv := hU.drew.drew.row.str;have hbud := hU.drew.drew.rd.bud;rw[hVB] at hbud hBw
            go_wp2_with fail
            go_ret
            exact PostB.ok (unh FIN2) rfl hbud hBw
        · have AE : ∀ W, Rx W R A V q -> Calls Tryz.prog 137 #[.pointer (some ⟨R, 0, none⟩)] W fun e w' => e = .returned (.bool false) /\ w' = W.drew := fun W h => by
            have := atEnd_any W R A V q h;rw[decide_eq_false hd] at this; exact this
          have FIN2 : Hid (r = .no (9, V.n9)) := (unh UE).trans (by
            rw[unh FIN];unfold endX
            rw[Rdr.then_no (demandX_no (by simpa using hd))])
          rw[hVB] at hBw
          go_region_with (first | (go_at_call 137; refine (AE _ hU.rd.drew).mono ?_; rintro e w2 ⟨rfl, rfl⟩) | (go_at_call 136; refine (demand_no hU.rd.drew.drew).mono ?_; rintro e w3 ⟨rfl, rfl⟩; refine dead_end ⟨#[], []⟩ w (show _ from ⟨rfl, PostB.no (y := (9, V.n9)) (unh FIN2) hBw⟩) ?_))
          all_goals trivial
      | false =>
        have hf' := hf rfl;obtain⟨f, rfl⟩ : ∃ f', f = f' + 1 := ⟨f-1, by omega⟩;have HB : Hid (rx = (((numX V 1).then fun last => (blockX V outi).then fun o => if last = 1 then Rdr.ret o else blocksX V f o).then fun out => endX V out) q) := (unh HE).trans (by rw[if_neg (by decide), blocksX_succ]);have NA := rnum_any wr R A V q 1 1 rfl hU.rd (by omega);clear HE
        go_wp2_with fail
        rcases q1 : numX V 1 q with⟨x, q2⟩|y
        · have hx2 : x<2 := numX_lt q1
          have hkq : q2.k = q.k + 1 := by rw[(numX_inv q1).2.1]; rfl
          have HB1 : Hid (rx = (((blockX V outi).then fun o => if x = 1 then Rdr.ret o else blocksX V f o).then fun out => endX V out) q2) := (unh HB).trans (by simp only[Rdr.then, q1]);refine (PostX.okC NA q1).mono ?_;rintro e w2 ⟨v2, rfl, rfl, hR2, hF2⟩;have hU2 := hU.read hR2 hF2;have hT2 := hT1.kept hF2 h22V hU.rd;have PB := pblock_walk w2 U R A M b0 V q2 oi outi hU2 hT2 h22V;have HKQ := hid hkq;clear q1 NA HB hkq
          rcases qb : blockX V outi q2 with⟨o3, q3⟩|y
          · have HB2 : Hid (rx = ((if x = 1 then Rdr.ret o3 else blocksX V f o3).then fun out => endX V out) q3) := (unh HB1).trans (by simp only[Rdr.then, qb])
            have hk3 := hid (mk_block V outi _ _ _ qb)
            by_cases hx1 : x = 1
            · subst hx1
              go_wp2_with fail
              refine (PostU.okC PB qb).mono ?_;rintro e w3 ⟨rfl, s3, hU3, hF3⟩;clear qb PB HB1
              go_wp2_with fail
              exact⟨⟨true, q3, f, o3, s3, rfl, fun e => (by cases e), hU3, (hF.trans (Fv.of_fx oi hF2)).trans hF3, unh HB2⟩, by simp[boolOf']; omega⟩
            · have hx0 : x = 0 := by omega
              subst hx0
              go_wp2_with fail
              refine (PostU.okC PB qb).mono ?_;rintro e w3 ⟨rfl, s3, hU3, hF3⟩;have hm3 := hide (measP_of hU3.rd (8*V.s.size + 1));have hq3 := hU3.rd.hp;clear qb PB HB1
              go_wp2_with fail
              have hk3' := unh hk3;have hkq' := unh HKQ;exact⟨⟨false, q3, f, o3, s3, rfl, fun e => (by omega), hU3, (hF.trans (Fv.of_fx oi hF2)).trans hF3, unh HB2⟩, by simp only[boolOf']; rw[unhide hm3, unhide hm0]; simp; omega⟩
          · have FIN : Hid (r = .no y) := (unh UE).trans (by rw[unh HB1]; simp only[Rdr.then, qb])
            by_cases hx1 : x = 1
            · subst hx1
              go_wp2_with fail
              refine (PostU.noC PB qb).mono ?_;rintro e w3 ⟨rfl, s3, hF3⟩;have hz := ((hF.trans (Fv.of_fx oi hF2)).trans hF3).toFb hB0 h4;rw[hVB] at hz;exact⟨rfl, PostB.no (unh FIN) hz⟩
            · have hx0 : x = 0 := by omega
              subst hx0
              go_wp2_with fail
              refine (PostU.noC PB qb).mono ?_;rintro e w3 ⟨rfl, s3, hF3⟩;have hz := ((hF.trans (Fv.of_fx oi hF2)).trans hF3).toFb hB0 h4;rw[hVB] at hz;exact⟨rfl, PostB.no (unh FIN) hz⟩
        · have FIN : Hid (r = .no y) := (unh UE).trans (by rw[unh HB]; simp only[Rdr.then, q1])
          refine (PostX.noC NA q1).mono ?_;rintro e w2 ⟨rfl, hF2⟩;have hz := (hF.trans (Fv.of_fx oi hF2)).toFb hB0 h4;rw[hVB] at hz;exact⟨rfl, PostB.no (unh FIN) hz⟩
end
section
open Go.RowKit
attribute [local go_sem] Oper.semAt_some
variable {w w':World}
def limOk (s o:Int):Bool:=decide (0<=s/\s<=100000000/\0<=o/\o<=9000)
set_option maxHeartbeats 1000000 in
set_option maxRecDepth 100000 in
theorem mayBe_any (w:World) (s o:Int) :
  Calls Tryz.prog 36 #[.agg #[.int .i64 s,.int .i64 o]] w fun e w'=>e=.returned (.bool (limOk s o))/\Below w.heap.size w w':=by
 have hB:Below w.heap.size w (w.alloc (.cells #[.int .i64 s,.int .i64 o] 32)):=(Below.refl _ _).alloc (Nat.le_refl _) _
 by_cases h1:0<=s
 ·by_cases h2:s<=100000000
  ·by_cases h3:0<=o
   ·by_cases h4:o<=9000
    ·have e:Hid (true=limOk s o):=(decide_eq_true (p:=0<=s/\s<=100000000/\0<=o/\o<=9000) ⟨h1,h2,h3,h4⟩).symm
     go_enter Tryz.func36,Tryz.ntmps36
     go_wp2_with fail
     go_ret
     exact⟨by rw[← unh e];rfl,hB⟩
    ·have e:Hid (false=limOk s o):=(decide_eq_false (p:=0<=s/\s<=100000000/\0<=o/\o<=9000) (by omega)).symm
     go_enter Tryz.func36,Tryz.ntmps36
     go_wp2_with fail
     go_ret
     exact⟨by rw[← unh e];rfl,hB⟩
   ·have e:Hid (false=limOk s o):=(decide_eq_false (p:=0<=s/\s<=100000000/\0<=o/\o<=9000) (by omega)).symm
    go_enter Tryz.func36,Tryz.ntmps36
    go_wp2_with fail
    go_ret
    exact⟨by rw[← unh e];rfl,hB⟩
  ·have e:Hid (false=limOk s o):=(decide_eq_false (p:=0<=s/\s<=100000000/\0<=o/\o<=9000) (by omega)).symm
   go_enter Tryz.func36,Tryz.ntmps36
   go_wp2_with fail
   go_ret
   exact⟨by rw[← unh e];rfl,hB⟩
 ·have e:Hid (false=limOk s o):=(decide_eq_false (p:=0<=s/\s<=100000000/\0<=o/\o<=9000) (by omega)).symm
  go_enter Tryz.func36,Tryz.ntmps36
  go_wp2_with fail
  go_ret
  exact⟨by rw[← unh e];rfl,hB⟩
theorem Tryz.sizeLi:(Tryz.prog.info? 32).map (·.size)=some 2:=by kernel_rfl
theorem Tryz.agLi:(Tryz.prog.underlying 32).map isAg=some true:=by kernel_rfl
set_option maxHeartbeats 1000000 in
theorem greatest_any (w:World):Calls Tryz.prog 20 #[] w fun e w'=>e=.returned (.agg #[.int .i64 100000000,.int .i64 9000])/\Below w.heap.size w w':=by
 obtain⟨d,hd1,hd2⟩:=isStruct Tryz.agLi
 go_enter Tryz.func20,Tryz.ntmps20
 go_wp2_with (refine wpList_store_row rfl 32 _ _ rfl w.heap.size _ rfl rfl 32 _ (heap_alloc_new w _) Tryz.sizeLi rfl (by simp[Value.oneCell']) ?_;rw[setRow_alloc])
 exact bodyPost_ret (results_cell_row rfl _ _ w.heap.size 32 _ (0,0) d rfl (heap_alloc_new w _) hd1 (by cases d <;> first | rfl | cases hd2) Tryz.sizeLi) rfl ⟨rfl,(Below.refl _ _).alloc (Nat.le_refl _) _⟩
def WriteC (G:World->Prop) (nt:Bool->Nat->Nat->ByteArray):Prop:=∀ (W:World) (B D lo b at_ root:Nat) (pl:List Nat) (slp slo:Value) (os:List Obj1) (xs:List Value),G W->22<B->B+1<lo->Doc W D B lo at_ pl root slp slo os xs->Bud W B b ->
 (os.length<=31/\root<os.length/\tnameAt os root=rootB/\∀ o ∈ os,VO o.v/\o.stream.size<=9000)->Calls Tryz.prog 39 #[.pointer (some ⟨D,0,none⟩)] W (PostB B W (fun t v _=>v=.string (bstr t)/\t.length<=9000) (writeR nt os root b))
def PostN (w:World) {α:Type}(rep:α->Value->Prop) (o:Res α) (e:Ending) (w':World):Prop:=Below w.heap.size w w'/\match o with
 | .ok a _=>∃ v,e=.returned v/\rep a v
 | .no y=>e=.panicked (thrownY y)
theorem PostN.ok {α:Type}{rep:α->Value->Prop}{o:Res α}{a:α}{b:Nat}{v:Value}(ho:o=.ok a b) (hr:rep a v) (hB:Below w.heap.size w w'):PostN w rep o (.returned v) w':=by subst ho;exact⟨hB,v,rfl,hr⟩
theorem PostN.no {α:Type}{rep:α->Value->Prop}{o:Res α}{y:Why}(ho:o=.no y) (hB:Below w.heap.size w w'):PostN w rep o (.panicked (thrownY y)) w':=by subst ho;exact⟨hB,rfl⟩
theorem Fb.below {B:Nat}{w0:World}(h0:Below w0.heap.size w0 w) (h:Fb B w w') (hB:w0.heap.size<=B):Below w0.heap.size w0 w':=
 ⟨h.os.trans h0.os,h.tape.trans h0.tape,h.output.trans h0.output,Nat.le_trans h0.size h.size,fun k hk=>(h.block k (Nat.lt_of_lt_of_le hk h0.size) (by omega)).trans (h0.block k hk)⟩
set_option maxHeartbeats 2000000 in
set_option maxRecDepth 100000 in
theorem rinse_any {G:World->Prop}{U:ByteArray->Nat->Nat->Res ByteArray}{nt:Bool->Nat->Nat->ByteArray}{T:Nat}(hGb:∀ B w w',22<B->22<w.heap.size->G w->Fb B w w'->G w') (hGo:∀ B g w' w'',22<B->22<g->G w'->Fo B g w' w''->G w'') (UC:∀ B,22<B->UnpC G B U) (WC:WriteC G nt) (hU:∀ s n b r b',U s n b=.ok r b'->r.size<=9000)
  (hw:G w) (h22:22<w.heap.size) (hFT:FT T w) (hT:T<w.heap.size) (f:ByteArray) (hf:f.size<9223372036854775808) (st ou:Int) :
  Calls Tryz.prog 24 #[.string f,.agg #[.int .i64 st,.int .i64 ou]] w (PostN w (fun t v=>v=.string (bstr t)) (rinseR U nt f st ou)):=by
 have hB0:Below w.heap.size w (w.alloc (.cells #[.int .i64 st,.int .i64 ou] 32)):=(Below.refl _ _).alloc (Nat.le_refl _) _;have hr0:(w.alloc (.cells #[.int .i64 st,.int .i64 ou] 32)).heap[w.heap.size]?=some (.cells #[.int .i64 st,.int .i64 ou] 32 (0,0)):=heap_alloc_new w _;have hs0:(w.alloc (.cells #[.int .i64 st,.int .i64 ou] 32)).heap.size=w.heap.size+1:=by simp
 go_enter Tryz.func24,Tryz.ntmps24
 obtain⟨W,hW⟩:∃ W,w.alloc (.cells #[.int .i64 st,.int .i64 ou] 32)=W:=⟨_,rfl⟩;rw[hW] at hB0 hr0 hs0;have HW:=hid hW;clear hW
 go_upto_region 1 with fail
 rw[unh HW];have MB:=mayBe_any W st ou;have HS0:=hid hs0;clear hs0
 rcases hl:limOk st ou with _|_
 ·have HN:Hid (rinseR U nt f st ou=.no (1,0)):=by show rinseR U nt f st ou=_;unfold rinseR;rw[if_neg (of_decide_eq_false hl)]
  rw[hl] at MB
  go_wp2_with (first | (refine load_row rfl 32 _ rfl w.heap.size rfl 32 _ (0,0) hr0 Tryz.agLi Tryz.sizeLi ?_) | (go_at_call 36;refine MB.mono ?_;rintro e w1 ⟨rfl,hB1⟩) | (go_at_call 37;refine (refuse_any w1 1 0).mono ?_;rintro e w2 ⟨rfl,rfl⟩))
  exact⟨rfl,PostN.no (unh HN) (hB0.trans (hB1.mono (by have:=unh HS0;omega)))⟩
 ·have hl4:=of_decide_eq_true hl;obtain⟨s,rfl⟩:∃ s:Nat,st=(s:Int):=⟨st.toNat,by omega⟩;obtain⟨o,rfl⟩:∃ o:Nat,ou=(o:Int):=⟨ou.toNat,by omega⟩;have hs8:s<=100000000:=by omega
  have ho9:o<=9000:=by omega
  have HE:Hid (rinseR U nt f (s:Int) (o:Int)=match docR U f s with
   | .no y=>.no y
   | .ok x b=>match writeR nt x.2.2.2 x.2.2.1 b with
    | .no y=>.no y
    | .ok t b'=>if o<t.length then .no (13,0) else .ok t b'):=by show rinseR U nt f (s:Int) (o:Int)=_;unfold rinseR;rw[if_pos hl4];rfl
  rw[hl] at MB;clear hl hl4
  go_upto_region 3 with (first | (refine load_row rfl 32 _ rfl w.heap.size rfl 32 _ (0,0) hr0 Tryz.agLi Tryz.sizeLi ?_) | (go_at_call 36;refine MB.mono ?_;rintro e w1 ⟨rfl,hB1⟩))
  have hs0:=unh HS0;have hs1:=hB1.size;have hr1:=(hB1.block w.heap.size (by omega)).trans hr0;have c0:w1.cell? ⟨w.heap.size,0,none⟩=some (.int .i64 (s:Int)):=by simp[World.cell?,hr1]
  have HS1:Hid (w.heap.size+1<=w1.heap.size):=by show _<=_;omega
  have hBw1:Below w.heap.size w w1:=hB0.trans (hB1.mono (by omega));clear hs0 hs1 MB
  go_wp2_with fail
  refine (allowance_any w1 (s:Int) 12 0).mono ?_;rintro e w2 ⟨rfl,hw2⟩;have hs1:=unh HS1;have hB2:Below w1.heap.size w1 w2:=by rw[hw2];exact ((Below.refl _ _).alloc (Nat.le_refl _) _).alloc (by simp) _
  have a2:w2.heap[w1.heap.size]?=some (.cells #[.int .i64 (s:Int)] 3 (0,0)):=by rw[hw2];exact heap_alloc2_old w1 _ _
  have y2:w2.heap[w1.heap.size+1]?=some (.cells #[.int .i64 12,.int .i64 0] 45 (0,0)):=by rw[hw2];exact heap_alloc2_new w1 _ _
  have hs2:w2.heap.size=w1.heap.size+2:=by rw[hw2];simp
  clear hw2;have hr2:=(hB2.block w.heap.size (by omega)).trans hr1;have c1:w2.cell? ⟨w.heap.size,1,none⟩=some (.int .i64 (o:Int)):=by simp[World.cell?,hr2]
  have HS2:=hid hs2;clear hs2 hs1 c0
  go_wp2_with fail
  refine (allowance_any w2 (o:Int) 13 0).mono ?_;rintro e w3 ⟨rfl,hw3⟩;have hs1:=unh HS1;have hs2:=unh HS2;have hB3:Below w2.heap.size w2 w3:=by rw[hw3];exact ((Below.refl _ _).alloc (Nat.le_refl _) _).alloc (by simp) _
  have a3:w3.heap[w2.heap.size]?=some (.cells #[.int .i64 (o:Int)] 3 (0,0)):=by rw[hw3];exact heap_alloc2_old w2 _ _
  have y3:w3.heap[w2.heap.size+1]?=some (.cells #[.int .i64 13,.int .i64 0] 45 (0,0)):=by rw[hw3];exact heap_alloc2_new w2 _ _
  have hs3:w3.heap.size=w2.heap.size+2:=by rw[hw3];simp
  clear hw3 c1;have hBud:Bud w3 w1.heap.size s:=⟨(hB3.block _ (by omega)).trans a2,(hB3.block _ (by omega)).trans y2,hs8⟩;have hBw3:Below w.heap.size w w3:=hBw1.trans ((hB2.mono (by omega)).trans (hB3.mono (by omega)));have hFb3:Fb w1.heap.size w w3:=Fb.of_below hBw3;have hG3:G w3:=hGb w1.heap.size w w3 (by omega) h22 hw hFb3;have RD:=readDocument_any (w:=w3) (B:=w1.heap.size) (f:=f) (fun g w' w'' h1 h2 h3=>hGo w1.heap.size g w' w'' (by omega) (by omega) h2 h3) (UC w1.heap.size (by omega)) hG3 (hFT.fb hFb3 (by omega) (by omega)) (by omega:T≠w1.heap.size) (by omega) hBud hf;unfold chg at RD;have HS3:=hid hs3;clear hs3 hs2
  rcases q1:docR U f s with⟨x,b1⟩|y
  ·have hdo:=docR_ok hU (at_:=x.1) (pl:=x.2.1) (root:=x.2.2.1) (os:=x.2.2.2) q1;have RD':=PostB.okC RD q1
   rcases q2:writeR nt x.2.2.2 x.2.2.1 b1 with⟨t,b2⟩|y
   ·by_cases hlen:o<t.length
    ·have HN:Hid (rinseR U nt f (s:Int) (o:Int)=.no (13,0)):=(unh HE).trans (by rw[q1];simp only[q2];rw[if_pos hlen])
     go_wp2_with fail
     refine RD'.mono ?_;rintro e w4 ⟨v4,rfl,⟨D,slp,slo,xs,rfl,hD⟩,hB4,F4⟩;have hs3:=unh HS3;have hs2:=unh HS2;have WR:=PostB.okC (WC w4 _ D _ b1 _ _ _ slp slo _ xs (hGb _ w3 w4 (by omega) (by omega) hG3 F4) (by omega) (by omega) hD hB4 hdo) q2;clear hs3 hs2
     go_wp2_with fail
     refine WR.mono ?_;rintro e w5 ⟨v5,rfl,⟨rfl,hl9⟩,hB5,F5⟩;have hs3:=unh HS3;have hs2:=unh HS2;have F45:=F4.trans F5;have a5:=(F45.block w2.heap.size (by omega) (by omega)).trans a3;have y5:=(F45.block (w2.heap.size+1) (by omega) (by omega)).trans y3;have cA5:w5.cell? ⟨w2.heap.size,0,none⟩=some (.int .i64 (o:Int)):=by simp[World.cell?,a5]
     have hlb:(bstr t).size=t.length:=by show t.toArray.size=_;simp
     clear hs3 hs2
     go_wp2_with fail
     refine (take_no w5 w2.heap.size o (bstr t).size 13 0 cA5 y5 (by omega)).mono ?_;rintro e w6 ⟨rfl,rfl⟩;exact⟨rfl,PostN.no (unh HN) (Fb.below hBw3 F45 (by omega))⟩
    ·have HN:Hid (rinseR U nt f (s:Int) (o:Int)=.ok t b2):=(unh HE).trans (by rw[q1];simp only[q2];rw[if_neg hlen])
     go_wp2_with fail
     refine RD'.mono ?_;rintro e w4 ⟨v4,rfl,⟨D,slp,slo,xs,rfl,hD⟩,hB4,F4⟩;have hs3:=unh HS3;have hs2:=unh HS2;have WR:=PostB.okC (WC w4 _ D _ b1 _ _ _ slp slo _ xs (hGb _ w3 w4 (by omega) (by omega) hG3 F4) (by omega) (by omega) hD hB4 hdo) q2;clear hs3 hs2
     go_wp2_with fail
     refine WR.mono ?_;rintro e w5 ⟨v5,rfl,⟨rfl,hl9⟩,hB5,F5⟩;have hs3:=unh HS3;have hs2:=unh HS2;have F45:=F4.trans F5;have a5:=(F45.block w2.heap.size (by omega) (by omega)).trans a3;have y5:=(F45.block (w2.heap.size+1) (by omega) (by omega)).trans y3;have cA5:w5.cell? ⟨w2.heap.size,0,none⟩=some (.int .i64 (o:Int)):=by simp[World.cell?,a5]
     have hlb:(bstr t).size=t.length:=by show t.toArray.size=_;simp
     clear hs3 hs2;have fA5:w5.frozen? ⟨w2.heap.size,0,none⟩=false:=by simp[World.frozen?,a5]
     go_wp2_with fail
     refine (take_ok w5 w2.heap.size o (bstr t).size cA5 fA5 (by omega) (by omega)).mono ?_;rintro e w6 ⟨rfl,hw6⟩
     have F6:Below w.heap.size w w6:=by
      have h5:=Fb.below hBw3 F45 (by omega:w.heap.size<=w1.heap.size);rw[← hw6];exact⟨h5.os,h5.tape,h5.output,by have:=h5.size;simp;omega,fun k hk=>(Below.heap_setCell _ _ _ _ (by show k≠w2.heap.size;have:=unh HS2;omega)).trans (h5.block k hk)⟩
     clear hw6
     go_wp2_with fail
     go_ret
     exact PostN.ok (unh HN) rfl F6
   ·have HN:Hid (rinseR U nt f (s:Int) (o:Int)=.no y):=(unh HE).trans (by rw[q1];simp only[q2])
    go_wp2_with fail
    refine RD'.mono ?_;rintro e w4 ⟨v4,rfl,⟨D,slp,slo,xs,rfl,hD⟩,hB4,F4⟩;have hs3:=unh HS3;have hs2:=unh HS2;have WR:=PostB.noC (WC w4 _ D _ b1 _ _ _ slp slo _ xs (hGb _ w3 w4 (by omega) (by omega) hG3 F4) (by omega) (by omega) hD hB4 hdo) q2;clear hs3 hs2
    go_wp2_with fail
    refine WR.mono ?_;rintro e w5 ⟨rfl,F5⟩;exact⟨rfl,PostN.no (unh HN) (Fb.below hBw3 (F4.trans F5) (by omega))⟩
  ·have HN:Hid (rinseR U nt f (s:Int) (o:Int)=.no y):=(unh HE).trans (by rw[q1])
   go_wp2_with fail
   refine (PostB.noC RD q1).mono ?_;rintro e w4 ⟨rfl,F4⟩;exact⟨rfl,PostN.no (unh HN) (Fb.below hBw3 F4 (by omega))⟩
end
section
open Go.RowKit
variable {w w':World}{X:Nat}{s:ByteArray}
theorem len_data (s:ByteArray):s.data.toList.length=s.size:=Array.length_toList
end
section
open Go.RowKit
attribute [local go_sem] Oper.semAt_some
variable {w w':World}{X:Nat}{s:ByteArray}
def digsOk (l:List UInt8):Prop:=(∀ c ∈ l,isDig c=true)/\l≠[]/\l.length<=6
structure NumT where
 neg:Bool
 ds:List UInt8
 fr:Option (List UInt8)
def NumT.ok (e:NumT):Prop:=digsOk e.ds/\∀ fs,e.fr=some fs->digsOk fs
def NumT.b (e:NumT):List UInt8:=(if e.neg then [45] else [])++(e.ds++match e.fr with
 | none=>[]
 | some fs=>46::fs)
theorem digsOk.cons {l:List UInt8}(h:digsOk l):∃ c l',l=c::l'/\isDig c=true:=by
 obtain⟨h1,h2,_⟩:=h;cases l with
 | nil=>exact absurd rfl h2
 | cons c l'=>exact⟨c,l',rfl,h1 c (by simp)⟩
end
section
theorem dec_digs (u:Nat):(∀ c ∈ Lib.decDigits u,isDig c=true)/\Lib.decDigits u≠[]/\digV (Lib.decDigits u) 0=u:=by
 induction u using Nat.strongRecOn with
 | _ u ih=>
  have hdig:∀ d,d<10->isDig (UInt8.ofNat (48+d))=true/\(UInt8.ofNat (48+d)).toNat-48=d:=by decide
  by_cases h:u<10
  ·rw[Lib.decDigits,dif_pos h];refine⟨fun c hc=>?_,by simp,?_⟩
   ·have:c=UInt8.ofNat (48+u):=by simpa using hc
    rw[this];exact (hdig u h).1
   ·simp only[digV];rw[(hdig u h).2];omega
  ·rw[Lib.decDigits,dif_neg h];obtain⟨h1,h2,h3⟩:=ih (u/10) (by omega);refine⟨fun c hc=>?_,by simp,?_⟩
   ·rcases List.mem_append.1 hc with h4|h4
    ·exact h1 c h4
    ·have:c=UInt8.ofNat (48+u%10):=by simpa using h4
     rw[this];exact (hdig _ (Nat.mod_lt _ (by decide))).1
   ·rw[digV_app,h3];simp only[digV];rw[(hdig _ (Nat.mod_lt _ (by decide))).2];omega
theorem itoaB_list (n:Nat):(itoaB n).data.toList=Lib.decDigits n:=by
 unfold itoaB Lib.itoa;rw[if_neg (by omega)];simp
theorem ntB_txt (neg:Bool) (m k:Nat) (h:leafOk (.num neg m k)):∃ e:NumT,e.ok/\(ntB neg m k).data.toList=e.b:=by
 obtain⟨h1,h2⟩:m<10^6*10^k/\k<=3:=h;unfold ntB
 by_cases hm:m=0
 ·rw[if_pos hm];exact⟨⟨false,[48],none⟩,⟨⟨by decide,by simp,by decide⟩,fun fs e=>by cases e⟩,rfl⟩
 ·rw[if_neg hm]
  have hnd:Lib.nDigits m<=6+k:=by
   rw[← Nat.pow_add,show 6+k=5+k+1 by omega] at h1;have:=nDigits_up (5+k) m h1;omega
  unfold numT;obtain⟨t,ht⟩:∃ t,(Lib.decDigits m).take (sl (Lib.decDigits m) (Lib.nDigits m))=t:=⟨_,rfl⟩;have hdg:∀ c ∈ t,isDig c=true:=fun c hc=>(dec_digs m).1 c (by rw[← ht] at hc;exact List.mem_of_mem_take hc)
  have htl:t.length<=Lib.nDigits m:=by rw[← ht,List.length_take,decDigits_len];omega
  rw[ht];obtain⟨dp,hdp⟩:∃ dp:Int,(Lib.nDigits m:Int)-(k:Int)=dp:=⟨_,rfl⟩;rw[hdp];have hrep:∀ n (c:UInt8),c ∈ List.replicate n (48:UInt8)->isDig c=true:=fun n c hc=>by rw[(List.mem_replicate.1 hc).2];decide
  refine⟨⟨neg,if 0<dp then t.take dp.toNat++List.replicate (dp.toNat-t.length) 48 else [48],if dp<t.length then some (List.replicate (-dp).toNat 48++t.drop dp.toNat) else none⟩,⟨?_,?_⟩,?_⟩
  ·show digsOk (if 0<dp then t.take dp.toNat++List.replicate (dp.toNat-t.length) 48 else [48]);split
   ·refine⟨fun c hc=>?_,fun e=>?_,?_⟩
    ·rcases List.mem_append.1 hc with h4|h4
     ·exact hdg c (List.mem_of_mem_take h4)
     ·exact hrep _ c h4
    ·have:=congrArg List.length e;rw[List.length_append,List.length_take,List.length_replicate,List.length_nil] at this;omega
    ·rw[List.length_append,List.length_take,List.length_replicate];omega
   ·exact⟨by decide,by simp,by decide⟩
  ·intro fs e;have e':(if dp<t.length then some (List.replicate (-dp).toNat 48++t.drop dp.toNat) else none)=some fs:=e;split at e'
   ·cases e';refine⟨fun c hc=>?_,fun e=>?_,?_⟩
    ·rcases List.mem_append.1 hc with h4|h4
     ·exact hrep _ c h4
     ·exact hdg c (List.mem_of_mem_drop h4)
    ·have:=congrArg List.length e;rw[List.length_append,List.length_replicate,List.length_drop] at this;simp at this;omega
    ·rw[List.length_append,List.length_replicate,List.length_drop];omega
   ·cases e'
  ·show (bstr (textF neg t dp)).data.toList=_;unfold bstr textF NumT.b;rw[List.append_assoc]
   by_cases hx:dp<(t.length:Int)
   ·simp only[if_pos hx]
   ·simp only[if_neg hx]
theorem putR_out:∀ (ts:List ByteArray) {out out':List UInt8}{b b':Nat},putR ts out b=.ok out' b'->out'=out++ts.flatMap (fun t=>t.data.toList)/\(out.length<=9000->out'.length<=9000)
 | [],out,out',b,b',h=>by simp only[putR,Res.ok.injEq] at h;rw[← h.1];simp
 | t::ts,out,out',b,b',h=>by
  simp only[putR] at h;split at h
  ·cases h
  ·split at h
   ·cases h
   ·rename_i h1 h2;obtain⟨e,hl⟩:=putR_out ts h;refine⟨by rw[e,List.flatMap_cons,List.append_assoc],fun ho=>hl ?_⟩;rw[List.length_append,len_data];omega
def leafB (nt:Bool->Nat->Nat->ByteArray) (v:Val):List UInt8:=((leafT nt v).getD []).flatMap (fun t=>t.data.toList)
def elT (nt:Bool->Nat->Nat->ByteArray):Bool->List Val->List UInt8
 | _,[]=>[]
 | f,v::l=>(if f then [] else [32])++(leafB nt v++elT nt false l)
theorem elemsW_out (nt:Bool->Nat->Nat->ByteArray):∀ (l:List Val) (i:Nat) {out out':List UInt8}{b b':Nat},elemsW nt i l out b=.ok out' b'->out'=out++elT nt (decide (i=0)) l/\(out.length<=9000->out'.length<=9000)
 | [],i,out,out',b,b',h=>by simp only[elemsW,Res.ok.injEq] at h;rw[← h.1];simp[elT]
 | v::l,i,out,out',b,b',h=>by
  simp only[elemsW] at h
  rcases hq:(if 0<i then putR [spB] out b else .ok out b) with⟨o1,b1⟩|y
  ·rw[hq] at h;simp only at h
   rcases hq2:putR ((leafT nt v).getD []) o1 b1 with⟨o2,b2⟩|y
   ·rw[hq2] at h;obtain⟨e1,l1⟩:=elemsW_out nt l (i+1) h;obtain⟨e2,l2⟩:=putR_out _ hq2
    by_cases hi:0<i
    ·rw[if_pos hi] at hq;obtain⟨e3,l3⟩:=putR_out _ hq;refine⟨?_,fun ho=>l1 (l2 (l3 ho))⟩;rw[e1,e2,e3];have e4:decide (i=0)=false:=by simp;omega
     have e5:decide (i+1=0)=false:=by simp
     rw[e4,e5];simp[elT,leafB,spB,List.append_assoc]
    ·rw[if_neg hi] at hq;simp only[Res.ok.injEq] at hq;refine⟨?_,fun ho=>l1 (l2 (by rw[← hq.1];exact ho))⟩;rw[e1,e2,← hq.1];have e4:decide (i=0)=true:=by simp;omega
     have e5:decide (i+1=0)=false:=by simp
     rw[e4,e5];simp[elT,leafB,List.append_assoc]
   ·rw[hq2] at h;cases h
  ·rw[hq] at h;cases h
def valB (nt:Bool->Nat->Nat->ByteArray):Val->List UInt8
 | .arr l=>91::(elT nt true l++[93])
 | v=>leafB nt v
theorem valW_out (nt:Bool->Nat->Nat->ByteArray) (v:Val) {out out':List UInt8}{b b':Nat}(h:valW nt v out b=.ok out' b'):out'=out++valB nt v/\(out.length<=9000->out'.length<=9000):=by
 cases v
 case arr l=>
  simp only[valW,arrW] at h
  rcases hq:putR [⟨#[91]⟩] out b with⟨o1,b1⟩|y
  ·rw[hq] at h;simp only at h
   rcases hq2:elemsW nt 0 l o1 b1 with⟨o2,b2⟩|y
   ·rw[hq2] at h;simp only at h;obtain⟨e1,l1⟩:=putR_out _ hq;obtain⟨e2,l2⟩:=elemsW_out nt l 0 hq2;obtain⟨e3,l3⟩:=putR_out _ h;refine⟨?_,fun ho=>l3 (l2 (l1 ho))⟩;rw[e3,e2,e1];simp[valB,List.append_assoc]
   ·rw[hq2] at h;cases h
  ·rw[hq] at h;cases h
 all_goals (simp only[valW] at h;exact putR_out _ h)
def fldB (nt:Bool->Nat->Nat->ByteArray):List (ByteArray×Val)->List UInt8
 | []=>[]
 | f::l=>47::(f.1.data.toList++(valB nt f.2++fldB nt l))
theorem fieldsW_out (nt:Bool->Nat->Nat->ByteArray):∀ (l:List (ByteArray×Val)) {out out':List UInt8}{b b':Nat},fieldsW nt l out b=.ok out' b'->out'=out++fldB nt l/\(out.length<=9000->out'.length<=9000)
 | [],out,out',b,b',h=>by simp only[fieldsW,Res.ok.injEq] at h;rw[← h.1];simp[fldB]
 | (k,v)::l,out,out',b,b',h=>by
  simp only[fieldsW] at h
  rcases hq:putR [⟨#[47]⟩,k] out b with⟨o1,b1⟩|y
  ·rw[hq] at h;simp only at h
   rcases hq2:valW nt v o1 b1 with⟨o2,b2⟩|y
   ·rw[hq2] at h;obtain⟨e1,l1⟩:=putR_out _ hq;obtain⟨e2,l2⟩:=valW_out nt v hq2;obtain⟨e3,l3⟩:=fieldsW_out nt l h;refine⟨?_,fun ho=>l3 (l2 (l1 ho))⟩;rw[e3,e2,e1];simp[fldB,List.append_assoc]
   ·rw[hq2] at h;cases h
  ·rw[hq] at h;cases h
def stmB (ty st:ByteArray):List UInt8:=if ty=textB then 126::((itoaB st.size).data.toList++58::st.data.toList) else []
theorem objW_out (nt:Bool->Nat->Nat->ByteArray) {n:Nat}{ty st:ByteArray}{l:List (ByteArray×Val)}{out out':List UInt8}{b b':Nat}(h:objW nt n ty l st out b=.ok out' b') :
  out'=out++((itoaB n).data.toList++([32,60,60,47,84,121,112,101,47]++(ty.data.toList++(fldB nt l++(62::62::(stmB ty st++[59,10]))))))/\(out.length<=9000->out'.length<=9000):=by
 unfold objW at h
 rcases hq:putR [itoaB n,⟨#[32,60,60,47,84,121,112,101,47]⟩,ty] out b with⟨o1,b1⟩|y
 ·rw[hq] at h;simp only at h
  rcases hq2:fieldsW nt l o1 b1 with⟨o2,b2⟩|y
  ·rw[hq2] at h;simp only at h
   rcases hq3:putR [⟨#[62,62]⟩] o2 b2 with⟨o3,b3⟩|y
   ·rw[hq3] at h;simp only at h;obtain⟨e1,l1⟩:=putR_out _ hq;obtain⟨e2,l2⟩:=fieldsW_out nt l hq2;obtain⟨e3,l3⟩:=putR_out _ hq3
    rcases hq4:(if ty=textB then putR [⟨#[126]⟩,itoaB st.size,⟨#[58]⟩,st] o3 b3 else .ok o3 b3) with⟨o4,b4⟩|y
    ·rw[hq4] at h;simp only at h;obtain⟨e5,l5⟩:=putR_out _ h
     have h4:o4=o3++stmB ty st/\(o3.length<=9000->o4.length<=9000):=by
      unfold stmB;split at hq4
      ·rename_i ht;obtain⟨e4,l4⟩:=putR_out _ hq4;rw[if_pos ht];exact⟨by rw[e4];simp,l4⟩
      ·rename_i ht;simp only[Res.ok.injEq] at hq4;rw[if_neg ht,← hq4.1];exact⟨by simp,id⟩
     refine⟨?_,fun ho=>l5 (h4.2 (l3 (l2 (l1 ho))))⟩;rw[e5,h4.1,e3,e2,e1];simp[List.append_assoc]
    ·rw[hq4] at h;cases h
   ·rw[hq3] at h;cases h
  ·rw[hq2] at h;cases h
 ·rw[hq] at h;cases h
end
end Go.Proofs.YtgffljllfenhkaaGreatDoor
