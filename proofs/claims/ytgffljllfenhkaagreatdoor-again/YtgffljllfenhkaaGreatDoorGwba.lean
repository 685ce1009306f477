import Derived.Maps.OwnIn
import Derived.RangeFuncNested
import Derived.RangeFuncBound
import Derived.RangeFuncCalls
import Derived.RangeFuncLeaves
import Derived.Shelf.Abstract
import Derived.Shelf.RegionOpen
import Derived.OwnWalkIn
import Derived.TacticsInMore
import Derived.LoopNIn
import Derived.LoopIn
import Derived.Test.YtgffljllfenhkaaGreatDoorGwaa
import Derived.Test.YtgffljllfenhkaaGreatDoorGwah
import Derived.Test.YtgffljllfenhkaaGreatDoorGwaj
import Derived.Test.YtgffljllfenhkaaGreatDoorGwak
import Derived.Test.YtgffljllfenhkaaGreatDoorGwal
import Derived.Test.YtgffljllfenhkaaGreatDoorGwaw
import Derived.Test.YtgffljllfenhkaaGreatDoorGwaz
namespace Go.Proofs.YtgffljllfenhkaaGreatDoor
section
open Go.RowKit
variable {w w0 w':World}{B D DV OL NV M base lo at_ root:Nat}{pl:List Nat}{slp slo:Value}{os:List Obj1}{xs:List Value}{S S':Nat->Prop}
theorem storeI_row {F:Fence}{n:Nat}{P:Program}{ops:Array Oper}{rest:List Oper}{o:Oper}{a:Act}{w:World}{Q:Exit->Act->World->Prop}(hgd:o.guard=none) (ty:TypeId) (x y:Operand) (ho:o.op=.store ty x y)
  (g:Nat) (cells:Array Value) (hx:a.eval x=.pointer (some ⟨g,0,none⟩)) (hy:a.eval y=.agg cells) (t:TypeId) (old:Array Value) (hg:w.heap[g]?=some (.cells old t (0,0))) (hi:(P.info? ty).map (·.size)=some cells.size)
  (hold:old.size=cells.size) (h1:cells.all (·.oneCell')=true) (h:wpListIn F n P ops Q rest (a.put o.dst undef) (w.setRow g cells)):wpListIn F n P ops Q (o::rest) a w:=by
 refine wpListIn_plain hgd fun K hK=>?_
 unfold Oper.wpIn;refine⟨by simp[Oper.about,ho],?_⟩;rw[Oper.semAt_plain F _ _ (by rw[ho];intro c hc;cases hc)];unfold execOp;simp only[ho,hx,hy,Instr.storeAt,Instr.sureAddr,Sem.run_bind,Sem.run_pure,Result.andThen_ok,run_storeVar_row w g t ty old cells hg hi hold h1];exact hK _ _ h
theorem loadI_mid {F:Fence}{n:Nat}{ops:Array Oper}{rest:List Oper}{op:Oper}{a:Act}{w:World}{Q:Exit->Act->World->Prop}(hgd:op.guard=none) (ty:TypeId) (x:Operand) (ho:op.op=.load ty x)
  (b o:Nat) (hx:a.eval x=.pointer (some ⟨b,o,none⟩)) (cs:List Value) (hc:w.rangeAt b o cs) (hA:(Tryz.prog.underlying ty).map isAg=some true) (hi:(Tryz.prog.info? ty).map (·.size)=some cs.length)
  (h:wpListIn F n Tryz.prog ops Q rest (a.put op.dst (.agg cs.toArray)) w):wpListIn F n Tryz.prog ops Q (op::rest) a w:=by
 obtain⟨d,hu,hd0⟩:=isStruct hA;have hd:d.isRow=true:=by cases d <;> first | rfl | cases hd0
 refine wpListIn_plain hgd fun K hK=>?_
 unfold Oper.wpIn;refine⟨by simp[Oper.about,ho],?_⟩;rw[Oper.semAt_plain F _ _ (by rw[ho];intro c hc;cases hc)];unfold execOp;simp only[ho,hx,Instr.loadAt,Instr.sureAddr,Sem.run_bind,Sem.run_pure,Result.andThen_ok,run_loadVar_mid w b o ty cs d hc hu hd hi];exact hK _ _ h
theorem Nd.put2 {o:Value}{olds:List Nat}{b b':Nat}(h:Nd w B D DV OL NV M base o olds b) (hs:w.heap.size<=w'.heap.size) (hk:∀ k,k=DV\/k=D\/k=OL\/k=NV\/k=M\/o.ownBlock=some k->w'.heap[k]?=w.heap[k]?) (hb:Bud w' B b'):Nd w' B D DV OL NV M base o olds b':=by
 obtain⟨q0,q1,q2,q3,hd⟩:=h.d;have hl:=h.n.lt;obtain⟨n,hn,hm⟩:=h.n.map
 exact⟨⟨(hk OL (.inr (.inr (.inl rfl)))).trans h.n.ol,(hk NV (.inr (.inr (.inr (.inl rfl))))).trans h.n.nv,ownsRow_blockI h.n.row (fun g hg=>hk g (.inr (.inr (.inr (.inr (.inr hg)))))),⟨n,hn,hm.of_block (hk M (.inr (.inr (.inr (.inr (.inl rfl))))))⟩,h.n.hl,⟨by omega,by omega,by omega,by omega⟩,h.n.ne⟩,
  hb,(hk DV (.inl rfl)).trans h.dv,⟨q0,q1,q2,q3,(hk D (.inr (.inl rfl))).trans hd⟩,h.ne,h.ne2⟩
section
variable {W W':World}{Q R bw PL N:Nat}{lr lr':Loop}{o ow sp:Value}{olds pls:List Nat}{out:List UInt8}{b:Nat}
theorem Jw.below (h:Jw w0 W B D DV OL NV M base Q R bw PL N lr o ow sp olds pls out b) (hB:Below W.heap.size W W'):Jw w0 W' B D DV OL NV M base Q R bw PL N lr o ow sp olds pls out b:=
 ⟨h.nd.below hB,h.wr.below hB,(hB.block PL h.pv.lt).trans h.pv,ownsRow_blockI h.pr (fun g hg=>hB.block g (World.ownsRow.lt h.pr g hg).2),h.os,h.fb.trans (Fb.of_below hB),(hB.block N (Array.getElem?_eq_some_iff.1 h.df).1).trans h.df,(hB.block (N+1) (Array.getElem?_eq_some_iff.1 h.lp).1).trans h.lp⟩
theorem Jw.turn (hs:Jst w0.heap.size B D DV OL NV M base Q R bw PL N) (h:Jw w0 W B D DV OL NV M base Q R bw PL N lr o ow sp olds pls out b):Jw w0 (W.putObj (N+1) (.loop lr')) B D DV OL NV M base Q R bw PL N lr' o ow sp olds pls out b:=by
 have h1:=hs.lo;have h2:=hs.hi;have h3:=hs.ne;have hk:∀ k,k≠N+1->(W.putObj (N+1) (.loop lr')).heap[k]?=W.heap[k]?:=fun k hk=>World.putObj_heap_other hk
 have hown:=World.ownsRow.lt h.nd.n.row;have hsp:=h.spNe hs;obtain⟨a1,a2,a3,a4,a5,a6,a7,a8,a9,a10⟩:=h.owNe;refine⟨h.nd.put2 (by simp) (fun k hk'=>hk k ?_) (h.nd.bud.of_blocks (fun k hk'=>hk k (by omega))),h.wr.put (by simp) (fun k hk'=>hk k ?_) (h.nd.bud.of_blocks (fun k hk'=>hk k (by omega))),(hk PL (by omega)).trans h.pv,ownsRow_blockI h.pr (fun g hg=>hk g (by have:=hsp g hg;omega)),h.os,?_,(hk N (by omega)).trans h.df,World.putObj_heap_same (Array.getElem?_eq_some_iff.1 h.lp).1⟩
 ·rcases hk' with rfl|rfl|rfl|rfl|rfl|h4
  ·omega
  ·omega
  ·omega
  ·omega
  ·omega
  ·have:=(hown k h4).1;omega
 ·rcases hk' with rfl|rfl|rfl|h4
  ·omega
  ·omega
  ·omega
  ·exact fun e=>a7 (e ▸ h4)
 ·exact⟨h.fb.os,h.fb.tape,h.fb.output,by rw[World.putObj_size];exact h.fb.size,fun k hk' hb=>(hk k (by omega)).trans (h.fb.block k hk' hb)⟩
end
def KeepR (W:World) (s1 s2:Nat) (fs:List (ByteArray×Val)) (af:Option Addr):Prop:=
 ∀ i f,fs[i]?=some f->∃ gf kk xx tt rr aa nn cc mm,af=some ⟨gf,0,none⟩/\(s1<=gf/\gf<s2)/\W.rangeAt gf (i*7) [.string f.1,.int .i64 ((kk:Nat):Int),.float .f64 xx,.string tt,.int .i64 ((rr:Nat):Int),.slice aa nn cc,.map mm]/\RepK W (fun b=>s1<=b/\b<s2) f.2 (vC kk xx tt rr (.slice aa nn cc) (.map mm))
theorem KeepR.kept {W W':World}{s1 s2:Nat}{fs:List (ByteArray×Val)}{af:Option Addr}(h:KeepR W s1 s2 fs af) (hk:∀ k,s1<=k->k<s2->W'.heap[k]?=W.heap[k]?):KeepR W' s1 s2 fs af:=by
 intro i f hf;obtain⟨gf,kk,xx,tt,rr,aa,nn,cc,mm,e,hg,hr,hR⟩:=h i f hf;exact⟨gf,kk,xx,tt,rr,aa,nn,cc,mm,e,hg,fun j u hj=>(World.cell?_of_block (w:=W) (hk gf hg.1 hg.2)).trans (hr j u hj),RepK.kept (fun b hb=>⟨hb,hk b hb.1 hb.2⟩) f.2 hR⟩
def BodyQ (w0:World) (B D DV OL NV M base Q R bw PL N:Nat) (lr:Loop) (o:Value) (olds pls:List Nat) (out:List UInt8) (r:Res (List UInt8)):Exit->Act->World->Prop
 | .normal,_,W'=>∃ out' b',r=.ok out' b'/\∃ ow' sp',Jw w0 W' B D DV OL NV M base Q R bw PL N lr o ow' sp' olds (pls++[out.length]) out' b'
 | .panic c,a,W'=>a.defers=[]/\∃ y,r=.no y/\c=thrownY y/\Fb B w0 W'/\W'.heap[N]?=some (.deferred (some []))
 | _,_,_=>False
set_option maxHeartbeats 1000000 in
theorem range_reach {nt:Bool->Nat->Nat->ByteArray}{g:Operand}{ps:Array Tmp}{assign body:Code}{Qp:Exit->Act->World->Prop}{a:Act}{m:Nat}{Q R bw PL:Nat}{ow:Value}{out0:List UInt8}{b0:Nat}
  (h0:Doc w0 D B lo at_ pl root slp slo os xs) (hlo:B+1<lo) (h31:os.length<=31) (hroot:root<os.length) (hVO:∀ o ∈ os,VO o.v/\o.stream.size<=9000)
  (hg:a.eval g=.func (.func 94) #[] #[.pointer (some ⟨DV,0,none⟩)]) (hps:ps.size=2)
  (hst:∀ NV,w.heap.size+2+3<=NV->Jst w0.heap.size B D DV (w.heap.size+2+1) NV (w.heap.size+2+2) (w.heap.size+2) Q R bw PL w.heap.size)
  (hwr:Wr w Q R B bw ow out0 b0) (hpv:At1 w PL (.slice none 0 0) 52) (hfb:Fb B w0 w) (hdv:At1 w DV (.pointer (some ⟨D,0,none⟩)) 75)
  (a₁:Nat->Nat->Array Value->Act)
  (hassign:∀ (l i:Nat) (cs:Array Value) (W:World) (Kp:Act->World->Prop),cs.size=3->cs.all (·.oneCell')=true->Kp (a₁ i W.heap.size cs) (W.alloc (.cells cs 111)) ->
   assign.wpIn (Fence.wide.inRound l) m Tryz.prog (Exit.then Kp (fun _ _ _=>False)) { tmps:=(ps.zip #[.int .i64 ((i+1:Nat):Int),.agg cs]).foldl (fun t (p,v)=>t.setIfInBounds p v) a.tmps,defers:=[] } W)
  (hbody:∀ (l i K s1 s2 NV:Nat) (lr:Loop) (o ow sp:Value) (olds pls:List Nat) (out:List UInt8) (b:Nat) (W:World) (ob:Obj1) (fs:List (ByteArray×Val)) (af:Option Addr) (cf:Nat),
   i<=31->ob ∈ os->pls.length=i->Jst w0.heap.size B D DV (w.heap.size+2+1) NV (w.heap.size+2+2) (w.heap.size+2) Q R bw PL w.heap.size ->
   Jw w0 W B D DV (w.heap.size+2+1) NV (w.heap.size+2+2) (w.heap.size+2) Q R bw PL w.heap.size lr o ow sp olds pls out b->(∀ g,ow.ownBlock=some g->g<s1)->(∀ g,sp.ownBlock=some g->g<s1)->w.heap.size+6<=s1->s1<=s2->s2<=K ->
   W.heap[K]?=some (.cells #[.string (tname ob),.slice af fs.length cf,.string ob.stream] 111 (0,0))->KeepR W s1 s2 fs af->(∀ f ∈ fs,f.1.size<=100/\keptOk f.2)->fs.length<=3 ->
   body.wpIn (Fence.wide.inRound l) m Tryz.prog (BodyQ w0 B D DV (w.heap.size+2+1) NV (w.heap.size+2+2) (w.heap.size+2) Q R bw PL w.heap.size lr o olds pls out (objW nt (i+1) (tname ob) fs ob.stream out b)) (a₁ i K #[.string (tname ob),.slice af fs.length cf,.string ob.stream]) W)
  (hdone:∀ (W:World) (NV:Nat) (lr:Loop) (o ow sp:Value) (olds pls:List Nat) (out:List UInt8) (b:Nat),reachW nt os 40 0 [root] [] out0 b0=.ok (pls,out) b->Jst w0.heap.size B D DV (w.heap.size+2+1) NV (w.heap.size+2+2) (w.heap.size+2) Q R bw PL w.heap.size->Jw w0 W B D DV (w.heap.size+2+1) NV (w.heap.size+2+2) (w.heap.size+2) Q R bw PL w.heap.size lr o ow sp olds pls out b ->
   Qp .normal { a with defers:={ target:=.collected w.heap.size,args:=#[] }::a.defers } W)
  (hpanic:∀ (W:World) (y:Why),reachW nt os 40 0 [root] [] out0 b0=.no y->Fb B w0 W->W.heap[w.heap.size]?=some (.deferred (some []))->Qp (.panic (thrownY y)) { a with defers:={ target:=.collected w.heap.size,args:=#[] }::a.defers } W) :
  wpF 39 Tryz.prog (Code.rangeFunc g ps assign body) Qp a w:=by
 obtain⟨rec,hrec⟩:∃ rec:LoopState->Option Code->Loop,rec=fun st pe=>{ state:=st,pending:=pe,fn:=39,tmps:=a.tmps,params:=ps,assign,body,defers:=w.heap.size }:=⟨_,rfl⟩
 obtain⟨W1,hW1⟩:∃ W1,(w.alloc (.deferred (some []))).alloc (.loop (rec .ready none))=W1:=⟨_,rfl⟩;have hL1:W1.heap[w.heap.size+1]?=some (.loop (rec .ready none)):=by rw[← hW1];exact heap_alloc2_new w _ _
 have hD1:W1.heap[w.heap.size]?=some (.deferred (some [])):=by rw[← hW1];exact heap_alloc2_old w _ _
 have hB1:Below w.heap.size w W1:=by rw[← hW1];exact ((Below.refl _ _).alloc (Nat.le_refl _) _).alloc (by simp) _
 have hz1:W1.heap.size=w.heap.size+2:=by rw[← hW1];simp
 refine wpF_range (n:=m) (l:=w.heap.size+1) (mark:=[{ target:=.collected w.heap.size,args:=#[] }]) (w₁:=W1) (w₁':=W1) (w₂:=W1) (d:={ target:=.fn (.func 94) #[.pointer (some ⟨DV,0,none⟩)],args:=#[.func (.yield (w.heap.size+1)) #[] #[]] })
  (f':=94) (args:=#[.func (.yield (w.heap.size+1)) #[] #[],.pointer (some ⟨DV,0,none⟩)]) ?_ ?_ ?_ ?_
 ·rw[← hW1,hrec];exact run_enterLoop_outer _ _ _ _ _
 ·simp only[resolve,hg];simp[go_sem]
 ·simp[invoke,go_sem]
 ·refine callsIn_wide.2 ((reached1_any (nt:=nt) (m:=m) (N:=w.heap.size) (lr:=rec .ready none) h0 hlo h31 hroot hVO W1 (by rw[hz1];exact hst) (hwr.below hB1) ((hB1.block PL hpv.lt).trans hpv) (hfb.trans (Fb.of_below hB1)) hD1 hL1 ((hB1.block DV hdv.lt).trans hdv) ?_).mono ?_)
  ·intro NV hNV;rw[hz1] at hNV ⊢;have hs:=hst NV hNV;have hs1:=hs.lo;have hs2:=hs.hi;intro i o ow sp olds pls out b V1 V2 ob fs val hi hob hpl hJ how hsp hv1 hv2 hK hfs hfl;obtain⟨af,cf,rfl,hrows⟩:=hK;have hy:=run_yield (P:=Tryz.prog) (args:=#[.int .i64 ((i+1:Nat):Int),.agg #[.string (tname ob),.slice af fs.length cf,.string ob.stream]]) hJ.lp (by rw[hrec];exact hps.symm);rw[hrec] at hy;refine⟨39,_,assign,body,hy,roundIn_panics Tryz.func39 (hassign _ i _ V2 _ rfl (by simp[Value.oneCell']) ?_)⟩;obtain⟨V3,hV3⟩:∃ V3,V2.alloc (.cells #[.string (tname ob),.slice af fs.length cf,.string ob.stream] 111)=V3:=⟨_,rfl⟩;have hB3:Below V2.heap.size V2 V3:=by rw[← hV3];exact (Below.refl _ _).alloc (Nat.le_refl _) _
   have hK3:V3.heap[V2.heap.size]?=some (.cells #[.string (tname ob),.slice af fs.length cf,.string ob.stream] 111 (0,0)):=by rw[← hV3];exact heap_alloc_new V2 _
   rw[hV3];clear hV3;have hJ3:=hJ.below hB3;have hb:=run_beginRound (P:=Tryz.prog) hJ3.lp (by rw[hrec]);refine⟨_,hb,?_⟩;have hJ4:=hJ3.turn (lr':={ rec .ready none with state:=.busy }) hs;have hk4:∀ k,k≠w.heap.size+1->(V3.putObj (w.heap.size+1) (.loop { rec .ready none with state:=.busy })).heap[k]?=V3.heap[k]?:=fun k hk=>World.putObj_heap_other hk
   refine wpIn_mono (hbody _ i V2.heap.size V1.heap.size V2.heap.size NV _ o ow sp olds pls out b _ ob fs af cf hi hob hpl hs hJ4 how hsp (by omega) hv2 (Nat.le_refl _) ((hk4 _ (by omega)).trans hK3) ?_ hfs hfl) ?_
   ·intro j f hf;obtain⟨gf,kk,xx,tt,rr,aa,nn,cc,mm,e,hg1,hr,hR⟩:=hrows j f hf;have hk:∀ k,V1.heap.size<=k->k<V2.heap.size->(V3.putObj (w.heap.size+1) (.loop { rec .ready none with state:=.busy })).heap[k]?=V2.heap[k]?:=fun k h1 h2=>(hk4 k (by omega)).trans (hB3.block k h2)
    exact⟨gf,kk,xx,tt,rr,aa,nn,cc,mm,e,hg1,fun j u hj=>(World.cell?_of_block (w:=V2) (hk gf hg1.1 hg1.2)).trans (hr j u hj),RepK.kept (fun b hb=>⟨hb,hk b hb.1 hb.2⟩) f.2 hR⟩
   ·intro e a3 W5 hp;cases e with
    | normal=>
     obtain⟨out',b',hr,ow',sp',hJ5⟩:=hp;have hend:=run_endRound (P:=Tryz.prog) none hJ5.lp;refine⟨_,_,hend,?_⟩;rw[hr];refine⟨rfl,ow',sp',?_⟩;have hJ6:=hJ5.turn (lr':=rec .ready none) hs;rw[hrec] at hJ6 ⊢;exact hJ6
    | panic c=>
     obtain⟨hd,y,hr,rfl,hF,hD⟩:=hp;refine⟨hd,?_⟩;rw[hr];exact⟨rfl,hF,hD⟩
    | ret=>exact hp.elim
    | exit id=>exact hp.elim
    | goto t=>exact hp.elim
    | outgrown=>exact hp.elim
  ·intro e W2 hp
   rcases hq:reachW nt os 40 0 [root] [] out0 b0 with⟨x,b⟩|y
   ·rw[hq] at hp;obtain⟨v,NV,o,ow',sp,olds,rfl,hNV,hJ⟩:=hp;rw[hz1] at hNV hJ;have hs:=hst NV hNV;refine⟨_,by have:=run_endLoop (P:=Tryz.prog) hJ.lp (by rw[hrec];simp);rw[hrec] at this;exact this,?_⟩;exact hdone _ NV _ o ow' sp olds x.1 x.2 b hq hs (hJ.turn hs)
   ·rw[hq] at hp;obtain⟨rfl,hF,hD⟩:=hp;exact hpanic W2 y hq hF hD
end
section
open Go.RowKit
def ntB (neg:Bool) (m k:Nat):ByteArray:=if m=0 then bstr [48] else bstr (numT neg m ((Lib.nDigits m:Nat)-(k:Int)))
theorem nDigits_ten (d:Nat) (h:1<=d):Lib.nDigits (d*10)=Lib.nDigits d+1:=by
 rw[Lib.nDigits_big (by omega),Nat.mul_div_cancel _ (by decide)]
theorem decDigits_ten (d:Nat) (h:1<=d):Lib.decDigits (d*10)=Lib.decDigits d++[48]:=by
 rw[Lib.decDigits,dif_neg (by omega),Nat.mul_div_cancel _ (by decide),Nat.mul_mod_left];rfl
theorem sl_app (l r:List UInt8):∀ n,n<=l.length->sl (l++r) n=sl l n
 | 0,_=>rfl
 | n+1,h=>by
  have e:(l++r).getD n 0=l.getD n 0:=by rw[List.getD_eq_getElem?_getD,List.getElem?_append_left (by omega),← List.getD_eq_getElem?_getD]
  rw[sl,sl,e,sl_app l r n (by omega)]
theorem numT_ten (neg:Bool) (d:Nat) (dp:Int) (h:1<=d):numT neg (d*10) dp=numT neg d dp:=by
 have hl:(Lib.decDigits d).length=Lib.nDigits d:=decDigits_len d;unfold numT;rw[nDigits_ten d h,decDigits_ten d h]
 have h1:sl (Lib.decDigits d++[48]) (Lib.nDigits d+1)=sl (Lib.decDigits d) (Lib.nDigits d):=by
  rw[sl_hit (by rw[List.getD_eq_getElem?_getD,List.getElem?_append_right (by omega),hl,Nat.sub_self];rfl),sl_app _ _ _ (by omega)]
 rw[h1,List.take_append_of_le_length (by have:=sl_le (Lib.decDigits d) (Lib.nDigits d);omega)]
theorem numT_pow (neg:Bool) (d:Nat) (dp:Int) (h:1<=d):∀ j,numT neg (d*10^j) dp=numT neg d dp/\Lib.nDigits (d*10^j)=Lib.nDigits d+j/\1<=d*10^j
 | 0=>by simp;omega
 | j+1=>by
  obtain⟨h1,h2,h3⟩:=numT_pow neg d dp h j;rw[Nat.pow_succ,← Nat.mul_assoc];exact⟨(numT_ten neg _ dp h3).trans h1,by rw[nDigits_ten _ h3,h2];omega,by omega⟩
theorem numT_len (neg:Bool) (d:Nat) (dp:Int):(numT neg d dp).length<=10+2*Lib.nDigits d+dp.natAbs+dp.natAbs:=by
 unfold numT textF;have hl:(Lib.decDigits d).length=Lib.nDigits d:=decDigits_len d;obtain⟨t,ht⟩:∃ t,(Lib.decDigits d).take (sl (Lib.decDigits d) (Lib.nDigits d))=t:=⟨_,rfl⟩;have h1:t.length<=Lib.nDigits d:=by rw[← ht,List.length_take];omega
 rw[ht,List.length_append,List.length_append];have a1:(if neg=true then [45] else []:List UInt8).length<=1:=by split <;> simp
 have a2:(if 0<dp then t.take dp.toNat++List.replicate (dp.toNat-t.length) 48 else [48]:List UInt8).length<=t.length+dp.natAbs+1:=by
  split
  ·rw[List.length_append,List.length_take,List.length_replicate];omega
  ·simp
 have a3:(if dp<t.length then 46::(List.replicate (-dp).toNat 48++t.drop dp.toNat) else []:List UInt8).length<=1+dp.natAbs+t.length:=by
  split
  ·rw[List.length_cons,List.length_append,List.length_replicate,List.length_drop];omega
  ·simp
 omega
theorem nDigits_up:∀ (k u:Nat),u<10^(k+1)->Lib.nDigits u<=k+1
 | 0,u,h=>by rw[Lib.nDigits_small (by simpa using h)];exact Nat.le_refl _
 | k+1,u,h=>by
  by_cases hu:u<10
  ·rw[Lib.nDigits_small hu];omega
  ·rw[Lib.nDigits_big hu];have:=nDigits_up k (u/10) (by rw[Nat.div_lt_iff_lt_mul (by decide),← Nat.pow_succ];exact h);omega
theorem pow_shift (m p k:Nat) (hp:10<=p) (hk:k<=3):m*10^(p-k)/10=m*10^(p-1-k):=by
 rw[show p-k=(p-1-k)+1 by omega,Nat.pow_succ,← Nat.mul_assoc,Nat.mul_div_cancel _ (by decide)]
theorem d_small {m p k q mt c:Nat}(hp:10<=p) (hk:k<=3) (hw:3*10^p<40*2^q) (hdn:2*(m*2^q)<=2*(mt*10^k)+10^k) (hmt:mt<2^53) (hc:m*10^(p-1-k)=c):c<10^18:=by
 have e1:c*10^k*10=m*10^p:=by
  rw[← hc,Nat.mul_assoc m,← Nat.pow_add,Nat.mul_assoc,← Nat.pow_succ];congr 2;omega
 have h1:3*(m*10^p)<=m*(40*2^q):=by
  rw[← Nat.mul_assoc,Nat.mul_comm 3 m,Nat.mul_assoc];exact Nat.mul_le_mul_left m (by omega)
 have h2:m*(40*2^q)=20*(2*(m*2^q)):=by
  rw[Nat.mul_left_comm m 40];omega
 have hk0:0<10^k:=Nat.pow_pos (by decide)
 have h3:30*c*10^k<=(40*mt+20)*10^k:=by
  have e2:30*c*10^k=3*(c*10^k*10):=by rw[Nat.mul_assoc 30 c];omega
  have e3:(40*mt+20)*10^k=20*(2*(mt*10^k)+10^k):=by rw[Nat.add_mul,Nat.mul_assoc 40];omega
  rw[e2,e1,e3];omega
 have h4:=Nat.le_of_mul_le_mul_right h3 hk0;have:(10:Nat)^18=1000000000000000000:=by decide
 have:(2:Nat)^53=9007199254740992:=by decide
 omega
theorem ntC_of {G:World->Prop}(hT:∀ w,G w->PowTab w/\16<w.heap.size) (hGB:∀ w w',G w->Below w.heap.size w w'->G w')
  (hN:∀ (w:World) (d:Nat),G w->1<=d->d<10^18->Calls Tryz.prog 163 #[.int .u64 (d:Int)] w fun e w'=>e=.returned (.int .i64 ((Lib.nDigits d:Nat):Int))/\w'=w):NtC G ntB:=by
 intro w neg m k hG hm hk
 by_cases h0:m=0
 ·subst h0;have e0:ntB neg 0 k=bstr [48]:=by unfold ntB;rw[if_pos rfl]
  rw[e0,fb_zero neg k hk];refine⟨by decide,(numberText_zero w neg).mono ?_⟩;rintro e w1 ⟨rfl,rfl⟩;exact⟨rfl,Below.refl _ _⟩
 ·have hm1:1<=m:=by omega
  have e0:ntB neg m k=bstr (numT neg m ((Lib.nDigits m:Nat)-(k:Int))):=by unfold ntB;rw[if_neg h0]
  have hnd:Lib.nDigits m<=6+k:=by
   have:=nDigits_up (5+k) m (by rw[show 5+k+1=6+k by omega,Nat.pow_add];exact hm);omega
  have hnp:=Lib.nDigits_pos m;refine⟨?_,?_⟩
  ·rw[e0];have:=numT_len neg m ((Lib.nDigits m:Nat)-(k:Int));show (numT neg m _).toArray.size<=90000;rw[List.size_toArray];omega
  ·obtain⟨mt,q,hb,hq1,hq2,hn,_⟩:=fb_near neg m k hm1 hm hk;have hlo:=hn.lo;have hhi:=hn.hi
   have main:∀ p,10<=p->p<=19->3*10^p<40*2^q->(∀ W:World,G W->Calls Tryz.prog 215 #[.int .u64 ((mt*2^11:Nat):Int),.int .i64 (-((q+11:Nat):Int))] W fun e w'=>e=.returned (.tuple #[.int .u64 ((m*10^(p-k)/10:Nat):Int),.int .i64 (-((p-1:Nat):Int))])/\Below W.heap.size W w') ->
     Calls Tryz.prog 123 #[.float .f64 (fb neg m k)] w fun e w'=>e=.returned (.string (ntB neg m k))/\Below w.heap.size w w':=by
    intro p hp1 hp2 hw SF;rw[pow_shift m p k hp1 hk] at SF;obtain⟨t1,t2,t3⟩:=numT_pow neg m ((Lib.nDigits m:Nat)-(k:Int)) hm1 (p-1-k);have hd:=d_small (c:=m*10^(p-1-k)) hp1 hk hw hn.dn hhi rfl;have edp:((Lib.nDigits (m*10^(p-1-k)):Nat):Int)-((p-1:Nat):Int)=(Lib.nDigits m:Nat)-(k:Int):=by rw[t2];omega
    have FF:=format_any w neg mt q (fb neg m k) (m*10^(p-1-k)) p hq1 hq2 hlo hhi hb t3 hd hp1 hp2 (by rw[edp];omega) (fun W hW=>hN W _ (hGB w W hG hW) t3 hd) (fun W hW=>SF W (hGB w W hG hW));rw[edp,t1,← e0] at FF;have hne:=word_ne0 neg q mt hq1 hq2 hlo hhi;rw[← hb] at hne;exact numberText_any w _ _ hne (sformat_any w _ _ FF)
   by_cases hmt:mt=2^52
   ·obtain⟨hs,hw⟩:=sc_skew q hq1 hq2;refine main (ps q) hs.p1 hs.p2 hw (fun W hW=>?_);subst hmt;have:=shortS_any W q m k hq1 hq2 hk hn (hT W hW).1 (hT W hW).2;exact this
   ·obtain⟨hs,hw⟩:=sc_plain q hq1 hq2;exact main (pf q) hs.p1 hs.p2 (by omega) (fun W hW=>shortP_any W mt q m k hq1 hq2 hk hn hmt (hT W hW).1 (hT W hW).2)
def NtG (h0 h1:Option Obj) (w:World):Prop:=(w.heap[5]?=h0/\w.heap[16]?=h1)/\5<w.heap.size/\16<w.heap.size
theorem NtG.below {h0 h1:Option Obj}{w w':World}(h:NtG h0 h1 w) (hB:Below w.heap.size w w'):NtG h0 h1 w':=
 ⟨⟨(hB.block _ h.2.1).trans h.1.1,(hB.block _ h.2.2).trans h.1.2⟩,Nat.lt_of_lt_of_le h.2.1 hB.size,Nat.lt_of_lt_of_le h.2.2 hB.size⟩
theorem ntC_tab {h0 h1:Option Obj}(hI:ItC h0) (hP:∀ W:World,W.heap[16]?=h1->PowTab W):NtC (NtG h0 h1) ntB:=
 ntC_of (fun w h=>⟨hP w h.1.2,h.2.2⟩) (fun _ _ h hB=>h.below hB) (fun w d h hd1 hd2=>Tryz.internal_strconv_numDigits d hd1 (Nat.lt_trans hd2 (by decide)) w (hI w h.1.1))
set_option maxHeartbeats 400000 in
theorem reached_any (w:World) (D:Nat) :
  Calls Tryz.prog 62 #[.pointer (some ⟨D,0,none⟩)] w fun e w'=>e=.returned (.func (.func 94) #[] #[.pointer (some ⟨w.heap.size,0,none⟩)])/\w.alloc (.cells #[.pointer (some ⟨D,0,none⟩)] 75)=w':=by
 have hmf:∀ (fn:Fn) (first cap:Array Value) (w:World),(Instr.makeFunc fn first cap).run Tryz.prog w=.ok (.func fn first cap) w:=fun _ _ _ _=>rfl
 go_enter Tryz.func62,Tryz.ntmps62
 go_wp2
 go_ret
 exact⟨rfl,rfl⟩
end
section
open Go.RowKit Go.Shelf
structure Ux where
 s:ByteArray
 n9:Nat
 B:Nat
def St.bits (t:St) (n:Nat):St:={ t with b:=t.b-n,k:=t.k+n }
theorem St.bits_b (t:St) (n:Nat):(t.bits n).b=t.b-n:=rfl
theorem St.bits_k (t:St) (n:Nat):(t.bits n).k=t.k+n:=rfl
theorem St.bits_bits (t:St) (n m:Nat):(t.bits n).bits m=t.bits (n+m):=by
 unfold St.bits;simp only[St.mk.injEq,and_true];exact⟨by omega,by omega⟩
def numX (V:Ux) (n:Nat):Rdr Nat:=fun t=>
 if n<=t.b/\t.k+n<=8*V.s.size then .ok (numOf V.s t.k n) (t.bits n) else if t.b<=8*V.s.size-t.k then .no (12,0) else .no (9,V.n9)
def bitX (V:Ux):Rdr Nat:=fun t=>if t.b<1 then .no (12,0) else if 8*V.s.size<=t.k then .no (9,V.n9) else .ok (bitOf V.s t.k) (t.bits 1)
def decX (V:Ux) (l:List Nat):Nat->Nat->Rdr Nat
 | 0,_=>fun _=>.no (9,V.n9)
 | r+1,above=>(bitX V).then fun x=>if 2*above+x<cnt (15-r) l then Rdr.ret ((idxs (15-r) l).getD (2*above+x) 0) else decX V l r (2*above+x-cnt (15-r) l)
def signX (V:Ux) (l:List Nat):Rdr Nat:=decX V l 15 0
def chargeX (n:Nat):Rdr Unit:=chargeM n
def demandX (V:Ux) (ok:Bool):Rdr Unit:=fun t=>if ok then .ok () t else .no (9,V.n9)
def putX (V:Ux) (out:List UInt8) (c:UInt8):Rdr (List UInt8):=fun t=>if t.b<1 then .no (12,0) else if out.length<2000 then .ok (out++[c]) { t with b:=t.b-1 } else .no (9,V.n9)
def copyLX (V:Ux) (k:Nat):Rdr Nat:=(demandX V (decide (k<29))).then fun _=>(numX V (extraT.getD k 0)).then fun x=>Rdr.ret (baseT.getD k 0+x)
def distX (V:Ux) (k:Nat):Rdr Nat:=(demandX V (decide (k<30))).then fun _=>(numX V (moreT.getD k 0)).then fun x=>Rdr.ret (farT.getD k 0+x)
def copyNX (V:Ux) (back:Nat):Nat->List UInt8->Rdr (List UInt8)
 | 0,out=>Rdr.ret out
 | n+1,out=>(putX V out (out.getD (out.length-back) 0)).then fun o=>copyNX V back n o
def copyBX (V:Ux) (n back:Nat) (out:List UInt8):Rdr (List UInt8):=(demandX V (decide (back<=out.length))).then fun _=>copyNX V back n out
def storeNX (V:Ux):Nat->List UInt8->Rdr (List UInt8)
 | 0,out=>Rdr.ret out
 | n+1,out=>(numX V 8).then fun x=>(putX V out (UInt8.ofNat x)).then fun o=>storeNX V n o
def skipX (V:Ux):Rdr Nat:=fun t=>numX V ((8-t.k%8)%8) t
def storedX (V:Ux) (out:List UInt8):Rdr (List UInt8):=(skipX V).then fun _=>(numX V 16).then fun n=>(numX V 16).then fun m=>(demandX V (decide (n+m=65535))).then fun _=>storeNX V n out
def blkX (V:Ux) (l dl:List Nat):Nat->List UInt8->Rdr (List UInt8)
 | 0,_=>fun _=>.no (0,0)
 | f+1,out=>(signX V l).then fun g=>if g<256 then (putX V out (UInt8.ofNat g)).then fun o=>blkX V l dl f o else if g=256 then Rdr.ret out else
   (copyLX V (g-257)).then fun n=>(signX V dl).then fun d=>(distX V d).then fun back=>(copyBX V n back out).then fun o=>blkX V l dl f o
def readX (V:Ux) (cl:List Nat) (many:Nat):Nat->List Nat->Rdr (List Nat)
 | 0,_=>fun _=>.no (0,0)
 | f+1,l=>if l.length<many then
   (signX V cl).then fun g=>
    if g=16 then (demandX V (decide (0<l.length))).then fun _=>(numX V 2).then fun n=>readX V cl many f (l++List.replicate (3+n) (l.getLastD 0))
    else if g=17 then (numX V 3).then fun n=>readX V cl many f (l++List.replicate (3+n) 0)
    else if g=18 then (numX V 7).then fun n=>readX V cl many f (l++List.replicate (11+n) 0)
    else readX V cl many f (l++[g])
  else (demandX V (decide (l.length=many))).then fun _=>Rdr.ret l
def clensX (V:Ux):Nat->Nat->List Nat->Rdr (List Nat)
 | 0,_,l=>Rdr.ret l
 | n+1,i,l=>(numX V 3).then fun x=>clensX V n (i+1) (l.set (orderT.getD i 0) x)
def codeLX (V:Ux) (told:Nat):Rdr (List Nat):=(clensX V told 0 (List.replicate 19 0)).then fun l=>(chargeX 19).then fun _=>(demandX V (whole l)).then fun _=>Rdr.ret l
def ownX (V:Ux):Rdr (List Nat×List Nat):=
 (numX V 5).then fun a=>(numX V 5).then fun b=>(numX V 4).then fun n=>(demandX V (decide (a<=29/\b<=29))).then fun _=>
 (codeLX V (4+n)).then fun cl=>(readX V cl (258+a+b) (259+a+b) []).then fun all=>(chargeX (257+a)).then fun _=>(chargeX (1+b)).then fun _=>
 (demandX V (decide (0<all.getD 256 0))).then fun _=>(demandX V (goodB (all.take (257+a)))).then fun _=>(demandX V (goodD (all.drop (257+a)))).then fun _=>
 Rdr.ret (all.take (257+a),all.drop (257+a))
def fixX:Rdr (List Nat×List Nat):=(chargeX 288).then fun _=>(chargeX 32).then fun _=>Rdr.ret (fixL,fixD)
def signsX (V:Ux) (l dl:List Nat) (out:List UInt8):Rdr (List UInt8):=blkX V l dl 80000 out
def blockX (V:Ux) (out:List UInt8):Rdr (List UInt8):=(numX V 2).then fun k=>
 if k=0 then storedX V out else if k=1 then fixX.then fun c=>signsX V c.1 c.2 out else if k=2 then (ownX V).then fun c=>signsX V c.1 c.2 out else fun _=>.no (9,V.n9)
def blocksX (V:Ux):Nat->List UInt8->Rdr (List UInt8)
 | 0,_=>fun _=>.no (0,0)
 | f+1,out=>(numX V 1).then fun last=>(blockX V out).then fun o=>if last=1 then Rdr.ret o else blocksX V f o
def unpackX (V:Ux):Rdr (List UInt8):=(blocksX V 80000 []).then fun out=>fun t=>(demandX V (decide ((t.k+7)/8=V.s.size))).then (fun _=>Rdr.ret out) t
def unpackU (s:ByteArray) (n9 b:Nat):Res ByteArray:=(match unpackX ⟨s,n9,0⟩ ⟨b,0,0,0,0⟩ with
 | .ok out t=>.ok ⟨out.toArray⟩ t.b
 | .no y=>.no y)
structure Rx (w:World) (R A:Nat) (V:Ux) (t:St):Prop where
 r:w.heap[R]?=some (.cells #[.string V.s,.int .i64 (t.k:Int),.func (.func 60) #[] #[.pointer (some ⟨A,0,none⟩),.pointer (some ⟨A+1,0,none⟩)],.func (.func 60) #[] #[.pointer (some ⟨V.B,0,none⟩),.pointer (some ⟨V.B+1,0,none⟩)],.int .i64 9,.int .i64 (V.n9:Int)] 197 (0,0))
 a:w.heap[A]?=some (.cells #[.int .i64 ((8*V.s.size-t.k:Nat):Int)] 3 (0,0))
 y:w.heap[A+1]?=some (.cells #[.int .i64 9,.int .i64 (V.n9:Int)] 45 (0,0))
 bud:Bud w V.B t.b
 lt:A+1<R/\V.B+1<A
 hp:t.k<=8*V.s.size
 hs:V.s.size<=9000
variable {w w':World}{R A:Nat}{V:Ux}{t:St}
theorem Rx.ltR (h:Rx w R A V t):R<w.heap.size:=(Array.getElem?_eq_some_iff.1 h.r).1
theorem Rx.ltA (h:Rx w R A V t):A+1<w.heap.size:=(Array.getElem?_eq_some_iff.1 h.y).1
theorem Rx.c0 (h:Rx w R A V t):w.cell? ⟨R,0,none⟩=some (.string V.s):=by simp[World.cell?,h.r]
theorem Rx.c1 (h:Rx w R A V t):w.cell? ⟨R,1,none⟩=some (.int .i64 (t.k:Int)):=by simp[World.cell?,h.r]
theorem Rx.c2 (h:Rx w R A V t):w.cell? ⟨R,2,none⟩=some (.func (.func 60) #[] #[.pointer (some ⟨A,0,none⟩),.pointer (some ⟨A+1,0,none⟩)]):=by simp[World.cell?,h.r]
theorem Rx.c3 (h:Rx w R A V t):w.cell? ⟨R,3,none⟩=some (.func (.func 60) #[] #[.pointer (some ⟨V.B,0,none⟩),.pointer (some ⟨V.B+1,0,none⟩)]):=by simp[World.cell?,h.r]
theorem Rx.c4 (h:Rx w R A V t):w.cell? ⟨R,4,none⟩=some (.int .i64 9):=by simp[World.cell?,h.r]
theorem Rx.c5 (h:Rx w R A V t):w.cell? ⟨R,5,none⟩=some (.int .i64 (V.n9:Int)):=by simp[World.cell?,h.r]
theorem Rx.ca (h:Rx w R A V t):w.cell? ⟨A,0,none⟩=some (.int .i64 ((8*V.s.size-t.k:Nat):Int)):=by simp[World.cell?,h.a]
theorem Rx.fr (h:Rx w R A V t) (i:Nat):w.frozen? ⟨R,i,none⟩=false:=by simp[World.frozen?,h.r]
theorem Rx.fa (h:Rx w R A V t) (i:Nat):w.frozen? ⟨A,i,none⟩=false:=by simp[World.frozen?,h.a]
theorem Rx.of_blocks (h:Rx w R A V t) (hb:∀ k,k=R\/k=A\/k=A+1\/k=V.B\/k=V.B+1->w'.heap[k]?=w.heap[k]?):Rx w' R A V t:=
 ⟨(hb R (.inl rfl)).trans h.r,(hb A (.inr (.inl rfl))).trans h.a,(hb (A+1) (.inr (.inr (.inl rfl)))).trans h.y,h.bud.of_blocks (fun k hk=>hb k (by omega)),h.lt,h.hp,h.hs⟩
theorem Rx.alloc (h:Rx w R A V t) (o:Obj):Rx (w.alloc o) R A V t:=h.of_blocks (fun k hk=>Below.heap_alloc _ _ _ (by have:=h.ltA;have:=h.ltR;have:=h.lt;omega))
theorem Rx.put (h:Rx w R A V t) (b:Nat) (o:Obj) (hb:b≠R/\b≠A/\b≠A+1/\b≠V.B/\b≠V.B+1):Rx (w.putObj b o) R A V t:=h.of_blocks (fun k hk=>World.putObj_heap_other (by omega))
theorem Rx.set (h:Rx w R A V t) (b i:Nat) (v:Value) (hb:b≠R/\b≠A/\b≠A+1/\b≠V.B/\b≠V.B+1):Rx (w.setCell ⟨b,i,none⟩ v) R A V t:=h.of_blocks (fun k hk=>Below.heap_setCell _ _ _ _ (by show k≠b;omega))
theorem Rx.drew (h:Rx w R A V t):Rx w.drew R A V t:=⟨h.r,h.a,h.y,h.bud.drew,h.lt,h.hp,h.hs⟩
theorem Rx.pay (h:Rx w R A V t) (n:Nat) (hn:n<=t.b):Rx (w.setCell ⟨V.B,0,none⟩ (.int .i64 ((t.b:Int)-(n:Int)))) R A V { t with b:=t.b-n }:=by
 have hl:=h.lt;exact⟨(Below.heap_setCell _ _ _ _ (by show R≠V.B;omega)).trans h.r,(Below.heap_setCell _ _ _ _ (by show A≠V.B;omega)).trans h.a,(Below.heap_setCell _ _ _ _ (by show A+1≠V.B;omega)).trans h.y,h.bud.take n hn,h.lt,h.hp,h.hs⟩
structure Two (R A B:Nat) (w w':World):Prop where
 os:w'.os=w.os
 tape:w'.tape=w.tape
 output:w'.output=w.output
 size:w'.heap.size=w.heap.size
 block:∀ k,k≠R->k≠A->k≠B->w'.heap[k]?=w.heap[k]?
theorem Two.refl (R A B:Nat) (w:World):Two R A B w w:=⟨rfl,rfl,rfl,rfl,fun _ _ _ _=>rfl⟩
theorem Two.setR {B:Nat}(h:Two R A B w w') (i:Nat) (v:Value):Two R A B w (w'.setCell ⟨R,i,none⟩ v):=
 ⟨h.os,h.tape,h.output,by simp[h.size],fun k h1 h2 h3=>(Below.heap_setCell _ _ _ _ (by exact h1)).trans (h.block k h1 h2 h3)⟩
theorem Two.setA {B:Nat}(h:Two R A B w w') (i:Nat) (v:Value):Two R A B w (w'.setCell ⟨A,i,none⟩ v):=
 ⟨h.os,h.tape,h.output,by simp[h.size],fun k h1 h2 h3=>(Below.heap_setCell _ _ _ _ (by exact h2)).trans (h.block k h1 h2 h3)⟩
theorem Two.setB {B:Nat}(h:Two R A B w w') (i:Nat) (v:Value):Two R A B w (w'.setCell ⟨B,i,none⟩ v):=
 ⟨h.os,h.tape,h.output,by simp[h.size],fun k h1 h2 h3=>(Below.heap_setCell _ _ _ _ (by exact h3)).trans (h.block k h1 h2 h3)⟩
theorem Two.drewN {B:Nat}(h:Two R A B w w') (n:Nat):Two R A B w (w'.drewN n):=⟨h.os,h.tape,h.output,h.size,h.block⟩
theorem Rx.step (h:Rx w R A V t) (hp:t.k<8*V.s.size) (hb:1<=t.b) (n:Nat) :
  Rx ((((w.setCell ⟨V.B,0,none⟩ (.int .i64 ((t.b:Int)-1))).setCell ⟨A,0,none⟩ (.int .i64 ((8*V.s.size-t.k:Nat)-1:Int))).drewN n).setCell ⟨R,1,none⟩ (.int .i64 ((t.k:Int)+1))) R A V (t.bits 1):=by
 have hl:=h.lt;have h1:=h.pay 1 hb;rw[show (((1:Nat):Int))=1 from rfl] at h1;obtain⟨W1,hW1⟩:∃ W1,w.setCell ⟨V.B,0,none⟩ (.int .i64 ((t.b:Int)-1))=W1:=⟨_,rfl⟩;rw[hW1] at h1 ⊢;refine⟨?_,?_,?_,?_,h.lt,?_,h.hs⟩
 ·have h2:((W1.setCell ⟨A,0,none⟩ (.int .i64 ((8*V.s.size-t.k:Nat)-1:Int))).drewN n).heap[R]?=_:=(Below.heap_setCell _ _ _ _ (by show R≠A;omega)).trans h1.r;have:=heap_setCell_same _ R 1 _ _ (.int .i64 ((t.k:Int)+1)) h2;rw[this];simp[St.bits]
 ·rw[Below.heap_setCell _ _ _ _ (by show A≠R;omega)];have:=heap_setCell_same W1 A 0 _ _ (.int .i64 ((8*V.s.size-t.k:Nat)-1:Int)) h1.a;show (W1.setCell ⟨A,0,none⟩ (.int .i64 ((8*V.s.size-t.k:Nat)-1:Int))).heap[A]?=_;rw[this];have e:((8*V.s.size-t.k:Nat):Int)-1=((8*V.s.size-(t.k+1):Nat):Int):=by omega
  rw[e];simp[St.bits]
 ·rw[Below.heap_setCell _ _ _ _ (by show A+1≠R;omega)];exact (Below.heap_setCell _ _ _ _ (by show A+1≠A;omega)).trans h1.y
 ·exact h1.bud.of_blocks (fun k hk=>by
   rw[Below.heap_setCell _ _ _ _ (by show k≠R;omega)]
   exact Below.heap_setCell _ _ _ _ (by show k≠A;omega))
 ·show t.k+1<=_;omega
end
end Go.Proofs.YtgffljllfenhkaaGreatDoor
