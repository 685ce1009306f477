import Derived.Shelf.RegionOpen
import Derived.RangeFuncSeq
import Derived.Test.YtgffljllfenhkaaGreatDoorGwax
import Derived.Test.YtgffljllfenhkaaGreatDoorGway
namespace Go.Proofs.YtgffljllfenhkaaGreatDoor
section
open Go.RowKit
attribute [local go_sem] Oper.semAt_some
variable {w w0 w':World}{B D DV OL NV M base lo at_ root:Nat}{pl:List Nat}{slp slo:Value}{os:List Obj1}{xs:List Value}{S S':Nat->Prop}
def AsdI (F:Fence) (n:Nat) (P:Program) (o:Oper) (a:Act) (w:World) (K:Act->World->Prop) (Q:Exit->Act->World->Prop):Prop:=o.wpIn F n P a w K Q
theorem AsdI.here {F:Fence}{n:Nat}{P:Program}{o:Oper}{a:Act}{w:World}{K:Act->World->Prop}{Q:Exit->Act->World->Prop}(h:AsdI F n P o a w K Q):AsdI F n P o a w K Q:=h
theorem asdI_o {F:Fence}{n:Nat}{P:Program}{d:Option Tmp}{x:Operand}{ty:TypeId}{ps:String}{af:Array Edge}{gd:Option (Nat×Bool)}{a:Act}{w:World}{K:Act->World->Prop}{Q:Exit->Act->World->Prop} :
  Oper.wpIn F n P { dst:=d,op:=.load 122 x,type:=ty,pos:=ps,after:=af,guard:=gd } a w K Q=AsdI F n P { dst:=d,op:=.load 122 x,type:=ty,pos:=ps,after:=af,guard:=gd } a w K Q:=rfl
theorem wpI_at_zero {F:Fence}{n:Nat}{P:Program}{o:Oper}{l:List Oper}{h:0<(o::l).toArray.size}{a:Act}{w:World}{K:Act->World->Prop}{Q:Exit->Act->World->Prop}:Oper.wpIn F n P ((o::l).toArray[0]'h) a w K Q=Oper.wpIn F n P o a w K Q:=rfl
theorem wpI_at_succ {F:Fence}{n:Nat}{P:Program}{o:Oper}{l:List Oper}{i:Nat}{h:i+1<(o::l).toArray.size}{a:Act}{w:World}{K:Act->World->Prop}{Q:Exit->Act->World->Prop}:Oper.wpIn F n P ((o::l).toArray[i+1]'h) a w K Q=Oper.wpIn F n P (l.toArray[i]'(by simp at h ⊢;omega)) a w K Q:=rfl
theorem wpIn_of_wp {P:Program}{n:Nat}{o:Oper}{a:Act}{w:World}{K:Act->World->Prop}{Q:Exit->Act->World->Prop}(h:o.wp P a w K Q):o.wpIn Fence.wide n P a w K Q:=by
 unfold Oper.wp at h;unfold Oper.wpIn;refine⟨fun _ _=>trivial,?_⟩;have e:o.semAt Fence.wide.round a.eval=execOp a.eval o:=Oper.semAt_none _ _;rw[e]
 generalize (execOp a.eval o).run P w=r at *
 cases r with
 | ok x w'=>
  cases x <;> simp only[Oper.upon,Oper.uponIn] at h ⊢
  all_goals first | exact h | exact h.elim | skip
  ·exact⟨fun hh=>by simp[Fence.wide] at hh,callsIn_wide.2 h⟩
  ·exact⟨fun hh=>by simp[Fence.wide] at hh,fun c cs _=>by
    obtain⟨v,w',hr,hs⟩:=h c cs
    exact⟨v,w',hr,stepsIn_wide.2 hs⟩⟩
 | halt x w'=>cases x <;> simp only[Oper.upon,Oper.uponIn] at h ⊢ <;> first | exact h | exact h.elim
theorem AsdI.load {n:Nat}{o:Oper}{a:Act}{w:World}{K:Act->World->Prop}{Q:Exit->Act->World->Prop}(T:TypeId) (sz:Nat) (x:Operand) (ho:o.op=.load T x)
  (b off:Nat) (cs:List Value) (hx:a.eval x=.pointer (some ⟨b,off,none⟩)) (hc:w.rangeAt b off cs) (hT:(Tryz.prog.info? T).map (·.size)=some sz) (hA:(Tryz.prog.underlying T).map isAg=some true) (h6:cs.length=sz)
  (h:K (a.put o.dst (.agg cs.toArray)) w):AsdI Fence.wide n Tryz.prog o a w K Q:=wpIn_of_wp (Asd.load T sz x ho b off cs hx hc hT hA h6 h)
attribute [local go_sem ↓] asdI_o wpI_at_zero wpI_at_succ
theorem Tryz.sizeOb:(Tryz.prog.info? 122).map (·.size)=some 10:=by kernel_rfl
theorem Tryz.agOb:(Tryz.prog.underlying 122).map isAg=some true:=by kernel_rfl
theorem numR_grow {olds olds':List Nat}{old b m b':Nat}(h:numR olds old b=.ok (m,olds') b'):olds.length<=olds'.length:=by
 unfold numR at h;split at h
 ·cases h
 ·split at h
  ·cases h;exact Nat.le_refl _
  ·cases h;simp
theorem renLeaf_grow {olds olds':List Nat}{b b':Nat}{v v':Val}(h:renLeaf olds v b=.ok (v',olds') b'):olds.length<=olds'.length:=by
 cases v
 case ref n=>
  simp only[renLeaf] at h
  rcases hq:numR olds n b with⟨⟨m,o2⟩,b2⟩|y
  ·rw[hq] at h;simp only[Res.ok.injEq,Prod.mk.injEq] at h;rw[← h.1.2];exact numR_grow hq
  ·rw[hq] at h;cases h
 all_goals (simp only[renLeaf,Res.ok.injEq,Prod.mk.injEq] at h;rw[← h.1.2];exact Nat.le_refl _)
theorem renL_grow:∀ (l acc:List Val) {olds o':List Nat}{b b':Nat}{l':List Val},renL l acc olds b=.ok (l',o') b'->olds.length<=o'.length
 | [],acc,_,_,_,_,_,h=>by simp only[renL,Res.ok.injEq,Prod.mk.injEq] at h;rw[← h.1.2];exact Nat.le_refl _
 | v::l,acc,olds,o',b,b',l',h=>by
  simp only[renL] at h
  rcases hq:renLeaf olds v b with⟨⟨v',o2⟩,b2⟩|y
  ·rw[hq] at h;exact Nat.le_trans (renLeaf_grow hq) (renL_grow l _ h)
  ·rw[hq] at h;cases h
theorem renV_grow {olds o':List Nat}{b b':Nat}{v v':Val}(h:renV olds v b=.ok (v',o') b'):olds.length<=o'.length:=by
 cases v
 case arr l=>
  simp only[renV] at h
  rcases hq:renL l [] olds b with⟨⟨l',o2⟩,b2⟩|y
  ·rw[hq] at h;simp only[Res.ok.injEq,Prod.mk.injEq] at h;rw[← h.1.2];exact renL_grow l [] hq
  ·rw[hq] at h;cases h
 all_goals (simp only[renV] at h;exact renLeaf_grow h)
theorem keepL_grow {o:Obj1}:∀ (rs:List Rule) (acc:List (ByteArray×Val)) {olds o':List Nat}{b b':Nat}{fs:List (ByteArray×Val)},keepL os o rs acc olds b=.ok (fs,o') b'->olds.length<=o'.length
 | [],acc,_,_,_,_,_,h=>by simp only[keepL,Res.ok.injEq,Prod.mk.injEq] at h;rw[← h.1.2];exact Nat.le_refl _
 | r::rs,acc,olds,o',b,b',fs,h=>by
  simp only[keepL] at h
  rcases hq:r.right os (vget o.v r.key) b with⟨⟨v,t⟩,b1⟩|y
  ·rw[hq] at h
   rcases t with _|_
   ·exact keepL_grow rs acc h
   ·simp only at h
    rcases hq2:renV olds v b1 with⟨⟨v',o2⟩,b2⟩|y
    ·rw[hq2] at h;exact Nat.le_trans (renV_grow hq2) (keepL_grow rs _ h)
    ·rw[hq2] at h;cases h
  ·rw[hq] at h;cases h
theorem Tryz.mkMap (w:World):(Instr.makeMap 142 none).run Tryz.prog w=.ok (.map (some w.heap.size)) (w.alloc (.map #[] 0)):=by
 first | kernel_rfl | (have hu:=Tryz.undMI;simp[Instr.makeMap,run_underlying hu,go_sem]) | simp[Instr.makeMap,go_sem]
def RoundQ (w0:World) (B D DV OL NV M base Q R bw PL N:Nat) (lr:Loop) (o:Value) (olds pls:List Nat) (out:List UInt8) (r:Res (List UInt8)) (e:Ending) (W':World):Prop:=match r with
 | .ok out' b'=>e=.returned (.bool true)/\∃ ow' sp',Jw w0 W' B D DV OL NV M base Q R bw PL N lr o ow' sp' olds (pls++[out.length]) out' b'
 | .no y=>e=.panicked (thrownY y)/\Fb B w0 W'/\W'.heap[N]?=some (.deferred (some []))
def ReachQ (w0 W:World) (B D DV Q R bw PL N:Nat) (lr:Loop) (r:Res (List Nat×List UInt8)) (e:Ending) (W':World):Prop:=match r with
 | .ok x b=>∃ v NV o ow' sp olds,e=.returned v/\W.heap.size+3<=NV/\Jw w0 W' B D DV (W.heap.size+1) NV (W.heap.size+2) W.heap.size Q R bw PL N lr o ow' sp olds x.1 x.2 b
 | .no y=>e=.panicked (thrownY y)/\Fb B w0 W'/\W'.heap[N]?=some (.deferred (some []))
theorem ReachQ.no {w0 W W':World}{B D DV Q R bw PL N:Nat}{lr:Loop}{r:Res (List Nat×List UInt8)}{y:Why}(hr:r=.no y) (F:Fb B w0 W') (hd:W'.heap[N]?=some (.deferred (some []))):ReachQ w0 W B D DV Q R bw PL N lr r (.panicked (thrownY y)) W':=by subst hr;exact⟨rfl,F,hd⟩
def RoundC (nt:Bool->Nat->Nat->ByteArray) (m:Nat) (w0:World) (os:List Obj1) (B D DV OL NV M base Q R bw PL N:Nat) (lr:Loop):Prop:=
 ∀ (i:Nat) (o ow sp:Value) (olds pls:List Nat) (out:List UInt8) (b:Nat) (W1 W2:World) (ob:Obj1) (fs:List (ByteArray×Val)) (val:Value),i<=31->ob ∈ os->pls.length=i ->
  Jw w0 W2 B D DV OL NV M base Q R bw PL N lr o ow sp olds pls out b->(∀ g,ow.ownBlock=some g->g<W1.heap.size)->(∀ g,sp.ownBlock=some g->g<W1.heap.size)->base+4<=W1.heap.size->W1.heap.size<=W2.heap.size->KeepQ W1 ob fs val W2 ->
  (∀ f ∈ fs,f.1.size<=100/\keptOk f.2)->fs.length<=3 ->
  YieldAt Fence.wide m Tryz.prog (N+1) #[.int .i64 ((i+1:Nat):Int),val] W2 (RoundQ w0 B D DV OL NV M base Q R bw PL N lr o olds pls out (objW nt (i+1) (tname ob) fs ob.stream out b))
set_option maxHeartbeats 8000000 in
set_option maxRecDepth 100000 in
theorem reached1_any {nt:Bool->Nat->Nat->ByteArray}{Q R bw PL N:Nat}{lr:Loop}{ow:Value}{out0:List UInt8}{b0 m:Nat}
  (h0:Doc w0 D B lo at_ pl root slp slo os xs) (hlo:B+1<lo) (h31:os.length<=31) (hroot:root<os.length) (hVO:∀ o ∈ os,VO o.v/\o.stream.size<=9000)
  (W:World) (hst:∀ NV,W.heap.size+3<=NV->Jst w0.heap.size B D DV (W.heap.size+1) NV (W.heap.size+2) W.heap.size Q R bw PL N)
  (hwr:Wr W Q R B bw ow out0 b0) (hpv:At1 W PL (.slice none 0 0) 52) (hfb:Fb B w0 W) (hdf:W.heap[N]?=some (.deferred (some []))) (hlp:W.heap[N+1]?=some (.loop lr)) (hdv:At1 W DV (.pointer (some ⟨D,0,none⟩)) 75)
  (hY:∀ NV,W.heap.size+3<=NV->RoundC nt m w0 os B D DV (W.heap.size+1) NV (W.heap.size+2) W.heap.size Q R bw PL N lr) :
  Calls Tryz.prog 94 #[.func (.yield (N+1)) #[] #[],.pointer (some ⟨DV,0,none⟩)] W (ReachQ w0 W B D DV Q R bw PL N lr (reachW nt os 40 0 [root] [] out0 b0)):=by
 have hmf:∀ (fn:Fn) (first cap:Array Value) (w:World),(Instr.makeFunc fn first cap).run Tryz.prog w=.ok (.func fn first cap) w:=fun _ _ _ _=>rfl
 have cV:=hdv.c;have hs1:=(hst _ (Nat.le_refl _)).lo;have hs2:=(hst _ (Nat.le_refl _)).hi;have hs3:=(hst _ (Nat.le_refl _)).ne;have hD:W.heap[D]?=w0.heap[D]?:=hfb.block D (by omega) (by omega);have hDW:W.heap[D]?=some (.cells #[.int .i64 (at_:Int),slp,.int .i64 (root:Int),slo,chg B] 101 (0,0)):=hD.trans h0.d;have c2:W.cell? ⟨D,2,none⟩=some (.int .i64 (root:Int)):=by simp[World.cell?,hDW]
 go_enter Tryz.func94,Tryz.ntmps94
 go_upto_region 1 with fail
 obtain⟨W1,hW1⟩:∃ W1,(W.alloc (.cells #[.int .i64 (root:Int)] 3)).alloc (.cells #[.slice (some ⟨W.heap.size,0,none⟩) 1 1] 52)=W1:=⟨_,rfl⟩;have hr1:W1.heap[W.heap.size]?=some (.cells #[.int .i64 (root:Int)] 3 (0,0)):=by rw[← hW1];exact heap_alloc2_old W _ _
 have hO1:W1.heap[W.heap.size+1]?=some (.cells #[.slice (some ⟨W.heap.size,0,none⟩) 1 1] 52 (0,0)):=by rw[← hW1];exact heap_alloc2_new W _ _
 have hB1:Below W.heap.size W W1:=by rw[← hW1];exact ((Below.refl _ _).alloc (Nat.le_refl _) _).alloc (by simp) _
 have hz1:W1.heap.size=W.heap.size+2:=by rw[← hW1];simp
 rw[hW1];clear hW1;obtain⟨W2,hW2⟩:∃ W2,W1.alloc (.map #[] 0)=W2:=⟨_,rfl⟩;have hM2:MapN W2 (W.heap.size+2) 0 (fun _=>none):=by rw[← hW2,← hz1];exact MapN.made W1
 have hB2:Below W1.heap.size W1 W2:=by rw[← hW2];exact (Below.refl _ _).alloc (Nat.le_refl _) _
 have hz2:W2.heap.size=W.heap.size+3:=by rw[← hW2];simp;omega
 have hBW2:Below W.heap.size W W2:=hB1.trans (hB2.mono (by omega));have hDlt:D<W.heap.size:=by have:=hfb.size;omega
 have hDVlt:DV<W.heap.size:=hdv.lt;have cV2:W2.cell? ⟨DV,0,none⟩=some (.pointer (some ⟨D,0,none⟩)):=(World.cell?_of_block (w:=W) (hBW2.block DV hDVlt)).trans cV;have c22:W2.cell? ⟨D,2,none⟩=some (.int .i64 (root:Int)):=(World.cell?_of_block (w:=W) (hBW2.block D hDlt)).trans c2;obtain⟨W3,hr3,hM3,hg3⟩:=hM2.update root (by omega) (by unfold maxLen;omega) (.int .i64 1)
 have hnf:(fun b=>if b=root then some (Value.int .i64 1) else (fun _=>none) b)=newsF [root]:=by
  funext a
  unfold newsF;simp only[idx]
  by_cases ha:a=root
  ·rw[if_pos ha,if_pos ha.symm];rfl
  ·rw[if_neg ha,if_neg (Ne.symm ha)];rfl
 rw[hnf] at hM3;have hz3:=hg3.size;have HZ2:=hid hz2;have HZ1:=hid hz1
 have hmk:(Instr.makeMap 142 none).run Tryz.prog W1=.ok (.map (some (W.heap.size+2))) W2:=by
  have:=Tryz.mkMap W1;rw[hW2,hz1] at this;exact this
 clear hz2 cV c2;rw[hz1] at hB2;clear hz1 hW2
 go_upto_region 2 with fail
 obtain⟨W4,hW4⟩:∃ W4,W3.alloc (.cells #[.map (some (W.heap.size+2))] 142)=W4:=⟨_,rfl⟩;obtain⟨NV,hNV⟩:∃ NV,W3.heap.size=NV:=⟨_,rfl⟩;have hz2:=unh HZ2;have hz1:=unh HZ1;have hB4:Below W3.heap.size W3 W4:=by rw[← hW4];exact (Below.refl _ _).alloc (Nat.le_refl _) _
 have hn4:W4.heap[NV]?=some (.cells #[.map (some (W.heap.size+2))] 142 (0,0)):=by rw[← hW4,← hNV];exact heap_alloc_new W3 _
 have hz4:W4.heap.size=NV+1:=by rw[← hW4,← hNV];simp
 have hNVl:W.heap.size+3<=NV:=by omega
 have hk3:∀ k,k<W2.heap.size->k≠W.heap.size+2->W4.heap[k]?=W2.heap[k]?:=fun k h1 h2=>(hB4.block k (by omega)).trans (hg3.block k h1 (by simpa using h2))
 have hk4:∀ k,k<W.heap.size+2->W4.heap[k]?=W1.heap[k]?:=fun k h1=>(hk3 k (by omega) (by omega)).trans (hB2.block k h1)
 have hBX:Below W.heap.size W W4:=⟨hB4.os.trans (hg3.os.trans hBW2.os),hB4.tape.trans (hg3.tape.trans hBW2.tape),hB4.output.trans (hg3.output.trans hBW2.output),by omega,fun k hk=>(hk4 k (by omega)).trans (hB1.block k hk)⟩;have hJs:=hst NV hNVl;have hJn:=hJs.ne;have hfs:=hfb.size;have hbl:=hwr.bud.lt;have hlN:=(Array.getElem?_eq_some_iff.1 hdf).1;have hlL:=(Array.getElem?_eq_some_iff.1 hlp).1
 have hNd:Nd W4 B D DV (W.heap.size+1) NV (W.heap.size+2) W.heap.size (.slice (some ⟨W.heap.size,0,none⟩) 1 1) [root] b0:=by
  refine⟨⟨(hk4 _ (by omega)).trans hO1,hn4,⟨rfl,.inr ⟨W.heap.size,1,#[.int .i64 (root:Int)],rfl,Nat.le_refl _,(hk4 _ (by omega)).trans hr1,Nat.le_refl _,by decide,rfl,rfl⟩⟩,⟨1,Nat.le_refl _,hM3.of_block (hB4.block _ (by omega))⟩,by simp,⟨by omega,by omega,by omega,by omega⟩,⟨by omega,by omega,by omega⟩⟩,
   hwr.bud.of_blocks (fun k hk=>hBX.block k (by omega)),(hBX.block DV hDVlt).trans hdv,⟨_,_,_,_,(hBX.block D hDlt).trans hDW⟩,⟨by omega,by omega,by omega,by omega,by omega,by omega,by omega,by omega,by omega⟩,⟨by omega,by omega,by omega,by omega,by omega,by omega⟩⟩
 have hJ4:Jw w0 W4 B D DV (W.heap.size+1) NV (W.heap.size+2) W.heap.size Q R bw PL N lr (.slice (some ⟨W.heap.size,0,none⟩) 1 1) ow (.slice none 0 0) [root] [] out0 b0:=
  ⟨hNd,hwr.below hBX,(hBX.block PL hpv.lt).trans hpv,⟨rfl,.inl ⟨rfl,rfl⟩⟩,fun g _ e=>by simp[Value.ownBlock] at e,hfb.trans (Fb.of_below hBX),(hBX.block N hlN).trans hdf,(hBX.block (N+1) hlL).trans hlp⟩
 have hYN:=hY NV hNVl;have HE0:Hid (reachW nt os 40 0 [root] [] out0 b0=reachW nt os 40 0 [root] [] out0 b0):=rfl
 have hroot1:OldsLt os.length [root]:=⟨by simp,fun n hn=>by
  have:n=root:=by simpa using hn
  rw[this];exact hroot⟩
 rw[hW4,hNV];clear hW4 hNV hr3 hM3 hg3 hB4 hn4 hk3 hk4 hNd hM2 hB2 hBW2 cV2 c22 hmk hr1 hO1 hB1 hz3 HZ2 HZ1 hnf hz1 hz2;obtain⟨base,hbase⟩:∃ base,W.heap.size=base:=⟨_,rfl⟩;have HB:=hid hbase;rw[hbase] at hJ4 hYN hJs hNVl ⊢;have hz4':base+4<=W4.heap.size:=by omega
 go_wp2_with fail
 go_loopw [6] (fun iv wr=>∃ (i:Nat) (o ow' sp:Value) (olds pls:List Nat) (out:List UInt8) (b:Nat),iv=.int .i64 ((i:Nat):Int)/\i<=olds.length/\0<olds.length/\pls.length=i/\OldsLt os.length olds/\base+4<=wr.heap.size/\Jw w0 wr B D DV (base+1) NV (base+2) base Q R bw PL N lr o ow' sp olds pls out b/\Hid (reachW nt os 40 0 [root] [] out0 b0=reachW nt os (40-i) i olds pls out b))
  (fun iv _=>40-(intOf iv).toNat)
 case atStart=>exact⟨0,_,ow,_,[root],[],out0,b0,rfl,Nat.zero_le _,by simp,rfl,hroot1,hz4',hJ4,hid rfl⟩
 case round=>
  obtain⟨i,o,ow',sp,olds,pls,out,b,rfl,hi,hi0,hpl,hOl,hzr,hJ,HE⟩:=hrel;clear hJ4 hz4' HE0;have hbase:=unh HB;have hOlen:=hOl.len;have cDV:=hJ.nd.dv.c;have cOL:=hJ.nd.n.ol.c;have hs1:=hJs.lo;have hs2:=hJs.hi;have hDr:wr.heap[D]?=some (.cells #[.int .i64 (at_:Int),slp,.int .i64 (root:Int),slo,chg B] 101 (0,0)):=(hJ.fb.block D (by omega) (by omega)).trans h0.d;have c3:wr.cell? ⟨D,3,none⟩=some slo:=by simp[World.cell?,hDr]
  obtain⟨go,co,hoE⟩:∃ g c,o=.slice (some ⟨g,0,none⟩) olds.length c:=by
   rcases hJ.nd.n.row.2 with⟨_,hn⟩|⟨g,cap,cur,e,_⟩
   ·omega
   ·exact⟨_,_,e⟩
  by_cases hil:i<olds.length
  ·have hilI:(i:Int)<(olds.length:Int):=by omega
   obtain⟨n,hn⟩:∃ n,olds[i]?=some n:=⟨olds[i],List.getElem?_eq_getElem hil⟩;have hnl:n<os.length:=hOl.2 n (List.mem_of_getElem? hn);obtain⟨ob,hob⟩:∃ ob,os[n]?=some ob:=⟨os[n],List.getElem?_eq_getElem hnl⟩;have hom:ob ∈ os:=List.mem_of_getElem? hob
   have cn:wr.cell? ⟨go,i,none⟩=some (.int .i64 (n:Int)):=by
    have:=World.ownsRow.cells hJ.nd.n.row (g:=go) (by rw[hoE];rfl) i (.int .i64 (n:Int)) (by unfold intsV;rw[List.getElem?_map,hn];rfl);rw[Addr.add_mid,Nat.zero_add] at this;exact this
   obtain⟨gs,cs,kk,xx,tt,rr,aa,nn,cc,mm,hsl,hcap,hgs,hgl,hra0,hRep,_⟩:=h0.obj n ob hob;have hra:wr.drew.rangeAt gs (n*10) [.int .i64 (kk:Int),.float .f64 xx,.string tt,.int .i64 (rr:Int),.slice aa nn cc,.map mm,.int .i64 (ob.place:Int),.int .i64 (ob.fin:Int),.bool ob.has,.string ob.stream]:=fun j u hj=>(World.cell?_of_block (w:=w0) (hJ.fb.block gs hgs (by omega))).trans (hra0 j u hj)
   have hFd:Fb B w0 wr.drew:=hJ.fb.trans (Fb.of_below (bdrew wr));have hNdd:=hJ.nd.below (bdrew wr);have KC:=keep_any h0 hlo (by omega) hFd hNdd (hOl.ok (by omega)) ⟨by omega,by omega,by omega⟩ ob (fun b hb=>⟨hb.1,hb.2.1⟩) (fun r=>vget_ok (hVO ob hom).1 r.key) hRep;have e40:40-i=(40-(i+1))+1:=by omega
   unfold newF at KC;have hwi:IntKind.i64.wrap ((i:Int)+1)=(i:Int)+1:=wraps_i64 _ (by omega) (by omega);subst hsl;subst hoE;have hnI:(n:Int)<(os.length:Int):=by omega
   go_wp2_with fail
   go_cut [6,44] (fun iv nv wx=>iv=.int .i64 (i:Int)/\nv=.bool false/\base+4<=wx.heap.size/\∃ fs olds' b1 out' b2 o' ow'' sp'',keepL os ob (rulesOf (tname ob)) [] olds b=.ok (fs,olds') b1/\objW nt (i+1) (tname ob) fs ob.stream out b1=.ok out' b2/\Jw w0 wx B D DV (base+1) NV (base+2) base Q R bw PL N lr o' ow'' sp'' olds' (pls++[out.length]) out' b2)
   case first=>
    have KC2:=KC.mono (R':=fun e w5=>(∃ val,e=.returned val/\∃ fn tmps asg bo,(Instr.yield (N+1) #[.int .i64 ((i:Int)+1),val]).run Tryz.prog w5=.ok (.round (N+1) fn tmps asg bo) w5/\RoundIn Fence.wide m Tryz.prog (N+1) fn tmps asg bo w5 (fun e w7=>(e=.returned (.bool true)/\base+4<=w7.heap.size/\∃ fs olds' b1 out' b2 o' ow'' sp'',keepL os ob (rulesOf (tname ob)) [] olds b=.ok (fs,olds') b1/\objW nt (i+1) (tname ob) fs ob.stream out b1=.ok out' b2/\Jw w0 w7 B D DV (base+1) NV (base+2) base Q R bw PL N lr o' ow'' sp'' olds' (pls++[out.length]) out' b2) \/
      ∃ c,e=.panicked c/\ReachQ w0 W B D DV Q R bw PL N lr (reachW nt os 40 0 [root] [] out0 b0) (.panicked c) w7))\/∃ c,e=.panicked c/\ReachQ w0 W B D DV Q R bw PL N lr (reachW nt os 40 0 [root] [] out0 b0) (.panicked c) w5) (by
     intro e w5 hP
     rcases q:keepL os ob (rulesOf (tname ob)) [] olds b with⟨⟨fs,olds'⟩,b1⟩|y
     ·rw[q] at hP;obtain⟨val,o5,rfl,hK5,hN5,hB5,F5⟩:=hP;have KL:=keepL_lt (by omega) (fun r=>vget_ok (hVO ob hom).1 r.key) _ [] q hOl (by simp);have hfl:fs.length<=3:=by have:=rulesOf_len (tname ob);have:=KL.2.2;simp at this;omega
      have hJ5:=hJ.keep hJs hN5 hB5 ((Fk.below _ (bdrew wr)).trans F5);have hz5:=F5.size;have hY5:=hYN i o5 ow' sp olds' pls out b1 wr.drew w5 ob fs val (by omega) hom hpl hJ5 (fun g hg=>(World.ownsRow.lt hJ.wr.row g hg).2) (fun g hg=>(World.ownsRow.lt hJ.pr g hg).2) hzr hz5 hK5 KL.2.1 hfl;obtain⟨fn5,tmps5,as5,bo5,hy5,hR5⟩:=hY5;rw[show ((i+1:Nat):Int)=(i:Int)+1 from by omega] at hy5;refine .inl ⟨val,rfl,fn5,tmps5,as5,bo5,hy5,hR5.mono ?_⟩;intro e7 w7 h7
      rcases q2:objW nt (i+1) (tname ob) fs ob.stream out b1 with⟨out',b2⟩|y
      ·rw[q2] at h7;obtain⟨rfl,ow7,sp7,hJ7⟩:=h7;exact .inl ⟨rfl,by have:=hJ7.nd.n.lt;omega,fs,olds',b1,out',b2,o5,ow7,sp7,rfl,q2,hJ7⟩
      ·rw[q2] at h7;obtain⟨rfl,F7,hd7⟩:=h7;exact .inr ⟨_,rfl,ReachQ.no ((unh HE).trans (by rw[e40,reachW,hn];simp only[hob,q,q2])) F7 hd7⟩
     ·rw[q] at hP;obtain⟨rfl,o5,F5⟩:=hP;have hown:=World.ownsRow.lt hJ.nd.n.row;have hFk:=(Fk.below _ (bdrew wr)).trans F5;refine .inr ⟨_,rfl,ReachQ.no ((unh HE).trans (by rw[e40,reachW,hn];simp only[hob,q])) (hFk.fb hJ.fb (by omega) (by omega) (fun k hk=>by have:=(hown k hk).1;omega)) ?_⟩
      exact (hFk.block N (Array.getElem?_eq_some_iff.1 hJ.df).1 (by omega) (by omega) (by omega) (fun e=>by have:=(hown N e).1;omega)).trans hJ.df)
    refine (wpIn_wide (n:=m+1)).1 ?_;have hmix:Tryz.prog.follows .mixedOrders=true:=by kernel_rfl
    clear KC hYN hJ HE hVO hOl h0 hRep
    gi_region_with_o (first
     | (with_reducible refine AsdI.here ?_;refine AsdI.load 122 10 _ rfl gs (n*10) _ rfl hra Tryz.sizeOb Tryz.agOb rfl ?_)
     | (refine⟨trivial,?_⟩;gi_at_call 96;refine (callsIn_wide.2 KC2).mono ?_;rintro e w5 (⟨val,rfl,fn5,tmps5,as5,bo5,hy5,hR5⟩ | ⟨c,rfl,hP5⟩);rotate_left;exact⟨rfl,hP5⟩)
     | (refine hR5.mono ?_;rintro e w7 (⟨rfl,hz7⟩ | ⟨c,rfl,hP7⟩);rotate_left;exact⟨rfl,hP7⟩))
    all_goals
     gi_wp2_with fail
     go_meet
     case rel=>exact⟨rfl,rfl,hz7⟩
   case rest=>
    obtain⟨wx,rfl⟩:∃ wx,wx=wc:=⟨_,rfl⟩;obtain⟨rfl,rfl,hzx,fs,olds',b1,out',b2,o',ow'',sp'',q,q2,hJx⟩:=hcut;have KL:=keepL_lt (by omega) (fun r=>vget_ok (hVO ob hom).1 r.key) _ [] q hOl (by simp);have hlo':olds.length<=olds'.length:=keepL_grow _ _ q;have HE2:Hid (reachW nt os 40 0 [root] [] out0 b0=reachW nt os (40-(i+1)) (i+1) olds' (pls++[out.length]) out' b2):=(unh HE).trans (by rw[e40,reachW,hn];simp only[hob,q,q2]);clear KC hYN hJ HE
    go_wp2_with fail
    go_roundw
    case rel=>exact⟨i+1,o',ow'',sp'',olds',pls++[out.length],out',b2,by go_num,by omega,by omega,by rw[List.length_append];simp;omega,KL.1,hzx,hJx,HE2⟩
    case measure=>simp[intOf];omega
  ·have hilI:¬ (i:Int)<(olds.length:Int):=by omega
   have hnone:olds[i]?=none:=List.getElem?_eq_none (by omega);have HE2:Hid (reachW nt os 40 0 [root] [] out0 b0=.ok (pls,out) b):=(unh HE).trans (by rw[show 40-i=(40-(i+1))+1 by omega,reachW,hnone]);subst hoE
   go_wp2_with fail
   first | go_end0 | refine bodyPost_ret (results_none rfl _ _ _) rfl ?_
   rw[unh HE2];exact⟨_,NV,_,ow',sp,olds,rfl,by omega,by rw[unh HB];exact hJ⟩
end
end Go.Proofs.YtgffljllfenhkaaGreatDoor
