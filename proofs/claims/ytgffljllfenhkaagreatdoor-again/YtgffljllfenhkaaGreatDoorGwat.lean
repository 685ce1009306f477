import Derived.Test.YtgffljllfenhkaaGreatDoorGwas
namespace Go.Proofs.YtgffljllfenhkaaGreatDoor
section
open Go.RowKit
attribute [local go_sem] Oper.semAt_some
variable {w w':World}{B D DV OL NV M base:Nat}{S S':Nat->Prop}
def LeafQ:Val->Value->World->Prop:=fun v val _=>∃ k1 x1 t1 r1 a1 n1 c1 m1,val=.agg #[.int .i64 ((k1:Nat):Int),.float .f64 x1,.string t1,.int .i64 ((r1:Nat):Int),.slice a1 n1 c1,.map m1]/\∀ (W:World) (T:Nat->Prop),Rep W T v (vC k1 x1 t1 r1 (.slice a1 n1 c1) (.map m1))
theorem Nd.turn {o:Value}{olds:List Nat}{b:Nat}(h:Nd w B D DV OL NV M base o olds b) (hs:w.heap.size<=w'.heap.size) (hk:∀ k,(k<base\/k=OL\/k=NV\/k=M)\/o.ownBlock=some k->w'.heap[k]?=w.heap[k]?):Nd w' B D DV OL NV M base o olds b:=by
 obtain⟨q0,q1,q2,q3,hd⟩:=h.d;have hl:=h.n.lt;have h1:=h.ne;have h2:=h.ne2;obtain⟨n,hn,hm⟩:=h.n.map
 exact⟨⟨(hk OL (.inl (by omega))).trans h.n.ol,(hk NV (.inl (by omega))).trans h.n.nv,ownsRow_blockI h.n.row (fun g hg=>hk g (.inr hg)),⟨n,hn,hm.of_block (hk M (.inl (by omega)))⟩,h.n.hl,⟨by omega,by omega,by omega,by omega⟩,h.n.ne⟩,
  h.bud.of_blocks (fun k hkk=>hk k (.inl (by omega))),(hk DV (.inl (by omega))).trans h.dv,⟨q0,q1,q2,q3,(hk D (.inl (by omega))).trans hd⟩,h.ne,h.ne2⟩
theorem Fk.turn {o o':Value}{w1 w2:World}(F:Fk B OL M o w o' w1) (ho:w2.os=w1.os/\w2.tape=w1.tape/\w2.output=w1.output) (hs:w1.heap.size<=w2.heap.size) (hk:∀ k,k<w.heap.size->w2.heap[k]?=w1.heap[k]?):Fk B OL M o w o' w2:=
 ⟨ho.1.trans F.os,ho.2.1.trans F.tape,ho.2.2.trans F.output,Nat.le_trans F.size hs,fun k h1 h2 h3 h4 h5=>(hk k h1).trans (F.block k h1 h2 h3 h4 h5),F.own⟩
theorem two_new (w:World) (cs:Array Value) :
  ∃ W,(w.alloc (.cells cs 120)).alloc (.cells #[.int .i64 0,.float .f64 0,.string ⟨#[]⟩,.int .i64 0,.slice none 0 0,.map none] 120)=W/\W.heap[w.heap.size]?=some (.cells cs 120 (0,0))/\W.heap[w.heap.size+1]?=some (.cells #[.int .i64 0,.float .f64 0,.string ⟨#[]⟩,.int .i64 0,.slice none 0 0,.map none] 120 (0,0))/\Below w.heap.size w W/\W.heap.size=w.heap.size+2:=
 ⟨_,rfl,heap_alloc2_old w _ _,heap_alloc2_new w _ _,((Below.refl _ _).alloc (Nat.le_refl _) _).alloc (by simp) _,by simp⟩
set_option maxHeartbeats 2000000 in
set_option maxRecDepth 100000 in
theorem ren_leaf {o:Value}{olds:List Nat}{b:Nat}(h:Nd w B D DV OL NV M base o olds b) (hl9:olds.length<=900) (v:Val) (hv:leafOk v) {kk xx:Nat}{tt:ByteArray}{rr:Nat}{aa:Option Addr}{nn cc:Nat}{mm:Option Nat}(hR:Rep w S v (vC kk xx tt rr (.slice aa nn cc) (.map mm))) :
  Calls Tryz.prog 121 #[.agg #[.int .i64 (kk:Int),.float .f64 xx,.string tt,.int .i64 (rr:Int),.slice aa nn cc,.map mm],newF DV NV OL] w (PostK B OL NV M base o w LeafQ (renLeaf olds v b)):=by
 have hnil:aa=none/\nn=0/\cc=0:=by
  cases v <;> first | exact hv.elim | (unfold Rep at hR;have:=(vC_m hR).2.2.2.2.1;simpa using this)
 obtain⟨rfl,rfl,rfl⟩:=hnil;have hk7:=(Rep.kindOf hR).2.2.2.1;have hrn:=(Rep.kindOf hR).2.2.2.2.2;have hlt:=h.n.lt;have hbase:=hlt.2.2.2;obtain⟨d,hd1,hd2⟩:=isStruct Tryz.agV;have hne:=h.ne;have hown:=World.ownsRow.lt h.n.row;unfold newF
 by_cases hk:kk=7
 ·obtain⟨n,rfl⟩:=hk7.1 hk;obtain rfl:=hrn n rfl;have hmm:xx=0/\tt=eB/\mm=none:=by unfold Rep at hR;have:=vC_m hR;exact⟨this.2.1,this.2.2.1,by simpa using this.2.2.2.2.2⟩
  obtain⟨rfl,rfl,rfl⟩:=hmm;subst hk;have hr8:rr<=100000:=by have:rr<=80000:=hv;omega
  have NU:∀ W,Nd W B D DV OL NV M base o olds b->Calls Tryz.prog 95 #[.int .i64 (rr:Int),.pointer (some ⟨DV,0,none⟩),.pointer (some ⟨NV,0,none⟩),.pointer (some ⟨OL,0,none⟩)] W (PostK B OL NV M base o W (fun (m:Nat) v _=>v=.int .i64 (m:Int)) (numR olds rr b)):=fun W hW=>hW.num rr hr8 hl9
  clear hk7 hrn hR
  go_enter Tryz.func121,Tryz.ntmps121
  go_upto_region 1 with fail
  obtain⟨W,hW,hX,hZ,hBW,hsW⟩:=two_new w #[.int .i64 7,.float .f64 0,.string eB,.int .i64 (rr:Int),.slice none 0 0,.map none];rw[hW];clear hW;have hNW:=h.below hBW;have c0:W.cell? ⟨w.heap.size,0,none⟩=some (.int .i64 7):=by simp[World.cell?,hX]
  have c3:W.cell? ⟨w.heap.size,3,none⟩=some (.int .i64 (rr:Int)):=by simp[World.cell?,hX]
  have HSW:=hid hsW
  rcases q:numR olds rr b with⟨⟨m,olds'⟩,b'⟩|y
  ·have HN:Hid (renLeaf olds (.ref rr) b=.ok (.ref m,olds') b'):=by show renLeaf olds (.ref rr) b=_;simp only[renLeaf,q]
   have HZ:=hid hsW;clear hsW
   go_wp2_with fail
   refine (PostK.okC (NU W hNW) q).mono ?_;rintro e w3 ⟨v3,o3,rfl,rfl,hN3,hB3,F3⟩;have hsW:=unh HZ;have hN3d:=hNW.step hN3 hB3 F3;have hX3:w3.heap[w.heap.size]?=_:=(F3.block w.heap.size (by omega) (by omega) (by omega) (by omega) (fun e=>by have:=(hown _ e).2;omega)).trans hX;have hZ3:w3.heap[w.heap.size+1]?=_:=(F3.block (w.heap.size+1) (by omega) (by omega) (by omega) (by omega) (fun e=>by have:=(hown _ e).2;omega)).trans hZ;have hs3:w.heap.size+2<=w3.heap.size:=by have:=F3.size;omega
   have d3:w3.cell? ⟨w.heap.size,3,none⟩=some (.int .i64 (rr:Int)):=by simp[World.cell?,hX3]
   have f3:w3.frozen? ⟨w.heap.size,3,none⟩=false:=by simp[World.frozen?,hX3]
   obtain⟨W4,hW4⟩:∃ W4,w3.setCell ⟨w.heap.size,3,none⟩ (.int .i64 (m:Int))=W4:=⟨_,rfl⟩;have hX4:W4.heap[w.heap.size]?=some (.cells #[.int .i64 7,.float .f64 0,.string eB,.int .i64 (m:Int),.slice none 0 0,.map none] 120 (0,0)):=by rw[← hW4,heap_setCell_same w3 w.heap.size 3 _ _ _ hX3];simp
   have hk4:∀ k,k≠w.heap.size->W4.heap[k]?=w3.heap[k]?:=fun k hk=>by rw[← hW4];exact Below.heap_setCell _ _ _ _ (by exact hk)
   have hs4:W4.heap.size=w3.heap.size:=by rw[← hW4];simp
   have c44:W4.cell? ⟨w.heap.size,4,none⟩=some (.slice none 0 0):=by simp[World.cell?,hX4]
   have f44:W4.frozen? ⟨w.heap.size,4,none⟩=false:=by simp[World.frozen?,hX4]
   have HO4:=hid (show W4.os=w3.os/\W4.tape=w3.tape/\W4.output=w3.output by rw[← hW4];exact⟨rfl,rfl,rfl⟩);obtain⟨W5,hW5⟩:∃ W5,W4.setCell ⟨w.heap.size,4,none⟩ (.slice none 0 0)=W5:=⟨_,rfl⟩;have hX5:W5.heap[w.heap.size]?=some (.cells #[.int .i64 7,.float .f64 0,.string eB,.int .i64 (m:Int),.slice none 0 0,.map none] 120 (0,0)):=by rw[← hW5,heap_setCell_same W4 w.heap.size 4 _ _ _ hX4];simp
   have hk5:∀ k,k≠w.heap.size->W5.heap[k]?=W4.heap[k]?:=fun k hk=>by rw[← hW5];exact Below.heap_setCell _ _ _ _ (by exact hk)
   have HS6:=hid (show W5.heap.size=W4.heap.size by rw[← hW5];simp);have c54:W5.cell? ⟨w.heap.size,4,none⟩=some (.slice none 0 0):=by simp[World.cell?,hX5]
   have HO5:=hid (show W5.os=W4.os/\W5.tape=W4.tape/\W5.output=W4.output by rw[← hW5];exact⟨rfl,rfl,rfl⟩);have hZ4:W4.heap[w.heap.size+1]?=_:=(hk4 (w.heap.size+1) (by omega)).trans hZ3;clear c0 c3;have HS3:=hid hsW;have HS4:=hid hs4;have HS5:=hid hs3;clear hsW hs4 hs3
   go_wp2_with (go_at_call 142;refine (clone_nil _).mono ?_;rintro e w5 ⟨rfl,rfl⟩)
   go_loopw [22] (fun v wr=>v=.int .i64 0/\wr=W5) (fun _ _=>0)
   case atStart=>exact⟨rfl,rfl⟩
   case round=>
    obtain⟨rfl,rfl⟩:=hrel;have hZ5:wr.heap[w.heap.size+1]?=_:=(hk5 (w.heap.size+1) (by omega)).trans hZ4
    go_wp2_with (first | (refine load_row rfl 120 _ rfl w.heap.size rfl 120 _ (0,0) hX5 Tryz.agV Tryz.sizeV ?_) | (refine wpList_store_row rfl 120 _ _ rfl (w.heap.size+1) _ rfl rfl 120 _ hZ5 Tryz.sizeV rfl (by simp[Value.oneCell']) ?_))
    refine bodyPost_ret (results_cell_row rfl _ _ (w.heap.size+1) 120 _ (0,0) d rfl (setRow_heap _ (w.heap.size+1) _ _ _ _ hZ5) hd1 (by cases d <;> first | rfl | cases hd2) Tryz.sizeV) rfl ?_;have hsW:=unh HS3;have hs4:=unh HS4;have hs3:=unh HS5;have hs5:=unh HS6;have hbl:∀ k,k≠w.heap.size->k≠w.heap.size+1->(wr.setRow (w.heap.size+1) #[.int .i64 7,.float .f64 0,.string eB,.int .i64 (m:Int),.slice none 0 0,.map none]).heap[k]?=w3.heap[k]?:=fun k h1 h2=>(setRow_other _ _ _ _ h2).trans ((hk5 k h1).trans (hk4 k h1))
    have ho3:∀ k,o3.ownBlock=some k->k≠w.heap.size/\k≠w.heap.size+1:=fun k hk=>by
     rcases F3.own with e|⟨g,e,hg⟩
     ·have:=(hown k (e ▸ hk)).2;omega
     ·rw[hk] at e;have:k=g:=by simpa using e
      omega
    have hsz:(wr.setRow (w.heap.size+1) #[.int .i64 7,.float .f64 0,.string eB,.int .i64 (m:Int),.slice none 0 0,.map none]).heap.size=w3.heap.size:=by rw[setRow_size];omega
    have hfin:=hN3d.turn (w':=wr.setRow (w.heap.size+1) #[.int .i64 7,.float .f64 0,.string eB,.int .i64 (m:Int),.slice none 0 0,.map none]) (by omega) (fun k hk=>hbl k (by rcases hk with h1 | h1;omega;exact (ho3 k h1).1) (by rcases hk with h1 | h1;omega;exact (ho3 k h1).2));have O4:=unh HO4;have O5:=unh HO5;exact PostK.ok (unh HN) ⟨7,0,eB,m,none,0,0,none,rfl,fun W T=>by unfold Rep;rfl⟩ hfin.n hfin.bud (((Fk.below o hBW).trans F3).turn ⟨O5.1.trans O4.1,O5.2.1.trans O4.2.1,O5.2.2.trans O4.2.2⟩ (by omega) (fun k hk=>hbl k (by omega) (by omega)))
  ·have HN:Hid (renLeaf olds (.ref rr) b=.no y):=by show renLeaf olds (.ref rr) b=_;simp only[renLeaf,q]
   clear hsW
   go_wp2_with fail
   refine (PostK.noC (NU W hNW) q).mono ?_;rintro e w3 ⟨rfl,o3,F3⟩;exact⟨rfl,PostK.no (unh HN) ((Fk.below o hBW).trans F3)⟩
 ·have hkb:((kk:Int)==7)=false:=by rw[beq_eq_false_iff_ne];omega
  have HN:Hid (renLeaf olds v b=.ok (v,olds) b):=by
   show renLeaf olds v b=_;cases v <;> first | rfl | (exfalso;exact hk (hk7.2 ⟨_,rfl⟩))
  have hRall:Hid (∀ (W:World) (T:Nat->Prop),Rep W T v (vC kk xx tt rr (.slice none 0 0) (.map mm))):=fun W T=>leaf_rep hv hR
  clear hk7 hrn hR
  go_enter Tryz.func121,Tryz.ntmps121
  go_upto_region 1 with fail
  obtain⟨W,hW,hX,hZ,hBW,hsW⟩:=two_new w #[.int .i64 (kk:Int),.float .f64 xx,.string tt,.int .i64 (rr:Int),.slice none 0 0,.map mm];rw[hW];clear hW;have hNW:=h.below hBW;have c0:W.cell? ⟨w.heap.size,0,none⟩=some (.int .i64 (kk:Int)):=by simp[World.cell?,hX]
  have c4:W.cell? ⟨w.heap.size,4,none⟩=some (.slice none 0 0):=by simp[World.cell?,hX]
  have f4:W.frozen? ⟨w.heap.size,4,none⟩=false:=by simp[World.frozen?,hX]
  obtain⟨W5,hW5⟩:∃ W5,W.setCell ⟨w.heap.size,4,none⟩ (.slice none 0 0)=W5:=⟨_,rfl⟩;have hX5:W5.heap[w.heap.size]?=some (.cells #[.int .i64 (kk:Int),.float .f64 xx,.string tt,.int .i64 (rr:Int),.slice none 0 0,.map mm] 120 (0,0)):=by rw[← hW5,heap_setCell_same W w.heap.size 4 _ _ _ hX];simp
  have hk5:∀ k,k≠w.heap.size->W5.heap[k]?=W.heap[k]?:=fun k hk=>by rw[← hW5];exact Below.heap_setCell _ _ _ _ (by exact hk)
  have HS6:=hid (show W5.heap.size=W.heap.size by rw[← hW5];simp);have c54:W5.cell? ⟨w.heap.size,4,none⟩=some (.slice none 0 0):=by simp[World.cell?,hX5]
  have HO5:=hid (show W5.os=W.os/\W5.tape=W.tape/\W5.output=W.output by rw[← hW5];exact⟨rfl,rfl,rfl⟩);have HS3:=hid hsW;clear hsW
  go_wp2_with (go_at_call 142;refine (clone_nil _).mono ?_;rintro e w5 ⟨rfl,rfl⟩)
  go_loopw [22] (fun v wr=>v=.int .i64 0/\wr=W5) (fun _ _=>0)
  case atStart=>exact⟨rfl,rfl⟩
  case round=>
   obtain⟨rfl,rfl⟩:=hrel;have hZ5:wr.heap[w.heap.size+1]?=_:=(hk5 (w.heap.size+1) (by omega)).trans hZ
   go_wp2_with (first | (refine load_row rfl 120 _ rfl w.heap.size rfl 120 _ (0,0) hX5 Tryz.agV Tryz.sizeV ?_) | (refine wpList_store_row rfl 120 _ _ rfl (w.heap.size+1) _ rfl rfl 120 _ hZ5 Tryz.sizeV rfl (one_six _ _ _ _ _ _ _ _) ?_))
   refine bodyPost_ret (results_cell_row rfl _ _ (w.heap.size+1) 120 _ (0,0) d rfl (setRow_heap _ (w.heap.size+1) _ _ _ _ hZ5) hd1 (by cases d <;> first | rfl | cases hd2) Tryz.sizeV) rfl ?_;have hsW:=unh HS3;have hs5:=unh HS6;have hbl:∀ k,k≠w.heap.size->k≠w.heap.size+1->(wr.setRow (w.heap.size+1) #[.int .i64 (kk:Int),.float .f64 xx,.string tt,.int .i64 (rr:Int),.slice none 0 0,.map mm]).heap[k]?=W.heap[k]?:=fun k h1 h2=>(setRow_other _ _ _ _ h2).trans (hk5 k h1)
   have hsz:(wr.setRow (w.heap.size+1) #[.int .i64 (kk:Int),.float .f64 xx,.string tt,.int .i64 (rr:Int),.slice none 0 0,.map mm]).heap.size=W.heap.size:=by rw[setRow_size];omega
   have hfin:=hNW.turn (w':=wr.setRow (w.heap.size+1) #[.int .i64 (kk:Int),.float .f64 xx,.string tt,.int .i64 (rr:Int),.slice none 0 0,.map mm]) (by omega) (fun k hk=>hbl k (by rcases hk with h1 | h1;omega;have:=(hown k h1).2;omega) (by rcases hk with h1 | h1;omega;have:=(hown k h1).2;omega));have O5:=unh HO5;exact PostK.ok (unh HN) ⟨kk,xx,tt,rr,none,0,0,mm,rfl,unh hRall⟩ hfin.n hfin.bud ((Fk.below o hBW).turn O5 (by omega) (fun k hk=>hbl k (by omega) (by omega)))
end
section
open Go.RowKit
attribute [local go_sem] Oper.semAt_some
variable {w w':World}{B D DV OL NV M base:Nat}{S S':Nat->Prop}
def OldsOk (olds:List Nat):Prop:=olds.Nodup/\∀ n ∈ olds,n<40
theorem few:∀ (K:Nat) (l:List Nat),l.Nodup->(∀ n ∈ l,n<K)->l.length<=K
 | 0,l,_,h=>by
  rcases l with _|⟨x,l⟩
  ·simp
  ·exact absurd (h x (by simp)) (by omega)
 | K+1,l,hn,h=>by
  by_cases hm:K ∈ l
  ·have h1:=few K (l.erase K) (hn.erase K) (fun n hnm=>by
    have h2:=(hn.mem_erase_iff.1 hnm);have:=h n h2.2
    omega)
   have:=List.length_erase_of_mem hm;omega
  ·have:=few K l hn (fun n hnl=>by
    have h2:=h n hnl;have h3:n≠K:=fun e=>hm (e ▸ hnl)
    omega)
   omega
theorem OldsOk.len {olds:List Nat}(h:OldsOk olds):olds.length<=40:=few 40 olds h.1 h.2
theorem idx_none {a:Nat}:∀ {olds:List Nat},idx olds a=none->a ∉ olds
 | [],_=>by simp
 | x::l,h=>by
  unfold idx at h;split at h
  ·cases h
  ·rename_i hx;have:idx l a=none:=by simpa using h
   have:=idx_none this;simp[Ne.symm hx,this]
theorem numR_ok {olds olds':List Nat}{old b m b':Nat}(h:numR olds old b=.ok (m,olds') b') (ho:OldsOk olds) (hold:old<40):OldsOk olds':=by
 unfold numR at h;split at h
 ·cases h
 ·split at h
  ·cases h;exact ho
  ·rename_i hi;cases h;have hni:=idx_none hi;refine⟨List.nodup_append.2 ⟨ho.1,by simp,fun a ha c hc=>?_⟩,fun n hn=>?_⟩
   ·have:c=old:=by simpa using hc
    rw[this];exact fun e=>hni (e ▸ ha)
   ·rcases List.mem_append.1 hn with h1|h1
    ·exact ho.2 n h1
    ·have:n=old:=by simpa using h1
     omega
def refOk (v:Val):Prop:=∀ n,v=.ref n->n<40
theorem renLeaf_ok {olds olds':List Nat}{b b':Nat}{v v':Val}(h:renLeaf olds v b=.ok (v',olds') b') (ho:OldsOk olds) (hr:refOk v):OldsOk olds':=by
 cases v
 case ref n=>
  simp only[renLeaf] at h
  rcases hq:numR olds n b with⟨⟨m,o2⟩,b2⟩|y
  ·rw[hq] at h;simp only[Res.ok.injEq,Prod.mk.injEq] at h;rw[← h.1.2];exact numR_ok hq ho (hr n rfl)
  ·rw[hq] at h;cases h
 all_goals (simp only[renLeaf,Res.ok.injEq,Prod.mk.injEq] at h;rw[← h.1.2];exact ho)
theorem Tryz.eqSome' (w:World) (a:Addr) (n c:Nat):(binOp .eql 117 (.slice (some a) n c) (.slice none 0 0)).run Tryz.prog w=.ok (.bool false) w:=by kernel_rfl
set_option maxHeartbeats 1000000 in
set_option maxRecDepth 100000 in
theorem clone_at (w:World) (a:Addr) (n c:Nat) (xs:List Value) (hx0:∀ j u,xs[j]?=some u->(w.alloc (.cells #[] 120)).cell? (a.add j)=some u) (hl:xs.length=n*6) (h1:∀ u ∈ xs,u.oneCell'=true) (hn:n<=9000) :
  Calls Tryz.prog 142 #[.slice (some a) n c] w (CloneQ w n xs):=by
 obtain⟨i0,hi,hz0,hz1,hz2⟩:=info_parts Tryz.infoV;have hq:=Tryz.eqSome' w a n c
 have hr0:(w.alloc (.cells #[] 120)).ownsRow w.heap.size 120 6 (.slice (some ⟨w.heap.size,0,none⟩) 0 0) 0 []:=by
  exact⟨rfl,.inr ⟨w.heap.size,0,#[],rfl,Nat.le_refl _,heap_alloc_new w _,Nat.le_refl _,Nat.zero_le _,rfl,rfl⟩⟩
 go_enter Tryz.func142,Tryz.ntmps142
 go_wp2_with (at_builtin;refine wpList_append_own_at _ rfl _ _ 117 rfl w.heap.size 120 i0 zeroV 6 72 Tryz.undV hi hz0 hz1 hz2 rfl (by decide) _ 0 [] rfl hr0 a n c xs rfl hl hx0 h1 (by unfold maxLen;omega) (by omega) (by simp) ?_;intro v3 w3 hown3 hg3 hnil3 hat3)
 go_ret
 rw[List.nil_append,Nat.zero_add] at hown3;have hg3':(w.alloc (.cells #[] 120)).grownBy w3 (some w.heap.size):=hg3
 rcases hown3.2 with⟨e,e2⟩|⟨g3,cap,cur,e,h2,h3,h4,h5,h6,h7⟩
 ·have:=(hnil3.1 e).1;cases this
 ·have hsz:=hg3.size;refine⟨g3,cap,by rw[e];rfl,h2,(Array.getElem?_eq_some_iff.1 h3).1,fun j u hj=>?_,fun j hj=>by simp[World.frozen?,h3],⟨hg3.os,hg3.tape,hg3.output,by simp at hsz;omega,fun k hk=>?_⟩,⟨_,h3⟩⟩
  ·have:=World.ownsRow.cells hown3 (g:=g3) (by rw[e];rfl) j u hj;rw[Addr.add_mid] at this;exact this
  ·exact (hg3'.block k (by simp;omega) (by simp;omega)).trans (Below.heap_alloc _ _ _ hk)
theorem StoreV.mid0 {o:Oper}{a:Act}{w:World}{K:Act->World->Prop}{Q:Exit->Act->World->Prop}(x y:Operand) (ho:o.op=.store 120 x y) (hd:o.dst=none)
  (g off:Nat) (cells:Array Value) (hx:a.eval x=.pointer (some ⟨g,off,none⟩)) (hy:a.eval y=.agg cells) (ht:w.there g off 6) (h6:cells.size=6) (h1:cells.all (·.oneCell')=true)
  (h:K a (w.setCells g off cells.toList)):StoreV Tryz.prog o a w K Q:=by
 refine wp_store_mid 120 x y ho g off cells hx hy (by rw[h6];exact ht) (by rw[h6];exact Tryz.sizeV) h1 ?_;rw[hd];exact h
theorem row_cells (g:Nat) (S:Nat->Prop):∀ (l:List Val) (off:Nat),(∀ i v,l[i]?=some v->∃ k1 x1 t1 r1 a1 n1 c1 m1,w.rangeAt g (off+i*6) [.int .i64 ((k1:Nat):Int),.float .f64 x1,.string t1,.int .i64 ((r1:Nat):Int),.slice a1 n1 c1,.map m1]/\Rep w S v (vC k1 x1 t1 r1 (.slice a1 n1 c1) (.map m1))) ->
  ∃ xs:List Value,xs.length=l.length*6/\(∀ j u,xs[j]?=some u->w.cell? ⟨g,off+j,none⟩=some u)/\(∀ u ∈ xs,u.oneCell'=true) /\
   ∀ i v,l[i]?=some v->∃ k1 x1 t1 r1 a1 n1 c1 m1,(∀ j u,[.int .i64 ((k1:Nat):Int),.float .f64 x1,.string t1,.int .i64 ((r1:Nat):Int),.slice a1 n1 c1,.map m1][j]?=some u->xs[i*6+j]?=some u)/\Rep w S v (vC k1 x1 t1 r1 (.slice a1 n1 c1) (.map m1))
 | [],off,_=>⟨[],rfl,by simp,by simp,by simp⟩
 | v::l,off,h=>by
  obtain⟨k1,x1,t1,r1,a1,n1,c1,m1,hr,hv⟩:=h 0 v rfl
  obtain⟨xs,e1,e2,e3,e4⟩:=row_cells g S l (off+6) (fun i u hi=>by
   obtain⟨k2,x2,t2,r2,a2,n2,c2,m2,hr2,hv2⟩:=h (i+1) u (by simpa using hi)
   exact⟨k2,x2,t2,r2,a2,n2,c2,m2,by rw[show off+6+i*6=off+(i+1)*6 by omega];exact hr2,hv2⟩)
  rw[Nat.zero_mul,Nat.add_zero] at hr;have hl6:([.int .i64 ((k1:Nat):Int),.float .f64 x1,.string t1,.int .i64 ((r1:Nat):Int),.slice a1 n1 c1,.map m1]:List Value).length=6:=rfl;refine⟨[.int .i64 ((k1:Nat):Int),.float .f64 x1,.string t1,.int .i64 ((r1:Nat):Int),.slice a1 n1 c1,.map m1]++xs,by rw[List.length_append,hl6,e1,List.length_cons];omega,fun j u hj=>?_,fun u hu=>?_,fun i u hi=>?_⟩
  ·by_cases h6:j<6
   ·rw[List.getElem?_append_left (by rw[hl6];exact h6)] at hj;exact hr j u hj
   ·rw[List.getElem?_append_right (by rw[hl6];omega),hl6] at hj;have:=e2 (j-6) u hj;rw[show off+6+(j-6)=off+j by omega] at this;exact this
  ·rcases List.mem_append.1 hu with h1|h1
   ·simp at h1
    rcases h1 with rfl|rfl|rfl|rfl|rfl|rfl <;> rfl
   ·exact e3 u h1
  ·cases i with
   | zero=>
    have:v=u:=by simpa using hi
    subst this;refine⟨k1,x1,t1,r1,a1,n1,c1,m1,fun j y hj=>?_,hv⟩;have hj6:j<6:=by have:=(List.getElem?_eq_some_iff.1 hj).1;rw[hl6] at this;exact this
    rw[Nat.zero_mul,Nat.zero_add,List.getElem?_append_left (by rw[hl6];exact hj6)];exact hj
   | succ i=>
    obtain⟨k2,x2,t2,r2,a2,n2,c2,m2,h1,h2⟩:=e4 i u (by simpa using hi);refine⟨k2,x2,t2,r2,a2,n2,c2,m2,fun j y hj=>?_,h2⟩;rw[List.getElem?_append_right (by rw[hl6];omega),hl6,show (i+1)*6+j-6=i*6+j by omega];exact h1 j y hj
def KeptQ (w:World):Val->Value->World->Prop:=fun v val w'=>∃ k1 x1 t1 r1 a1 n1 c1 m1,val=.agg #[.int .i64 ((k1:Nat):Int),.float .f64 x1,.string t1,.int .i64 ((r1:Nat):Int),.slice a1 n1 c1,.map m1]/\RepK w' (fun b=>w.heap.size<=b/\b<w'.heap.size/\isV w' b) v (vC k1 x1 t1 r1 (.slice a1 n1 c1) (.map m1))
end
end Go.Proofs.YtgffljllfenhkaaGreatDoor
