import Derived.Test.YtgffljllfenhkaaGreatDoorGwat
namespace Go.Proofs.YtgffljllfenhkaaGreatDoor
section
open Go.RowKit
attribute [local go_sem] Oper.semAt_some
variable {w w':World}{B D DV OL NV M base:Nat}{S S':Nat->Prop}
attribute [local go_sem ↓] store_v load_v Go.wp_at_zero Go.wp_at_succ
structure Rows2 (w:World) (g:Nat) (acc l:List Val):Prop where
 done:∀ j e,acc[j]?=some e->∃ k1 x1 t1 r1 a1 n1 c1 m1,w.rangeAt g (j*6) [.int .i64 ((k1:Nat):Int),.float .f64 x1,.string t1,.int .i64 ((r1:Nat):Int),.slice a1 n1 c1,.map m1]/\∀ (W:World) (T:Nat->Prop),Rep W T e (vC k1 x1 t1 r1 (.slice a1 n1 c1) (.map m1))
 rest:∀ j e,l[j]?=some e->acc.length<=j->∃ k1 x1 t1 r1 a1 n1 c1 m1,w.rangeAt g (j*6) [.int .i64 ((k1:Nat):Int),.float .f64 x1,.string t1,.int .i64 ((r1:Nat):Int),.slice a1 n1 c1,.map m1]/\∀ (W:World) (T:Nat->Prop),Rep W T e (vC k1 x1 t1 r1 (.slice a1 n1 c1) (.map m1))
 free:w.there g 0 (l.length*6)
 ty:isV w g
theorem isV.setCells {g:Nat}:∀ (vs:List Value) (o:Nat) (w:World),isV w g->isV (w.setCells g o vs) g
 | [],_,_,h=>h
 | v::vs,o,w,⟨_,hg⟩=>isV.setCells vs (o+1) (w.setCell ⟨g,o,none⟩ v) ⟨_,heap_setCell_same w g o _ _ v hg⟩
theorem Rows2.kept {g:Nat}{acc l:List Val}(h:Rows2 w g acc l) (hb:w'.heap[g]?=w.heap[g]?):Rows2 w' g acc l:=by
 refine⟨fun j e he=>?_,fun j e he hj=>?_,fun j hj=>?_,by obtain⟨cs,hg⟩:=h.ty;exact⟨cs,hb.trans hg⟩⟩
 ·obtain⟨k1,x1,t1,r1,a1,n1,c1,m1,h1,h2⟩:=h.done j e he;exact⟨k1,x1,t1,r1,a1,n1,c1,m1,fun i u hi=>(World.cell?_of_block (w:=w) hb).trans (h1 i u hi),h2⟩
 ·obtain⟨k1,x1,t1,r1,a1,n1,c1,m1,h1,h2⟩:=h.rest j e he hj;exact⟨k1,x1,t1,r1,a1,n1,c1,m1,fun i u hi=>(World.cell?_of_block (w:=w) hb).trans (h1 i u hi),h2⟩
 ·have:=h.free j hj;rw[World.cell?_of_block (w:=w) hb,World.frozen?_of_block (w:=w) hb];exact this
theorem Rows2.put {g:Nat}{acc l:List Val}(h:Rows2 w g acc l) (hl:acc.length<l.length) (v:Val) {k2 x2:Nat}{t2:ByteArray}{r2:Nat}{a2:Option Addr}{n2 c2:Nat}{m2:Option Nat}(hv:∀ (W:World) (T:Nat->Prop),Rep W T v (vC k2 x2 t2 r2 (.slice a2 n2 c2) (.map m2))) :
  Rows2 (w.setCells g (acc.length*6) [.int .i64 (k2:Int),.float .f64 x2,.string t2,.int .i64 (r2:Int),.slice a2 n2 c2,.map m2]) g (acc++[v]) l:=by
 have ht:w.there g (acc.length*6) 6:=fun j hj=>by
  have:=h.free (acc.length*6+j) (by omega);rw[Nat.zero_add] at this;exact this
 refine⟨fun j e he=>?_,fun j e he hj=>?_,fun j hj=>?_,isV.setCells _ _ _ h.ty⟩
 ·by_cases hjl:j<acc.length
  ·rw[List.getElem?_append_left hjl] at he;obtain⟨k1,x1,t1,r1,a1,n1,c1,m1,h1,h2⟩:=h.done j e he;exact⟨k1,x1,t1,r1,a1,n1,c1,m1,World.rangeAt_setCells_apart h1 g _ _ (.inr (.inl (by show j*6+6<=_;omega))),h2⟩
  ·have hjl2:=(List.getElem?_eq_some_iff.1 he).1;rw[List.length_append] at hjl2;have:j=acc.length:=by simp at hjl2;omega
   subst this;have:v=e:=by simpa using he
   subst this;exact⟨k2,x2,t2,r2,a2,n2,c2,m2,World.rangeAt_setCells_same w g _ _ ht,hv⟩
 ·rw[List.length_append] at hj;obtain⟨k1,x1,t1,r1,a1,n1,c1,m1,h1,h2⟩:=h.rest j e he (by simp at hj;omega);exact⟨k1,x1,t1,r1,a1,n1,c1,m1,World.rangeAt_setCells_apart h1 g _ _ (.inr (.inr (by show acc.length*6+6<=_;simp at hj;omega))),h2⟩
 ·have:=h.free j hj;exact⟨World.isSome_setCells g _ _ _ _ this.1,by rw[World.frozen?_setCells];exact this.2⟩
set_option maxHeartbeats 4000000 in
set_option maxRecDepth 100000 in
theorem ren_arr {o:Value}{olds:List Nat}{b:Nat}(h:Nd w B D DV OL NV M base o olds b) (ho:OldsOk olds) (l:List Val) (hv:∀ v ∈ l,leafOk v/\refOk v) (hl9:l.length<=9000) {a0:Addr}{cc:Nat}(hS:∀ b,S b->b<w.heap.size)
  (hrow:∀ i v,l[i]?=some v->∃ g k1 x1 t1 r1 a1 n1 c1 m1,(some a0:Option Addr)=some ⟨g,0,none⟩/\S g/\w.rangeAt g (i*6) [.int .i64 ((k1:Nat):Int),.float .f64 x1,.string t1,.int .i64 ((r1:Nat):Int),.slice a1 n1 c1,.map m1]/\Rep w S v (vC k1 x1 t1 r1 (.slice a1 n1 c1) (.map m1))) :
  Calls Tryz.prog 121 #[.agg #[.int .i64 8,.float .f64 0,.string eB,.int .i64 0,.slice (some a0) l.length cc,.map none],newF DV NV OL] w (PostK B OL NV M base o w (KeptQ w) (renV olds (.arr l) b)):=by
 have hlt:=h.n.lt;have hbase:=hlt.2.2.2;obtain⟨d,hd1,hd2⟩:=isStruct Tryz.agV;have hne:=h.ne;have hown:=World.ownsRow.lt h.n.row;unfold newF
 go_enter Tryz.func121,Tryz.ntmps121
 go_upto_region 1 with fail
 obtain⟨W,hW,hX,hZ,hBW,hsW⟩:=two_new w #[.int .i64 8,.float .f64 0,.string eB,.int .i64 0,.slice (some a0) l.length cc,.map none];rw[hW];clear hW;have hNW:=h.below hBW;have c0:W.cell? ⟨w.heap.size,0,none⟩=some (.int .i64 8):=by simp[World.cell?,hX]
 have c4:W.cell? ⟨w.heap.size,4,none⟩=some (.slice (some a0) l.length cc):=by simp[World.cell?,hX]
 have hxs:∃ xs:List Value,xs.length=l.length*6/\(∀ j u,xs[j]?=some u->(W.alloc (.cells #[] 120)).cell? (a0.add j)=some u)/\(∀ u ∈ xs,u.oneCell'=true) /\
   ∀ i v,l[i]?=some v->∃ k1 x1 t1 r1 a1 n1 c1 m1,(∀ j u,[.int .i64 ((k1:Nat):Int),.float .f64 x1,.string t1,.int .i64 ((r1:Nat):Int),.slice a1 n1 c1,.map m1][j]?=some u->xs[i*6+j]?=some u)/\Rep w S v (vC k1 x1 t1 r1 (.slice a1 n1 c1) (.map m1)):=by
  rcases hl0:l with _|⟨v0,l0⟩
  ·exact⟨[],rfl,by simp,by simp,by simp⟩
  ·obtain⟨g,_,_,_,_,_,_,_,_,e0,hSg,_,_⟩:=hrow 0 v0 (by rw[hl0];rfl);have e0':a0=⟨g,0,none⟩:=by simpa using e0
   rw[← hl0]
   obtain⟨xs,e1,e2,e3,e4⟩:=row_cells (w:=w) g S l 0 (fun i v hi=>by
    obtain⟨g',k1,x1,t1,r1,a1,n1,c1,m1,e5,_,h6,h7⟩:=hrow i v hi;have:g=g':=by rw[e0'] at e5;simpa using e5
    subst this
    exact⟨k1,x1,t1,r1,a1,n1,c1,m1,by rw[Nat.zero_add];exact h6,h7⟩)
   refine⟨xs,e1,fun j u hj=>?_,e3,e4⟩;rw[e0',Addr.add_mid];have hltg:=hS g hSg;exact (World.cell?_of_block (w:=w) ((Below.heap_alloc W _ g (by omega)).trans (hBW.block g hltg))).trans (e2 j u hj)
 obtain⟨xs,hx1,hx2,hx3,hx4⟩:=hxs;have CL:=clone_at W a0 l.length cc xs hx2 hx1 hx3 hl9;have HX4:=hid hx4;have HS0:=hid hsW;clear hx2 hx3 hx4 hrow hsW
 go_wp2_with fail
 refine CL.mono ?_;rintro e w3 ⟨g,c3,rfl,hg1,hg2,hg3,hg4,hB3,hgV⟩;have hsW:=unh HS0;have hX3:w3.heap[w.heap.size]?=_:=(hB3.block w.heap.size (by omega)).trans hX;have hZ3:w3.heap[w.heap.size+1]?=_:=(hB3.block (w.heap.size+1) (by omega)).trans hZ;have hN3:=hNW.below hB3
 have hRows3:Rows2 w3 g [] l:=by
  refine⟨by simp,fun j e he _=>?_,fun j hj=>?_,hgV⟩
  ·obtain⟨k1,x1,t1,r1,a1,n1,c1,m1,h1,h2⟩:=unh HX4 j e he;refine⟨k1,x1,t1,r1,a1,n1,c1,m1,fun i u hi=>?_,fun W' T=>leaf_rep (hv e (List.mem_of_getElem? he)).1 h2⟩;have:=hg3 _ u (h1 i u hi);rw[Nat.zero_add] at this;exact this
  ·have hjx:j<xs.length:=by omega
   have hc:=hg3 j _ (List.getElem?_eq_getElem hjx);exact⟨by rw[hc];rfl,by rw[Nat.zero_add];exact hg4 j hjx⟩
 have d4:w3.cell? ⟨w.heap.size,4,none⟩=some (.slice (some a0) l.length cc):=by simp[World.cell?,hX3]
 have f4:w3.frozen? ⟨w.heap.size,4,none⟩=false:=by simp[World.frozen?,hX3]
 obtain⟨W4,hW4⟩:∃ W4,w3.setCell ⟨w.heap.size,4,none⟩ (.slice (some ⟨g,0,none⟩) l.length c3)=W4:=⟨_,rfl⟩;have hX4:W4.heap[w.heap.size]?=some (.cells #[.int .i64 8,.float .f64 0,.string eB,.int .i64 0,.slice (some ⟨g,0,none⟩) l.length c3,.map none] 120 (0,0)):=by rw[← hW4,heap_setCell_same w3 w.heap.size 4 _ _ _ hX3];simp
 have hk4:∀ k,k≠w.heap.size->W4.heap[k]?=w3.heap[k]?:=fun k hk=>by rw[← hW4];exact Below.heap_setCell _ _ _ _ (by exact hk)
 have hs4:W4.heap.size=w3.heap.size:=by rw[← hW4];simp
 have hO4:W4.os=w3.os/\W4.tape=w3.tape/\W4.output=w3.output:=by rw[← hW4];exact⟨rfl,rfl,rfl⟩
 have c44:W4.cell? ⟨w.heap.size,4,none⟩=some (.slice (some ⟨g,0,none⟩) l.length c3):=by simp[World.cell?,hX4]
 have hs3:=hB3.size;have hN4:Nd W4 B D DV OL NV M base o olds b:=hN3.turn (by omega) (fun k hk=>hk4 k (by rcases hk with h1 | h1;omega;have:=(hown k h1).2;omega));have F4:Fk B OL M o w o W4:=(Fk.below o (hBW.trans (hB3.mono (by omega)))).turn hO4 (by omega) (fun k hk=>hk4 k (by omega));have hRows4:Rows2 W4 g [] l:=hRows3.kept (hk4 g (by omega));have hZ4:W4.heap[w.heap.size+1]?=_:=(hk4 (w.heap.size+1) (by omega)).trans hZ3;have HSg:Hid (w.heap.size+2<=g/\g<W4.heap.size):=⟨by omega,by omega⟩
 have HE0:Hid (renV olds (.arr l) b=match renL (l.drop 0) [] olds b with
  | .no y=>.no y
  | .ok (l',o') b'=>.ok (.arr l',o') b'):=rfl
 clear c0 c4 hsW hs3 hs4 hB3 hk4 hO4 hg1 hg2 hg3 hg4 hX3 hZ3 hN3 hRows3 CL HX4 hx1 hgV
 go_wp2_with fail
 go_loopw [22] (fun iv wr=>∃ (i:Nat) (acc:List Val) (oi:Value) (oldi:List Nat) (bi:Nat),iv=.int .i64 (i:Int)/\i<=l.length/\acc.length=i/\Nd wr B D DV OL NV M base oi oldi bi/\OldsOk oldi/\Fk B OL M o w oi wr/\Rows2 wr g acc l /\
   wr.heap[w.heap.size]?=some (.cells #[.int .i64 8,.float .f64 0,.string eB,.int .i64 0,.slice (some ⟨g,0,none⟩) l.length c3,.map none] 120 (0,0))/\wr.heap[w.heap.size+1]?=some (.cells #[.int .i64 0,.float .f64 0,.string ⟨#[]⟩,.int .i64 0,.slice none 0 0,.map none] 120 (0,0))/\W4.heap.size<=wr.heap.size/\(∀ k,oi.ownBlock=some k->k<w.heap.size\/W4.heap.size<=k) /\
   Hid (renV olds (.arr l) b=match renL (l.drop i) acc oldi bi with
    | .no y=>.no y
    | .ok (l',o') b'=>.ok (.arr l',o') b'))
  (fun iv _=>l.length-(intOf iv).toNat)
 case atStart=>exact⟨0,[],o,olds,b,rfl,Nat.zero_le _,rfl,hN4,ho,F4,hRows4,hX4,hZ4,Nat.le_refl _,fun k hk=>.inl (hown k hk).2,HE0⟩
 case round=>
  clear hN4 F4 hRows4 hX4 hZ4 HE0 d4 f4 c44;obtain⟨i,acc,oi,oldi,bi,rfl,hi,hacc,hN,hOk,hF,hRw,hXr,hZr,hsr,hoi,HE⟩:=hrel;have hsg:=unh HSg;have hownI:=World.ownsRow.lt hN.n.row
  by_cases hil:i<l.length
  ·have hilI:(i:Int)<(l.length:Int):=by omega
   obtain⟨v,hvi⟩:∃ v,l[i]?=some v:=⟨l[i],List.getElem?_eq_getElem hil⟩;obtain⟨hv1,hv2⟩:=hv v (List.mem_of_getElem? hvi)
   have hcons:l.drop i=v::l.drop (i+1):=by
    rw[List.drop_eq_getElem_cons hil];congr 1;exact Option.some.inj ((List.getElem?_eq_getElem hil).symm.trans hvi)
   have HC:=hid hcons;clear hcons;obtain⟨k1,x1,t1,r1,a1,n1,c1,m1,hra,hRep⟩:=hRw.rest i v hvi (by omega);have hBe:Below wr.heap.size wr (wr.alloc (.cells #[.int .i64 (k1:Int),.float .f64 x1,.string t1,.int .i64 (r1:Int),.slice a1 n1 c1,.map m1] 120)):=(Below.refl _ _).alloc (Nat.le_refl _) _;have hEb:(wr.alloc (.cells #[.int .i64 (k1:Int),.float .f64 x1,.string t1,.int .i64 (r1:Int),.slice a1 n1 c1,.map m1] 120)).heap[wr.heap.size]?=some (.cells #[.int .i64 (k1:Int),.float .f64 x1,.string t1,.int .i64 (r1:Int),.slice a1 n1 c1,.map m1] 120 (0,0)):=heap_alloc_new wr _;have hsE:(wr.alloc (.cells #[.int .i64 (k1:Int),.float .f64 x1,.string t1,.int .i64 (r1:Int),.slice a1 n1 c1,.map m1] 120)).heap.size=wr.heap.size+1:=by simp
   obtain⟨wo,rfl⟩:∃ wo,wo=wr:=⟨_,rfl⟩;obtain⟨WE,hWE⟩:∃ WE,wo.alloc (.cells #[.int .i64 (k1:Int),.float .f64 x1,.string t1,.int .i64 (r1:Int),.slice a1 n1 c1,.map m1] 120)=WE:=⟨_,rfl⟩;rw[hWE] at hBe hEb hsE;have HWE:=hid hWE;clear hWE;have hNE:=hN.below hBe;have hXE:=(hBe.block w.heap.size (by omega)).trans hXr;have hNEd:Nd WE.drew B D DV OL NV M base oi oldi bi:=⟨⟨hNE.n.ol,hNE.n.nv,hNE.n.row,hNE.n.map,hNE.n.hl,hNE.n.lt,hNE.n.ne⟩,hNE.bud.drew,hNE.dv,hNE.d,hNE.ne,hNE.ne2⟩;have hol:=hOk.len;have RL:=ren_leaf (S:=fun _=>True) hNEd (by omega) v hv1 (hRep WE.drew _);unfold newF at RL;have cX:WE.drew.cell? ⟨w.heap.size,4,none⟩=some (.slice (some ⟨g,0,none⟩) l.length c3):=by simp only[World.cell?];rw[show WE.drew.heap[w.heap.size]?=_ from hXE];rfl
   have hrE:WE.drew.rangeAt wo.heap.size 0 [.int .i64 (k1:Int),.float .f64 x1,.string t1,.int .i64 (r1:Int),.slice a1 n1 c1,.map m1]:=rangeAt_block (w:=WE.drew) hEb
   rcases q:renLeaf oldi v bi with⟨⟨v',o'⟩,b'⟩|y
   ·have HE1:Hid (renV olds (.arr l) b=match renL (l.drop (i+1)) (acc++[v']) o' b' with
     | .no y=>.no y
     | .ok (l',o') b'=>.ok (.arr l',o') b'):=(unh HE).trans (by rw[unh HC];simp only[renL,q])
    have hOk':=renLeaf_ok q hOk hv2;have HSW:=hid hsE;have HSo:=hid hsr;clear hsE HE
    go_upto_region 7 with (first | (refine load_mid rfl 120 _ rfl g (i*6) rfl _ hra Tryz.agV Tryz.sizeV ?_) | (refine wpList_store_row rfl 120 _ _ rfl wo.heap.size _ rfl rfl 120 _ (heap_alloc_new wo _) Tryz.sizeV rfl (one_six _ _ _ _ _ _ _ _) ?_;rw[setRow_alloc,unh HWE]))
    go_region_with (first
     | (go_at_call 121;refine (PostK.okC RL q).mono ?_;rintro e w5 ⟨v5,o5,rfl,⟨k2,x2,t2,r2,a2,n2,c2,m2,rfl,hRep5⟩,hN5,hB5,F5⟩;have hXk:=F5.block w.heap.size (by show w.heap.size<WE.heap.size;have:=unh HSW;have:=unh HSo;omega) (by omega) (by omega) (by omega) (fun e=>by have:=(hownI _ e).1;rcases hoi _ e with h1 | h1 <;> omega);have hX5:w5.heap[w.heap.size]?=some (.cells #[.int .i64 8,.float .f64 0,.string eB,.int .i64 0,.slice (some ⟨g,0,none⟩) l.length c3,.map none] 120 (0,0)):=hXk.trans hXE;have cX5:w5.cell? ⟨w.heap.size,4,none⟩=some (.slice (some ⟨g,0,none⟩) l.length c3):=(by simp[World.cell?,hX5]);have hgk:=F5.block g (by show g<WE.heap.size;have:=unh HSW;omega) (by omega) (by omega) (by omega) (fun e=>by rcases hoi _ e with h1 | h1 <;> omega);have hRw5:Rows2 w5 g acc l:=(hRw.kept (hBe.block g (by omega))).kept hgk;have hth5:w5.there g (i*6) 6:=(fun j hj=>by have:=hRw5.free (i*6+j) (by omega);rw[Nat.zero_add] at this;exact this))
     | (with_reducible refine LoadV.here ?_;refine LoadV.row _ rfl wo.heap.size 0 [.int .i64 (k1:Int),.float .f64 x1,.string t1,.int .i64 (r1:Int),.slice a1 n1 c1,.map m1] rfl hrE rfl ?_)
     | (with_reducible refine StoreV.here ?_;refine StoreV.mid0 _ _ rfl rfl g (i*6) #[.int .i64 (k2:Int),.float .f64 x2,.string t2,.int .i64 (r2:Int),.slice a2 n2 c2,.map m2] rfl rfl hth5 rfl (one_six _ _ _ _ _ _ _ _) ?_))
    all_goals
     go_wp2_with fail
     go_roundw
     case rel=>
      have hsE:=unh HSW;have hsr':=unh HSo;have hN5d:=hNEd.step hN5 hB5 F5
      have ho5:∀ k,o5.ownBlock=some k->k<w.heap.size\/W4.heap.size<=k:=fun k hk=>by
       rcases F5.own with e|⟨k',e,hk'⟩
       ·exact hoi k (e ▸ hk)
       ·rw[hk] at e;have:k=k':=by simpa using e
        have h9:WE.heap.size<=k':=hk'
        right;omega
      have hsz:=size_setCells' g [.int .i64 (k2:Int),.float .f64 x2,.string t2,.int .i64 (r2:Int),.slice a2 n2 c2,.map m2] (i*6) w5;have hro:=rest_setCells g [.int .i64 (k2:Int),.float .f64 x2,.string t2,.int .i64 (r2:Int),.slice a2 n2 c2,.map m2] (i*6) w5;have hs5:WE.heap.size<=w5.heap.size:=F5.size;have hE5:Fk B OL M o w o5 w5:=hF.trans ((Fk.below oi hBe).trans ((Fk.below oi (bdrew WE)).trans F5));refine⟨i+1,acc++[v'],o5,o',b',by go_num,by omega,by rw[List.length_append];simp;omega,hN5d.turn (by rw[hsz];exact Nat.le_refl _) (fun k hk=>heap_setCells_other g k (by rcases hk with h1 | h1;omega;rcases ho5 k h1 with h2 | h2 <;> omega) _ _ _),hOk',hE5.turn hro (by rw[hsz];exact Nat.le_refl _) (fun k hk=>heap_setCells_other g k (by omega) _ _ _),?_,?_,?_,by rw[hsz];omega,ho5,HE1⟩
      ·have:=hRw5.put (by omega) v' hRep5;rw[hacc] at this;exact this
      ·rw[heap_setCells_other g _ (by omega)];exact hX5
      ·rw[heap_setCells_other g _ (by omega)];refine (F5.block (w.heap.size+1) (by show _<WE.heap.size;omega) (by omega) (by omega) (by omega) (fun e=>by rcases hoi _ e with h1 | h1 <;> omega)).trans ?_;exact (hBe.block (w.heap.size+1) (by omega)).trans hZr
     case measure=>simp[intOf];omega
   ·have HN:Hid (renV olds (.arr l) b=.no y):=(unh HE).trans (by rw[unh HC];simp only[renL,q]);have HSW:=hid hsE;clear hsE HE
    go_upto_region 7 with (first | (refine load_mid rfl 120 _ rfl g (i*6) rfl _ hra Tryz.agV Tryz.sizeV ?_) | (refine wpList_store_row rfl 120 _ _ rfl wo.heap.size _ rfl rfl 120 _ (heap_alloc_new wo _) Tryz.sizeV rfl (one_six _ _ _ _ _ _ _ _) ?_;rw[setRow_alloc,unh HWE]))
    go_region_with (first
     | (go_at_call 121;refine (PostK.noC RL q).mono ?_;rintro e w5 ⟨rfl,o5,F5⟩;refine dead_end ⟨#[],[]⟩ w (show _ from ⟨rfl,PostK.no (unh HN) (hF.trans ((Fk.below oi hBe).trans ((Fk.below oi (bdrew WE)).trans F5)))⟩) ?_)
     | (with_reducible refine LoadV.here ?_;refine LoadV.row _ rfl wo.heap.size 0 [.int .i64 (k1:Int),.float .f64 x1,.string t1,.int .i64 (r1:Int),.slice a1 n1 c1,.map m1] rfl hrE rfl ?_))
    all_goals trivial
  ·have hilI:¬ (i:Int)<(l.length:Int):=by omega
   have HN:Hid (renV olds (.arr l) b=.ok (.arr acc,oldi) bi):=(unh HE).trans (by rw[List.drop_eq_nil_of_le (by omega)];simp only[renL]);have hil2:i=l.length:=by omega
   subst hil2;clear HE hilI;have hilI:¬ (l.length:Int)<(l.length:Int):=by omega
   go_wp2_with (first | (refine load_row rfl 120 _ rfl w.heap.size rfl 120 _ (0,0) hXr Tryz.agV Tryz.sizeV ?_) | (refine wpList_store_row rfl 120 _ _ rfl (w.heap.size+1) _ rfl rfl 120 _ hZr Tryz.sizeV rfl (by simp[Value.oneCell']) ?_))
   refine bodyPost_ret (results_cell_row rfl _ _ (w.heap.size+1) 120 _ (0,0) d rfl (setRow_heap _ (w.heap.size+1) _ _ _ _ hZr) hd1 (by cases d <;> first | rfl | cases hd2) Tryz.sizeV) rfl ?_;have hbl:∀ k,k≠w.heap.size+1->(wr.setRow (w.heap.size+1) #[.int .i64 8,.float .f64 0,.string eB,.int .i64 0,.slice (some ⟨g,0,none⟩) l.length c3,.map none]).heap[k]?=wr.heap[k]?:=fun k h2=>setRow_other _ _ _ _ h2
   have hsz:(wr.setRow (w.heap.size+1) #[.int .i64 8,.float .f64 0,.string eB,.int .i64 0,.slice (some ⟨g,0,none⟩) l.length c3,.map none]).heap.size=wr.heap.size:=by rw[setRow_size]
   have hfin:=hN.turn (w':=wr.setRow (w.heap.size+1) #[.int .i64 8,.float .f64 0,.string eB,.int .i64 0,.slice (some ⟨g,0,none⟩) l.length c3,.map none]) (by omega) (fun k hk=>hbl k (by rcases hk with h1 | h1;omega;rcases hoi k h1 with h2 | h2 <;> omega));have hRwF:=hRw.kept (w':=wr.setRow (w.heap.size+1) #[.int .i64 8,.float .f64 0,.string eB,.int .i64 0,.slice (some ⟨g,0,none⟩) l.length c3,.map none]) (hbl g (by omega));refine PostK.ok (unh HN) ⟨8,0,eB,0,some ⟨g,0,none⟩,l.length,c3,none,rfl,⟨some ⟨g,0,none⟩,c3,by rw[hacc],fun j e he=>?_⟩⟩ hfin.n hfin.bud (hF.turn ⟨rfl,rfl,rfl⟩ (by omega) (fun k hk=>hbl k (by omega)));obtain⟨k1,x1,t1,r1,a1,n1,c1,m1,h1,h2⟩:=hRwF.done j e he;exact⟨g,k1,x1,t1,r1,a1,n1,c1,m1,rfl,⟨by omega,by rw[hsz];omega,hRwF.ty⟩,h1,h2 _ _⟩
end
section
open Go.RowKit
attribute [local go_sem] Oper.semAt_some
variable {w w':World}{S S':Nat->Prop}
set_option maxHeartbeats 1000000 in
set_option maxRecDepth 100000 in
theorem box1_any (w:World) (k1 x1:Nat) (t1:ByteArray) (r1:Nat) (a1:Option Addr) (n1 c1:Nat) (m1:Option Nat) :
  Calls Tryz.prog 159 #[.agg #[.int .i64 (k1:Int),.float .f64 x1,.string t1,.int .i64 (r1:Int),.slice a1 n1 c1,.map m1]] w fun e w'=>e=.returned (.bool ((k1:Int) != 4))/\Below w.heap.size w w':=by
 have hB:Below w.heap.size w (w.alloc (.cells #[.int .i64 (k1:Int),.float .f64 x1,.string t1,.int .i64 (r1:Int),.slice a1 n1 c1,.map m1] 120)):=(Below.refl _ _).alloc (Nat.le_refl _) _
 go_enter Tryz.func159,Tryz.ntmps159
 go_wp2_with fail
 go_ret
 exact⟨rfl,hB⟩
set_option maxHeartbeats 2000000 in
set_option maxRecDepth 100000 in
theorem indexFunc_any (w:World) (g c:Nat) (l:List Val) (hl:l.length<=9000) (hg:g<w.heap.size) (hrow:∀ i v,l[i]?=some v->∃ k1 x1 t1 r1 a1 n1 c1 m1,w.rangeAt g (i*6) [.int .i64 ((k1:Nat):Int),.float .f64 x1,.string t1,.int .i64 ((r1:Nat):Int),.slice a1 n1 c1,.map m1]/\(k1=4 ↔ isNum v=true)) :
  Calls Tryz.prog 188 #[.slice (some ⟨g,0,none⟩) l.length c,.func (.func 159) #[] #[]] w fun e w'=>∃ r:Int,e=.returned (.int .i64 r)/\decide (0<=r)=!(l.all isNum)/\Below w.heap.size w w':=by
 go_enter Tryz.func188,Tryz.ntmps188
 go_wp2_with fail
 go_loopw [8] (fun iv wr=>∃ i:Nat,iv=.int .i64 (i:Int)/\i<=l.length/\(∀ v ∈ l.take i,isNum v=true)/\Below w.heap.size w wr) (fun iv _=>l.length-(intOf iv).toNat)
 case atStart=>exact⟨0,rfl,Nat.zero_le _,by simp,Below.refl _ _⟩
 case round=>
  obtain⟨i,rfl,hi,hall,hB⟩:=hrel
  by_cases hil:i<l.length
  ·have hilI:(i:Int)<(l.length:Int):=by omega
   obtain⟨v,hvi⟩:∃ v,l[i]?=some v:=⟨l[i],List.getElem?_eq_getElem hil⟩;obtain⟨k1,x1,t1,r1,a1,n1,c1,m1,hra,hk⟩:=hrow i v hvi;have hra':wr.rangeAt g (i*6) [.int .i64 ((k1:Nat):Int),.float .f64 x1,.string t1,.int .i64 ((r1:Nat):Int),.slice a1 n1 c1,.map m1]:=fun j u hj=>(hB.cell hg).trans (hra j u hj)
   have BX:=box1_any wr k1 x1 t1 r1 a1 n1 c1 m1;have HK:=hid hk;have HA:=hid hall;have hsB:=hB.size;clear hra hk hall
   by_cases hk4:k1=4
   ·have hkb:((k1:Int) != 4)=false:=by rw[bne_eq_false_iff_eq];omega
    have hnv:=(unh HK).1 hk4
    have hall2:∀ u ∈ l.take (i+1),isNum u=true:=fun u hu=>by
     rw[List.take_add_one,hvi] at hu
     rcases List.mem_append.1 hu with h1|h1
     ·exact unh HA u h1
     ·have:u=v:=by simpa using h1
      rw[this];exact hnv
    clear hk4
    go_wp2_with (first | (refine load_mid rfl 120 _ rfl g (i*6) rfl _ hra' Tryz.agV Tryz.sizeV ?_) | (go_at_call 159;refine BX.mono ?_;rintro e w3 ⟨rfl,hB3⟩))
    go_roundw
    case rel=>exact⟨i+1,by go_num,by omega,hall2,hB.trans (hB3.mono hsB)⟩
    case measure=>simp[intOf];omega
   ·have hkb:((k1:Int) != 4)=true:=by rw[bne_iff_ne];omega
    have hnv:isNum v=false:=by
     cases hq:isNum v
     ·rfl
     ·exact absurd ((unh HK).2 hq) hk4
    clear hk4
    go_wp2_with (first | (refine load_mid rfl 120 _ rfl g (i*6) rfl _ hra' Tryz.agV Tryz.sizeV ?_) | (go_at_call 159;refine BX.mono ?_;rintro e w3 ⟨rfl,hB3⟩))
    go_ret
    refine⟨_,rfl,?_,hB.trans (hB3.mono hsB)⟩
    have h1:l.all isNum=false:=by
     rw[List.all_eq_false];exact⟨v,List.mem_of_getElem? hvi,by rw[hnv];simp⟩
    rw[h1];simp
  ·have hilI:¬ (i:Int)<(l.length:Int):=by omega
   have h1:l.all isNum=true:=by
    rw[List.all_eq_true];intro v hv;exact hall v (by rw[List.take_of_length_le (by omega)];exact hv)
   have H1:=hid h1;clear hall h1
   go_wp2_with fail
   go_ret
   refine⟨_,rfl,?_,hB⟩;rw[unh H1];decide
set_option maxHeartbeats 1000000 in
set_option maxRecDepth 100000 in
theorem containsFunc_any (w:World) (g c:Nat) (l:List Val) (hl:l.length<=9000) (hg:g<w.heap.size) (hrow:∀ i v,l[i]?=some v->∃ k1 x1 t1 r1 a1 n1 c1 m1,w.rangeAt g (i*6) [.int .i64 ((k1:Nat):Int),.float .f64 x1,.string t1,.int .i64 ((r1:Nat):Int),.slice a1 n1 c1,.map m1]/\(k1=4 ↔ isNum v=true)) :
  Calls Tryz.prog 160 #[.slice (some ⟨g,0,none⟩) l.length c,.func (.func 159) #[] #[]] w fun e w'=>e=.returned (.bool (!(l.all isNum)))/\Below w.heap.size w w':=by
 have IX:=indexFunc_any w g c l hl hg hrow;clear hrow
 go_enter Tryz.func160,Tryz.ntmps160
 go_wp2_with fail
 refine IX.mono ?_;rintro e w3 ⟨r,rfl,hr,hB⟩
 go_wp2_with fail
 go_ret
 exact⟨rfl,hB⟩
attribute [local go_sem ↓] store_v load_v Go.wp_at_zero Go.wp_at_succ
set_option maxHeartbeats 4000000 in
set_option maxRecDepth 100000 in
theorem box_any (v:Val) (hS:∀ b,S b->b<w.heap.size) {kk xx:Nat}{tt:ByteArray}{rr:Nat}{aa:Option Addr}{nn cc:Nat}{mm:Option Nat}(hR:Rep w S v (vC kk xx tt rr (.slice aa nn cc) (.map mm)))
  (hel:∀ (i:Nat) (e:Val),(elemsOf v)[i]?=some e->∃ g k1 x1 t1 r1 a1 n1 c1 m1,aa=some ⟨g,0,none⟩/\S g/\w.rangeAt g (i*6) [.int .i64 ((k1:Nat):Int),.float .f64 x1,.string t1,.int .i64 ((r1:Nat):Int),.slice a1 n1 c1,.map m1]/\Rep w S e (vC k1 x1 t1 r1 (.slice a1 n1 c1) (.map m1))) :
  Calls Tryz.prog 140 #[.agg #[.int .i64 (kk:Int),.float .f64 xx,.string tt,.int .i64 (rr:Int),.slice aa nn cc,.map mm]] w fun e w'=>e=.returned (.tuple #[.agg #[.int .i64 (kk:Int),.float .f64 xx,.string tt,.int .i64 (rr:Int),.slice aa nn cc,.map mm],.bool (((elemsOf v).length==4)&&(elemsOf v).all isNum)])/\Below w.heap.size w w':=by
 have hnn:=(Rep.kindOf hR).2.2.2.2.1;clear hR;obtain⟨l,hl⟩:∃ l,elemsOf v=l:=⟨_,rfl⟩;rw[hl] at hnn hel;rw[hl];subst hnn;clear hl
 go_enter Tryz.func140,Tryz.ntmps140
 go_upto_region 2 with fail
 obtain⟨W,hW,hX,hZ,hBW,hsW⟩:=two_new w #[.int .i64 (kk:Int),.float .f64 xx,.string tt,.int .i64 (rr:Int),.slice aa l.length cc,.map mm];rw[hW];clear hW;have hrA:W.drew.rangeAt w.heap.size 0 [.int .i64 (kk:Int),.float .f64 xx,.string tt,.int .i64 (rr:Int),.slice aa l.length cc,.map mm]:=rangeAt_block (w:=W.drew) hX;have c4:W.drew.cell? ⟨w.heap.size,4,none⟩=some (.slice aa l.length cc):=by have:=hrA 4 (.slice aa l.length cc) rfl;simpa using this
 have hBd:Below w.heap.size w W.drew:=⟨hBW.os,hBW.tape,hBW.output,hBW.size,hBW.block⟩;have hZd:W.drew.heap[w.heap.size+1]?=some (.cells #[.int .i64 0,.float .f64 0,.string ⟨#[]⟩,.int .i64 0,.slice none 0 0,.map none] 120 (0,0)):=hZ;obtain⟨W2,hW2,hS2,hO2,hB2,hs2⟩:=storedV (w:=w) (W:=W.drew) (N:=w.heap.size) #[.int .i64 (kk:Int),.float .f64 xx,.string tt,.int .i64 (rr:Int),.slice aa l.length cc,.map mm] hZd (Nat.le_succ _) hBd;have c42:W2.cell? ⟨w.heap.size,4,none⟩=some (.slice aa l.length cc):=(World.cell?_of_block (w:=W.drew) (hO2 w.heap.size (by omega))).trans c4;have hsd:W.drew.heap.size=w.heap.size+2:=hsW
 by_cases h4:l.length=4
 ·have h4b:((l.length:Int)==4)=true:=by rw[beq_iff_eq];omega
  have hfin:Hid (l.all isNum=((l.length==4)&&l.all isNum)):=by show _=_;rw[h4];simp
  obtain⟨e00,he00⟩:∃ e,l[0]?=some e:=⟨l[0]'(by omega),List.getElem?_eq_getElem (by omega)⟩;obtain⟨g,_,_,_,_,_,_,_,_,e0,hSg,_,_⟩:=hel 0 e00 he00;clear he00;subst e0;have hgl:=hS g hSg
  have CF:∀ W3,(∀ k,k<w.heap.size->W3.heap[k]?=w.heap[k]?)->w.heap.size<=W3.heap.size->Calls Tryz.prog 160 #[.slice (some ⟨g,0,none⟩) l.length cc,.func (.func 159) #[] #[]] W3 fun e w'=>e=.returned (.bool (!(l.all isNum)))/\Below W3.heap.size W3 w':=fun W3 h3 hs3=>
   containsFunc_any W3 g cc l (by omega) (by omega) (fun i e he=>by
    obtain⟨g',k1,x1,t1,r1,a1,n1,c1,m1,e1,_,hra,hRe⟩:=hel i e he;have:g=g':=by simpa using e1
    subst this
    exact⟨k1,x1,t1,r1,a1,n1,c1,m1,fun j u hj=>(World.cell?_of_block (w:=w) (h3 g hgl)).trans (hra j u hj),(Rep.kindOf hRe).2.2.1⟩)
  clear hel h4
  go_cut [3] (fun rv wx=>rv=.bool ((l.length==4)&&l.all isNum)/\wx.heap[w.heap.size+1]?=some (.cells #[.int .i64 (kk:Int),.float .f64 xx,.string tt,.int .i64 (rr:Int),.slice (some ⟨g,0,none⟩) l.length cc,.map mm] 120 (0,0))/\Below w.heap.size w wx)
  case first=>
   go_region_with (first
    | (go_at_call 160;refine (CF _ ?hc1 ?hc2).mono ?_;(case hc1=>first | exact hB2.block | exact hBd.block);(case hc2=>first | exact hB2.size | exact hBd.size);rintro e w3 ⟨rfl,hB3⟩;(first | (have hq:Below W.drew.heap.size W.drew w3:=hB3;have hZ3:=(hB3.block (w.heap.size+1) (by show w.heap.size+1<W.heap.size;omega)).trans hZd;have hrA3:w3.rangeAt w.heap.size 0 [.int .i64 (kk:Int),.float .f64 xx,.string tt,.int .i64 (rr:Int),.slice (some ⟨g,0,none⟩) l.length cc,.map mm]:=(fun j u hj=>(hB3.cell (by show w.heap.size<W.heap.size;omega)).trans (hrA j u hj));have hBw3:Below w.heap.size w w3:=hBd.trans (hB3.mono hBd.size);clear hq) | (have hS3:=(hB3.block (w.heap.size+1) (by omega)).trans hS2;have hBw3:Below w.heap.size w w3:=hB2.trans (hB3.mono hB2.size))))
    | (with_reducible refine LoadV.here ?_;refine LoadV.row _ rfl w.heap.size 0 [.int .i64 (kk:Int),.float .f64 xx,.string tt,.int .i64 (rr:Int),.slice (some ⟨g,0,none⟩) l.length cc,.map mm] rfl ?hra rfl ?_;(case hra=>first | exact hrA3 | exact hrA))
    | (with_reducible refine StoreV.here ?_;first | (have tk:=hZ3;clear tk;refine StoreV.row0 _ _ rfl rfl (w.heap.size+1) #[.int .i64 (kk:Int),.float .f64 xx,.string tt,.int .i64 (rr:Int),.slice (some ⟨g,0,none⟩) l.length cc,.map mm] rfl rfl _ hZ3 rfl rfl (one_six _ _ _ _ _ _ _ _) ?_;obtain⟨W4,hW4,hS4,hO4,hB4,hs4⟩:=storedV (w:=w) (W:=w3) (N:=w.heap.size) #[.int .i64 (kk:Int),.float .f64 xx,.string tt,.int .i64 (rr:Int),.slice (some ⟨g,0,none⟩) l.length cc,.map mm] hZ3 (Nat.le_succ _) hBw3;rw[hW4];clear hW4) | (refine StoreV.row0 _ _ rfl rfl (w.heap.size+1) #[.int .i64 (kk:Int),.float .f64 xx,.string tt,.int .i64 (rr:Int),.slice (some ⟨g,0,none⟩) l.length cc,.map mm] rfl rfl _ hZd rfl rfl (one_six _ _ _ _ _ _ _ _) ?_;rw[hW2])))
   all_goals
    go_wp2_with fail
    go_meet
    case rel=>
     first
      | exact⟨congrArg Value.bool (unh hfin),hS4,hB4⟩
      | exact⟨congrArg Value.bool (unh hfin),hS3,hBw3⟩
  case rest=>
   obtain⟨rfl,hS,hBB⟩:=hcut
   go_wp2_with fail
   exact bodyPost_ret (res_two rfl _ _ _ _ _ rfl rfl hS rfl) rfl ⟨rfl,hBB⟩
 ·have h4b:((l.length:Int)==4)=false:=by rw[beq_eq_false_iff_ne];omega
  have hfin:Hid (false=((l.length==4)&&l.all isNum)):=by
   show _=_;have:(l.length==4)=false:=by rw[beq_eq_false_iff_ne];exact h4
   rw[this];rfl
  have h4n:(l.length==4)=false:=by rw[beq_eq_false_iff_ne];exact h4
  have h4d:decide (l.length=4)=false:=by simpa using h4
  clear hel
  go_cut [3] (fun rv wx=>rv=.bool ((l.length==4)&&l.all isNum)/\wx.heap[w.heap.size+1]?=some (.cells #[.int .i64 (kk:Int),.float .f64 xx,.string tt,.int .i64 (rr:Int),.slice aa l.length cc,.map mm] 120 (0,0))/\Below w.heap.size w wx)
  case first=>
   first
   | go_region_with (first
    | (with_reducible refine LoadV.here ?_;refine LoadV.row _ rfl w.heap.size 0 [.int .i64 (kk:Int),.float .f64 xx,.string tt,.int .i64 (rr:Int),.slice aa l.length cc,.map mm] rfl hrA rfl ?_)
    | (with_reducible refine StoreV.here ?_;refine StoreV.row0 _ _ rfl rfl (w.heap.size+1) #[.int .i64 (kk:Int),.float .f64 xx,.string tt,.int .i64 (rr:Int),.slice aa l.length cc,.map mm] rfl rfl _ hZd rfl rfl (one_six _ _ _ _ _ _ _ _) ?_;rw[hW2]))
   | fail
   all_goals
    go_wp2_with fail
    go_meet
    case rel=>exact⟨congrArg Value.bool (unh hfin),hS2,hB2⟩
  case rest=>
   obtain⟨rfl,hS,hBB⟩:=hcut
   go_wp2_with fail
   exact bodyPost_ret (res_two rfl _ _ _ _ _ rfl rfl hS rfl) rfl ⟨rfl,hBB⟩
end
end Go.Proofs.YtgffljllfenhkaaGreatDoor
