import Derived.Test.YtgffljllfenhkaaGreatDoorGwas
import Derived.Test.YtgffljllfenhkaaGreatDoorGwau
namespace Go.Proofs.YtgffljllfenhkaaGreatDoor
section
open Go.RowKit
attribute [local go_sem] Oper.semAt_some
variable {w w':World}{B:Nat}{D lo at_ root:Nat}{pl:List Nat}{slp slo:Value}{os:List Obj1}{xs:List Value}{S S':Nat->Prop}
theorem Rep.elems {v:Val}{kk xx:Nat}{tt:ByteArray}{rr:Nat}{aa:Option Addr}{nn cc:Nat}{mm:Option Nat}(h:Rep w S v (vC kk xx tt rr (.slice aa nn cc) (.map mm))) :
  ∀ (i:Nat) (e:Val),(elemsOf v)[i]?=some e->∃ g k1 x1 t1 r1 a1 n1 c1 m1,aa=some ⟨g,0,none⟩/\S g/\w.rangeAt g (i*6) [.int .i64 ((k1:Nat):Int),.float .f64 x1,.string t1,.int .i64 ((r1:Nat):Int),.slice a1 n1 c1,.map m1]/\Rep w S e (vC k1 x1 t1 r1 (.slice a1 n1 c1) (.map m1)):=by
 intro i e he;cases v
 case arr l=>
  unfold Rep at h;obtain⟨sl,ys,e1,ho,hg,hL⟩:=h;obtain⟨rfl,rfl,rfl,rfl,e5,_⟩:=vC_m e1;obtain⟨cs,hcv,hgx⟩:=RepL.get l hL i e he;obtain⟨k1,x1,t1,r1,a1,n1,c1,m1,rfl⟩:=hcv.shape;have hil:i<l.length:=(List.getElem?_eq_some_iff.1 he).1
  rcases ho.2 with⟨_,hn⟩|⟨g,cap,cur,e6,_,_,_⟩
  ·omega
  ·rw[e6] at e5;have hin:aa=some ⟨g,0,none⟩:=by have:=e5;simp at this;exact this.1
   refine⟨g,k1,x1,t1,r1,a1,n1,c1,m1,hin,hg g (by rw[e6];rfl),fun j u hj=>?_,hcv⟩;have:=World.ownsRow.cells ho (g:=g) (by rw[e6];rfl) _ u (hgx j u hj);rw[Addr.add_mid,Nat.zero_add] at this;exact this
 all_goals simp[elemsOf] at he
theorem Rep.toK {v:Val}{kk xx:Nat}{tt:ByteArray}{rr:Nat}{aa:Option Addr}{nn cc:Nat}{mm:Option Nat}(h:Rep w S v (vC kk xx tt rr (.slice aa nn cc) (.map mm))):RepK w S v (vC kk xx tt rr (.slice aa nn cc) (.map mm)):=by
 have he:=Rep.elems h;cases v
 case arr l=>
  unfold Rep at h;obtain⟨sl,ys,e1,ho,hg,hL⟩:=h;obtain⟨rfl,rfl,rfl,rfl,e5,e6⟩:=vC_m e1;simp only[Value.map.injEq] at e6;subst e6;obtain⟨a,c,rfl⟩:=ownsRow_shape ho;simp only[Value.slice.injEq] at e5;obtain⟨rfl,rfl,rfl⟩:=e5;exact⟨_,_,rfl,he⟩
 all_goals exact h
def RightQ (w:World) (S:Nat->Prop):Val×Bool->Value->World->Prop:=fun x val w'=>∃ k1 x1 t1 r1 a1 n1 c1 m1,val=.tuple #[.agg #[.int .i64 ((k1:Nat):Int),.float .f64 x1,.string t1,.int .i64 ((r1:Nat):Int),.slice a1 n1 c1,.map m1],.bool x.2]/\RepK w' (fun b=>S b\/(w.heap.size<=b/\b<w'.heap.size)) x.1 (vC k1 x1 t1 r1 (.slice a1 n1 c1) (.map m1))/\(a1=none->n1=0/\c1=0)
set_option maxHeartbeats 400000 in
theorem referenceTo_any (w:World) (D:Nat) (ty:ByteArray) :
  Calls Tryz.prog 141 #[.pointer (some ⟨D,0,none⟩),.string ty] w fun e w'=>
   e=.returned (.func (.func 161) #[] #[.pointer (some ⟨w.heap.size,0,none⟩),.pointer (some ⟨w.heap.size+1,0,none⟩)]) /\
   (w.alloc (.cells #[.pointer (some ⟨D,0,none⟩)] 75)).alloc (.cells #[.string ty] 9)=w':=by
 have hmf:∀ (fn:Fn) (first cap:Array Value) (w:World),(Instr.makeFunc fn first cap).run Tryz.prog w=.ok (.func fn first cap) w:=fun _ _ _ _=>rfl
 go_enter Tryz.func141,Tryz.ntmps141
 go_wp2
 go_ret
 exact⟨rfl,rfl⟩
structure KidS (w wr:World) (B D b:Nat) (X:Array Value) (sl:Value) (acc:List Val) (ys:List Value):Prop where
 f:Fb B w wr
 bud:Bud wr B b
 v:wr.heap[w.heap.size]?=some (.cells X 120 (0,0))
 z:wr.heap[w.heap.size+1]?=some (.cells #[.int .i64 0,.float .f64 0,.string ⟨#[]⟩,.int .i64 0,.slice none 0 0,.map none] 120 (0,0))
 p:wr.heap[w.heap.size+2]?=some (.cells #[.int .i64 8,.float .f64 0,.string eB,.int .i64 0,sl,.map none] 120 (0,0))
 dv:At1 wr (w.heap.size+3) (.pointer (some ⟨D,0,none⟩)) 75
 tv:At1 wr (w.heap.size+4) (.string pageB) 9
 row:wr.ownsRow (w.heap.size+5) 120 6 sl acc.length ys
 rep:RepL wr (fun _=>False) acc ys
theorem KidS.kept {wr W:World}{b b':Nat}{X:Array Value}{sl:Value}{acc:List Val}{ys:List Value}(h:KidS w wr B D b X sl acc ys) (hB:B+1<w.heap.size) (F:Fb B wr W) (hb:Bud W B b'):KidS w W B D b' X sl acc ys:=by
 have h4:=h.tv.lt;have ho:=World.ownsRow.lt h.row
 exact⟨h.f.trans F,hb,(F.block _ (by omega) (by omega)).trans h.v,(F.block _ (by omega) (by omega)).trans h.z,(F.block _ (by omega) (by omega)).trans h.p,(F.block _ (by omega) (by omega)).trans h.dv,(F.block _ (by omega) (by omega)).trans h.tv,
  ownsRow_of_block h.row (fun g hg=>F.block g (ho g hg).2 (by have:=(ho g hg).1;omega)),RepL.kept (fun _ hb=>hb.elim) acc h.rep⟩
theorem KidS.new {b:Nat}(X:Array Value) (hB:Bud w B b) {W:World}(h2:W.heap[w.heap.size]?=some (.cells X 120 (0,0))) (h3:W.heap[w.heap.size+1]?=some (.cells #[.int .i64 0,.float .f64 0,.string ⟨#[]⟩,.int .i64 0,.slice none 0 0,.map none] 120 (0,0))) (hBW:Below w.heap.size w W) (hs:W.heap.size=w.heap.size+2) :
  KidS w (((W.alloc (.cells #[.int .i64 8,.float .f64 0,.string eB,.int .i64 0,.slice none 0 0,.map none] 120)).alloc (.cells #[.pointer (some ⟨D,0,none⟩)] 75)).alloc (.cells #[.string pageB] 9)) B D b X (.slice none 0 0) [] []:=by
 have hlt:=hB.lt;obtain⟨W1,hW1⟩:∃ W1,W.alloc (.cells #[.int .i64 8,.float .f64 0,.string eB,.int .i64 0,.slice none 0 0,.map none] 120)=W1:=⟨_,rfl⟩;have k1:∀ k,k<w.heap.size+2->W1.heap[k]?=W.heap[k]?:=fun k hk=>by rw[← hW1];exact Below.heap_alloc _ _ _ (by omega)
 have s1:W1.heap.size=w.heap.size+3:=by rw[← hW1];simp[hs]
 have n1:W1.heap[w.heap.size+2]?=some (.cells #[.int .i64 8,.float .f64 0,.string eB,.int .i64 0,.slice none 0 0,.map none] 120 (0,0)):=by rw[← hW1,← hs];exact heap_alloc_new W _
 rw[hW1];obtain⟨W2,hW2⟩:∃ W2,W1.alloc (.cells #[.pointer (some ⟨D,0,none⟩)] 75)=W2:=⟨_,rfl⟩;have k2:∀ k,k<w.heap.size+3->W2.heap[k]?=W1.heap[k]?:=fun k hk=>by rw[← hW2];exact Below.heap_alloc _ _ _ (by omega)
 have s2:W2.heap.size=w.heap.size+4:=by rw[← hW2];simp[s1]
 have n2:At1 W2 (w.heap.size+3) (.pointer (some ⟨D,0,none⟩)) 75:=by rw[← hW2,← s1];exact heap_alloc_new W1 _
 rw[hW2];have k3:∀ k,k<w.heap.size+4->(W2.alloc (.cells #[.string pageB] 9)).heap[k]?=W2.heap[k]?:=fun k hk=>Below.heap_alloc _ _ _ (by omega)
 have n3:At1 (W2.alloc (.cells #[.string pageB] 9)) (w.heap.size+4) (.string pageB) 9:=by rw[← s2];exact heap_alloc_new W2 _
 have F:Below w.heap.size w (W2.alloc (.cells #[.string pageB] 9)):=by
  rw[← hW2,← hW1];exact ((hBW.alloc (by omega) _).alloc (by simp[hs];omega) _).alloc (by simp[hs];omega) _
 refine⟨Fb.of_below F,hB.of_blocks (fun k hk=>F.block k (by omega)),?_,?_,?_,?_,n3,World.ownsRow_nil _ _ _ _,by unfold RepL;rfl⟩
 ·exact (k3 _ (by omega)).trans ((k2 _ (by omega)).trans ((k1 _ (by omega)).trans h2))
 ·exact (k3 _ (by omega)).trans ((k2 _ (by omega)).trans ((k1 _ (by omega)).trans h3))
 ·exact (k3 _ (by omega)).trans ((k2 _ (by omega)).trans n1)
 ·exact (k3 _ (by omega)).trans n2
theorem row_repK {N:Nat}{a:Option Addr}{c:Nat}{acc:List Val}{ys:List Value}(hrow:w.ownsRow N 120 6 (.slice a acc.length c) acc.length ys) (hL:RepL w (fun _=>False) acc ys) (hS:∀ b,N<=b/\b<w.heap.size->S b):RepK w S (.arr acc) (vC 8 0 eB 0 (.slice a acc.length c) (.map none)):=by
 refine⟨a,c,rfl,fun i v hi=>?_⟩;obtain⟨cs,hcv,hgx⟩:=RepL.get acc hL i v hi;obtain⟨k1,x1,t1,r1,a1,n1,c1,m1,rfl⟩:=hcv.shape;have hil:i<acc.length:=(List.getElem?_eq_some_iff.1 hi).1
 rcases hrow.2 with⟨_,hn⟩|⟨g,cap,cur,e6,h1,h2,_⟩
 ·omega
 ·have hin:a=some ⟨g,0,none⟩:=by simp at e6;exact e6.1
  refine⟨g,k1,x1,t1,r1,a1,n1,c1,m1,hin,hS g ⟨h1,(Array.getElem?_eq_some_iff.1 h2).1⟩,fun j u hj=>?_,Rep.kept (fun b hb=>hb.elim) v hcv⟩;have:=World.ownsRow.cells hrow (g:=g) (by rw[e6];rfl) _ u (hgx j u hj);rw[Addr.add_mid,Nat.zero_add] at this;exact this
theorem refTo_rep {ty:ByteArray}{v:Val}{cs:List Value}(h:refTo os ty v=true) (hR:Rep w S v cs):Rep w' S' v cs:=by
 cases v <;> first | exact hR | (simp[refTo] at h)
attribute [local go_sem ↓] store_v load_v Go.wp_at_zero Go.wp_at_succ
set_option maxHeartbeats 4000000 in
set_option maxRecDepth 100000 in
theorem kids_any {b:Nat}(h:Doc w D B lo at_ pl root slp slo os xs) (hBd:Bud w B b) (hlo:B+1<lo)
  (v:Val) (hS:∀ b,S b->b<w.heap.size/\b≠B) {kk xx:Nat} {tt:ByteArray} {rr:Nat} {aa:Option Addr} {nn cc:Nat} {mm:Option Nat} (hR:Rep w S v (vC kk xx tt rr (.slice aa nn cc) (.map mm))) (hl9:(elemsOf v).length<=9000) :
  Calls Tryz.prog 138 #[.pointer (some ⟨D,0,none⟩),.agg #[.int .i64 (kk:Int),.float .f64 xx,.string tt,.int .i64 (rr:Int),.slice aa nn cc,.map mm]] w (PostB B w (RightQ w S) (kidsR os v b)):=by
 obtain⟨i0,hi,hz0,hz1,hz2⟩:=info_parts Tryz.infoV;have hk8:=(Rep.kindOf hR).2.1;have hnn:=(Rep.kindOf hR).2.2.2.2.1;have hel:=Rep.elems hR;have hkb:((kk:Int)==8)=isArr v:=by rw[Bool.eq_iff_iff,← hk8,beq_iff_eq];omega
 have hltD:=h.ltD;have hltB:=hBd.lt;have hloD:=h.lo;obtain⟨l,hl⟩:∃ l,elemsOf v=l:=⟨_,rfl⟩;rw[hl] at hnn hel hl9;have HL:=hid hl;subst hnn;clear hk8 hR hl
 go_enter Tryz.func138,Tryz.ntmps138
 go_upto_region 1 with fail
 obtain⟨W,hW,hX,hZ,hBW,hsW⟩:=two_new w #[.int .i64 (kk:Int),.float .f64 xx,.string tt,.int .i64 (rr:Int),.slice aa l.length cc,.map mm];rw[hW];clear hW;have hK0:=KidS.new (D:=D) #[.int .i64 (kk:Int),.float .f64 xx,.string tt,.int .i64 (rr:Int),.slice aa l.length cc,.map mm] hBd hX hZ hBW hsW;have HSW:=hid hsW;clear hX hZ hsW
 go_upto_region 2 with (refine wpList_store_row rfl 120 _ _ rfl W.heap.size _ rfl rfl 120 _ (heap_alloc_new W _) Tryz.sizeV rfl (one_six 8 0 ⟨#[]⟩ 0 none 0 0 none) ?_;rw[setRow_alloc])
 have hs3:(W.alloc (.cells #[.int .i64 8,.float .f64 0,.string eB,.int .i64 0,.slice none 0 0,.map none] 120)).heap.size=w.heap.size+3:=by simp[unh HSW]
 obtain⟨W3,hW3⟩:∃ W3,W.alloc (.cells #[.int .i64 8,.float .f64 0,.string eB,.int .i64 0,.slice none 0 0,.map none] 120)=W3:=⟨_,rfl⟩;rw[hW3] at hK0 hs3;have e3:W.alloc (.cells #[.int .i64 8,.float .f64 0,.string ⟨#[]⟩,.int .i64 0,.slice none 0 0,.map none] 120)=W3:=hW3;rw[e3];clear hW3 e3;rw[unh HSW];have RF:=referenceTo_any W3 D pageB;rw[hs3] at RF
 go_wp2_with fail
 refine RF.mono ?_;rintro e w5 ⟨rfl,hw5⟩;rw[hw5] at hK0;clear hw5 RF hs3;have cv4:w5.cell? ⟨w.heap.size,4,none⟩=some (.slice aa l.length cc):=by have:=hK0.v;simp[World.cell?,this]
 go_wp2_with fail
 go_loopw [18] (fun iv wr=>∃ (i:Nat) (sl:Value) (ys:List Value),iv=.int .i64 (i:Int)/\i<=l.length/\i<=b/\KidS w wr B D (b-i) #[.int .i64 (kk:Int),.float .f64 xx,.string tt,.int .i64 (rr:Int),.slice aa l.length cc,.map mm] sl ((l.take i).filter (refTo os pageB)) ys)
  (fun iv _=>l.length-(intOf iv).toNat)
 case atStart=>exact⟨0,_,[],rfl,Nat.zero_le _,Nat.zero_le _,hK0⟩
 case round=>
  clear hK0 cv4;obtain⟨i,sl,ys,rfl,hil,hib,hK⟩:=hrel;obtain⟨ao,cp,hsl⟩:=ownsRow_shape hK.row
  by_cases hlt:i<l.length
  ·have hilI:(i:Int)<(l.length:Int):=by omega
   obtain⟨ev,hvi⟩:∃ v,l[i]?=some v:=⟨l[i],List.getElem?_eq_getElem hlt⟩;have htk:l.take (i+1)=l.take i++[ev]:=by rw[List.take_add_one,hvi];rfl
   obtain⟨g,k1,x1,t1,r1,a1,n1,c1,m1,haa,hSg,hra,hRe⟩:=hel i ev hvi;have hSgl:=hS g hSg;subst haa;have hra':wr.rangeAt g (i*6) [.int .i64 ((k1:Nat):Int),.float .f64 x1,.string t1,.int .i64 ((r1:Nat):Int),.slice a1 n1 c1,.map m1]:=fun j u hj=>(World.cell?_of_block (w:=w) (hK.f.block g hSgl.1 hSgl.2)).trans (hra j u hj)
   obtain⟨wo,rfl⟩:∃ wo,wo=wr:=⟨_,rfl⟩;have hFE:Fb B wo (wo.alloc (.cells #[.int .i64 (k1:Int),.float .f64 x1,.string t1,.int .i64 (r1:Int),.slice a1 n1 c1,.map m1] 120)):=(Fb.refl B wo).alloc _;have hEb:(wo.alloc (.cells #[.int .i64 (k1:Int),.float .f64 x1,.string t1,.int .i64 (r1:Int),.slice a1 n1 c1,.map m1] 120)).heap[wo.heap.size]?=some (.cells #[.int .i64 (k1:Int),.float .f64 x1,.string t1,.int .i64 (r1:Int),.slice a1 n1 c1,.map m1] 120 (0,0)):=heap_alloc_new wo _;have hBE:=hK.bud.alloc (.cells #[.int .i64 (k1:Int),.float .f64 x1,.string t1,.int .i64 (r1:Int),.slice a1 n1 c1,.map m1] 120);obtain⟨WE,hWE⟩:∃ WE,wo.alloc (.cells #[.int .i64 (k1:Int),.float .f64 x1,.string t1,.int .i64 (r1:Int),.slice a1 n1 c1,.map m1] 120)=WE:=⟨_,rfl⟩;rw[hWE] at hFE hEb hBE;have HWE:=hid hWE;clear hWE;have hKE:=hK.kept hltB hFE hBE;have hsE:=hKE.tv.lt;have hRe':Rep WE S ev (vC k1 x1 t1 r1 (.slice a1 n1 c1) (.map m1)):=Rep.kept (fun b hb=>⟨hb,hKE.f.block b (hS b hb).1 (hS b hb).2⟩) ev hRe;have RT:=refTo_any (h.kept hKE.f (by omega)) hKE.bud hlo hKE.dv hKE.tv ⟨by omega,by omega⟩ ev hRe';have HTK:=hid htk;have HRE:=hid hRe;clear htk hRe hRe' hra hel
   by_cases hb1:b-i<1
   ·have q:refR os pageB ev (b-i)=.no (12,0):=by unfold refR;rw[if_pos hb1]
    have HN:Hid (kidsR os v b=.no (12,0)):=by show kidsR os v b=_;unfold kidsR;rw[unh HL,if_pos (by omega)]
    go_wp2_with (first | (go_at_call 161;refine (PostB.noC RT q).mono ?_;rintro e w6 ⟨rfl,F6⟩;exact⟨rfl,PostB.no (unh HN) (hKE.f.trans F6)⟩) | (refine load_mid rfl 120 _ rfl g (i*6) rfl _ hra' Tryz.agV Tryz.sizeV ?_) | (refine load_row rfl 120 _ rfl wo.heap.size rfl 120 _ (0,0) hEb Tryz.agV Tryz.sizeV ?_) | (refine wpList_store_row rfl 120 _ _ rfl wo.heap.size _ rfl rfl 120 _ (heap_alloc_new wo _) Tryz.sizeV rfl (one_six _ _ _ _ _ _ _ _) ?_;rw[setRow_alloc,unh HWE]))
   ·have q:refR os pageB ev (b-i)=.ok (ev,refTo os pageB ev) (b-i-1):=by unfold refR;rw[if_neg hb1]
    have RT':=PostB.okC RT q;clear RT q
    rcases hr:refTo os pageB ev with _|_
    ·have hfl:Hid ((l.take (i+1)).filter (refTo os pageB)=(l.take i).filter (refTo os pageB)):=by show _=_;rw[unh HTK,List.filter_append];simp[hr]
     rw[hr] at RT'
     go_wp2_with (first | (go_at_call 161;refine RT'.mono ?_;rintro e w6 ⟨v6,rfl,rfl,hB6,F6⟩) | (refine load_mid rfl 120 _ rfl g (i*6) rfl _ hra' Tryz.agV Tryz.sizeV ?_) | (refine load_row rfl 120 _ rfl wo.heap.size rfl 120 _ (0,0) hEb Tryz.agV Tryz.sizeV ?_) | (refine wpList_store_row rfl 120 _ _ rfl wo.heap.size _ rfl rfl 120 _ (heap_alloc_new wo _) Tryz.sizeV rfl (one_six _ _ _ _ _ _ _ _) ?_;rw[setRow_alloc,unh HWE]) | (refine wpList_store_row rfl 120 _ _ rfl w6.heap.size _ rfl rfl 120 _ (heap_alloc_new w6 _) Tryz.sizeV rfl (one_six _ _ _ _ _ _ _ _) ?_;rw[setRow_alloc]))
     go_roundw
     case rel=>
      refine⟨i+1,sl,ys,by go_num,by omega,by omega,?_⟩;rw[unh hfl,show b-(i+1)=b-i-1 by omega];exact hKE.kept hltB (F6.trans ((Fb.refl B w6).alloc _)) (hB6.alloc _)
     case measure=>simp[intOf];omega
    ·have hfl:Hid ((l.take (i+1)).filter (refTo os pageB)=(l.take i).filter (refTo os pageB)++[ev]):=by show _=_;rw[unh HTK,List.filter_append];simp[hr]
     have hal:((l.take i).filter (refTo os pageB)).length<=9000:=by
      have h1:=List.length_filter_le (refTo os pageB) (l.take i);have h2:=List.length_take_le i l;omega
     have HRF:=hid hr;obtain⟨acc,hacc⟩:∃ acc,(l.take i).filter (refTo os pageB)=acc:=⟨_,rfl⟩;rw[hacc] at hfl hKE hal hsl;subst hsl;rw[hr] at RT';clear hacc hK hr
     go_upto_region 7 with (first | (go_at_call 161;refine RT'.mono ?_;rintro e w6 ⟨v6,rfl,rfl,hB6,F6⟩) | (refine load_mid rfl 120 _ rfl g (i*6) rfl _ hra' Tryz.agV Tryz.sizeV ?_) | (refine load_row rfl 120 _ rfl wo.heap.size rfl 120 _ (0,0) hEb Tryz.agV Tryz.sizeV ?_) | (refine wpList_store_row rfl 120 _ _ rfl wo.heap.size _ rfl rfl 120 _ (heap_alloc_new wo _) Tryz.sizeV rfl (one_six _ _ _ _ _ _ _ _) ?_;rw[setRow_alloc,unh HWE]) | (refine wpList_store_row rfl 120 _ _ rfl w6.heap.size _ rfl rfl 120 _ (heap_alloc_new w6 _) Tryz.sizeV rfl (one_six _ _ _ _ _ _ _ _) ?_;rw[setRow_alloc]))
     have hK7:=hKE.kept hltB (F6.trans ((Fb.refl B w6).alloc (.cells #[.int .i64 (k1:Int),.float .f64 x1,.string t1,.int .i64 (r1:Int),.slice a1 n1 c1,.map m1] 120))) (hB6.alloc (.cells #[.int .i64 (k1:Int),.float .f64 x1,.string t1,.int .i64 (r1:Int),.slice a1 n1 c1,.map m1] 120));have h7n:(w6.alloc (.cells #[.int .i64 (k1:Int),.float .f64 x1,.string t1,.int .i64 (r1:Int),.slice a1 n1 c1,.map m1] 120)).heap[w6.heap.size]?=some (.cells #[.int .i64 (k1:Int),.float .f64 x1,.string t1,.int .i64 (r1:Int),.slice a1 n1 c1,.map m1] 120 (0,0)):=heap_alloc_new w6 _;obtain⟨W7,hW7⟩:∃ W7,w6.alloc (.cells #[.int .i64 (k1:Int),.float .f64 x1,.string t1,.int .i64 (r1:Int),.slice a1 n1 c1,.map m1] 120)=W7:=⟨_,rfl⟩;rw[hW7] at hK7 h7n ⊢;clear hW7;have hp:=hK7.p;have c24:W7.cell? ⟨w.heap.size+2,4,none⟩=some (.slice ao acc.length cp):=by simp[World.cell?,hp]
     have ht7:=hK7.tv.lt;have hrow8:=World.ownsRow.alloc hK7.row (.cells #[.int .i64 (k1:Int),.float .f64 x1,.string t1,.int .i64 (r1:Int),.slice a1 n1 c1,.map m1] 120);have hp8:(W7.alloc (.cells #[.int .i64 (k1:Int),.float .f64 x1,.string t1,.int .i64 (r1:Int),.slice a1 n1 c1,.map m1] 120)).heap[w.heap.size+2]?=_:=(Below.heap_alloc W7 _ (w.heap.size+2) (by omega)).trans hp
     go_wp2_with (first | (refine load_row rfl 120 _ rfl w6.heap.size rfl 120 _ (0,0) h7n Tryz.agV Tryz.sizeV ?_) | (at_builtin;refine wpList_append_own_at _ rfl _ _ 117 rfl (w.heap.size+5) 120 i0 zeroV 6 72 Tryz.undV hi hz0 hz1 hz2 rfl (by decide) _ _ _ rfl hrow8 ⟨W7.heap.size,0,none⟩ 1 1 [.int .i64 (k1:Int),.float .f64 x1,.string t1,.int .i64 (r1:Int),.slice a1 n1 c1,.map m1] rfl rfl (cell_six_new _ _ _ _ _ _ _ _) (by simp[Value.oneCell']) (by unfold maxLen;omega) (by omega) (by simp;omega) ?_;intro v9 w9 hown9 hgrow9 _ hat9;obtain⟨a9,c9,rfl⟩:=ownsRow_shape hown9;have hk9:∀ k,k<w.heap.size+5->w9.heap[k]?=W7.heap[k]?:=(fun k hk=>(hgrow9.block k (by simp;omega) (fun e=>by have:=(World.ownsRow.lt hK7.row k e.symm).1;omega)).trans (Below.heap_alloc W7 _ k (by omega)));have hp9:=(hk9 (w.heap.size+2) (by omega)).trans hp;have f9:w9.frozen? ⟨w.heap.size+2,4,none⟩=false:=(by simp[World.frozen?,hp9]);have d9:w9.cell? ⟨w.heap.size+2,4,none⟩=some (.slice ao acc.length cp):=(by simp[World.cell?,hp9])))
     go_roundw
     case rel=>
      have hg9:=hgrow9.size;have hs7:(W7.alloc (.cells #[.int .i64 (k1:Int),.float .f64 x1,.string t1,.int .i64 (r1:Int),.slice a1 n1 c1,.map m1] 120)).heap.size=W7.heap.size+1:=by simp
      have hl7:=World.ownsRow.lt hK7.row;obtain⟨W9,hW9⟩:∃ W9,w9.setCell ⟨w.heap.size+2,4,none⟩ (.slice a9 (acc.length+1) c9)=W9:=⟨_,rfl⟩;have hp10:W9.heap[w.heap.size+2]?=some (.cells #[.int .i64 8,.float .f64 0,.string eB,.int .i64 0,.slice a9 (acc.length+1) c9,.map none] 120 (0,0)):=by rw[← hW9,heap_setCell_same w9 (w.heap.size+2) 4 _ _ _ hp9];simp
      have hk10:∀ k,k≠w.heap.size+2->W9.heap[k]?=w9.heap[k]?:=fun k hk=>by rw[← hW9];exact Below.heap_setCell _ _ _ _ (by exact hk)
      have hs10:W9.heap.size=w9.heap.size:=by rw[← hW9];simp
      have ho10:W9.os=w9.os/\W9.tape=w9.tape/\W9.output=w9.output:=by rw[← hW9];exact⟨rfl,rfl,rfl⟩
      have hk11:∀ k,k<w.heap.size+5->k≠w.heap.size+2->W9.heap[k]?=W7.heap[k]?:=fun k h1 h2=>(hk10 k h2).trans (hk9 k h1)
      refine⟨i+1,.slice a9 (acc.length+1) c9,ys++[.int .i64 (k1:Int),.float .f64 x1,.string t1,.int .i64 (r1:Int),.slice a1 n1 c1,.map m1],by go_num,by omega,by omega,?_⟩;rw[unh hfl,show b-(i+1)=b-i-1 by omega]
      have hgoal:KidS w W9 B D (b-i-1) #[.int .i64 (kk:Int),.float .f64 xx,.string tt,.int .i64 (rr:Int),.slice (some ⟨g,0,none⟩) l.length cc,.map mm] (.slice a9 (acc.length+1) c9) (acc++[ev]) (ys++[.int .i64 (k1:Int),.float .f64 x1,.string t1,.int .i64 (r1:Int),.slice a1 n1 c1,.map m1]):=by
       refine⟨⟨ho10.1.trans (hgrow9.os.trans hK7.f.os),ho10.2.1.trans (hgrow9.tape.trans hK7.f.tape),ho10.2.2.trans (hgrow9.output.trans hK7.f.output),by have:=hK7.f.size;omega,fun k hk hkB=>(hk11 k (by omega) (by omega)).trans (hK7.f.block k hk hkB)⟩,
        hK7.bud.of_blocks (fun k hk=>hk11 k (by omega) (by omega)),(hk11 _ (by omega) (by omega)).trans hK7.v,(hk11 _ (by omega) (by omega)).trans hK7.z,hp10,(hk11 _ (by omega) (by omega)).trans hK7.dv,(hk11 _ (by omega) (by omega)).trans hK7.tv,?_,?_⟩
       ·rw[List.length_append];exact ownsRow_of_block hown9 (fun k hk=>hk10 k (by have:=(World.ownsRow.lt hown9 k hk).1;omega))
       ·exact RepL.append (refTo_rep (unh HRF) (unh HRE)) acc (RepL.kept (fun _ hb=>hb.elim) acc hK7.rep)
      rw[← hW9] at hgoal;exact hgoal
     case measure=>simp[intOf];omega
  ·have hilI:¬ (i:Int)<(l.length:Int):=by omega
   have hie:i=l.length:=by omega
   have htk:l.take i=l:=by rw[hie];exact List.take_length
   rw[htk] at hK hsl;have HN:Hid (kidsR os v b=.ok (.arr (l.filter (refTo os pageB)),isArr v) (b-i)):=by show kidsR os v b=_;unfold kidsR;rw[unh HL,if_neg (by omega),hie]
   obtain⟨acc,hacc⟩:∃ acc,l.filter (refTo os pageB)=acc:=⟨_,rfl⟩;rw[hacc] at HN hK hsl;subst hsl;clear htk hie hacc hel
   go_upto_region 10 with fail
   have hrP:wr.drew.rangeAt (w.heap.size+2) 0 [.int .i64 8,.float .f64 0,.string eB,.int .i64 0,.slice ao acc.length cp,.map none]:=rangeAt_block (w:=wr.drew) hK.p;have hv10:=hK.v;have c0:wr.drew.cell? ⟨w.heap.size,0,none⟩=some (.int .i64 (kk:Int)):=by simp only[World.cell?];rw[show wr.drew.heap[w.heap.size]?=_ from hv10];rfl
   have hZd:wr.drew.heap[w.heap.size+1]?=some (.cells #[.int .i64 0,.float .f64 0,.string ⟨#[]⟩,.int .i64 0,.slice none 0 0,.map none] 120 (0,0)):=hK.z;obtain⟨W2,hW2,hS2,hO2,_,hs2⟩:=storedV (w:=wr.drew) (W:=wr.drew) (N:=w.heap.size+1) #[.int .i64 8,.float .f64 0,.string eB,.int .i64 0,.slice ao acc.length cp,.map none] hZd (Nat.le_refl _) (Below.refl _ _);have c02:W2.cell? ⟨w.heap.size,0,none⟩=some (.int .i64 (kk:Int)):=(World.cell?_of_block (w:=wr.drew) (hO2 w.heap.size (by omega))).trans c0;have F2:Fb B w W2:=by rw[← hW2];exact (hK.f.drew).setRow _ _ (by omega)
   have hBd2:Bud W2 B (b-i):=hK.bud.drew.of_blocks (fun k hk=>hO2 k (by omega));have hl7:=World.ownsRow.lt hK.row;have hrow2:W2.ownsRow (w.heap.size+5) 120 6 (.slice ao acc.length cp) acc.length ys:=ownsRow_of_block hK.row (fun k hk=>hO2 k (by have:=(hl7 k hk).1;omega));have hrep2:RepL W2 (fun _=>False) acc ys:=RepL.kept (fun _ hb=>hb.elim) acc hK.rep;have hRK:RepK W2 (fun b=>S b\/(w.heap.size<=b/\b<W2.heap.size)) (.arr acc) (vC 8 0 eB 0 (.slice ao acc.length cp) (.map none)):=row_repK hrow2 hrep2 (fun k hk=>.inr ⟨by omega,hk.2⟩);clear hv10
   have hnil:ao=none->acc.length=0/\cp=0:=fun e=>by
    rcases hrow2.2 with⟨e1,_⟩|⟨g,cap,cur,e1,_⟩
    ·simp only[Value.slice.injEq] at e1;exact⟨e1.2.1,e1.2.2⟩
    ·rw[e] at e1;simp at e1
   have H16:(#[.int .i64 8,.float .f64 0,.string eB,.int .i64 0,.slice ao acc.length cp,.map none]:Array Value).all (·.oneCell')=true:=by simp[Value.oneCell']
   go_region_with (first
    | (with_reducible refine LoadV.here ?_;refine LoadV.row _ rfl (w.heap.size+2) 0 [.int .i64 8,.float .f64 0,.string eB,.int .i64 0,.slice ao acc.length cp,.map none] rfl hrP rfl ?_)
    | (with_reducible refine StoreV.here ?_;refine StoreV.row0 _ _ rfl rfl (w.heap.size+1) #[.int .i64 8,.float .f64 0,.string eB,.int .i64 0,.slice ao acc.length cp,.map none] rfl rfl _ hZd rfl rfl H16 ?_;rw[hW2]))
   all_goals
    go_wp2_with fail
    exact bodyPost_ret (res_two rfl _ _ _ _ _ rfl rfl hS2 rfl) rfl (PostB.ok (unh HN) ⟨8,0,eB,0,ao,acc.length,cp,none,rfl,hRK,hnil⟩ hBd2 F2)
end
section
open Go.RowKit
attribute [local go_sem] Oper.semAt_some
variable {w w':World}{B D DV OL NV M base:Nat}{S S':Nat->Prop}
set_option maxHeartbeats 2000000 in
set_option maxRecDepth 100000 in
theorem ren_nil {o:Value}{olds:List Nat}{b:Nat}(h:Nd w B D DV OL NV M base o olds b) :
  Calls Tryz.prog 121 #[.agg #[.int .i64 8,.float .f64 0,.string eB,.int .i64 0,.slice none 0 0,.map none],newF DV NV OL] w (PostK B OL NV M base o w (KeptQ w) (renV olds (.arr []) b)):=by
 have hlt:=h.n.lt;have hbase:=hlt.2.2.2;obtain⟨d,hd1,hd2⟩:=isStruct Tryz.agV;have hne:=h.ne;have hown:=World.ownsRow.lt h.n.row;unfold newF;have HN:Hid (renV olds (.arr []) b=.ok (.arr [],olds) b):=rfl
 go_enter Tryz.func121,Tryz.ntmps121
 go_upto_region 1 with fail
 obtain⟨W,hW,hX,hZ,hBW,hsW⟩:=two_new w #[.int .i64 8,.float .f64 0,.string eB,.int .i64 0,.slice none 0 0,.map none];rw[hW];clear hW;have hNW:=h.below hBW;have c0:W.cell? ⟨w.heap.size,0,none⟩=some (.int .i64 8):=by simp[World.cell?,hX]
 have c4:W.cell? ⟨w.heap.size,4,none⟩=some (.slice none 0 0):=by simp[World.cell?,hX]
 have f4:W.frozen? ⟨w.heap.size,4,none⟩=false:=by simp[World.frozen?,hX]
 obtain⟨W5,hW5⟩:∃ W5,W.setCell ⟨w.heap.size,4,none⟩ (.slice none 0 0)=W5:=⟨_,rfl⟩;have hX5:W5.heap[w.heap.size]?=some (.cells #[.int .i64 8,.float .f64 0,.string eB,.int .i64 0,.slice none 0 0,.map none] 120 (0,0)):=by rw[← hW5,heap_setCell_same W w.heap.size 4 _ _ _ hX];simp
 have hk5:∀ k,k≠w.heap.size->W5.heap[k]?=W.heap[k]?:=fun k hk=>by rw[← hW5];exact Below.heap_setCell _ _ _ _ (by exact hk)
 have HS6:=hid (show W5.heap.size=W.heap.size by rw[← hW5];simp);have c54:W5.cell? ⟨w.heap.size,4,none⟩=some (.slice none 0 0):=by simp[World.cell?,hX5]
 have HO5:=hid (show W5.os=W.os/\W5.tape=W.tape/\W5.output=W.output by rw[← hW5];exact⟨rfl,rfl,rfl⟩);have HS3:=hid hsW;clear hsW
 go_wp2_with (go_at_call 142;refine (clone_nil _).mono ?_;rintro e w5 ⟨rfl,rfl⟩)
 go_loopw [22] (fun v wr=>v=.int .i64 0/\wr=W5) (fun _ _=>0)
 case atStart=>exact⟨rfl,rfl⟩
 case round=>
  obtain⟨rfl,rfl⟩:=hrel;have hZ5:wr.heap[w.heap.size+1]?=_:=(hk5 (w.heap.size+1) (by omega)).trans hZ
  go_wp2_with (first | (refine load_row rfl 120 _ rfl w.heap.size rfl 120 _ (0,0) hX5 Tryz.agV Tryz.sizeV ?_) | (refine wpList_store_row rfl 120 _ _ rfl (w.heap.size+1) _ rfl rfl 120 _ hZ5 Tryz.sizeV rfl (by simp[Value.oneCell']) ?_))
  refine bodyPost_ret (results_cell_row rfl _ _ (w.heap.size+1) 120 _ (0,0) d rfl (setRow_heap _ (w.heap.size+1) _ _ _ _ hZ5) hd1 (by cases d <;> first | rfl | cases hd2) Tryz.sizeV) rfl ?_;have hsW:=unh HS3;have hs5:=unh HS6;have hbl:∀ k,k≠w.heap.size->k≠w.heap.size+1->(wr.setRow (w.heap.size+1) #[.int .i64 8,.float .f64 0,.string eB,.int .i64 0,.slice none 0 0,.map none]).heap[k]?=W.heap[k]?:=fun k h1 h2=>(setRow_other _ _ _ _ h2).trans (hk5 k h1)
  have hsz:(wr.setRow (w.heap.size+1) #[.int .i64 8,.float .f64 0,.string eB,.int .i64 0,.slice none 0 0,.map none]).heap.size=W.heap.size:=by rw[setRow_size];omega
  have hfin:=hNW.turn (w':=wr.setRow (w.heap.size+1) #[.int .i64 8,.float .f64 0,.string eB,.int .i64 0,.slice none 0 0,.map none]) (by omega) (fun k hk=>hbl k (by rcases hk with h1 | h1;omega;have:=(hown k h1).2;omega) (by rcases hk with h1 | h1;omega;have:=(hown k h1).2;omega));have O5:=unh HO5;exact PostK.ok (unh HN) ⟨8,0,eB,0,none,0,0,none,rfl,⟨none,0,rfl,fun i v hi=>by simp at hi⟩⟩ hfin.n hfin.bud ((Fk.below o hBW).turn O5 (by omega) (fun k hk=>hbl k (by omega) (by omega)))
def refsOk:Val->Prop
 | .arr l=>∀ v ∈ l,refOk v
 | v=>refOk v
theorem renLeaf_arr {olds o':List Nat}{v:Val}{l:List Val}{b b':Nat}(hv:leafOk v):renLeaf olds v b≠.ok (.arr l,o') b':=by
 intro q;cases v
 case ref n=>
  simp only[renLeaf] at q
  rcases hq:numR olds n b with⟨⟨m,o2⟩,b2⟩|y
  ·rw[hq] at q;simp at q
  ·rw[hq] at q;cases q
 all_goals first | exact hv.elim | (simp[renLeaf] at q)
theorem PostK.leafy {o:Value}{olds:List Nat}{b:Nat}{v:Val}{e:Ending}(hv:leafOk v) (h:PostK B OL NV M base o w LeafQ (renLeaf olds v b) e w'):PostK B OL NV M base o w (KeptQ w) (renV olds v b) e w':=by
 have hq:renV olds v b=renLeaf olds v b:=by cases v <;> first | rfl | exact hv.elim
 rw[hq]
 rcases q:renLeaf olds v b with⟨⟨v',o'⟩,b'⟩|y
 ·rw[q] at h;obtain⟨val,o2,rfl,⟨k1,x1,t1,r1,a1,n1,c1,m1,rfl,hrep⟩,hN,hB,F⟩:=h;refine⟨_,o2,rfl,⟨k1,x1,t1,r1,a1,n1,c1,m1,rfl,?_⟩,hN,hB,F⟩;have:=hrep w' (fun b=>w.heap.size<=b/\b<w'.heap.size/\isV w' b);cases v' <;> first | exact this | exact absurd q (renLeaf_arr hv)
 ·rw[q] at h;exact h
theorem ren_any {o:Value}{olds:List Nat}{b:Nat}(h:Nd w B D DV OL NV M base o olds b) (ho:OldsOk olds) (v:Val) (hv:keptOk v) (hr:refsOk v) (hS:∀ b,S b->b<w.heap.size) {kk xx:Nat}{tt:ByteArray}{rr:Nat}{aa:Option Addr}{nn cc:Nat}{mm:Option Nat}
  (hR:RepK w S v (vC kk xx tt rr (.slice aa nn cc) (.map mm))) (hnil:aa=none->nn=0/\cc=0) :
  Calls Tryz.prog 121 #[.agg #[.int .i64 (kk:Int),.float .f64 xx,.string tt,.int .i64 (rr:Int),.slice aa nn cc,.map mm],newF DV NV OL] w (PostK B OL NV M base o w (KeptQ w) (renV olds v b)):=by
 have hol:=ho.len
 by_cases hl:leafOk v
 ·exact (ren_leaf h (by omega) v hl (RepK.leaf hl hR)).mono (fun e w1 hp=>PostK.leafy hl hp)
 ·cases v
  case arr l=>
   obtain⟨a2,c2,e,hel⟩:=hR;obtain⟨rfl,rfl,rfl,rfl,e5,e6⟩:=vC_m e;simp only[Value.map.injEq] at e6;simp only[Value.slice.injEq] at e5;obtain⟨rfl,rfl,rfl⟩:=e5;subst e6
   rcases aa with _|a0
   ·obtain⟨h1,h2⟩:=hnil rfl;have:l=[]:=List.length_eq_zero_iff.1 h1;subst this;subst h2;exact ren_nil h
   ·exact ren_arr h ho l (fun v hv'=>⟨hv.2 v hv',hr v hv'⟩) hv.1 hS hel
  all_goals exact absurd hv hl
end
section
open Go.RowKit
attribute [local go_sem] Oper.semAt_some
variable {w w':World}{B D:Nat}{S S':Nat->Prop}
def RuleF (w:World) (lo D:Nat):Rule->Value->Prop
 | .kids,f=>f=.func (.func 138) #[.pointer (some ⟨D,0,none⟩)] #[]
 | .title,f=>f=.func (.func 139) #[] #[]
 | .box,f=>f=.func (.func 140) #[] #[]
 | .next,f=>∃ DV TV,f=.func (.func 161) #[] #[.pointer (some ⟨DV,0,none⟩),.pointer (some ⟨TV,0,none⟩)]/\At1 w DV (.pointer (some ⟨D,0,none⟩)) 75/\At1 w TV (.string pageB) 9/\lo<=DV/\lo<=TV
 | .text,f=>∃ DV TV,f=.func (.func 161) #[] #[.pointer (some ⟨DV,0,none⟩),.pointer (some ⟨TV,0,none⟩)]/\At1 w DV (.pointer (some ⟨D,0,none⟩)) 75/\At1 w TV (.string textB) 9/\lo<=DV/\lo<=TV
theorem RuleF.kept {lo:Nat}{r:Rule}{f:Value}(h:RuleF w lo D r f) (hk:∀ k,lo<=k->k<w.heap.size->w'.heap[k]?=w.heap[k]?):RuleF w' lo D r f:=by
 cases r
 case next=>
  obtain⟨DV,TV,e,h1,h2,h3,h4⟩:=h;exact⟨DV,TV,e,(hk DV h3 h1.lt).trans h1,(hk TV h4 h2.lt).trans h2,h3,h4⟩
 case text=>
  obtain⟨DV,TV,e,h1,h2,h3,h4⟩:=h;exact⟨DV,TV,e,(hk DV h3 h1.lt).trans h1,(hk TV h4 h2.lt).trans h2,h3,h4⟩
 all_goals exact h
def RulesAt (w:World) (lo D g:Nat) (l:List Rule):Prop:=∀ i r,l[i]?=some r->∃ f,w.rangeAt g (i*2) [.string r.key,f]/\RuleF w lo D r f
def RulesQ (w:World) (D:Nat) (l:List Rule) (v:Value) (w':World):Prop:=(l=[]/\v=.slice none 0 0)\/∃ g c,v=.slice (some ⟨g,0,none⟩) l.length c/\w.heap.size<=g/\g<w'.heap.size/\RulesAt w' w.heap.size D g l
def tyOk (ty:ByteArray):Prop:=ty=rootB\/ty=pageB\/ty=textB\/ty=ByteArray.empty
set_option maxHeartbeats 2000000 in
set_option maxRecDepth 100000 in
theorem rules_any (w:World) (D:Nat) (ty:ByteArray) (hty:tyOk ty) :
  Calls Tryz.prog 120 #[.pointer (some ⟨D,0,none⟩),.string ty] w fun e w'=>∃ v,e=.returned v/\RulesQ w D (rulesOf ty) v w'/\Below w.heap.size w w':=by
 have hmf:∀ (fn:Fn) (first cap:Array Value) (w:World),(Instr.makeFunc fn first cap).run Tryz.prog w=.ok (.func fn first cap) w:=fun _ _ _ _=>rfl
 rcases hty with rfl|rfl|rfl|rfl
 ·have e1:rulesOf rootB=[.kids,.title]:=by unfold rulesOf;rw[if_pos rfl]
  rw[e1];unfold rootB
  go_enter Tryz.func120,Tryz.ntmps120
  go_wp2_with fail
  go_ret
  refine⟨_,rfl,.inr ⟨w.heap.size,_,rfl,Nat.le_refl _,by simp,?_⟩,(Below.refl _ _).alloc (Nat.le_refl _) _⟩;intro i r hr
  rcases i with _|_|i
  ·have:r=.kids:=by simpa using hr.symm
   subst this;refine⟨_,fun j u hj=>?_,rfl⟩
   rcases j with _|_|j
   ·simp at hj;subst hj;simp only[World.cell?];rw[heap_alloc_new];rfl
   ·simp at hj;subst hj;simp only[World.cell?];rw[heap_alloc_new];rfl
   ·simp at hj
  ·have:r=.title:=by simpa using hr.symm
   subst this;refine⟨_,fun j u hj=>?_,rfl⟩
   rcases j with _|_|j
   ·simp at hj;subst hj;simp only[World.cell?];rw[heap_alloc_new];rfl
   ·simp at hj;subst hj;simp only[World.cell?];rw[heap_alloc_new];rfl
   ·simp at hj
  ·simp at hr
 ·have e1:rulesOf pageB=[.box,.next,.text]:=by unfold rulesOf;rw[if_neg (by decide +kernel),if_pos rfl]
  rw[e1];unfold pageB
  go_enter Tryz.func120,Tryz.ntmps120
  go_wp2_with fail
  refine (referenceTo_any _ D ⟨#[80,97,103,101]⟩).mono ?_;rintro e w2 ⟨rfl,hw2⟩;have B2:Below w.heap.size w w2:=by rw[← hw2];exact ((Below.refl _ _).alloc (Nat.le_refl _) _).alloc (by simp) _
  have s2:w2.heap.size=w.heap.size+2:=by rw[← hw2];simp
  have d2:At1 w2 w.heap.size (.pointer (some ⟨D,0,none⟩)) 75:=by rw[← hw2];exact heap_alloc2_old w _ _
  have t2:At1 w2 (w.heap.size+1) (.string pageB) 9:=by rw[← hw2];exact heap_alloc2_new w _ _
  clear hw2;have HS2:=hid s2;clear s2
  go_wp2_with fail
  refine (referenceTo_any _ D ⟨#[84,101,120,116]⟩).mono ?_;rintro e w3 ⟨rfl,hw3⟩;have B3:Below w2.heap.size w2 w3:=by rw[← hw3];exact ((Below.refl _ _).alloc (Nat.le_refl _) _).alloc (by simp) _
  have s3:w3.heap.size=w2.heap.size+2:=by rw[← hw3];simp
  have d3:At1 w3 w2.heap.size (.pointer (some ⟨D,0,none⟩)) 75:=by rw[← hw3];exact heap_alloc2_old w2 _ _
  have t3:At1 w3 (w2.heap.size+1) (.string textB) 9:=by rw[← hw3];exact heap_alloc2_new w2 _ _
  clear hw3;have HS3:=hid s3;clear s3
  go_wp2_with fail
  go_ret
  have s2:=unh HS2;have s3:=unh HS3;have B4:=(Below.refl w3.heap.size w3).alloc (Nat.le_refl _) (.cells #[.string ⟨#[66,111,120]⟩,.func (.func 140) #[] #[],.string ⟨#[78,101,120,116]⟩,.func (.func 161) #[] #[.pointer (some ⟨w.heap.size,0,none⟩),.pointer (some ⟨w.heap.size+1,0,none⟩)],.string ⟨#[84,101,120,116]⟩,.func (.func 161) #[] #[.pointer (some ⟨w2.heap.size,0,none⟩),.pointer (some ⟨w2.heap.size+1,0,none⟩)]] 170);refine⟨_,rfl,.inr ⟨w3.heap.size,_,rfl,by omega,by simp,?_⟩,(B2.trans (B3.mono (by omega))).alloc (by omega) _⟩;intro i r hr
  rcases i with _|_|_|i
  ·have:r=.box:=by simpa using hr.symm
   subst this;refine⟨_,fun j u hj=>?_,rfl⟩
   rcases j with _|_|j
   ·simp at hj;subst hj;simp only[World.cell?];rw[heap_alloc_new];rfl
   ·simp at hj;subst hj;simp only[World.cell?];rw[heap_alloc_new];rfl
   ·simp at hj
  ·have:r=.next:=by simpa using hr.symm
   subst this;refine⟨_,fun j u hj=>?_,⟨w.heap.size,w.heap.size+1,rfl,?_,?_,by omega,by omega⟩⟩
   ·rcases j with _|_|j
    ·simp at hj;subst hj;simp only[World.cell?];rw[heap_alloc_new];rfl
    ·simp at hj;subst hj;simp only[World.cell?];rw[heap_alloc_new];rfl
    ·simp at hj
   ·exact (B4.block _ (by omega)).trans ((B3.block _ (by omega)).trans d2)
   ·exact (B4.block _ (by omega)).trans ((B3.block _ (by omega)).trans t2)
  ·have:r=.text:=by simpa using hr.symm
   subst this;refine⟨_,fun j u hj=>?_,⟨w2.heap.size,w2.heap.size+1,rfl,?_,?_,by omega,by omega⟩⟩
   ·rcases j with _|_|j
    ·simp at hj;subst hj;simp only[World.cell?];rw[heap_alloc_new];rfl
    ·simp at hj;subst hj;simp only[World.cell?];rw[heap_alloc_new];rfl
    ·simp at hj
   ·exact (B4.block _ (by omega)).trans d3
   ·exact (B4.block _ (by omega)).trans t3
  ·simp at hr
 ·have e1:rulesOf textB=[]:=by unfold rulesOf;rw[if_neg (by decide +kernel),if_neg (by decide +kernel)]
  rw[e1];unfold textB
  go_enter Tryz.func120,Tryz.ntmps120
  go_wp2_with fail
  go_ret
  exact⟨_,rfl,.inl ⟨rfl,rfl⟩,Below.refl _ _⟩
 ·have e1:rulesOf ByteArray.empty=[]:=by unfold rulesOf;rw[if_neg (by decide +kernel),if_neg (by decide +kernel)]
  rw[e1,show ByteArray.empty=⟨#[]⟩ from rfl]
  go_enter Tryz.func120,Tryz.ntmps120
  go_wp2_with fail
  go_ret
  exact⟨_,rfl,.inl ⟨rfl,rfl⟩,Below.refl _ _⟩
end
end Go.Proofs.YtgffljllfenhkaaGreatDoor
