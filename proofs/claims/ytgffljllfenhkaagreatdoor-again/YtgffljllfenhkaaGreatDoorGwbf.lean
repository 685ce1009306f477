import Derived.Test.YtgffljllfenhkaaGreatDoorGwbd
import Derived.Test.YtgffljllfenhkaaGreatDoorGwbe
namespace Go.Proofs.YtgffljllfenhkaaGreatDoor
section
open Go.RowKit
attribute [local go_sem] Oper.semAt_some
theorem RowI.cellAt {w:World}{base:Nat}{v:Value}{xs:List Nat}(h:RowI w base v xs) {j:Nat}(hj:j<xs.length):∃ g cap,v=.slice (some ⟨g,0,none⟩) xs.length cap/\w.cell? ⟨g,j,none⟩=some (.int .i64 (nth xs j:Int)):=by
 obtain⟨g,cap,e,_,hn⟩:=h.nums (by omega);refine⟨g,cap,e,?_⟩;have:=hn.2 j hj;simpa using this
def lenOf:Value->Nat | .slice _ n _=>n | _=>0
theorem nth_last (l:List Nat):nth l (l.length-1)=l.getLastD 0:=by
 unfold nth;rw[List.getLastD_eq_getLast?,List.getLast?_eq_getElem?,List.getD_eq_getElem?_getD]
theorem replicate_snoc (l:List Nat) (i x:Nat):l++List.replicate (i+1) x=(l++List.replicate i x)++[x]:=by
 rw[List.replicate_succ',List.append_assoc]
theorem RowI.byFx {w w':World}{R A B base:Nat}{v:Value}{xs:List Nat}(h:RowI w base v xs) (hf:Fxr R A B w w') (hR:R<base) (hA:A<base) (hB:B<base):RowI w' base v xs:=by
 refine⟨h.1,?_⟩
 rcases h.2 with hn|⟨g,cap,cur,e,h1,h2,rest⟩
 ·exact .inl hn
 ·exact .inr ⟨g,cap,cur,e,h1,(hf.block g (Array.getElem?_eq_some_iff.1 h2).1 (by omega) (by omega) (by omega)).trans h2,rest⟩
theorem Rx.byGrown {w w':World}{R A:Nat}{V:Ux}{t:St}{r:Option Nat}(h:Rx w R A V t) (hg:w.grownBy w' r) (hr:∀ k,r=some k->k≠R/\k≠A/\k≠A+1/\k≠V.B/\k≠V.B+1):Rx w' R A V t:=by
 refine h.of_blocks (fun k hk=>hg.block k (by have:=h.ltA;have:=h.ltR;have:=h.lt;omega) (fun e=>?_));have:=hr k e.symm;omega
theorem Fxr.grow {R A B:Nat}{w w1 w2:World}{r:Option Nat}(h:Fxr R A B w w1) (hg:w1.grownBy w2 r) (hr:∀ k,r=some k->w.heap.size<=k):Fxr R A B w w2:=
 ⟨hg.os.trans h.os,hg.tape.trans h.tape,hg.output.trans h.output,Nat.le_trans h.size hg.size,fun k hk h1 h2 h3=>(hg.block k (Nat.lt_of_lt_of_le hk h.size) (fun e=>by have:=hr k e.symm;omega)).trans (h.block k hk h1 h2 h3)⟩
theorem decX_inv {V:Ux}{l:List Nat}:∀ {r a x:Nat}{t t':St},decX V l r a t=.ok x t'->x<l.length/\t.k<t'.k/\t'.k<=8*V.s.size
 | 0,_,_,_,_,h=>by cases h
 | r+1,a,x,t,t',h=>by
  rw[decX_succ] at h
  by_cases hc:1<=t.b/\t.k<8*V.s.size
  ·rw[Rdr.then_ok (bitX_ok hc.1 hc.2)] at h;split at h
   ·rename_i h2;cases h;refine⟨?_,by show t.k<t.k+1;omega,by show t.k+1<=_;omega⟩
    have hm:(idxs (15-r) l).getD (2*a+bitOf V.s t.k) 0 ∈ idxs (15-r) l:=by
     rw[List.getD_eq_getElem?_getD,List.getElem?_eq_getElem (by exact h2)];exact List.getElem_mem _
    unfold idxs at hm;simp at hm;exact hm.1
   ·have:=decX_inv h;have e:(t.bits 1).k=t.k+1:=rfl;rw[e] at this;omega
  ·have:∃ y,bitX V t=.no y:=by
    unfold bitX;split
    ·exact⟨_,rfl⟩
    ·split
     ·exact⟨_,rfl⟩
     ·omega
   obtain⟨y,hy⟩:=this;rw[Rdr.then_no hy] at h;cases h
theorem signX_inv {V:Ux}{l:List Nat}{x:Nat}{t t':St}(h:signX V l t=.ok x t'):x<l.length/\t.k<t'.k/\t'.k<=8*V.s.size:=decX_inv h
theorem readX_succ (V:Ux) (cl:List Nat) (many f:Nat) (l:List Nat):readX V cl many (f+1) l=if l.length<many then
   (signX V cl).then fun g=>
    if g=16 then (demandX V (decide (0<l.length))).then fun _=>(numX V 2).then fun n=>readX V cl many f (l++List.replicate (3+n) (l.getLastD 0))
    else if g=17 then (numX V 3).then fun n=>readX V cl many f (l++List.replicate (3+n) 0)
    else if g=18 then (numX V 7).then fun n=>readX V cl many f (l++List.replicate (11+n) 0)
    else readX V cl many f (l++[g])
  else (demandX V (decide (l.length=many))).then fun _=>Rdr.ret l:=by rw[readX]
def LenX (w:World):List Nat->Value->World->Prop:=fun all v w'=>RowI w' (w.heap.size+1) v all
set_option maxHeartbeats 16000000 in
set_option maxRecDepth 100000 in
theorem plengths_walk (w:World) (R A:Nat) (V:Ux) (t:St) (many:Nat) (mi:Int) (arr:Array Value) (cl:List Nat) (sg:Value) (h:Rx w R A V t)
  (hc:CodeP arr cl sg) (hsg:Sp w R A V.B sg cl) (hcl:cl.length<=19) (hm:many<=400) (hmi:mi=(many:Int)) :
  Calls Tryz.prog 183 #[.pointer (some ⟨R,0,none⟩),.agg arr,.int .i64 mi] w (PostX R A V w (LenX w) (readX V cl many (many+1) [] t)):=by
 subst hmi;obtain⟨i0,hi,hz0,hz1,hz2⟩:=info_parts Tryz.info3;have hlR:=h.ltR;have hlA:=h.ltA;have hlB:=h.lt;have h1:=h.alloc (.cells arr 204);have F1:=Fxr.alloc R A V.B w (.cells arr 204);have hX0:(w.alloc (.cells arr 204)).heap[w.heap.size]?=some (.cells arr 204 (0,0)):=World.alloc_heap_new w _
 go_enter Tryz.func183,Tryz.ntmps183
 go_wp2_with fail
 obtain⟨W0,hW0⟩:∃ W0,w.alloc (.cells arr 204)=W0:=⟨_,rfl⟩;rw[hW0] at h1 F1 hX0 ⊢;clear hW0;have hS0:RowI W0 (w.heap.size+1) (.slice none 0 0) []:=World.ownsRow_nil _ _ _ _
 go_loopw [7] (fun lv wr=>∃ (q:St) (f:Nat) (lst:List Nat) (a:Option Addr) (cp:Nat),lv=.slice a lst.length cp/\1<=f/\many+1<=f+lst.length/\lst.length<=540/\RowI wr (w.heap.size+1) (.slice a lst.length cp) lst/\Rx wr R A V q/\Fxr R A V.B w wr /\
   wr.heap[w.heap.size]?=some (.cells arr 204 (0,0))/\Hid (readX V cl many (many+1) [] t=readX V cl many f lst q))
  (fun lv _=>1000-lenOf lv)
 case atStart=>exact⟨t,many+1,[],none,0,rfl,by omega,by simp,by simp,hS0,h1,F1,hX0,rfl⟩
 case round=>
  clear hS0 hX0 h1 F1 W0;obtain⟨q,f,lst,a,cp,rfl,hf1,hf,hll,hS,hR,hF,hX,HE⟩:=hrel;have hSi:=hsg.kept hF
  by_cases hlm:lst.length<many
  ·obtain⟨f,rfl⟩:∃ f',f=f'+1:=⟨f-1,by omega⟩;have HE0:=(unh HE);rw[readX_succ V cl many f lst,if_pos hlm] at HE0;have HE1:=hid HE0;clear HE HE0;have PS:=psign_any wr R A V q arr cl sg hR hc hSi
   go_wp2_with (refine load_whole rfl 204 _ rfl w.heap.size rfl 204 arr (0,0) hX Tryz.aggCodeP (Tryz.infoCodeP arr hc.size) ?_)
   rcases qs:signX V cl q with⟨x,q2⟩|y
   ·refine (PostX.okC PS qs).mono ?_;rintro e w2 ⟨v,rfl,rfl,hR2,hF2⟩;have hS2:=hS.byFx hF2 (by omega) (by omega) (by omega)
    have hX2:w2.heap[w.heap.size]?=some (.cells arr 204 (0,0)):=by
     rw[hF2.block _ (Array.getElem?_eq_some_iff.1 hX).1 (by omega) (by omega) (by omega)];exact hX
    have hFw2:=hF.trans hF2;have hds:=(signX_inv qs).1;have hx18:x<=18:=by omega
    have HE2:Hid (readX V cl many (many+1) [] t=(if x=16 then (demandX V (decide (0<lst.length))).then fun _=>(numX V 2).then fun n=>readX V cl many f (lst++List.replicate (3+n) (lst.getLastD 0))
      else if x=17 then (numX V 3).then fun n=>readX V cl many f (lst++List.replicate (3+n) 0)
      else if x=18 then (numX V 7).then fun n=>readX V cl many f (lst++List.replicate (11+n) 0)
      else readX V cl many f (lst++[x])) q2):=(unh HE1).trans (by rw[Rdr.then_ok qs])
    have hway:(x=16/\lst=[])\/(x<16)\/(x=16/\lst≠[])\/x=17\/x=18:=by
     by_cases e:x=16
     ·by_cases e2:lst=[]
      ·exact .inl ⟨e,e2⟩
      ·exact .inr (.inr (.inl ⟨e,e2⟩))
     ·omega
    clear hx18 hds qs HE1 PS
    rcases hway with⟨rfl,hnil⟩|hx|⟨rfl,hnil⟩|rfl|rfl
    ·have FIN:Hid (readX V cl many (many+1) [] t=.no (9,V.n9)):=(unh HE2).trans (by rw[if_pos rfl,Rdr.then_no (demandX_no (by rw[hnil];rfl))]);clear HE2;have hl0:decide (0<lst.length)=false:=by rw[hnil];rfl
     clear hnil
     go_wp2_with fail
     refine (demand_no hR2).mono ?_;rintro e w3 ⟨rfl,rfl⟩;exact⟨rfl,PostX.no (y:=(9,V.n9)) (unh FIN) hFw2⟩
    ·have STEP:Hid (readX V cl many (many+1) [] t=readX V cl many f (lst++List.replicate 1 x) q2):=(unh HE2).trans (by rw[if_neg (by omega),if_neg (by omega),if_neg (by omega)];rfl);clear HE2;have hx16:((x:Int)==16)=false:=by rw[beq_eq_false_iff_ne];omega
     have hx17:((x:Int)==17)=false:=by rw[beq_eq_false_iff_ne];omega
     have hx18:((x:Int)==18)=false:=by rw[beq_eq_false_iff_ne];omega
     go_wp2_with fail
     obtain⟨nn,hle1,hle2,hn1,hn2,ST⟩:∃ nn:Nat,(nn:Int)<=1/\(1:Int)<=(nn:Int)/\1<=nn/\nn<=138/\Hid (readX V cl many (many+1) [] t=readX V cl many f (lst++List.replicate nn x) q2):=⟨1,by omega,by omega,by omega,by omega,STEP⟩;obtain⟨xv,hxv⟩:∃ xv,xv=x:=⟨_,rfl⟩;subst hxv;obtain⟨q3,hq3⟩:∃ q3,q3=q2:=⟨_,rfl⟩;subst hq3;have XE:Hid ((xv:Int)=(xv:Int)):=rfl;have hR3:=hR2;have hF3:=hFw2;have hS3:=hS2;have hX3:=hX2;clear hR2 hS2 hX2 hR hF hX hS hF2 hFw2 STEP hx16 hx17 hx18 hx
     go_loopw [7,45] (fun lv iv wr=>∃ (i:Nat) (a':Option Addr) (cp':Nat),i<=nn/\iv=.int .i64 (i:Int)/\lv=.slice a' (lst.length+i) cp'/\RowI wr (w.heap.size+1) (.slice a' (lst.length+i) cp') (lst++List.replicate i xv)/\Rx wr R A V q3/\Fxr R A V.B w wr /\
       wr.heap[w.heap.size]?=some (.cells arr 204 (0,0)))
      (fun _ iv _=>nn-(intOf iv).toNat)
     case atStart=>exact⟨0,_,cp,by omega,rfl,rfl,by simpa using hS3,hR3,hF3,hX3⟩
     case round=>
      clear hS3 hR3 hF3 hX3;obtain⟨i,a',cp',hil,rfl,rfl,hS,hR,hF,hX⟩:=hrel;have hsX:=(Array.getElem?_eq_some_iff.1 hX).1
      by_cases hii:i<nn
      ·obtain⟨xs,hxs⟩:∃ xs,lst++List.replicate i xv=xs:=⟨_,rfl⟩;have hxl:xs.length=lst.length+i:=by rw[← hxs];simp
       rw[hxs] at hS;have HXS:=hide hxs;have HXL:=hide hxl;clear hxs hxl;have hS1':wr.ownsRow (w.heap.size+1) 3 1 (.slice a' (lst.length+i) cp') (lst.length+i) (xs.map intV):=by have:=hS;unfold RowI at this;rw[unhide HXL] at this;exact this
       have hfin:∀ (xi:Int) (v':Value) (w1:World),xi=(xv:Int)->(w1.ownsRow (w.heap.size+1) 3 1 v' (lst.length+i+1) (xs.map intV++[.int .i64 xi]))->(wr.alloc (.cells #[.int .i64 xi] 3)).grownBy w1 (Value.slice a' (lst.length+i) cp').ownBlock ->
         ∃ (i2:Nat) (a2:Option Addr) (c2:Nat),i2=i+1/\v'=.slice a2 (lst.length+i2) c2/\RowI w1 (w.heap.size+1) (.slice a2 (lst.length+i2) c2) (lst++List.replicate i2 xv)/\Rx w1 R A V q3/\Fxr R A V.B w w1/\w1.heap[w.heap.size]?=some (.cells arr 204 (0,0)):=by
        intro xi v' w1 hxi h1 h2;obtain⟨g',c',rfl⟩:=ownsRow_succ h1;refine⟨i+1,_,_,rfl,rfl,?_,?_,?_,?_⟩
        ·rw[replicate_snoc,unhide HXS];unfold RowI;have e:(xs++[xv]).length=lst.length+(i+1):=by have:=unhide HXL;simp;omega
         rw[e];rw[hxi] at h1;rw[← Nat.add_assoc];simpa[intV] using h1
        ·exact (hR.alloc _).byGrown h2 (fun k e=>by have:=(World.ownsRow.lt hS1' k e).1;omega)
        ·exact (hF.trans (Fxr.alloc R A V.B _ _)).grow h2 (fun k e=>by have:=(World.ownsRow.lt hS1' k e).1;omega)
        ·rw[h2.block _ (by simp;omega) (fun e=>by have:=(World.ownsRow.lt hS1' _ e.symm).1;omega),Below.heap_alloc _ _ _ hsX];exact hX
       go_wp2_with (at_builtin;refine wpList_append_own_at _ rfl _ _ 52 rfl (w.heap.size+1) 3 i0 (.int .i64 0) 1 8 Tryz.underlying52 hi hz0 hz1 hz2 rfl (by decide) _ _ _ rfl (World.ownsRow.alloc hS1' _) ⟨wr.heap.size,0,none⟩ 1 1 [_] rfl rfl (cell_one_new _ _ _) (by simp[Value.oneCell']) (by unfold maxLen;omega) (by omega) (by simp;omega) ?_;intro v' w1 hown' hgrow _ hat)
       obtain⟨i2,a2,c2,hi2,rfl,hS2,hR2,hF2,hX2⟩:=hfin _ v' w1 (unhide XE) hown' hgrow
       first
        | exact⟨⟨i2,a2,c2,by omega,by rw[hi2];go_num,rfl,hS2,hR2,hF2,hX2⟩,by simp[intOf];omega⟩
        | (refine⟨?_,by simp[intOf];omega⟩;(repeat apply Exists.intro);exact⟨⟨i2,a2,c2,by omega,by rw[hi2];go_num,rfl,hS2,hR2,hF2,hX2⟩,rfl⟩)
      ·have e:i=nn:=by omega
       subst e
       go_wp2
       have hlen:(lst++List.replicate i xv).length=lst.length+i:=by simp
       have hfin:∀ v:Value,v=.slice a' (lst.length+i) cp'->∃ (q:St) (f:Nat) (l2:List Nat) (a:Option Addr) (cp:Nat),v=.slice a l2.length cp/\1<=f/\many+1<=f+l2.length/\l2.length<=540/\RowI wr (w.heap.size+1) (.slice a l2.length cp) l2/\Rx wr R A V q/\Fxr R A V.B w wr /\
         wr.heap[w.heap.size]?=some (.cells arr 204 (0,0))/\Hid (readX V cl many (many+1) [] t=readX V cl many f l2 q):=by
        rintro v rfl;exact⟨q3,f,lst++List.replicate i xv,a',cp',by rw[hlen],by omega,by rw[hlen];omega,by rw[hlen];omega,by rw[hlen];exact hS,hR,hF,hX,ST⟩
       have hms:1000-(lst.length+i)<1000-lst.length:=by omega
       first
        | exact⟨hfin _ rfl,by simp only[lenOf];exact hms⟩
        | (refine⟨?_,by simp only[lenOf];exact hms⟩;(repeat apply Exists.intro);exact⟨hfin _ rfl,rfl⟩)
    ·have hpos:0<lst.length:=List.length_pos_iff.2 hnil;have hl0:decide (0<lst.length)=true:=by simp;omega
     obtain⟨ga,ca,hsl,hcell⟩:=hS2.cellAt (j:=lst.length-1) (by omega);obtain⟨j,hj⟩:∃ j:Nat,lst.length-1=j:=⟨_,rfl⟩;have hix:(lst.length:Int)-1=(j:Int):=by omega
     have hiw:IntKind.i64.wrap (j:Int)=(j:Int):=wraps_i64 _ (by omega) (by omega);have hj0:(0:Int)<=(j:Int):=by omega
     have hjl:(j:Int)<(lst.length:Int):=by omega
     simp only[Value.slice.injEq] at hsl;obtain⟨rfl,_,rfl⟩:=hsl;have hgr:=World.ownsRow.lt hS2 ga rfl;have hgaw:ga<w2.heap.size:=hgr.2;have hgaR:ga≠R:=by omega
     have hgaA:ga≠A:=by omega
     have hgaB:ga≠V.B:=by omega
     clear hgr;have NA:=rnum_any w2.drew R A V q2 2 2 rfl hR2.drew (by omega)
     rcases qn:numX V 2 q2 with⟨kk,q3⟩|y
     ·have STEP:Hid (readX V cl many (many+1) [] t=readX V cl many f (lst++List.replicate (3+kk) (nth lst (lst.length-1))) q3):=(unh HE2).trans (by rw[if_pos rfl,Rdr.then_ok (demandX_ok hl0),Rdr.then_ok qn,nth_last]);have hnl:kk<128:=Nat.lt_of_lt_of_le (numX_lt qn) (by decide);rw[hj] at STEP hcell;clear HE2 hj hnil;have hkw:IntKind.i64.wrap (3+(kk:Int))=3+(kk:Int):=wraps_i64 _ (by omega) (by omega)
      go_wp2_with (go_at_call 136;refine (demand_ok w2).mono ?_;rintro e w1 ⟨rfl,rfl⟩)
      go_region_with (go_at_call 134;refine (PostX.okC NA qn).mono ?_;rintro e W3 ⟨v,rfl,rfl,hR3,k3⟩;have hcell3:W3.cell? ⟨ga,j,none⟩=some (.int .i64 (nth lst j:Int)):=by rw[World.cell?_of_block (w:=w2) (((Fxr.drew R A V.B w2).trans k3).block ga hgaw hgaR hgaA hgaB)];exact hcell)
      all_goals
       go_wp2_with fail
       obtain⟨nn,hle1,hle2,hn1,hn2,ST⟩:∃ nn:Nat,(nn:Int)<=3+(kk:Int)/\3+(kk:Int)<=(nn:Int)/\1<=nn/\nn<=138/\Hid (readX V cl many (many+1) [] t=readX V cl many f (lst++List.replicate nn (nth lst j)) q3):=⟨3+kk,by omega,by omega,by omega,by omega,STEP⟩;obtain⟨xv,hxv⟩:∃ xv,xv=nth lst j:=⟨_,rfl⟩;rw[← hxv] at ST;have XE:Hid ((nth lst j:Int)=(xv:Int)):=by rw[hxv];rfl
       clear hxv;have hF3:=hFw2.trans ((Fxr.drew R A V.B w2).trans k3);have hS3:=hS2.byFx ((Fxr.drew R A V.B w2).trans k3) (by omega) (by omega) (by omega)
       have hX3:W3.heap[w.heap.size]?=some (.cells arr 204 (0,0)):=by
        rw[((Fxr.drew R A V.B w2).trans k3).block _ (Array.getElem?_eq_some_iff.1 hX2).1 (by omega) (by omega) (by omega)];exact hX2
       clear hR2 hS2 hX2 hR hF hX hS hF2 hFw2 STEP k3 qn NA hcell hcell3 hix hiw hj0 hjl hl0 hpos hgaw hgaR hgaA hgaB hkw
       go_loopw [7,45] (fun lv iv wr=>∃ (i:Nat) (a':Option Addr) (cp':Nat),i<=nn/\iv=.int .i64 (i:Int)/\lv=.slice a' (lst.length+i) cp'/\RowI wr (w.heap.size+1) (.slice a' (lst.length+i) cp') (lst++List.replicate i xv)/\Rx wr R A V q3/\Fxr R A V.B w wr /\
         wr.heap[w.heap.size]?=some (.cells arr 204 (0,0)))
        (fun _ iv _=>nn-(intOf iv).toNat)
       case atStart=>exact⟨0,_,cp,by omega,rfl,rfl,by simpa using hS3,hR3,hF3,hX3⟩
       case round=>
        clear hS3 hR3 hF3 hX3;obtain⟨i,a',cp',hil,rfl,rfl,hS,hR,hF,hX⟩:=hrel;have hsX:=(Array.getElem?_eq_some_iff.1 hX).1
        by_cases hii:i<nn
        ·obtain⟨xs,hxs⟩:∃ xs,lst++List.replicate i xv=xs:=⟨_,rfl⟩;have hxl:xs.length=lst.length+i:=by rw[← hxs];simp
         rw[hxs] at hS;have HXS:=hide hxs;have HXL:=hide hxl;clear hxs hxl;have hS1':wr.ownsRow (w.heap.size+1) 3 1 (.slice a' (lst.length+i) cp') (lst.length+i) (xs.map intV):=by have:=hS;unfold RowI at this;rw[unhide HXL] at this;exact this
         have hfin:∀ (xi:Int) (v':Value) (w1:World),xi=(xv:Int)->(w1.ownsRow (w.heap.size+1) 3 1 v' (lst.length+i+1) (xs.map intV++[.int .i64 xi]))->(wr.alloc (.cells #[.int .i64 xi] 3)).grownBy w1 (Value.slice a' (lst.length+i) cp').ownBlock ->
           ∃ (i2:Nat) (a2:Option Addr) (c2:Nat),i2=i+1/\v'=.slice a2 (lst.length+i2) c2/\RowI w1 (w.heap.size+1) (.slice a2 (lst.length+i2) c2) (lst++List.replicate i2 xv)/\Rx w1 R A V q3/\Fxr R A V.B w w1/\w1.heap[w.heap.size]?=some (.cells arr 204 (0,0)):=by
          intro xi v' w1 hxi h1 h2;obtain⟨g',c',rfl⟩:=ownsRow_succ h1;refine⟨i+1,_,_,rfl,rfl,?_,?_,?_,?_⟩
          ·rw[replicate_snoc,unhide HXS];unfold RowI;have e:(xs++[xv]).length=lst.length+(i+1):=by have:=unhide HXL;simp;omega
           rw[e];rw[hxi] at h1;rw[← Nat.add_assoc];simpa[intV] using h1
          ·exact (hR.alloc _).byGrown h2 (fun k e=>by have:=(World.ownsRow.lt hS1' k e).1;omega)
          ·exact (hF.trans (Fxr.alloc R A V.B _ _)).grow h2 (fun k e=>by have:=(World.ownsRow.lt hS1' k e).1;omega)
          ·rw[h2.block _ (by simp;omega) (fun e=>by have:=(World.ownsRow.lt hS1' _ e.symm).1;omega),Below.heap_alloc _ _ _ hsX];exact hX
         go_wp2_with (at_builtin;refine wpList_append_own_at _ rfl _ _ 52 rfl (w.heap.size+1) 3 i0 (.int .i64 0) 1 8 Tryz.underlying52 hi hz0 hz1 hz2 rfl (by decide) _ _ _ rfl (World.ownsRow.alloc hS1' _) ⟨wr.heap.size,0,none⟩ 1 1 [_] rfl rfl (cell_one_new _ _ _) (by simp[Value.oneCell']) (by unfold maxLen;omega) (by omega) (by simp;omega) ?_;intro v' w1 hown' hgrow _ hat)
         obtain⟨i2,a2,c2,hi2,rfl,hS2,hR2,hF2,hX2⟩:=hfin _ v' w1 (unhide XE) hown' hgrow
         first
          | exact⟨⟨i2,a2,c2,by omega,by rw[hi2];go_num,rfl,hS2,hR2,hF2,hX2⟩,by simp[intOf];omega⟩
          | (refine⟨?_,by simp[intOf];omega⟩;(repeat apply Exists.intro);exact⟨⟨i2,a2,c2,by omega,by rw[hi2];go_num,rfl,hS2,hR2,hF2,hX2⟩,rfl⟩)
        ·have e:i=nn:=by omega
         subst e
         go_wp2
         have hlen:(lst++List.replicate i xv).length=lst.length+i:=by simp
         have hfin:∀ v:Value,v=.slice a' (lst.length+i) cp'->∃ (q:St) (f:Nat) (l2:List Nat) (a:Option Addr) (cp:Nat),v=.slice a l2.length cp/\1<=f/\many+1<=f+l2.length/\l2.length<=540/\RowI wr (w.heap.size+1) (.slice a l2.length cp) l2/\Rx wr R A V q/\Fxr R A V.B w wr /\
           wr.heap[w.heap.size]?=some (.cells arr 204 (0,0))/\Hid (readX V cl many (many+1) [] t=readX V cl many f l2 q):=by
          rintro v rfl;exact⟨q3,f,lst++List.replicate i xv,a',cp',by rw[hlen],by omega,by rw[hlen];omega,by rw[hlen];omega,by rw[hlen];exact hS,hR,hF,hX,ST⟩
         have hms:1000-(lst.length+i)<1000-lst.length:=by omega
         first
          | exact⟨hfin _ rfl,by simp only[lenOf];exact hms⟩
          | (refine⟨?_,by simp only[lenOf];exact hms⟩;(repeat apply Exists.intro);exact⟨hfin _ rfl,rfl⟩)
     ·have FIN:Hid (readX V cl many (many+1) [] t=.no y):=(unh HE2).trans (by rw[if_pos rfl,Rdr.then_ok (demandX_ok hl0),Rdr.then_no qn]);rw[hj] at hcell;clear HE2 hj hnil
      go_wp2_with (go_at_call 136;refine (demand_ok w2).mono ?_;rintro e w1 ⟨rfl,rfl⟩)
      go_region_dies
      all_goals
       refine (PostX.noC NA qn).mono ?_;rintro e w3 ⟨rfl,hF3⟩;exact⟨rfl,PostX.no (unh FIN) (hFw2.trans ((Fxr.drew R A V.B w2).trans hF3))⟩
    ·have NA:=rnum_any w2 R A V q2 3 3 rfl hR2 (by omega)
     rcases qn:numX V 3 q2 with⟨kk,q3⟩|y
     ·have STEP:Hid (readX V cl many (many+1) [] t=readX V cl many f (lst++List.replicate (3+kk) 0) q3):=(unh HE2).trans (by rw[if_neg (by decide),if_pos rfl,Rdr.then_ok qn]);have hnl:kk<128:=Nat.lt_of_lt_of_le (numX_lt qn) (by decide);clear HE2
      go_wp2_with fail
      refine (PostX.okC NA qn).mono ?_;rintro e W3 ⟨v,rfl,rfl,hR3,k3⟩;clear qn NA
      go_wp2_with fail
      obtain⟨nn,hle1,hle2,hn1,hn2,ST⟩:∃ nn:Nat,(nn:Int)<=3+(kk:Int)/\3+(kk:Int)<=(nn:Int)/\1<=nn/\nn<=138/\Hid (readX V cl many (many+1) [] t=readX V cl many f (lst++List.replicate nn 0) q3):=⟨3+kk,by omega,by omega,by omega,by omega,STEP⟩;obtain⟨xv,hxv⟩:∃ xv:Nat,xv=0:=⟨_,rfl⟩;rw[← hxv] at ST;have XE:Hid ((0:Int)=(xv:Int)):=by rw[hxv];rfl
      clear hxv;have hF3:=hFw2.trans k3;have hS3:=hS2.byFx k3 (by omega) (by omega) (by omega)
      have hX3:W3.heap[w.heap.size]?=some (.cells arr 204 (0,0)):=by
       rw[k3.block _ (Array.getElem?_eq_some_iff.1 hX2).1 (by omega) (by omega) (by omega)];exact hX2
      clear hR2 hS2 hX2 hR hF hX hS hF2 hFw2 STEP k3
      go_loopw [7,45] (fun lv iv wr=>∃ (i:Nat) (a':Option Addr) (cp':Nat),i<=nn/\iv=.int .i64 (i:Int)/\lv=.slice a' (lst.length+i) cp'/\RowI wr (w.heap.size+1) (.slice a' (lst.length+i) cp') (lst++List.replicate i xv)/\Rx wr R A V q3/\Fxr R A V.B w wr /\
        wr.heap[w.heap.size]?=some (.cells arr 204 (0,0)))
       (fun _ iv _=>nn-(intOf iv).toNat)
      case atStart=>exact⟨0,_,cp,by omega,rfl,rfl,by simpa using hS3,hR3,hF3,hX3⟩
      case round=>
       clear hS3 hR3 hF3 hX3;obtain⟨i,a',cp',hil,rfl,rfl,hS,hR,hF,hX⟩:=hrel;have hsX:=(Array.getElem?_eq_some_iff.1 hX).1
       by_cases hii:i<nn
       ·obtain⟨xs,hxs⟩:∃ xs,lst++List.replicate i xv=xs:=⟨_,rfl⟩;have hxl:xs.length=lst.length+i:=by rw[← hxs];simp
        rw[hxs] at hS;have HXS:=hide hxs;have HXL:=hide hxl;clear hxs hxl;have hS1':wr.ownsRow (w.heap.size+1) 3 1 (.slice a' (lst.length+i) cp') (lst.length+i) (xs.map intV):=by have:=hS;unfold RowI at this;rw[unhide HXL] at this;exact this
        have hfin:∀ (xi:Int) (v':Value) (w1:World),xi=(xv:Int)->(w1.ownsRow (w.heap.size+1) 3 1 v' (lst.length+i+1) (xs.map intV++[.int .i64 xi]))->(wr.alloc (.cells #[.int .i64 xi] 3)).grownBy w1 (Value.slice a' (lst.length+i) cp').ownBlock ->
          ∃ (i2:Nat) (a2:Option Addr) (c2:Nat),i2=i+1/\v'=.slice a2 (lst.length+i2) c2/\RowI w1 (w.heap.size+1) (.slice a2 (lst.length+i2) c2) (lst++List.replicate i2 xv)/\Rx w1 R A V q3/\Fxr R A V.B w w1/\w1.heap[w.heap.size]?=some (.cells arr 204 (0,0)):=by
         intro xi v' w1 hxi h1 h2;obtain⟨g',c',rfl⟩:=ownsRow_succ h1;refine⟨i+1,_,_,rfl,rfl,?_,?_,?_,?_⟩
         ·rw[replicate_snoc,unhide HXS];unfold RowI;have e:(xs++[xv]).length=lst.length+(i+1):=by have:=unhide HXL;simp;omega
          rw[e];rw[hxi] at h1;rw[← Nat.add_assoc];simpa[intV] using h1
         ·exact (hR.alloc _).byGrown h2 (fun k e=>by have:=(World.ownsRow.lt hS1' k e).1;omega)
         ·exact (hF.trans (Fxr.alloc R A V.B _ _)).grow h2 (fun k e=>by have:=(World.ownsRow.lt hS1' k e).1;omega)
         ·rw[h2.block _ (by simp;omega) (fun e=>by have:=(World.ownsRow.lt hS1' _ e.symm).1;omega),Below.heap_alloc _ _ _ hsX];exact hX
        go_wp2_with (at_builtin;refine wpList_append_own_at _ rfl _ _ 52 rfl (w.heap.size+1) 3 i0 (.int .i64 0) 1 8 Tryz.underlying52 hi hz0 hz1 hz2 rfl (by decide) _ _ _ rfl (World.ownsRow.alloc hS1' _) ⟨wr.heap.size,0,none⟩ 1 1 [_] rfl rfl (cell_one_new _ _ _) (by simp[Value.oneCell']) (by unfold maxLen;omega) (by omega) (by simp;omega) ?_;intro v' w1 hown' hgrow _ hat)
        obtain⟨i2,a2,c2,hi2,rfl,hS2,hR2,hF2,hX2⟩:=hfin _ v' w1 (unhide XE) hown' hgrow
        first
         | exact⟨⟨i2,a2,c2,by omega,by rw[hi2];go_num,rfl,hS2,hR2,hF2,hX2⟩,by simp[intOf];omega⟩
         | (refine⟨?_,by simp[intOf];omega⟩;(repeat apply Exists.intro);exact⟨⟨i2,a2,c2,by omega,by rw[hi2];go_num,rfl,hS2,hR2,hF2,hX2⟩,rfl⟩)
       ·have e:i=nn:=by omega
        subst e
        go_wp2
        have hlen:(lst++List.replicate i xv).length=lst.length+i:=by simp
        have hfin:∀ v:Value,v=.slice a' (lst.length+i) cp'->∃ (q:St) (f:Nat) (l2:List Nat) (a:Option Addr) (cp:Nat),v=.slice a l2.length cp/\1<=f/\many+1<=f+l2.length/\l2.length<=540/\RowI wr (w.heap.size+1) (.slice a l2.length cp) l2/\Rx wr R A V q/\Fxr R A V.B w wr /\
          wr.heap[w.heap.size]?=some (.cells arr 204 (0,0))/\Hid (readX V cl many (many+1) [] t=readX V cl many f l2 q):=by
         rintro v rfl;exact⟨q3,f,lst++List.replicate i xv,a',cp',by rw[hlen],by omega,by rw[hlen];omega,by rw[hlen];omega,by rw[hlen];exact hS,hR,hF,hX,ST⟩
        have hms:1000-(lst.length+i)<1000-lst.length:=by omega
        first
         | exact⟨hfin _ rfl,by simp only[lenOf];exact hms⟩
         | (refine⟨?_,by simp only[lenOf];exact hms⟩;(repeat apply Exists.intro);exact⟨hfin _ rfl,rfl⟩)
     ·have FIN:Hid (readX V cl many (many+1) [] t=.no y):=(unh HE2).trans (by rw[if_neg (by decide),if_pos rfl,Rdr.then_no qn]);clear HE2
      go_wp2_with fail
      refine (PostX.noC NA qn).mono ?_;rintro e W3 ⟨rfl,k3⟩;exact⟨rfl,PostX.no (unh FIN) (hFw2.trans k3)⟩
    ·have NA:=rnum_any w2 R A V q2 7 7 rfl hR2 (by omega)
     rcases qn:numX V 7 q2 with⟨kk,q3⟩|y
     ·have STEP:Hid (readX V cl many (many+1) [] t=readX V cl many f (lst++List.replicate (11+kk) 0) q3):=(unh HE2).trans (by rw[if_neg (by decide),if_neg (by decide),if_pos rfl,Rdr.then_ok qn]);have hnl:kk<128:=Nat.lt_of_lt_of_le (numX_lt qn) (by decide);clear HE2
      go_wp2_with fail
      refine (PostX.okC NA qn).mono ?_;rintro e W3 ⟨v,rfl,rfl,hR3,k3⟩;clear qn NA
      go_wp2_with fail
      obtain⟨nn,hle1,hle2,hn1,hn2,ST⟩:∃ nn:Nat,(nn:Int)<=11+(kk:Int)/\11+(kk:Int)<=(nn:Int)/\1<=nn/\nn<=138/\Hid (readX V cl many (many+1) [] t=readX V cl many f (lst++List.replicate nn 0) q3):=⟨11+kk,by omega,by omega,by omega,by omega,STEP⟩;obtain⟨xv,hxv⟩:∃ xv:Nat,xv=0:=⟨_,rfl⟩;rw[← hxv] at ST;have XE:Hid ((0:Int)=(xv:Int)):=by rw[hxv];rfl
      clear hxv;have hF3:=hFw2.trans k3;have hS3:=hS2.byFx k3 (by omega) (by omega) (by omega)
      have hX3:W3.heap[w.heap.size]?=some (.cells arr 204 (0,0)):=by
       rw[k3.block _ (Array.getElem?_eq_some_iff.1 hX2).1 (by omega) (by omega) (by omega)];exact hX2
      clear hR2 hS2 hX2 hR hF hX hS hF2 hFw2 STEP k3
      go_loopw [7,45] (fun lv iv wr=>∃ (i:Nat) (a':Option Addr) (cp':Nat),i<=nn/\iv=.int .i64 (i:Int)/\lv=.slice a' (lst.length+i) cp'/\RowI wr (w.heap.size+1) (.slice a' (lst.length+i) cp') (lst++List.replicate i xv)/\Rx wr R A V q3/\Fxr R A V.B w wr /\
        wr.heap[w.heap.size]?=some (.cells arr 204 (0,0)))
       (fun _ iv _=>nn-(intOf iv).toNat)
      case atStart=>exact⟨0,_,cp,by omega,rfl,rfl,by simpa using hS3,hR3,hF3,hX3⟩
      case round=>
       clear hS3 hR3 hF3 hX3;obtain⟨i,a',cp',hil,rfl,rfl,hS,hR,hF,hX⟩:=hrel;have hsX:=(Array.getElem?_eq_some_iff.1 hX).1
       by_cases hii:i<nn
       ·obtain⟨xs,hxs⟩:∃ xs,lst++List.replicate i xv=xs:=⟨_,rfl⟩;have hxl:xs.length=lst.length+i:=by rw[← hxs];simp
        rw[hxs] at hS;have HXS:=hide hxs;have HXL:=hide hxl;clear hxs hxl;have hS1':wr.ownsRow (w.heap.size+1) 3 1 (.slice a' (lst.length+i) cp') (lst.length+i) (xs.map intV):=by have:=hS;unfold RowI at this;rw[unhide HXL] at this;exact this
        have hfin:∀ (xi:Int) (v':Value) (w1:World),xi=(xv:Int)->(w1.ownsRow (w.heap.size+1) 3 1 v' (lst.length+i+1) (xs.map intV++[.int .i64 xi]))->(wr.alloc (.cells #[.int .i64 xi] 3)).grownBy w1 (Value.slice a' (lst.length+i) cp').ownBlock ->
          ∃ (i2:Nat) (a2:Option Addr) (c2:Nat),i2=i+1/\v'=.slice a2 (lst.length+i2) c2/\RowI w1 (w.heap.size+1) (.slice a2 (lst.length+i2) c2) (lst++List.replicate i2 xv)/\Rx w1 R A V q3/\Fxr R A V.B w w1/\w1.heap[w.heap.size]?=some (.cells arr 204 (0,0)):=by
         intro xi v' w1 hxi h1 h2;obtain⟨g',c',rfl⟩:=ownsRow_succ h1;refine⟨i+1,_,_,rfl,rfl,?_,?_,?_,?_⟩
         ·rw[replicate_snoc,unhide HXS];unfold RowI;have e:(xs++[xv]).length=lst.length+(i+1):=by have:=unhide HXL;simp;omega
          rw[e];rw[hxi] at h1;rw[← Nat.add_assoc];simpa[intV] using h1
         ·exact (hR.alloc _).byGrown h2 (fun k e=>by have:=(World.ownsRow.lt hS1' k e).1;omega)
         ·exact (hF.trans (Fxr.alloc R A V.B _ _)).grow h2 (fun k e=>by have:=(World.ownsRow.lt hS1' k e).1;omega)
         ·rw[h2.block _ (by simp;omega) (fun e=>by have:=(World.ownsRow.lt hS1' _ e.symm).1;omega),Below.heap_alloc _ _ _ hsX];exact hX
        go_wp2_with (at_builtin;refine wpList_append_own_at _ rfl _ _ 52 rfl (w.heap.size+1) 3 i0 (.int .i64 0) 1 8 Tryz.underlying52 hi hz0 hz1 hz2 rfl (by decide) _ _ _ rfl (World.ownsRow.alloc hS1' _) ⟨wr.heap.size,0,none⟩ 1 1 [_] rfl rfl (cell_one_new _ _ _) (by simp[Value.oneCell']) (by unfold maxLen;omega) (by omega) (by simp;omega) ?_;intro v' w1 hown' hgrow _ hat)
        obtain⟨i2,a2,c2,hi2,rfl,hS2,hR2,hF2,hX2⟩:=hfin _ v' w1 (unhide XE) hown' hgrow
        first
         | exact⟨⟨i2,a2,c2,by omega,by rw[hi2];go_num,rfl,hS2,hR2,hF2,hX2⟩,by simp[intOf];omega⟩
         | (refine⟨?_,by simp[intOf];omega⟩;(repeat apply Exists.intro);exact⟨⟨i2,a2,c2,by omega,by rw[hi2];go_num,rfl,hS2,hR2,hF2,hX2⟩,rfl⟩)
       ·have e:i=nn:=by omega
        subst e
        go_wp2
        have hlen:(lst++List.replicate i xv).length=lst.length+i:=by simp
        have hfin:∀ v:Value,v=.slice a' (lst.length+i) cp'->∃ (q:St) (f:Nat) (l2:List Nat) (a:Option Addr) (cp:Nat),v=.slice a l2.length cp/\1<=f/\many+1<=f+l2.length/\l2.length<=540/\RowI wr (w.heap.size+1) (.slice a l2.length cp) l2/\Rx wr R A V q/\Fxr R A V.B w wr /\
          wr.heap[w.heap.size]?=some (.cells arr 204 (0,0))/\Hid (readX V cl many (many+1) [] t=readX V cl many f l2 q):=by
         rintro v rfl;exact⟨q3,f,lst++List.replicate i xv,a',cp',by rw[hlen],by omega,by rw[hlen];omega,by rw[hlen];omega,by rw[hlen];exact hS,hR,hF,hX,ST⟩
        have hms:1000-(lst.length+i)<1000-lst.length:=by omega
        first
         | exact⟨hfin _ rfl,by simp only[lenOf];exact hms⟩
         | (refine⟨?_,by simp only[lenOf];exact hms⟩;(repeat apply Exists.intro);exact⟨hfin _ rfl,rfl⟩)
     ·have FIN:Hid (readX V cl many (many+1) [] t=.no y):=(unh HE2).trans (by rw[if_neg (by decide),if_neg (by decide),if_pos rfl,Rdr.then_no qn]);clear HE2
      go_wp2_with fail
      refine (PostX.noC NA qn).mono ?_;rintro e W3 ⟨rfl,k3⟩;exact⟨rfl,PostX.no (unh FIN) (hFw2.trans k3)⟩
   ·have FIN:Hid (readX V cl many (many+1) [] t=.no y):=(unh HE1).trans (by rw[Rdr.then_no qs]);refine (PostX.noC PS qs).mono ?_;rintro e w2 ⟨rfl,hF2⟩;exact⟨rfl,PostX.no (unh FIN) (hF.trans hF2)⟩
  ·obtain⟨f,rfl⟩:∃ f',f=f'+1:=⟨f-1,by omega⟩;have HE0:=(unh HE);rw[readX_succ V cl many f lst,if_neg hlm] at HE0;clear HE
   by_cases hll2:lst.length=many
   ·have HF:Hid (readX V cl many (many+1) [] t=.ok lst q):=HE0.trans (by rw[Rdr.then_ok (demandX_ok (by simpa using hll2))];rfl);have hnl:decide ((lst.length:Int)<(many:Int))=false:=by simp;omega
    have heq:((lst.length:Int)==(many:Int))=true:=by simp[hll2]
    clear HE0 hll2
    go_wp2_with (go_at_call 136;refine (demand_ok wr).mono ?_;rintro e w1 ⟨rfl,rfl⟩)
    go_ret
    exact PostX.ok (unh HF) hS hR hF
   ·have HF:Hid (readX V cl many (many+1) [] t=.no (9,V.n9)):=HE0.trans (by rw[Rdr.then_no (demandX_no (by simpa using hll2))]);have hnl:decide ((lst.length:Int)<(many:Int))=false:=by simp;omega
    have heq:((lst.length:Int)==(many:Int))=false:=by rw[beq_eq_false_iff_ne];omega
    clear HE0 hll2
    go_wp2_with fail
    refine (demand_no hR).mono ?_;rintro e w3 ⟨rfl,rfl⟩;exact⟨rfl,PostX.no (y:=(9,V.n9)) (unh HF) hF⟩
end
end Go.Proofs.YtgffljllfenhkaaGreatDoor
