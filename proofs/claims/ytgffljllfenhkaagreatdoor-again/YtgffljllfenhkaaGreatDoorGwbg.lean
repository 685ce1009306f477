import Derived.Lib.AppendZerosOnto
import Derived.Test.YtgffljllfenhkaaGreatDoorGwbd
import Derived.Test.YtgffljllfenhkaaGreatDoorGwbf
namespace Go.Proofs.YtgffljllfenhkaaGreatDoor
section
open Go.RowKit
attribute [local go_sem] Oper.semAt_some
theorem below_none {w w':World}(h:Below w.heap.size w w'):w.grownBy w' none:=⟨h.os,h.tape,h.output,h.size,fun k hk _=>h.block k hk⟩
theorem nth_snoc {l:List Nat}{b:Nat}(h:∀ i,nth l i<=b) {n x:Nat}(hx:x<=b):∀ i,nth (l++List.replicate n x) i<=b:=fun i=>by
 have h1:=h i;unfold nth at *;rw[List.getD_eq_getElem?_getD] at *
 by_cases e:i<l.length
 ·rw[List.getElem?_append_left e];exact h1
 ·rw[List.getElem?_append_right (by omega),List.getElem?_replicate];split <;> simp[hx]
theorem last_le {l:List Nat}{b:Nat}(h:∀ i,nth l i<=b):l.getLastD 0<=b:=by rw[← nth_last];exact h _
theorem nth_set (l:List Nat) (k x j:Nat) (hk:k<l.length):(if j=k then x else nth l j)=nth (l.set k x) j:=by
 unfold nth;rw[List.getD_eq_getElem?_getD,List.getD_eq_getElem?_getD,List.getElem?_set]
 by_cases e:j=k
 ·subst e;simp[hk]
 ·rw[if_neg e,if_neg (fun e'=>e e'.symm)]
theorem SpN.grown {w w':World}{base:Nat}{sg:Value}{l:List Nat}{r:Option Nat}(h:SpN w base sg l) (hg:w.grownBy w' r) (hr:∀ k,r=some k->k<base):SpN w' base sg l:=by
 obtain⟨g,cap,h1,h2,h3,h4⟩:=h;exact⟨g,cap,h1,h2,Nat.lt_of_lt_of_le h3 hg.size,fun n a hn hn' ha=>(World.cell?_of_block (w:=w) (hg.block g h3 (fun e=>by have:=hr g e.symm;omega))).trans (h4 n a hn hn' ha)⟩
theorem SpN.mono {w:World}{base base':Nat}{sg:Value}{l:List Nat}(h:SpN w base sg l) (hb:base'<=base):SpN w base' sg l:=by
 obtain⟨g,cap,h1,h2,h3⟩:=h;exact⟨g,cap,h1,Nat.le_trans hb h2,h3⟩
theorem laid_codeP (w:World) (old carr:Array Value):∃ W6,(w.alloc (.cells old 204)).setRow w.heap.size carr=W6/\W6.heap[w.heap.size]?=some (.cells carr 204 (0,0))/\Below w.heap.size w W6:=
 ⟨_,rfl,setRow_heap _ _ _ _ _ _ (World.alloc_heap_new w _),((Below.refl _ w).alloc (Nat.le_refl _) _).grown (grownBy_setRow _ _ _) (by simp) (fun k e=>by simp at e;omega)⟩
theorem zeros19 (m:Nat) (hm:m<19):(#[.int .i64 0,.int .i64 0,.int .i64 0,.int .i64 0,.int .i64 0,.int .i64 0,.int .i64 0,.int .i64 0,.int .i64 0,.int .i64 0,.int .i64 0,.int .i64 0,.int .i64 0,.int .i64 0,.int .i64 0,.int .i64 0,.int .i64 0,.int .i64 0,.int .i64 0]:Array Value)[m]?=some (intV 0):=by
 match m,hm with
 | 0,_ | 1,_ | 2,_ | 3,_ | 4,_ | 5,_ | 6,_ | 7,_ | 8,_ | 9,_ | 10,_ | 11,_ | 12,_ | 13,_ | 14,_ | 15,_ | 16,_ | 17,_ | 18,_=>rfl
 | n+19,hm=>exact absurd hm (by omega)
theorem Rx.below {w w':World}{R A:Nat}{V:Ux}{t:St}(h:Rx w R A V t) (hB:Below w.heap.size w w'):Rx w' R A V t:=
 h.of_blocks (fun k hk=>hB.block k (by have h1:=h.ltR;have h2:=h.ltA;have h3:=h.lt;omega))
theorem chargeX_ok {n:Nat}{t:St}(h:n<=t.b):chargeX n t=.ok () { t with b:=t.b-n }:=by unfold chargeX chargeM;rw[if_neg (by omega)]
theorem chargeX_no {n:Nat}{t:St}(h:t.b<n):chargeX n t=.no (12,0):=by unfold chargeX chargeM;rw[if_pos h]
def CodeQ (w:World) (l:List Nat):Unit->Value->World->Prop:=fun _ v w'=>∃ arr sg,v=.agg arr/\CodeP arr l sg/\SpN w' w.heap.size sg l/\arr.all (·.oneCell')=true
set_option maxHeartbeats 2000000 in
theorem rcode_n {w:World}{R A:Nat}{V:Ux}{t:St}(hR:Rx w R A V t) (g off cap n:Nat) (l:List Nat) (hl:Nums w g off l) (hlen:l.length<=400) (h15:∀ i,nth l i<=15) (hn:n=l.length) (hg:g≠V.B) :
  Calls Tryz.prog 182 #[.pointer (some ⟨R,0,none⟩),.slice (some ⟨g,off,none⟩) n cap] w (PostX R A V w (CodeQ w l) (chargeX l.length t)):=by
 subst hn;have hlB:=hR.lt;have hltR:=hR.ltR;have hbb:=hR.bud.hb
 go_enter Tryz.func182,Tryz.ntmps182
 go_upto_region 1 with fail
 obtain⟨old,hold⟩:∃ old:Array Value,old=#[.int .i64 0,.int .i64 0,.int .i64 0,.int .i64 0,.int .i64 0,.int .i64 0,.int .i64 0,.int .i64 0,.int .i64 0,.int .i64 0,.int .i64 0,.int .i64 0,.int .i64 0,.int .i64 0,.int .i64 0,.int .i64 0,.slice none 0 0]:=⟨_,rfl⟩;rw[← hold];have holds:old.size=17:=by rw[hold];rfl
 clear hold;have hR0:=hR.alloc (.cells old 204);have c3:=hR0.c3;have hO:(w.alloc (.cells old 204)).heap[w.heap.size]?=some (.cells old 204 (0,0)):=World.alloc_heap_new w _;have hB0:Below w.heap.size w (w.alloc (.cells old 204)):=(Below.refl _ _).alloc (Nat.le_refl _) _;have hs0:(w.alloc (.cells old 204)).heap.size=w.heap.size+1:=by simp
 have hl0:=hl.below hB0;have F0:Fxr R A V.B w (w.alloc (.cells old 204)):=Fxr.alloc R A V.B w _;obtain⟨W0,hW0⟩:∃ W0,w.alloc (.cells old 204)=W0:=⟨_,rfl⟩;rw[hW0] at c3 hO hB0 hl0 hs0 hR0 F0 ⊢;clear hW0
 go_wp2_with fail
 by_cases hb:t.b<l.length
 ·refine (take_no _ V.B t.b l.length 12 0 hR0.bud.ca hR0.bud.y hb).mono ?_;rintro e w1 ⟨rfl,rfl⟩;exact⟨rfl,PostX.no (chargeX_no hb) F0⟩
 ·refine (take_ok _ V.B t.b l.length hR0.bud.ca (hR0.bud.fa 0) (by omega) hbb).mono ?_;rintro e w1 ⟨rfl,hw1⟩;have hR1:=hR0.pay l.length (by omega);have hg1:W0.grownBy w1 (some V.B):=by rw[← hw1];exact grownBy_setCell _ _ _ _
  rw[hw1] at hR1;have F1:Fxr R A V.B w w1:=by rw[← hw1];exact F0.setB 0 _
  have hO1:w1.heap[w.heap.size]?=some (.cells old 204 (0,0)):=(hg1.block _ (by omega) (by simp;omega)).trans hO;have hl1:Nums w1 g off l:=⟨Nat.lt_of_lt_of_le hl0.1 hg1.size,fun i hi=>(World.cell?_of_block (w:=W0) (hg1.block g hl0.1 (by simp;omega))).trans (hl0.2 i hi)⟩;have hs1:=hg1.size;have HC:Hid (chargeX l.length t=.ok () { t with b:=t.b-l.length }):=chargeX_ok (by omega);clear hw1 hO hl0 c3 hl
  go_wp2_with fail
  refine (newCode_walk _ g off cap l hl1 hlen h15).mono ?_;rintro e w2 ⟨arr,sg,rfl,hD,hSp,hB,hone⟩;have hO2:=(hB.block w.heap.size (by omega)).trans hO1;have hR2:=hR1.below hB;have F2:=F1.trans (Fxr.below hB);clear hO1
  go_wp2_with (refine wpList_store_row rfl 204 _ _ rfl w.heap.size _ rfl rfl 204 old hO2 (Tryz.infoCodeP _ hD.size) (holds.trans hD.size.symm) hone ?_)
  have hW2:=setRow_heap w2 w.heap.size old arr _ _ hO2;have hgr:=grownBy_setRow w2 w.heap.size arr;obtain⟨d,hd1,hd2⟩:=structured Tryz.aggCodeP;refine bodyPost_ret (v:=.agg arr) (results_cell_row rfl _ _ w.heap.size 204 _ (0,0) d rfl hW2 hd1 (by cases d <;> first | rfl | cases hd2) (Tryz.infoCodeP _ hD.size)) rfl ?_;exact PostX.ok (unh HC) ⟨arr,sg,rfl,hD,(hSp.grown hgr (fun k e=>by simp at e;omega)).mono (by omega),hone⟩ (hR2.byGrown hgr (fun k e=>by simp at e;omega)) (F2.grow hgr (fun k e=>by simp at e;omega))
theorem clensX_succ (V:Ux) (n i:Nat) (l:List Nat):clensX V (n+1) i l=(numX V 3).then fun x=>clensX V n (i+1) (l.set (orderT.getD i 0) x):=rfl
theorem order_lt (i:Nat) (h:i<19):nth orderT i<19:=by revert i;decide
def ColX (w:World):List Nat->Value->World->Prop:=fun l v w'=>∃ arr sg,v=.agg arr/\CodeP arr l sg/\SpN w' w.heap.size sg l/\arr.all (·.oneCell')=true/\l.length=19
set_option maxHeartbeats 8000000 in
set_option maxRecDepth 100000 in
theorem col_walk (w:World) (R A:Nat) (V:Ux) (t:St) (told:Nat) (ti:Int) (h:Rx w R A V t) (hT:PTabs w) (h22:22<V.B) (ht:told<=19) (hti:ti=(told:Int)) :
  Calls Tryz.prog 184 #[.pointer (some ⟨R,0,none⟩),.int .i64 ti] w (PostX R A V w (ColX w) (codeLX V told t)):=by
 subst hti;have hlR:=h.ltR;have hlA:=h.ltA;have hlB:=h.lt
 go_enter Tryz.func184,Tryz.ntmps184
 go_wp2_with fail
 obtain⟨W0,hW0⟩:∃ W0,(w.alloc (.cells #[.int .i64 0,.int .i64 0,.int .i64 0,.int .i64 0,.int .i64 0,.int .i64 0,.int .i64 0,.int .i64 0,.int .i64 0,.int .i64 0,.int .i64 0,.int .i64 0,.int .i64 0,.int .i64 0,.int .i64 0,.int .i64 0,.slice none 0 0] 204)).alloc (.cells #[.int .i64 0,.int .i64 0,.int .i64 0,.int .i64 0,.int .i64 0,.int .i64 0,.int .i64 0,.int .i64 0,.int .i64 0,.int .i64 0,.int .i64 0,.int .i64 0,.int .i64 0,.int .i64 0,.int .i64 0,.int .i64 0,.int .i64 0,.int .i64 0,.int .i64 0] 163)=W0:=⟨_,rfl⟩;rw[hW0];have hF0:Fxr R A V.B w W0:=by rw[← hW0];exact (Fxr.alloc R A V.B w _).trans (Fxr.alloc R A V.B _ _)
 have hR0:Rx W0 R A V t:=by rw[← hW0];exact (h.alloc _).alloc _
 have hC0:Cn W0 (w.heap.size+1) 163 19 (nth (List.replicate 19 0)) #[.int .i64 0,.int .i64 0,.int .i64 0,.int .i64 0,.int .i64 0,.int .i64 0,.int .i64 0,.int .i64 0,.int .i64 0,.int .i64 0,.int .i64 0,.int .i64 0,.int .i64 0,.int .i64 0,.int .i64 0,.int .i64 0,.int .i64 0,.int .i64 0,.int .i64 0]:=by
  refine⟨by rw[← hW0];exact heap_alloc2_new w _ _,by simp,fun m hm=>?_⟩;have:nth (List.replicate 19 0) m=0:=by unfold nth;rw[List.getD_eq_getElem?_getD,List.getElem?_replicate];split <;> simp
  rw[this];exact zeros19 m hm
 have hO0:∃ old:Array Value,old.size=17/\W0.heap[w.heap.size]?=some (.cells old 204 (0,0)):=⟨_,rfl,by rw[← hW0];exact heap_alloc2_old w _ _⟩;obtain⟨old,hold,hO0⟩:=hO0;clear hW0;have h70:∀ j,nth (List.replicate 19 0) j<=7:=fun j=>by unfold nth;rw[List.getD_eq_getElem?_getD,List.getElem?_replicate];split <;> simp
 have HE0:Hid (codeLX V told t=((clensX V (told-0) 0 (List.replicate 19 0)).then fun l=>(chargeX 19).then fun _=>(demandX V (whole l)).then fun _=>Rdr.ret l) t):=rfl
 go_loopw [9] (fun iv wr=>∃ (i:Nat) (arr:Array Value) (ti:St) (li:List Nat),iv=.int .i64 (i:Int)/\i<=told/\li.length=19/\(∀ j,nth li j<=7)/\Cn wr (w.heap.size+1) 163 19 (nth li) arr/\wr.heap[w.heap.size]?=some (.cells old 204 (0,0))/\Rx wr R A V ti/\Fxr R A V.B w wr /\
   Hid (codeLX V told t=((clensX V (told-i) i li).then fun l=>(chargeX 19).then fun _=>(demandX V (whole l)).then fun _=>Rdr.ret l) ti))
  (fun iv _=>told-(intOf iv).toNat)
 case atStart=>exact⟨0,_,t,List.replicate 19 0,rfl,by omega,List.length_replicate,h70,hC0,hO0,hR0,hF0,HE0⟩
 case round=>
  clear hC0 hO0 hR0 hF0 W0 h70 HE0;obtain⟨i,arr,ti,li,rfl,hi,hl19,h7,hC,hO,hR,hF,HE⟩:=hrel;have hTr:=hT.kept hF h22 h;have hlW:=hF.size;have hCl:=hC.lt
  by_cases hlt:i<told
  ·have hto:=hTr.order i (by simp[orderT];omega);have hol:=order_lt i (by omega);have hi19:(i:Int)<19:=by omega
   obtain⟨k,hk⟩:∃ k,nth orderT i=k:=⟨_,rfl⟩;rw[hk] at hto hol;have hk19:(k:Int)<19:=by omega
   have HK:Hid (orderT.getD i 0=k):=hk;have HE1:Hid (codeLX V told t=(((numX V 3).then fun x=>clensX V (told-(i+1)) (i+1) (li.set k x)).then fun l=>(chargeX 19).then fun _=>(demandX V (whole l)).then fun _=>Rdr.ret l) ti):=(unh HE).trans (by rw[show told-i=(told-(i+1))+1 by omega,clensX_succ,show orderT.getD i 0=k from hk]);clear hk HE;have NA:=rnum_any wr.drew R A V ti 3 3 rfl hR.drew (by omega)
   rcases qn:numX V 3 ti with⟨x,t2⟩|y
   ·have hnl:x<8:=numX_lt qn;have HE2:Hid (codeLX V told t=((clensX V (told-(i+1)) (i+1) (li.set k x)).then fun l=>(chargeX 19).then fun _=>(demandX V (whole l)).then fun _=>Rdr.ret l) t2):=(unh HE1).trans (by simp only[Rdr.then,qn]);clear HE1
    go_wp2_with fail
    go_region_with (go_at_call 134;refine (PostX.okC NA qn).mono ?_;rintro e w2 ⟨v,rfl,rfl,hR2,hF2⟩;have hF2':=(Fxr.drew R A V.B wr).trans hF2;have hT2:=hTr.kept hF2' h22 hR;have hto2:w2.cell? ⟨10,i,none⟩=some (.int .i64 (k:Int)):=(hT2.order i (by simp[orderT];omega)).trans (by rw[show nth orderT i=k from HK]);have hC2:Cn w2 (w.heap.size+1) 163 19 (nth li) arr:=⟨(hF2'.block _ hCl (by omega) (by omega) (by omega)).trans hC.blk,hC.size,hC.c⟩;have hcc:=hC2.cell hol;have hcf:=hC2.fr k)
    all_goals
     go_wp2_with fail
     have hfin:∀ u:Value,u=.int .i64 ((i:Int)+1)->∃ (i2:Nat) (arr:Array Value) (ti2:St) (li2:List Nat),u=.int .i64 (i2:Int)/\i2<=told/\li2.length=19/\(∀ j,nth li2 j<=7)/\Cn (w2.setCell ⟨w.heap.size+1,k,none⟩ (.int .i64 (x:Int))) (w.heap.size+1) 163 19 (nth li2) arr/\(w2.setCell ⟨w.heap.size+1,k,none⟩ (.int .i64 (x:Int))).heap[w.heap.size]?=some (.cells old 204 (0,0))/\Rx (w2.setCell ⟨w.heap.size+1,k,none⟩ (.int .i64 (x:Int))) R A V ti2/\Fxr R A V.B w (w2.setCell ⟨w.heap.size+1,k,none⟩ (.int .i64 (x:Int))) /\
       Hid (codeLX V told t=((clensX V (told-i2) i2 li2).then fun l=>(chargeX 19).then fun _=>(demandX V (whole l)).then fun _=>Rdr.ret l) ti2):=by
      rintro u rfl;refine⟨i+1,_,t2,li.set k x,by go_num,by omega,by rw[List.length_set];exact hl19,fun j=>?_,(hC2.set hol x).congr (fun m _=>nth_set _ _ _ _ (by rw[hl19];exact hol)),?_,hR2.set _ _ _ ⟨by omega,by omega,by omega,by omega,by omega⟩,(hF.trans hF2').set (w.heap.size+1) k _ (by omega),HE2⟩
      ·rw[← nth_set _ _ _ _ (by rw[hl19];exact hol)];split
       ·omega
       ·exact h7 j
      ·rw[heap_setCell_other _ _ _ _ (by simp),hF2'.block _ (by omega) (by omega) (by omega) (by omega)];exact hO
     first
      | exact⟨hfin _ rfl,by simp[intOf];omega⟩
      | (refine⟨?_,by simp[intOf];omega⟩;(repeat apply Exists.intro);exact⟨hfin _ rfl,rfl⟩)
   ·have FIN:Hid (codeLX V told t=.no y):=(unh HE1).trans (by simp only[Rdr.then,qn])
    go_wp2_with fail
    go_region_dies
    all_goals
     refine (PostX.noC NA qn).mono ?_;rintro e w2 ⟨rfl,hF2⟩;exact⟨rfl,PostX.no (unh FIN) (hF.trans ((Fxr.drew R A V.B wr).trans hF2))⟩
  ·have e:i=told:=by omega
   subst e;have HE3:Hid (codeLX V i t=((chargeX 19).then fun _=>(demandX V (whole li)).then fun _=>Rdr.ret li) ti):=(unh HE).trans (by rw[Nat.sub_self];rfl);clear HE;have hnm:Nums wr (w.heap.size+1) 0 li:=⟨hCl,fun j hj=>by rw[Nat.zero_add];exact hC.cell (by rw[hl19] at hj;exact hj)⟩;have RC:=rcode_n hR (w.heap.size+1) 0 19 19 li hnm (by omega) (fun j=>Nat.le_trans (h7 j) (by omega)) hl19.symm (by omega);rw[hl19] at RC
   go_wp2_with fail
   rcases qc:chargeX 19 ti with⟨u,t2⟩|y
   ·have HE4:Hid (codeLX V i t=((demandX V (whole li)).then fun _=>Rdr.ret li) t2):=(unh HE3).trans (by rw[Rdr.then_ok qc]);refine (PostX.okC RC qc).mono ?_;rintro e w2 ⟨v,rfl,⟨carr,sg,rfl,hD,hSp,hone⟩,hR2,hF2⟩;have hs2:=hF2.size;clear RC qc HE3
    go_wp2_with (first | (refine load_whole rfl 204 _ rfl w2.heap.size rfl 204 carr (0,0) (by assumption) Tryz.aggCodeP (Tryz.infoCodeP carr hD.size) ?_) | (refine wpList_store_row rfl 204 _ _ rfl w2.heap.size _ rfl rfl 204 _ (World.alloc_heap_new w2 _) (Tryz.infoCodeP _ hD.size) (by rw[hD.size];rfl) hone ?_;obtain⟨W6,hW6,hX6,hB6⟩:=laid_codeP w2 _ carr;rw[hW6];clear hW6))
    have hF6:=(hF.trans hF2).trans (Fxr.below hB6);have hO2:=(hB6.block _ (by omega)).trans ((hF2.block _ (by omega) (by omega) (by omega) (by omega)).trans hO);have hR6:=hR2.below hB6;have hs6:=hB6.size;have hSp6:=hSp.grown (below_none hB6) (by simp);refine (isWhole_any W6 carr _ sg hD).mono ?_;rintro e w3 ⟨rfl,x3,rfl⟩;have hO3:=(Below.heap_alloc _ x3 w.heap.size (by omega)).trans hO2;have hX3:=(Below.heap_alloc _ x3 w2.heap.size (Array.getElem?_eq_some_iff.1 hX6).1).trans hX6;have hR3:=hR6.alloc x3;have hF3:=hF6.trans (Fxr.alloc R A V.B W6 x3);have hSp3:=hSp6.grown (World.grownBy_alloc W6 x3 none) (by simp);cases hw:whole li with
    | false=>
     have FIN:Hid (codeLX V i t=.no (9,V.n9)):=(unh HE4).trans (by rw[Rdr.then_no (demandX_no hw)])
     go_wp2_with fail
     refine (demand_no hR3).mono ?_;rintro e w4 ⟨rfl,rfl⟩;exact⟨rfl,PostX.no (y:=(9,V.n9)) (unh FIN) hF3⟩
    | true=>
     have FIN:Hid (codeLX V i t=.ok li t2):=(unh HE4).trans (by rw[Rdr.then_ok (demandX_ok hw)];rfl)
     go_wp2_with (first | (go_at_call 136;refine (demand_ok _).mono ?_;rintro e w4 ⟨rfl,rfl⟩) | (refine load_whole rfl 204 _ rfl w2.heap.size rfl 204 carr (0,0) hX3 Tryz.aggCodeP (Tryz.infoCodeP carr hD.size) ?_) | (refine wpList_store_row rfl 204 _ _ rfl w.heap.size _ rfl rfl 204 old hO3 (Tryz.infoCodeP _ hD.size) (hold.trans hD.size.symm) hone ?_))
     have hW2:=setRow_heap (W6.alloc x3) w.heap.size old carr _ _ hO3;have hgr:=grownBy_setRow (W6.alloc x3) w.heap.size carr;obtain⟨d,hd1,hd2⟩:=structured Tryz.aggCodeP;refine bodyPost_ret (v:=.agg carr) (results_cell_row rfl _ _ w.heap.size 204 _ (0,0) d rfl hW2 hd1 (by cases d <;> first | rfl | cases hd2) (Tryz.infoCodeP _ hD.size)) rfl ?_;exact PostX.ok (unh FIN) ⟨carr,sg,rfl,hD,(hSp3.grown hgr (fun k e=>by simp at e;omega)).mono (by omega),hone,hl19⟩ (hR3.byGrown hgr (fun k e=>by simp at e;omega)) (hF3.grow hgr (fun k e=>by simp at e;omega))
   ·have FIN:Hid (codeLX V i t=.no y):=(unh HE3).trans (by rw[Rdr.then_no qc]);refine (PostX.noC RC qc).mono ?_;rintro e w2 ⟨rfl,hF2⟩;exact⟨rfl,PostX.no (unh FIN) (hF.trans hF2)⟩
end
section
open Go.RowKit Go.Deep
theorem Tryz.infoIntT:∃ i,Tryz.prog.info? 3=some i/\i.zero=some (.int .i64 0)/\i.size=1/\i.bytes=8:=by
 have h:=Tryz.info3;obtain⟨i,hi,hz⟩:=Option.map_eq_some_iff.1 h;simp only[Prod.mk.injEq] at hz;exact⟨i,hi,hz.1,hz.2.1,hz.2.2⟩
set_option maxHeartbeats 1000000 in
set_option maxRecDepth 100000 in
theorem grow_walk (w:World) (n:Nat) (hn1:1<=n) (hn:n<=400) :
  Calls Tryz.prog 199 #[.slice none 0 0,.int .i64 (n:Int)] w fun e w'=>∃ v,e=.returned v/\w'.ownsRow w.heap.size 3 1 v 0 []/\Below w.heap.size w w':=by
 obtain⟨i0,hi0,hz0,hs0,hb0⟩:=Tryz.infoIntT;have hold:(Builtin.firstCells i0.size 0 (.slice none 0 0)).run Tryz.prog w.drew=.ok ([]:List Value).toArray w.drew:=rfl;have hrz:=fun ty=>Lib.run_append_grow_zeros (P:=Tryz.prog) w 52 3 ty 3 i0 (.int .i64 0) .i64 .i64 Tryz.underlying52 Tryz.underlying3 hi0 hz0 none 0 0 [] hold n (by omega) (by omega) (by omega) (by omega) (by rw[hb0];omega) (by rw[hb0];simp[Builtin.nextslicecap,show 0<n by omega];omega)
 have hGn:0+n<=grownCap w (0+n) 0 3:=grownCap_ge w _ _ _;have hG63:grownCap w (0+n) 0 3<=maxLen:=grownCap_le_maxLen w (0+n) 0 3 (by unfold maxLen;omega);obtain⟨G,hG⟩:∃ G,G=grownCap w (0+n) 0 3:=⟨_,rfl⟩;rw[← hG] at hGn hG63;simp only[← hG] at hrz;rw[Nat.zero_add] at hGn;simp only[Nat.zero_add] at hrz;clear hG hold
 go_enter Tryz.func199,Tryz.ntmps199
 go_wp2_with (at_builtin;refine Lib.wpList_append_run _ rfl _ _ _ _ rfl _ _ rfl rfl _ _ (hrz _) ?_)
 go_ret
 exact⟨_,rfl,⟨rfl,.inr ⟨w.heap.size,G,_,rfl,Nat.le_refl _,World.alloc_heap_new w _,Nat.zero_le _,hG63,by simp[Builtin.zeroCells];omega,by simp⟩⟩,below_drew ((Below.refl _ _).alloc (Nat.le_refl _) _)⟩
def flat (f:Nat->List Nat):Nat->List Nat
 | 0=>[]
 | i+1=>flat f i++f i
theorem flat_le (f:Nat->List Nat) {i j:Nat}(h:i<=j):(flat f i).length<=(flat f j).length:=by
 induction h with
 | refl=>exact Nat.le_refl _
 | step _ ih=>rw[flat,List.length_append];omega
theorem nums_cells {w:World}{g:Nat}{l:List Nat}(h:Nums w g 0 l):∀ j u,(l.map intV)[j]?=some u->w.cell? ((⟨g,0,none⟩:Addr).add j)=some u:=by
 intro j u hj;rw[List.getElem?_map] at hj;obtain⟨x,hx,rfl⟩:=Option.map_eq_some_iff.1 hj;have hjl:j<l.length:=(List.getElem?_eq_some_iff.1 hx).1;have e:(⟨g,0,none⟩:Addr).add j=⟨g,0+j,none⟩:=by simp[Addr.add];omega
 rw[e,h.2 j hjl];unfold nth;rw[List.getD_eq_getElem?_getD,hx];rfl
set_option maxHeartbeats 1000000 in
set_option maxRecDepth 100000 in
theorem concat_walk (w:World) (V N:Nat) (f:Nat->List Nat) (gs:Nat->Nat) (cap:Nat) (hV:V<w.heap.size) (hl:N<=10)
  (hc:∀ i,i<N->w.cell? ⟨V,i,none⟩=some (.slice (some ⟨gs i,0,none⟩) (f i).length (f i).length)) (hn:∀ i,i<N->Nums w (gs i) 0 (f i))
  (h1:1<=(flat f N).length) (h4:(flat f N).length<=400) :
  Calls Tryz.prog 180 #[.slice (some ⟨V,0,none⟩) N cap] w fun e w'=>∃ v,e=.returned v/\RowI w' w.heap.size v (flat f N)/\Below w.heap.size w w':=by
 obtain⟨i0,hi0,hz0,hs0,hb0⟩:=Tryz.infoIntT;have HC:=hide hc;clear hc
 go_enter Tryz.func180,Tryz.ntmps180
 go_wp2_with fail
 go_loopw [3,11] (fun sv iv wr=>∃ i a:Nat,iv=.int .i64 (i:Int)/\i<=N/\sv=.int .i64 (a:Int)/\Hid ((flat f i).length=a)/\w=wr) (fun _ iv _=>N-(intOf iv).toNat)
 case atStart=>exact⟨0,0,rfl,by omega,rfl,rfl,rfl⟩
 case round=>
  obtain⟨i,a,rfl,hi,rfl,HA,rfl⟩:=hrel
  by_cases hlt:i<N
  ·have hcell:=unhide HC i hlt;have hsl:=flat_le f (show i+1<=N by omega);rw[flat,List.length_append,unhide HA] at hsl;obtain⟨m,hm⟩:∃ m,(f i).length=m:=⟨_,rfl⟩;rw[hm] at hcell hsl;have HSS:Hid ((flat f (i+1)).length=a+m):=by show _=_;rw[flat,List.length_append,unhide HA,hm]
   have hdn:decide ((a:Int)+(m:Int)<0)=false:=by simp;omega
   have hwa:IntKind.i64.wrap ((a:Int)+(m:Int))=(a:Int)+(m:Int):=wraps_i64 _ (by omega) (by omega);clear hm HA
   go_wp2_with fail
   go_roundw
   case rel=>exact⟨i+1,a+m,by go_num,by omega,by go_num,HSS,trivial⟩
   case measure=>simp[intOf];omega
  ·have e:i=N:=by omega
   subst e;have ha1:1<=a:=by have:=unhide HA;omega
   have ha4:a<=400:=by have:=unhide HA;omega
   go_wp2_with (go_at_call 199;refine (grow_walk _ a ha1 ha4).mono ?_;rintro e w1 ⟨v1,rfl,ho1,hB1⟩)
   clear HA ha1 ha4
   go_loopw [6,27] (fun sv iv w2=>∃ k:Nat,iv=.int .i64 (k:Int)/\k<=i/\RowI w2 w.heap.size sv (flat f k)/\Below w.heap.size w w2) (fun _ iv _=>i-(intOf iv).toNat)
   case atStart=>exact⟨0,rfl,by omega,ho1,hB1⟩
   case round=>
    clear ho1 hB1;obtain⟨k,rfl,hk,hRow,hB⟩:=hrel
    by_cases hlt:k<i
    ·have hcell:wr.cell? ⟨V,k,none⟩=_:=(World.cell?_of_block (hB.block V hV)).trans (unhide HC k hlt);have hnk:=nums_cells ((hn k hlt).below hB);have hsl:=flat_le f (show k+1<=i by omega);rw[flat,List.length_append] at hsl;have hml:((f k).map intV).length=(f k).length*1:=by simp
     have hap:(flat f (k+1)).map intV=(flat f k).map intV++(f k).map intV:=by rw[flat,List.map_append]
     have hal:(flat f (k+1)).length=(flat f k).length+(f k).length:=by rw[flat,List.length_append]
     have HN:=hide hnk;have HML:=hide hml;have HAP:=hide hap;have HAL:=hide hal;have HRow:=hide hRow;clear hnk hml hap hal hRow
     go_wp2_with (at_builtin;refine wpList_append_own_at _ rfl _ _ 52 rfl w.heap.size 3 i0 (.int .i64 0) 1 8 Tryz.underlying52 hi0 hz0 hs0 hb0 rfl (by decide) _ _ _ rfl (unhide HRow) ⟨gs k,0,none⟩ _ _ ((f k).map intV) rfl (unhide HML) (unhide HN) (by intro u hu;obtain⟨x,_,rfl⟩:=List.mem_map.1 hu;rfl) (by unfold maxLen;omega) (by omega) hB.size ?_;intro v' w3 hown' hgrow _ hat)
     go_roundw
     case rel=>exact⟨k+1,by go_num,by omega,by unfold RowI;rw[unhide HAP,unhide HAL];exact hown',hB.grown hgrow hB.size (fun b e=>(World.ownsRow.lt (unhide HRow) b e).1)⟩
     case measure=>simp[intOf];omega
    ·have e:k=i:=by omega
     subst e
     go_wp2_with fail
     go_ret
     exact⟨_,rfl,hRow,hB⟩
end
section
open Go.RowKit
theorem open17 (a:Array Value) (h:a.size=17):∃ v0 v1 v2 v3 v4 v5 v6 v7 v8 v9 v10 v11 v12 v13 v14 v15 v16,a=#[v0,v1,v2,v3,v4,v5,v6,v7,v8,v9,v10,v11,v12,v13,v14,v15,v16]:=by
 obtain⟨l⟩:=a;simp only[List.size_toArray] at h
 match l,h with
 | [v0,v1,v2,v3,v4,v5,v6,v7,v8,v9,v10,v11,v12,v13,v14,v15,v16],_=>exact⟨v0,v1,v2,v3,v4,v5,v6,v7,v8,v9,v10,v11,v12,v13,v14,v15,v16,rfl⟩
theorem CodeP.opened {a:Array Value}{l:List Nat}{sg:Value}(h:CodeP a l sg):∃ (c0 c1 c2 c3 c4 c5 c6 c7 c8 c9 c10 c11 c12 c13 c14 c15:Int),a=#[.int .i64 c0,.int .i64 c1,.int .i64 c2,.int .i64 c3,.int .i64 c4,.int .i64 c5,.int .i64 c6,.int .i64 c7,.int .i64 c8,.int .i64 c9,.int .i64 c10,.int .i64 c11,.int .i64 c12,.int .i64 c13,.int .i64 c14,.int .i64 c15,sg]:=by
 obtain⟨v0,v1,v2,v3,v4,v5,v6,v7,v8,v9,v10,v11,v12,v13,v14,v15,v16,rfl⟩:=open17 a h.size;have e0:v0=_:=Option.some.inj (h.c 0 (by omega));have e1:v1=_:=Option.some.inj (h.c 1 (by omega));have e2:v2=_:=Option.some.inj (h.c 2 (by omega));have e3:v3=_:=Option.some.inj (h.c 3 (by omega));have e4:v4=_:=Option.some.inj (h.c 4 (by omega));have e5:v5=_:=Option.some.inj (h.c 5 (by omega));have e6:v6=_:=Option.some.inj (h.c 6 (by omega));have e7:v7=_:=Option.some.inj (h.c 7 (by omega));have e8:v8=_:=Option.some.inj (h.c 8 (by omega));have e9:v9=_:=Option.some.inj (h.c 9 (by omega));have e10:v10=_:=Option.some.inj (h.c 10 (by omega));have e11:v11=_:=Option.some.inj (h.c 11 (by omega));have e12:v12=_:=Option.some.inj (h.c 12 (by omega));have e13:v13=_:=Option.some.inj (h.c 13 (by omega));have e14:v14=_:=Option.some.inj (h.c 14 (by omega));have e15:v15=_:=Option.some.inj (h.c 15 (by omega));have e16:v16=sg:=Option.some.inj h.s;subst e16;rw[e0,e1,e2,e3,e4,e5,e6,e7,e8,e9,e10,e11,e12,e13,e14,e15];exact⟨_,_,_,_,_,_,_,_,_,_,_,_,_,_,_,_,rfl⟩
end
end Go.Proofs.YtgffljllfenhkaaGreatDoor
