import Derived.Test.YtgffljllfenhkaaGreatDoorGwbg
namespace Go.Proofs.YtgffljllfenhkaaGreatDoor
section
open Go.RowKit Go.Deep
attribute [local go_sem] Oper.semAt_some
theorem rep_n (w:World) (X x c:Nat) (ci:Int) (hci:ci=(c:Int)) (hXl:X<w.heap.size) (hX:w.cell? ⟨X,0,none⟩=some (intV x)) (hc1:1<=c) (hc:c<=400) :
  Calls Tryz.prog 181 #[.slice (some ⟨X,0,none⟩) 1 1,.int .i64 ci] w (RepQ w x c):=by subst hci;exact rep_walk w X x c hXl hX hc1 hc
theorem rep_nums {w:World}{g x c:Nat}(h:w.heap[g]?=some (.cells (List.replicate c (intV x)).toArray 3 (0,0))):Nums w g 0 (List.replicate c x):=by
 refine⟨(Array.getElem?_eq_some_iff.1 h).1,fun i hi=>?_⟩;have hic:i<c:=by simpa using hi
 have e:nth (List.replicate c x) i=x:=by simp[nth,hic]
 rw[e];simp[World.cell?,h,hic,intV]
theorem new_cell (w:World) (x:Nat):(w.alloc (.cells #[intV x] 3)).cell? ⟨w.heap.size,0,none⟩=some (intV x):=by
 simp only[World.cell?,World.alloc_heap_new];rfl
def fixF:Nat->List Nat
 | 0=>List.replicate 144 8
 | 1=>List.replicate 112 9
 | 2=>List.replicate 24 7
 | _=>List.replicate 8 8
theorem flat_fix:flat fixF 4=fixL:=by
 show ((([]++List.replicate 144 8)++List.replicate 112 9)++List.replicate 24 7)++List.replicate 8 8=fixL;rw[List.nil_append];rfl
theorem nth_mem {l:List Nat}{b:Nat}(h:∀ x ∈ l,x<=b):∀ i,nth l i<=b:=fun i=>by
 unfold nth;rw[List.getD_eq_getElem?_getD];cases e:l[i]? with
 | none=>exact Nat.zero_le _
 | some x=>exact h x (List.mem_of_getElem? e)
theorem fix_le:∀ i,nth fixL i<=15:=nth_mem (fun x hx=>by
 unfold fixL at hx;simp only[List.mem_append] at hx
 rcases hx with ((hx|hx) | hx) | hx <;> (rw[List.eq_of_mem_replicate hx];omega))
theorem fixD_le:∀ i,nth fixD i<=15:=nth_mem (fun x hx=>by unfold fixD at hx;rw[List.eq_of_mem_replicate hx];omega)
theorem fixL_len:fixL.length=288:=by unfold fixL;simp only[List.length_append,List.length_replicate]
theorem fixD_len:fixD.length=32:=by unfold fixD;rw[List.length_replicate]
theorem Tryz.infoCodes (arr:Array Value) (h:arr.size=34):(Tryz.prog.info? 206).map (·.size)=some arr.size:=by rw[h];kernel_rfl
theorem Tryz.aggCodes:(Tryz.prog.underlying 206).map isAgg=some true:=by kernel_rfl
theorem codes_app (x0 x1 x2 x3 x4 x5 x6 x7 x8 x9 x10 x11 x12 x13 x14 x15 y0 y1 y2 y3 y4 y5 y6 y7 y8 y9 y10 y11 y12 y13 y14 y15:Int) (s1 s2:Value) :
  (#[.int .i64 x0,.int .i64 x1,.int .i64 x2,.int .i64 x3,.int .i64 x4,.int .i64 x5,.int .i64 x6,.int .i64 x7,.int .i64 x8,.int .i64 x9,.int .i64 x10,.int .i64 x11,.int .i64 x12,.int .i64 x13,.int .i64 x14,.int .i64 x15,s1]++#[.int .i64 y0,.int .i64 y1,.int .i64 y2,.int .i64 y3,.int .i64 y4,.int .i64 y5,.int .i64 y6,.int .i64 y7,.int .i64 y8,.int .i64 y9,.int .i64 y10,.int .i64 y11,.int .i64 y12,.int .i64 y13,.int .i64 y14,.int .i64 y15,s2]:Array Value)=#[.int .i64 x0,.int .i64 x1,.int .i64 x2,.int .i64 x3,.int .i64 x4,.int .i64 x5,.int .i64 x6,.int .i64 x7,.int .i64 x8,.int .i64 x9,.int .i64 x10,.int .i64 x11,.int .i64 x12,.int .i64 x13,.int .i64 x14,.int .i64 x15,s1,.int .i64 y0,.int .i64 y1,.int .i64 y2,.int .i64 y3,.int .i64 y4,.int .i64 y5,.int .i64 y6,.int .i64 y7,.int .i64 y8,.int .i64 y9,.int .i64 y10,.int .i64 y11,.int .i64 y12,.int .i64 y13,.int .i64 y14,.int .i64 y15,s2]:=by simp
theorem codes_one (x0 x1 x2 x3 x4 x5 x6 x7 x8 x9 x10 x11 x12 x13 x14 x15 y0 y1 y2 y3 y4 y5 y6 y7 y8 y9 y10 y11 y12 y13 y14 y15:Int) (s1 s2:Value) (h1:s1.oneCell'=true) (h2:s2.oneCell'=true) :
  (#[.int .i64 x0,.int .i64 x1,.int .i64 x2,.int .i64 x3,.int .i64 x4,.int .i64 x5,.int .i64 x6,.int .i64 x7,.int .i64 x8,.int .i64 x9,.int .i64 x10,.int .i64 x11,.int .i64 x12,.int .i64 x13,.int .i64 x14,.int .i64 x15,s1,.int .i64 y0,.int .i64 y1,.int .i64 y2,.int .i64 y3,.int .i64 y4,.int .i64 y5,.int .i64 y6,.int .i64 y7,.int .i64 y8,.int .i64 y9,.int .i64 y10,.int .i64 y11,.int .i64 y12,.int .i64 y13,.int .i64 y14,.int .i64 y15,s2]:Array Value).all (·.oneCell')=true:=by simp[Value.oneCell'];exact⟨h1,h2⟩
def CodesQ (w:World):List Nat×List Nat->Value->World->Prop:=fun c v w'=>
 ∃ a1 a2 s1 s2,v=.agg (a1++a2)/\CodeP a1 c.1 s1/\CodeP a2 c.2 s2/\SpN w' w.heap.size s1 c.1/\SpN w' w.heap.size s2 c.2
theorem SpN.byFx {w w':World}{R A B base:Nat}{sg:Value}{l:List Nat}(h:SpN w base sg l) (hf:Fxr R A B w w') (hR:R<base) (hA:A<base) (hB:B<base):SpN w' base sg l:=by
 obtain⟨g,cap,h1,h2,h3,h4⟩:=h;exact⟨g,cap,h1,h2,Nat.lt_of_lt_of_le h3 hf.size,fun n a hn hn' ha=>(World.cell?_of_block (w:=w) (hf.block g h3 (by omega) (by omega) (by omega))).trans (h4 n a hn hn' ha)⟩
set_option maxHeartbeats 4000000 in
set_option maxRecDepth 100000 in
theorem pfixed_walk {w:World}{R A:Nat}{V:Ux}{t:St}(hR:Rx w R A V t):Calls Tryz.prog 157 #[.pointer (some ⟨R,0,none⟩)] w (PostX R A V w (CodesQ w) (fixX t)):=by
 have hlB:=hR.lt;have hltR:=hR.ltR
 go_enter Tryz.func157,Tryz.ntmps157
 go_wp2_with fail
 obtain⟨old,hold⟩:∃ old:Array Value,old=#[.int .i64 0,.int .i64 0,.int .i64 0,.int .i64 0,.int .i64 0,.int .i64 0,.int .i64 0,.int .i64 0,.int .i64 0,.int .i64 0,.int .i64 0,.int .i64 0,.int .i64 0,.int .i64 0,.int .i64 0,.int .i64 0,.slice none 0 0,.int .i64 0,.int .i64 0,.int .i64 0,.int .i64 0,.int .i64 0,.int .i64 0,.int .i64 0,.int .i64 0,.int .i64 0,.int .i64 0,.int .i64 0,.int .i64 0,.int .i64 0,.int .i64 0,.int .i64 0,.int .i64 0,.slice none 0 0]:=⟨_,rfl⟩;rw[← hold];have holds:old.size=34:=by rw[hold];rfl
 clear hold;have hO:(w.alloc (.cells old 206)).heap[w.heap.size]?=some (.cells old 206 (0,0)):=World.alloc_heap_new w _;have hB:Below w.heap.size w (w.alloc (.cells old 206)):=(Below.refl _ _).alloc (Nat.le_refl _) _;have hs:(w.alloc (.cells old 206)).heap.size=w.heap.size+1:=by simp
 obtain⟨W0,hW0⟩:∃ W0,w.alloc (.cells old 206)=W0:=⟨_,rfl⟩;rw[hW0] at hO hB hs ⊢;rw[← hs];clear hW0;refine (rep_n _ _ 8 144 _ rfl (by simp) (new_cell W0 8) (by omega) (by omega)).mono ?_;rintro e w1 ⟨g1,rfl,hg1,hr1,hb1⟩;have hB1:=((Below.refl W0.heap.size W0).alloc (Nat.le_refl _) (.cells #[intV 8] 3)).trans (hb1.mono (by simp));have hl1:=(Array.getElem?_eq_some_iff.1 hr1).1;have hs1:=hB1.size;clear hg1 hb1
 go_wp2_with fail
 refine (rep_n _ _ 9 112 _ rfl (by simp) (new_cell w1 9) (by omega) (by omega)).mono ?_;rintro e w2 ⟨g2,rfl,hg2,hr2,hb2⟩;have hB2:=((Below.refl w1.heap.size w1).alloc (Nat.le_refl _) (.cells #[intV 9] 3)).trans (hb2.mono (by simp));have hl2:=(Array.getElem?_eq_some_iff.1 hr2).1;have hs2:=hB2.size;clear hg2 hb2
 go_wp2_with fail
 refine (rep_n _ _ 7 24 _ rfl (by simp) (new_cell w2 7) (by omega) (by omega)).mono ?_;rintro e w3 ⟨g3,rfl,hg3,hr3,hb3⟩;have hB3:=((Below.refl w2.heap.size w2).alloc (Nat.le_refl _) (.cells #[intV 7] 3)).trans (hb3.mono (by simp));have hl3:=(Array.getElem?_eq_some_iff.1 hr3).1;have hs3:=hB3.size;clear hg3 hb3
 go_wp2_with fail
 refine (rep_n _ _ 8 8 _ rfl (by simp) (new_cell w3 8) (by omega) (by omega)).mono ?_;rintro e w4 ⟨g4,rfl,hg4,hr4,hb4⟩;have hB4:=((Below.refl w3.heap.size w3).alloc (Nat.le_refl _) (.cells #[intV 8] 3)).trans (hb4.mono (by simp));have hl4:=(Array.getElem?_eq_some_iff.1 hr4).1;have hs4:=hB4.size;clear hg4 hb4
 go_wp2_with fail
 have hr1':=(hB4.block g1 (by omega)).trans ((hB3.block g1 (by omega)).trans ((hB2.block g1 (by omega)).trans hr1));have hr2':=(hB4.block g2 (by omega)).trans ((hB3.block g2 (by omega)).trans hr2);have hr3':=(hB4.block g3 (by omega)).trans hr3;refine (concat_walk _ w4.heap.size 4 fixF (fun i=>match i with | 0=>g1 | 1=>g2 | 2=>g3 | _=>g4) 4 (by simp) (by omega) ?hc ?hn ?h1 ?h4).mono ?_
 case hc=>
  intro i hi
  match i,hi with
  | 0,_=>simp only[World.cell?,World.alloc_heap_new,fixF,List.length_replicate];rfl
  | 1,_=>simp only[World.cell?,World.alloc_heap_new,fixF,List.length_replicate];rfl
  | 2,_=>simp only[World.cell?,World.alloc_heap_new,fixF,List.length_replicate];rfl
  | 3,_=>simp only[World.cell?,World.alloc_heap_new,fixF,List.length_replicate];rfl
 case hn=>
  intro i hi
  match i,hi with
  | 0,_=>exact rep_nums ((Below.heap_alloc w4 _ g1 (by omega)).trans hr1')
  | 1,_=>exact rep_nums ((Below.heap_alloc w4 _ g2 (by omega)).trans hr2')
  | 2,_=>exact rep_nums ((Below.heap_alloc w4 _ g3 (by omega)).trans hr3')
  | 3,_=>exact rep_nums ((Below.heap_alloc w4 _ g4 (by omega)).trans hr4)
 case h1=>rw[flat_fix,fixL_len];omega
 case h4=>rw[flat_fix,fixL_len];omega
 rintro e w5 ⟨v5,rfl,hRow,hb5⟩;rw[flat_fix] at hRow;have hB5:Below w4.heap.size w4 w5:=Below.trans ((Below.refl _ _).alloc (Nat.le_refl _) _) (hb5.mono (by simp));have hs5:=hB5.size;obtain⟨g5,c5,rfl,hg5,hn5⟩:=hRow.nums (by rw[fixL_len];omega);have hg5':w4.heap.size<=g5:=by simp at hg5;omega
 clear hr1' hr2' hr3' hr1 hr2 hr3 hr4 hRow hg5;have hBw5:Below w.heap.size w w5:=hB.trans ((hB1.mono (by omega)).trans ((hB2.mono (by omega)).trans ((hB3.mono (by omega)).trans ((hB4.mono (by omega)).trans (hB5.mono (by omega))))));have hR5:Rx w5 R A V t:=hR.below hBw5;have F5:Fxr R A V.B w w5:=Fxr.below hBw5;have RC1:=rcode_n hR5 g5 0 c5 fixL.length fixL hn5 (by rw[fixL_len];omega) fix_le rfl (by omega);rw[show chargeX fixL.length t=chargeX 288 t by rw[fixL_len]] at RC1
 go_wp2_with fail
 rcases q6:chargeX 288 t with⟨u6,t6⟩|y
 ·refine (PostX.okC RC1 q6).mono ?_;rintro e w6 ⟨v6,rfl,⟨a1,s1,rfl,hc1,hs1,ho1⟩,hR6,hF6⟩;have E6:Hid (fixX t=((chargeX 32).then fun _=>Rdr.ret (fixL,fixD)) t6):=by show fixX t=_;unfold fixX;rw[Rdr.then_ok q6]
  have hs6:=hF6.size;clear RC1 q6
  go_wp2_with fail
  refine (rep_n _ _ 5 32 _ rfl (by simp) (new_cell w6 5) (by omega) (by omega)).mono ?_;rintro e w7 ⟨g7,rfl,hg7,hr7,hb7⟩;have hB7:=((Below.refl w6.heap.size w6).alloc (Nat.le_refl _) (.cells #[intV 5] 3)).trans (hb7.mono (by simp));have hs7:=hB7.size;have hg7':w6.heap.size<=g7:=by simp at hg7;omega
  clear hg7 hb7;have hR7:Rx w7 R A V t6:=hR6.below hB7;have RC2:=rcode_n hR7 g7 0 32 32 fixD (rep_nums hr7) (by rw[fixD_len];omega) fixD_le (by rw[fixD_len]) (by omega);rw[show chargeX fixD.length t6=chargeX 32 t6 by rw[fixD_len]] at RC2
  go_wp2_with fail
  rcases q8:chargeX 32 t6 with⟨u8,t8⟩|y
  ·refine (PostX.okC RC2 q8).mono ?_;rintro e w8 ⟨v8,rfl,⟨a2,s2,rfl,hc2,hs2,ho2⟩,hR8,hF8⟩;have E8:Hid (fixX t=.ok (fixL,fixD) t8):=(unh E6).trans (by rw[Rdr.then_ok q8];rfl);have hs8:=hF8.size;clear RC2 q8;have hF08:Fxr R A V.B w w8:=F5.trans (hF6.trans ((Fxr.below hB7).trans hF8));have hO5:=(hB5.block w.heap.size (by omega)).trans ((hB4.block w.heap.size (by omega)).trans ((hB3.block w.heap.size (by omega)).trans ((hB2.block w.heap.size (by omega)).trans ((hB1.block w.heap.size (by omega)).trans hO))));have hO8:=(hF8.block w.heap.size (by omega) (by omega) (by omega) (by omega)).trans ((hB7.block w.heap.size (by omega)).trans ((hF6.block w.heap.size (by omega) (by omega) (by omega) (by omega)).trans hO5));have hS1:SpN w8 (w.heap.size+1) s1 fixL:=(SpN.byFx (hs1.grown (below_none hB7) (fun k e=>by cases e)) hF8 (by omega) (by omega) (by omega)).mono (by omega);have hS2:SpN w8 (w.heap.size+1) s2 fixD:=hs2.mono (by omega);have hz1:=hs1;have hz2:=hs2;obtain⟨gs1,cs1,rfl,_⟩:=hz1;obtain⟨gs2,cs2,rfl,_⟩:=hz2;clear hB1 hB2 hB3 hB4 hB5 hF6 hB7 hF8 hO hB hs1 hs2 hl1 hl2 hl3 hl4 hO5 hBw5
   have FIN:∀ e w',e=Ending.returned (.agg (a1++a2))->w'=w8.setRow w.heap.size (a1++a2)->PostX R A V w (CodesQ w) (fixX t) e w':=by
    rintro e w' rfl rfl;have hgr:=grownBy_setRow w8 w.heap.size (a1++a2);exact PostX.ok (unh E8) ⟨a1,a2,_,_,rfl,hc1,hc2,(hS1.grown hgr (fun k e=>by simp at e;omega)).mono (by omega),(hS2.grown hgr (fun k e=>by simp at e;omega)).mono (by omega)⟩ (hR8.byGrown hgr (fun k e=>by simp at e;omega)) (hF08.grow hgr (fun k e=>by simp at e;omega))
   obtain⟨x0,x1,x2,x3,x4,x5,x6,x7,x8,x9,x10,x11,x12,x13,x14,x15,rfl⟩:=hc1.opened;obtain⟨y0,y1,y2,y3,y4,y5,y6,y7,y8,y9,y10,y11,y12,y13,y14,y15,rfl⟩:=hc2.opened;rw[codes_app] at FIN;obtain⟨u1,hu1⟩:∃ u,used fixL=u:=⟨_,rfl⟩;obtain⟨u2,hu2⟩:∃ u,used fixD=u:=⟨_,rfl⟩;rw[hu1,hu2] at FIN;rw[hu1,hu2];have FIN:=hide FIN;clear hS1 hS2 hc1 hc2 hu1 hu2 ho1 ho2
   go_wp2_with (refine wpList_store_row rfl 206 _ _ rfl w.heap.size _ rfl rfl 206 old hO8 (Tryz.infoCodes _ rfl) holds (codes_one _ _ _ _ _ _ _ _ _ _ _ _ _ _ _ _ _ _ _ _ _ _ _ _ _ _ _ _ _ _ _ _ _ _ rfl rfl) ?_)
   obtain⟨d,hd1,hd2⟩:=structured Tryz.aggCodes;exact bodyPost_ret (results_cell_row rfl _ _ w.heap.size 206 _ (0,0) d rfl (setRow_heap w8 w.heap.size old _ _ _ hO8) hd1 (by cases d <;> first | rfl | cases hd2) (Tryz.infoCodes _ rfl)) rfl (unhide FIN _ _ rfl rfl)
  ·have E8:Hid (fixX t=.no y):=(unh E6).trans (by rw[Rdr.then_no q8]);refine (PostX.noC RC2 q8).mono ?_;rintro e w8 ⟨rfl,hF8⟩;exact⟨rfl,PostX.no (unh E8) (F5.trans (hF6.trans ((Fxr.below hB7).trans hF8)))⟩
 ·have E6:Hid (fixX t=.no y):=by show fixX t=_;unfold fixX;rw[Rdr.then_no q6]
  refine (PostX.noC RC1 q6).mono ?_;rintro e w6 ⟨rfl,hF6⟩;exact⟨rfl,PostX.no (unh E6) (F5.trans hF6)⟩
end
end Go.Proofs.YtgffljllfenhkaaGreatDoor
