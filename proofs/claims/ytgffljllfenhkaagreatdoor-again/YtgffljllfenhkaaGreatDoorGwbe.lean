import Derived.RegionDies
import Derived.Test.YtgffljllfenhkaaGreatDoorGwbc
namespace Go.Proofs.YtgffljllfenhkaaGreatDoor
section
open Go.RowKit
attribute [local go_sem] Oper.semAt_some
structure Uq (w:World) (U R A M b0:Nat) (V:Ux) (t:St) (o:Value) (out:List UInt8):Prop where
 u:w.heap[U]?=some (.cells #[.pointer (some ⟨R,0,none⟩),o,.func (.func 60) #[] #[.pointer (some ⟨M,0,none⟩),.pointer (some ⟨M+1,0,none⟩)]] 182 (0,0))
 rd:Rx w R A V t
 m:w.heap[M]?=some (.cells #[.int .i64 ((2000-out.length:Nat):Int)] 3 (0,0))
 y:w.heap[M+1]?=some (.cells #[.int .i64 9,.int .i64 (V.n9:Int)] 45 (0,0))
 row:Row8 w b0 o out
 hl:out.length<=2000
 ne:U≠R/\U≠A/\U≠A+1/\U≠M/\U≠M+1/\M≠R/\M≠A/\M≠A+1/\M+1≠R/\M+1≠A/\M+1≠A+1
 nb:V.B+1<U/\V.B+1<M
 lt:U<b0/\R<b0/\A+1<b0/\M+1<b0
 hb:b0<=w.heap.size
structure Fv (U R A M B:Nat) (o:Value) (w:World) (o':Value) (w':World):Prop where
 os:w'.os=w.os
 tape:w'.tape=w.tape
 output:w'.output=w.output
 size:w.heap.size<=w'.heap.size
 block:∀ k,k<w.heap.size->k≠R->k≠A->k≠U->k≠M->k≠B->o.ownBlock≠some k->w'.heap[k]?=w.heap[k]?
 own:o'.ownBlock=o.ownBlock\/∃ g,o'.ownBlock=some g/\w.heap.size<=g
section
variable {U R A M B b0:Nat}{V:Ux}{t t':St}{o o' o'':Value}{w w' w'':World}{out:List UInt8}
theorem Fv.refl (U R A M B:Nat) (o:Value) (w:World):Fv U R A M B o w o w:=⟨rfl,rfl,rfl,Nat.le_refl _,fun _ _ _ _ _ _ _ _=>rfl,.inl rfl⟩
theorem Fv.trans (h:Fv U R A M B o w o' w') (k:Fv U R A M B o' w' o'' w''):Fv U R A M B o w o'' w'':=by
 refine⟨k.os.trans h.os,k.tape.trans h.tape,k.output.trans h.output,Nat.le_trans h.size k.size,?_,?_⟩
 ·intro b hb h1 h2 h3 h4 h5 h6;rw[k.block b (Nat.lt_of_lt_of_le hb h.size) h1 h2 h3 h4 h5 ?_,h.block b hb h1 h2 h3 h4 h5 h6]
  rcases h.own with e|⟨g,e,hg⟩
  ·rw[e];exact h6
  ·rw[e];intro e';simp at e';omega
 ·rcases k.own with e|⟨g,e,hg⟩
  ·rcases h.own with e' | ⟨g,e',hg⟩
   ·exact .inl (e.trans e')
   ·exact .inr ⟨g,e.trans e',hg⟩
  ·exact .inr ⟨g,e,Nat.le_trans h.size hg⟩
theorem Fv.of_fx (o:Value) (h:Fxr R A B w w'):Fv U R A M B o w o w':=⟨h.os,h.tape,h.output,h.size,fun k hk h1 h2 _ _ h5 _=>h.block k hk h1 h2 h5,.inl rfl⟩
theorem Fv.of_grown {b:Nat}(o:Value) (h:w.grownBy w' (some b)) (hb:b=R\/b=A\/b=U\/b=M\/b=B):Fv U R A M B o w o w':=
 ⟨h.os,h.tape,h.output,h.size,fun k hk h1 h2 h3 h4 h5 _=>h.block k hk (by simp;omega),.inl rfl⟩
theorem Fv.alloc (U R A M B:Nat) (o:Value) (w:World) (x:Obj):Fv U R A M B o w o (w.alloc x):=Fv.of_fx o (Fxr.alloc R A B w x)
theorem Fv.drew (U R A M B:Nat) (o:Value) (w:World):Fv U R A M B o w o w.drew:=Fv.of_fx o (Fxr.drew R A B w)
theorem Uq.cu0 (h:Uq w U R A M b0 V t o out):w.cell? ⟨U,0,none⟩=some (.pointer (some ⟨R,0,none⟩)):=by simp[World.cell?,h.u]
theorem Uq.cu1 (h:Uq w U R A M b0 V t o out):w.cell? ⟨U,1,none⟩=some o:=by simp[World.cell?,h.u]
theorem Uq.cm (h:Uq w U R A M b0 V t o out):w.cell? ⟨M,0,none⟩=some (.int .i64 ((2000-out.length:Nat):Int)):=by simp[World.cell?,h.m]
theorem Uq.fm (h:Uq w U R A M b0 V t o out) (i:Nat):w.frozen? ⟨M,i,none⟩=false:=by simp[World.frozen?,h.m]
theorem Uq.own (h:Uq w U R A M b0 V t o out):∀ k,o.ownBlock=some k->b0<=k/\k<w.heap.size:=World.ownsRow.lt h.row
theorem Uq.ltU (h:Uq w U R A M b0 V t o out):U<w.heap.size:=(Array.getElem?_eq_some_iff.1 h.u).1
theorem Uq.ltM (h:Uq w U R A M b0 V t o out):M+1<w.heap.size:=(Array.getElem?_eq_some_iff.1 h.y).1
theorem Uq.read (h:Uq w U R A M b0 V t o out) (hr:Rx w' R A V t') (hf:Fxr R A V.B w w'):Uq w' U R A M b0 V t' o out:=by
 obtain⟨n1,n2,n3,n4,n5,n6,n7,n8,n9,n10,n11⟩:=h.ne;have hnb:=h.nb;have hlt:=h.lt;have hlB:=h.rd.lt;refine⟨by rw[hf.block U h.ltU n1 n2 (by omega)];exact h.u,hr,by rw[hf.block M (by have:=h.ltM;omega) n6 n7 (by omega)];exact h.m,by rw[hf.block (M+1) h.ltM n9 n10 (by omega)];exact h.y,?_,h.hl,h.ne,h.nb,h.lt,Nat.le_trans h.hb hf.size⟩;refine⟨h.row.1,?_⟩
 rcases h.row.2 with hn|⟨g,cap,cur,rfl,hb,hg,rest⟩
 ·exact .inl hn
 ·exact .inr ⟨g,cap,cur,rfl,hb,by rw[hf.block g (Array.getElem?_eq_some_iff.1 hg).1 (by omega) (by omega) (by omega)];exact hg,rest⟩
theorem Uq.alloc (h:Uq w U R A M b0 V t o out) (x:Obj):Uq (w.alloc x) U R A M b0 V t o out:=h.read (h.rd.alloc x) (Fxr.alloc R A V.B w x)
theorem Uq.drew (h:Uq w U R A M b0 V t o out):Uq w.drew U R A M b0 V t o out:=h.read h.rd.drew (Fxr.drew R A V.B w)
end
def PostU (U R A M b0:Nat) (V:Ux) (o:Value) (w:World) (r:Out (List UInt8)) (e:Ending) (w':World):Prop:=match r with
 | .ok out' t'=>e=.returned (.tuple #[])/\∃ o',Uq w' U R A M b0 V t' o' out'/\Fv U R A M V.B o w o' w'
 | .no y=>e=.panicked (thrownY y)/\∃ o',Fv U R A M V.B o w o' w'
section
variable {U R A M b0:Nat}{V:Ux}{o o':Value}{w w' W:World}{r:Out (List UInt8)}{out':List UInt8}{t':St}{y:Why}
theorem PostU.ok (hr:r=.ok out' t') (h:Uq w' U R A M b0 V t' o' out') (F:Fv U R A M V.B o w o' w'):PostU U R A M b0 V o w r (.returned (.tuple #[])) w':=by
 subst hr;exact⟨rfl,o',h,F⟩
theorem PostU.no (hr:r=.no y) (F:Fv U R A M V.B o w o' w'):PostU U R A M b0 V o w r (.panicked (thrownY y)) w':=by
 subst hr;exact⟨rfl,o',F⟩
theorem PostU.okC {p:Program}{f:Nat}{args:Array Value}(h:Calls p f args W (PostU U R A M b0 V o w r)) (hr:r=.ok out' t') :
  Calls p f args W fun e w'=>e=.returned (.tuple #[])/\∃ o',Uq w' U R A M b0 V t' o' out'/\Fv U R A M V.B o w o' w':=by subst hr;exact h
theorem PostU.noC {p:Program}{f:Nat}{args:Array Value}(h:Calls p f args W (PostU U R A M b0 V o w r)) (hr:r=.no y) :
  Calls p f args W fun e w'=>e=.panicked (thrownY y)/\∃ o',Fv U R A M V.B o w o' w':=by subst hr;exact h
end
set_option maxHeartbeats 400000 in
theorem demand_ok (w:World) {v:Value}:Calls Tryz.prog 136 #[v,.bool true] w fun e w'=>e=.returned (.tuple #[])/\w=w':=by
 go_enter Tryz.func136,Tryz.ntmps136
 go_wp2
 first | go_end0 | refine bodyPost_ret (results_none rfl _ _ _) rfl ?_
 exact⟨rfl,rfl⟩
set_option maxHeartbeats 400000 in
theorem demand_no {w:World}{R A:Nat}{V:Ux}{t:St}(hR:Rx w R A V t):Calls Tryz.prog 136 #[.pointer (some ⟨R,0,none⟩),.bool false] w fun e w'=>e=.panicked (thrownY (9,V.n9))/\w=w':=by
 have c4:=hR.c4;have c5:=hR.c5
 go_enter Tryz.func136,Tryz.ntmps136
 go_wp2_with fail
 exact⟨rfl,rfl,rfl⟩
set_option maxHeartbeats 2000000 in
set_option maxRecDepth 100000 in
theorem pput_any (w:World) (U R A M b0:Nat) (V:Ux) (t:St) (o:Value) (out:List UInt8) (c:Int) (h:Uq w U R A M b0 V t o out) (hc:0<=c/\c<256) :
  Calls Tryz.prog 175 #[.pointer (some ⟨U,0,none⟩),.int .u8 c] w (PostU U R A M b0 V o w (putX V out (UInt8.ofNat c.toNat) t)):=by
 obtain⟨i0,hi,hz0,hz1,hz2⟩:=info_parts Tryz.info5;obtain⟨n1,n2,n3,n4,n5,n6,n7,n8,n9,n10,n11⟩:=h.ne;have hnb:=h.nb;have hlB:=h.rd.lt;have c0:=h.cu0;have c3:=h.rd.c3;have hl:=h.hl;have hltb:=h.lt;have hbb:=h.rd.bud.hb
 by_cases hpay:t.b<1
 ·have HN:Hid (putX V out (UInt8.ofNat c.toNat) t=.no (12,0)):=by show putX _ _ _ _=_;unfold putX;rw[if_pos hpay]
  have TK:=take_no w V.B t.b 1 12 0 h.rd.bud.ca h.rd.bud.y hpay
  go_enter Tryz.func175,Tryz.ntmps175
  go_wp2_with fail
  refine TK.mono ?_;rintro e w1 ⟨rfl,rfl⟩;exact⟨rfl,PostU.no (unh HN) (Fv.refl _ _ _ _ _ _ _)⟩
 have TK:=take_ok w V.B t.b 1 h.rd.bud.ca (h.rd.bud.fa 0) (by omega) hbb;have hgB:w.grownBy (w.setCell ⟨V.B,0,none⟩ (.int .i64 ((t.b:Int)-((1:Nat):Int)))) (some V.B):=grownBy_setCell _ _ _ _;have hrd0:=h.rd.pay 1 (by omega);obtain⟨w0,hw0⟩:∃ w0,w.setCell ⟨V.B,0,none⟩ (.int .i64 ((t.b:Int)-((1:Nat):Int)))=w0:=⟨_,rfl⟩;rw[hw0] at hgB hrd0 TK;have hu0:w0.heap[U]?=_:=(hgB.block U h.ltU (by simp;omega)).trans h.u;have hm0:w0.heap[M]?=_:=(hgB.block M (by have:=h.ltM;omega) (by simp;omega)).trans h.m;have hy0:w0.heap[M+1]?=_:=(hgB.block (M+1) h.ltM (by simp;omega)).trans h.y;have hrow0:Row8 w0 b0 o out:=h.row.kept hgB (.inr (fun e=>by have:=(h.own V.B e).1;omega));have c2:w0.cell? ⟨U,2,none⟩=some (.func (.func 60) #[] #[.pointer (some ⟨M,0,none⟩),.pointer (some ⟨M+1,0,none⟩)]):=by simp[World.cell?,hu0]
 have cm:w0.cell? ⟨M,0,none⟩=some (.int .i64 ((2000-out.length:Nat):Int)):=by simp[World.cell?,hm0]
 have fm:w0.frozen? ⟨M,0,none⟩=false:=by simp[World.frozen?,hm0]
 have hsz0:w.heap.size<=w0.heap.size:=hgB.size;have hltU0:U<w0.heap.size:=Nat.lt_of_lt_of_le h.ltU hsz0;have hltM0:M+1<w0.heap.size:=Nat.lt_of_lt_of_le h.ltM hsz0;have F0:Fv U R A M V.B o w o w0:=Fv.of_grown o hgB (by omega);have h0:Uq w0 U R A M b0 V { t with b:=t.b-1 } o out:=⟨hu0,hrd0,hm0,hy0,hrow0,h.hl,h.ne,h.nb,h.lt,Nat.le_trans h.hb hsz0⟩;have TK':Calls Tryz.prog 60 #[.int .i64 1,.pointer (some ⟨V.B,0,none⟩),.pointer (some ⟨V.B+1,0,none⟩)] w (fun e w'=>e=.returned (.tuple #[])/\w0=w'):=TK;clear TK hw0 hgB hrow0
 by_cases hf:out.length<2000
 ·have HN:Hid (putX V out (UInt8.ofNat c.toNat) t=.ok (out++[UInt8.ofNat c.toNat]) { t with b:=t.b-1 }):=by show putX _ _ _ _=_;unfold putX;rw[if_neg hpay,if_pos hf]
  go_enter Tryz.func175,Tryz.ntmps175
  go_wp2_with fail
  refine TK'.mono ?_;rintro e wz ⟨rfl,rfl⟩;clear c0 c3
  go_wp2_with fail
  refine (take_ok w0 M (2000-out.length) 1 cm fm (by omega) (by omega)).mono ?_;rintro e w1 ⟨rfl,hw1⟩;have hg1:w0.grownBy w1 (some M):=by rw[← hw1];exact grownBy_setCell _ _ _ _
  have hm1:w1.heap[M]?=some (.cells #[.int .i64 ((2000-(out.length+1):Nat):Int)] 3 (0,0)):=by
   rw[← hw1,heap_setCell_same w0 M 0 _ _ _ hm0];have e:((2000-out.length:Nat):Int)-((1:Nat):Int)=((2000-(out.length+1):Nat):Int):=by omega
   rw[e];simp
  have hu1:w1.heap[U]?=_:=(hg1.block U hltU0 (by simp;omega)).trans hu0;have hrow1:Row8 w1 b0 o out:=h0.row.kept hg1 (.inr (fun e=>by have:=(h.own M e).1;omega));have hcu1:w1.cell? ⟨U,1,none⟩=some o:=by simp[World.cell?,hu1]
  have hfu1:w1.frozen? ⟨U,1,none⟩=false:=by simp[World.frozen?,hu1]
  have hrd1:Rx w1 R A V { t with b:=t.b-1 }:=hrd0.of_blocks (fun k hk=>hg1.block k (by have:=hrd0.ltA;have:=hrd0.ltR;omega) (by simp;omega));have hy1:w1.heap[M+1]?=_:=(hg1.block (M+1) hltM0 (by simp)).trans hy0;have hs1:=hg1.size;have HW:=hg1;clear hw1 cm fm c2;obtain⟨ao,cp,ho⟩:=hrow1.shape;subst ho;have hr':w1.ownsRow b0 5 1 (.slice ao out.length cp) out.length (out.map byteV):=hrow1;have hb0:b0<=w1.heap.size:=Nat.le_trans h0.hb hs1;have hneU:(Value.slice ao out.length cp).ownBlock≠some U:=fun e=>by have:=(h.own U e).1;omega
  have hneR:∀ k,k<b0->(Value.slice ao out.length cp).ownBlock≠some k:=fun k hk e=>by have:=(h.own k e).1;omega
  obtain⟨W2,hW2⟩:∃ W2,w1.alloc (.cells #[.int .u8 c] 5)=W2:=⟨_,rfl⟩;have hg2:=World.grownBy_alloc w1 (.cells #[.int .u8 c] 5) (Value.slice ao out.length cp).ownBlock;have HW2:=hW2;clear hW2 HW2 W2
  go_wp2_with (at_builtin;refine wpList_append_own_at _ rfl _ _ 102 rfl b0 5 i0 (.int .u8 0) 1 1 Tryz.underlying102 hi hz0 hz1 hz2 rfl (by decide) _ _ _ rfl (World.ownsRow.alloc hr' _) ⟨w1.heap.size,0,none⟩ 1 1 [.int .u8 c] rfl rfl (cell_one_new _ _ _) (by simp[Value.oneCell']) (by unfold maxLen;omega) (by omega) (by simp;omega) ?_;intro v' w2 hown' hgrow _ hat;obtain⟨g',cap',rfl⟩:=ownsRow_succ hown';have hgg:=grownBy_trans hg2 hgrow;have hu2:=(hgg.block U (Nat.lt_of_lt_of_le hltU0 hs1) (fun e=>hneU e.symm)).trans hu1;have hcu2:w2.cell? ⟨U,1,none⟩=some (.slice ao out.length cp):=(by simp[World.cell?,hu2]);have hfu2:w2.frozen? ⟨U,1,none⟩=false:=(by simp[World.frozen?,hu2]))
  first | go_end0 | refine bodyPost_ret (results_none rfl _ _ _) rfl ?_
  have hset:=grownBy_setCell w2 U 1 (.slice (some ⟨g',0,none⟩) (out.length+1) cap')
  have hrowN:Row8 w2 b0 (.slice (some ⟨g',0,none⟩) (out.length+1) cap') (out++[UInt8.ofNat c.toNat]):=by
   unfold Row8;have e:byteV (UInt8.ofNat c.toNat)=.int .u8 c:=by unfold byteV;rw[UInt8.toNat_ofNat'];congr 1;omega
   simpa[e] using hown'
  refine PostU.ok (unh HN) (o':=.slice (some ⟨g',0,none⟩) (out.length+1) cap') ⟨?_,?_,?_,?_,?_,by simp;omega,h.ne,h.nb,h.lt,?_⟩ (F0.trans ?_)
  ·have:=heap_setCell_same w2 U 1 _ _ (.slice (some ⟨g',0,none⟩) (out.length+1) cap') hu2;rw[this];simp
  ·refine hrd1.of_blocks (fun k hk=>?_);rw[hset.block k (by have:=hgg.size;have:=hrd1.ltA;have:=hrd1.ltR;omega) (by simp;omega),hgg.block k (by have:=hrd1.ltA;have:=hrd1.ltR;omega) (fun e=>hneR k (by omega) e.symm)]
  ·rw[hset.block M (by have:=hgg.size;omega) (by simp;omega),hgg.block M (by omega) (fun e=>hneR M (by omega) e.symm)];simpa using hm1
  ·rw[hset.block (M+1) (by have:=hgg.size;omega) (by simp;omega),hgg.block (M+1) (by omega) (fun e=>hneR (M+1) (by omega) e.symm)];exact hy1
  ·exact hrowN.kept hset (.inr (fun e=>by have:=(World.ownsRow.lt hrowN U e).1;omega))
  ·have:=hgg.size;simp;omega
  ·refine⟨?_,?_,?_,?_,?_,?_⟩
   ·exact hset.os.trans (hgg.os.trans HW.os)
   ·exact hset.tape.trans (hgg.tape.trans HW.tape)
   ·exact hset.output.trans (hgg.output.trans HW.output)
   ·have:=hgg.size;simp;omega
   ·intro k hk h1 h2 h3 h4 h5 h6;rw[hset.block k (by have:=hgg.size;omega) (by simp;omega),hgg.block k (by omega) (fun e=>h6 e.symm),HW.block k hk (by simp;omega)]
   ·rcases hat with e|e
    ·exact .inl e
    ·exact .inr ⟨_,e,by simp;omega⟩
 ·have HN:Hid (putX V out (UInt8.ofNat c.toNat) t=.no (9,V.n9)):=by show putX _ _ _ _=_;unfold putX;rw[if_neg hpay,if_neg hf]
  have e0:2000-out.length=0:=by omega
  rw[e0] at cm
  go_enter Tryz.func175,Tryz.ntmps175
  go_wp2_with fail
  refine TK'.mono ?_;rintro e wz ⟨rfl,rfl⟩;clear c0 c3
  go_wp2_with fail
  refine (take_no w0 M 0 1 9 V.n9 cm hy0 (by omega)).mono ?_;rintro e w1 ⟨rfl,rfl⟩;exact⟨rfl,PostU.no (y:=(9,V.n9)) (unh HN) F0⟩
end
section
open Go.RowKit
attribute [local go_sem] Oper.semAt_some
structure PTabs (w:World):Prop where
 base:Tab w 6 baseT
 extra:Tab w 7 extraT
 far:Tab w 8 farT
 more:Tab w 9 moreT
 order:Tab w 10 orderT
theorem Tab.blk {w w':World}{G:Nat}{T:List Nat}(h:Tab w G T) (hb:w'.heap[G]?=w.heap[G]?):Tab w' G T:=by
 intro i hi;rw[World.cell?_of_block (w:=w) hb];exact h i hi
theorem PTabs.blk {w w':World}(h:PTabs w) (hb:∀ k,k<=22->w'.heap[k]?=w.heap[k]?):PTabs w':=
 ⟨h.base.blk (hb _ (by omega)),h.extra.blk (hb _ (by omega)),h.far.blk (hb _ (by omega)),h.more.blk (hb _ (by omega)),h.order.blk (hb _ (by omega))⟩
theorem PTabs.kept {w w':World}{R A:Nat}{V:Ux}{t:St}(h:PTabs w) (hf:Fxr R A V.B w w') (h22:22<V.B) (hR:Rx w R A V t):PTabs w':=by
 have h1:=hR.lt;have h2:=hR.ltR;exact h.blk (fun k hk=>hf.block k (by omega) (by omega) (by omega) (by omega))
theorem moreT_le (k:Nat):nth moreT k<=13:=by
 by_cases h:k<30
 ·revert k;decide
 ·unfold nth;rw[List.getD_eq_getElem?_getD,List.getElem?_eq_none (by simp[moreT];omega)];simp
theorem numX_inv {V:Ux}{n x:Nat}{t t':St}(h:numX V n t=.ok x t'):x=numOf V.s t.k n/\t'=t.bits n/\n<=t.b/\t.k+n<=8*V.s.size:=by
 unfold numX at h;split at h
 ·rename_i hc;cases h;exact⟨rfl,rfl,hc.1,hc.2⟩
 ·split at h <;> cases h
theorem numX_lt {V:Ux}{n x:Nat}{t t':St}(h:numX V n t=.ok x t'):x<2^n:=by
 rw[(numX_inv h).1];exact numOf_lt _ _ _
set_option maxHeartbeats 1000000 in
set_option maxRecDepth 100000 in
theorem copyLength_any (w:World) (R A:Nat) (V:Ux) (t:St) (k:Nat) (ki:Int) (hki:ki=(k:Int)) (hR:Rx w R A V t) (hT:PTabs w) (h22:22<V.B) (hk2:k<=100000) :
  Calls Tryz.prog 177 #[.pointer (some ⟨R,0,none⟩),.int .i64 ki] w (PostX R A V w (fun (x:Nat) v _=>v=.int .i64 (x:Int)) (copyLX V k t)):=by
 subst hki
 by_cases hk:k<29
 ·have cb:=hT.base k (by simpa[baseT] using hk);have ce:=hT.extra k (by simpa[extraT] using hk);have hle:=extra_le k;have hlb:=base_le k;have hkI:(k:Int)<29:=by omega
  have hd:decide ((k:Int)<29)=true:=by simp;omega
  rcases q:numX V (nth extraT k) t with⟨x,t2⟩|y
  ·have HN:Hid (copyLX V k t=.ok (nth baseT k+x) t2):=by
    have e1:decide (k<29)=true:=by simpa using hk
    show copyLX V k t=_;unfold copyLX;rw[Rdr.then_ok (a:=()) (s':=t) (by unfold demandX;rw[e1];rfl),Rdr.then_ok (show numX V (extraT.getD k 0) t=.ok x t2 from q)];rfl
   have hx:=Nat.lt_of_lt_of_le (numX_lt q) (Nat.pow_le_pow_right (n:=2) (by decide) hle);have hx2:x<32:=hx;clear hx
   go_enter Tryz.func177,Tryz.ntmps177
   go_wp2_with (go_at_call 136;refine (demand_ok w).mono ?_;rintro e w1 ⟨rfl,rfl⟩)
   go_region_with (go_at_call 134;refine (PostX.okC (rnum_any _ R A V t (nth extraT k) _ rfl (by exact hR.drew) (by omega)) q).mono ?_;rintro e w2 ⟨v2,rfl,rfl,hR2,hF2⟩;have hT2:=hT.kept ((Fxr.drew R A V.B w).trans hF2) h22 hR;have cb2:=hT2.base k (by simpa[baseT] using hk))
   all_goals
    go_wp2_with fail
    go_ret
    exact PostX.ok (unh HN) (congrArg (fun n=>Value.int .i64 n) ((wraps_i64 _ (by omega) (by omega)).trans (by omega))) hR2 ((Fxr.drew R A V.B w).trans hF2)
  ·have HN:Hid (copyLX V k t=.no y):=by
    have e1:decide (k<29)=true:=by simpa using hk
    show copyLX V k t=_;unfold copyLX;rw[Rdr.then_ok (a:=()) (s':=t) (by unfold demandX;rw[e1];rfl),Rdr.then_no (show numX V (extraT.getD k 0) t=.no y from q)]
   go_enter Tryz.func177,Tryz.ntmps177
   go_wp2_with (go_at_call 136;refine (demand_ok w).mono ?_;rintro e w1 ⟨rfl,rfl⟩)
   go_region_dies
   all_goals
    refine (PostX.noC (rnum_any _ R A V t (nth extraT k) _ rfl (by exact hR.drew) (by omega)) q).mono ?_;rintro e w2 ⟨rfl,hF2⟩;exact⟨rfl,PostX.no (unh HN) ((Fxr.drew R A V.B w).trans hF2)⟩
 ·have hd:decide ((k:Int)<29)=false:=by simp;omega
  have HN:Hid (copyLX V k t=.no (9,V.n9)):=by
   have e1:decide (k<29)=false:=by simpa using hk
   show copyLX V k t=_;unfold copyLX;rw[Rdr.then_no];unfold demandX;rw[e1];rfl
  go_enter Tryz.func177,Tryz.ntmps177
  go_wp2_with fail
  refine (demand_no hR).mono ?_;rintro e w1 ⟨rfl,rfl⟩;exact⟨rfl,PostX.no (y:=(9,V.n9)) (unh HN) (Fxr.refl _ _ _ _)⟩
set_option maxHeartbeats 1000000 in
set_option maxRecDepth 100000 in
theorem distance_any (w:World) (R A:Nat) (V:Ux) (t:St) (k:Nat) (ki:Int) (hki:ki=(k:Int)) (hR:Rx w R A V t) (hT:PTabs w) (h22:22<V.B) (hk2:k<=100000) :
  Calls Tryz.prog 179 #[.pointer (some ⟨R,0,none⟩),.int .i64 ki] w (PostX R A V w (fun (x:Nat) v _=>v=.int .i64 (x:Int)) (distX V k t)):=by
 subst hki
 by_cases hk:k<30
 ·have cb:=hT.far k (by simpa[farT] using hk);have ce:=hT.more k (by simpa[moreT] using hk);have hle:=moreT_le k;have hlb:=far_le k;have hkI:(k:Int)<30:=by omega
  have hd:decide ((k:Int)<30)=true:=by simp;omega
  rcases q:numX V (nth moreT k) t with⟨x,t2⟩|y
  ·have HN:Hid (distX V k t=.ok (nth farT k+x) t2):=by
    have e1:decide (k<30)=true:=by simpa using hk
    show distX V k t=_;unfold distX;rw[Rdr.then_ok (a:=()) (s':=t) (by unfold demandX;rw[e1];rfl),Rdr.then_ok (show numX V (moreT.getD k 0) t=.ok x t2 from q)];rfl
   have hx:=Nat.lt_of_lt_of_le (numX_lt q) (Nat.pow_le_pow_right (n:=2) (by decide) hle);have hx2:x<8192:=hx;clear hx
   go_enter Tryz.func179,Tryz.ntmps179
   go_wp2_with (go_at_call 136;refine (demand_ok w).mono ?_;rintro e w1 ⟨rfl,rfl⟩)
   go_region_with (go_at_call 134;refine (PostX.okC (rnum_any _ R A V t (nth moreT k) _ rfl (by exact hR.drew) (by omega)) q).mono ?_;rintro e w2 ⟨v2,rfl,rfl,hR2,hF2⟩;have hT2:=hT.kept ((Fxr.drew R A V.B w).trans hF2) h22 hR;have cb2:=hT2.far k (by simpa[farT] using hk))
   all_goals
    go_wp2_with fail
    go_ret
    exact PostX.ok (unh HN) (congrArg (fun n=>Value.int .i64 n) ((wraps_i64 _ (by omega) (by omega)).trans (by omega))) hR2 ((Fxr.drew R A V.B w).trans hF2)
  ·have HN:Hid (distX V k t=.no y):=by
    have e1:decide (k<30)=true:=by simpa using hk
    show distX V k t=_;unfold distX;rw[Rdr.then_ok (a:=()) (s':=t) (by unfold demandX;rw[e1];rfl),Rdr.then_no (show numX V (moreT.getD k 0) t=.no y from q)]
   go_enter Tryz.func179,Tryz.ntmps179
   go_wp2_with (go_at_call 136;refine (demand_ok w).mono ?_;rintro e w1 ⟨rfl,rfl⟩)
   go_region_dies
   all_goals
    refine (PostX.noC (rnum_any _ R A V t (nth moreT k) _ rfl (by exact hR.drew) (by omega)) q).mono ?_;rintro e w2 ⟨rfl,hF2⟩;exact⟨rfl,PostX.no (unh HN) ((Fxr.drew R A V.B w).trans hF2)⟩
 ·have hd:decide ((k:Int)<30)=false:=by simp;omega
  have HN:Hid (distX V k t=.no (9,V.n9)):=by
   have e1:decide (k<30)=false:=by simpa using hk
   show distX V k t=_;unfold distX;rw[Rdr.then_no];unfold demandX;rw[e1];rfl
  go_enter Tryz.func179,Tryz.ntmps179
  go_wp2_with fail
  refine (demand_no hR).mono ?_;rintro e w1 ⟨rfl,rfl⟩;exact⟨rfl,PostX.no (y:=(9,V.n9)) (unh HN) (Fxr.refl _ _ _ _)⟩
end
section
open Go.RowKit
attribute [local go_sem] Oper.semAt_some
theorem copyNX_succ (V:Ux) (back n:Nat) (out:List UInt8):copyNX V back (n+1) out=(putX V out (out.getD (out.length-back) 0)).then fun o=>copyNX V back n o:=rfl
theorem putX_inv {V:Ux}{out o:List UInt8}{c:UInt8}{t t':St}(h:putX V out c t=.ok o t'):o=out++[c]/\t'={ t with b:=t.b-1 }/\1<=t.b/\out.length<2000:=by
 unfold putX at h;split at h
 ·cases h
 ·split at h
  ·cases h;exact⟨rfl,rfl,by omega,by omega⟩
  ·cases h
theorem demandX_ok {V:Ux}{c:Bool}{t:St}(h:c=true):demandX V c t=.ok () t:=by subst h;rfl
theorem demandX_no {V:Ux}{c:Bool}{t:St}(h:c=false):demandX V c t=.no (9,V.n9):=by subst h;rfl
set_option maxHeartbeats 4000000 in
set_option maxRecDepth 100000 in
theorem copyBack_any (w:World) (U R A M b0:Nat) (V:Ux) (t:St) (n back:Nat) (o:Value) (out:List UInt8) (h:Uq w U R A M b0 V t o out) (hn:n<=400) (hb1:1<=back) (hb2:back<=100000) :
  Calls Tryz.prog 178 #[.pointer (some ⟨U,0,none⟩),.int .i64 (n:Int),.int .i64 (back:Int)] w (PostU U R A M b0 V o w (copyBX V n back out t)):=by
 have c1:=h.cu1;have c0:=h.cu0;obtain⟨ao,cp,ho⟩:=h.row.shape;rw[ho] at c1;have HO:=hid ho;clear ho
 by_cases hbk:back<=out.length
 ·have HE0:Hid (copyBX V n back out t=copyNX V back n out t):=by
   show copyBX V n back out t=_;unfold copyBX;rw[Rdr.then_ok (demandX_ok (by simpa using hbk))]
  have hd:decide ((back:Int)<=(out.length:Int))=true:=by simp;omega
  go_enter Tryz.func178,Tryz.ntmps178
  go_wp2_with fail
  go_cut [] (fun wx=>wx=w.drew)
  case first=>
   go_region_with (go_at_call 136;refine (demand_ok _).mono ?_;rintro e w1 ⟨rfl,rfl⟩)
   all_goals
    go_wp2_with fail
    go_meet
    case rel=>rfl
  case rest=>
   subst hcut
   go_wp2_with fail
   go_loopw [19] (fun iv wr=>∃ (i:Nat) (outi:List UInt8) (oi:Value) (ti:St),iv=.int .i64 (i:Int)/\i<=n/\Uq wr U R A M b0 V ti oi outi/\Fv U R A M V.B o w oi wr/\back<=outi.length/\Hid (copyBX V n back out t=copyNX V back (n-i) outi ti))
    (fun iv _=>n-(intOf iv).toNat)
   case atStart=>exact⟨0,out,o,t,rfl,by omega,h.drew,Fv.drew U R A M V.B o w,hbk,HE0⟩
   case round=>
    clear c1 HO hd hbk;obtain⟨i,outi,oi,ti,rfl,hi,hU,hF,hbk,HE⟩:=hrel
    by_cases hlt:i<n
    ·have c1:=hU.cu1;obtain⟨g,cpi,ho,hcell⟩:=hU.row.cellAt (j:=outi.length-back) (by omega);rw[ho] at c1;have HO:=hid ho;clear ho;have hln:=hU.hl;obtain⟨bt,hbt⟩:∃ bt:UInt8,outi.getD (outi.length-back) 0=bt:=⟨_,rfl⟩;rw[hbt] at hcell;unfold byteV at hcell;have hbtl:=UInt8.toNat_lt bt;have hst:Hid (copyBX V n back out t=((putX V outi bt).then fun o=>copyNX V back (n-(i+1)) o) ti):=(unh HE).trans (by rw[show n-i=(n-(i+1))+1 by omega,copyNX_succ,hbt]);obtain⟨j,hj⟩:∃ j:Nat,outi.length-back=j:=⟨_,rfl⟩;rw[hj] at hcell;have hix:(outi.length:Int)-(back:Int)=(j:Int):=by omega
     have hwr:IntKind.i64.wrap ((outi.length:Int)-(back:Int))=(j:Int):=by rw[hix];exact wraps_i64 _ (by omega) (by omega)
     have hidx:j<outi.length:=by omega
     have hidx':(j:Int)<(outi.length:Int):=by omega
     have HBK:=hid hbk;have hbe:UInt8.ofNat ((bt.toNat:Int)).toNat=bt:=by simp
     have PU:=pput_any wr.drew U R A M b0 V ti oi outi (bt.toNat:Int) hU.drew ⟨by omega,by omega⟩;rw[hbe] at PU;clear hj hix hbk HE hbt
     rcases q:putX V outi bt ti with⟨o4,t4⟩|y
     ·have HE2:Hid (copyBX V n back out t=copyNX V back (n-(i+1)) o4 t4):=(unh hst).trans (by rw[Rdr.then_ok q]);have eo4:=(putX_inv q).1;have hol:back<=o4.length:=by rw[eo4];have:=unh HBK;simp;omega
      clear hst eo4
      go_wp2_with fail
      go_region_with (go_at_call 175;refine (PostU.okC PU q).mono ?_;rintro e w4 ⟨rfl,s4,h4,F4⟩)
      all_goals
       go_wp2_with fail
       go_roundw
       case rel=>exact⟨i+1,o4,s4,t4,by go_num,by omega,h4,hF.trans ((Fv.drew U R A M V.B oi wr).trans F4),hol,HE2⟩
       case measure=>simp[intOf];omega
     ·have FIN:Hid (copyBX V n back out t=.no y):=(unh hst).trans (by rw[Rdr.then_no q]);clear hst
      go_wp2_with fail
      go_region_dies
      all_goals
       refine (PostU.noC PU q).mono ?_;rintro e w4 ⟨rfl,s4,F4⟩;exact⟨rfl,PostU.no (unh FIN) (hF.trans ((Fv.drew U R A M V.B oi wr).trans F4))⟩
    ·have FIN:Hid (copyBX V n back out t=.ok outi ti):=(unh HE).trans (by rw[show n-i=0 by omega];rfl);clear HE
     go_wp2_with fail
     first | go_end0 | refine bodyPost_ret (results_none rfl _ _ _) rfl ?_
     exact PostU.ok (unh FIN) hU hF
 ·have FIN:Hid (copyBX V n back out t=.no (9,V.n9)):=by
   show copyBX V n back out t=_;unfold copyBX;rw[Rdr.then_no (demandX_no (by simpa using hbk))]
  have hd:decide ((back:Int)<=(out.length:Int))=false:=by simp;omega
  go_enter Tryz.func178,Tryz.ntmps178
  go_wp2_with fail
  go_region_dies
  all_goals
   refine (demand_no h.rd.drew).mono ?_;rintro e w1 ⟨rfl,rfl⟩;exact⟨rfl,PostU.no (y:=(9,V.n9)) (unh FIN) (Fv.drew U R A M V.B o w)⟩
end
section
open Go.RowKit
attribute [local go_sem] Oper.semAt_some
theorem nat_xor_ffff (x:Nat) (h:x<65536):x ^^^ 65535=65535-x:=by
 have h1:(BitVec.ofNat 16 x ^^^ BitVec.allOnes 16).toNat=x ^^^ 65535:=by
  rw[BitVec.toNat_xor,BitVec.toNat_ofNat,BitVec.toNat_allOnes,Nat.mod_eq_of_lt h]
 rw[BitVec.xor_allOnes,BitVec.toNat_not,BitVec.toNat_ofNat,Nat.mod_eq_of_lt h] at h1;exact h1.symm
theorem xor_ffff (x:Nat) (h:x<65536):bits .xor .i64 (x:Int) 65535=((65535-x:Nat):Int):=by
 have e:(BitVec.ofInt 64 (x:Int) ^^^ BitVec.ofInt 64 65535).toNat=x ^^^ 65535:=by
  rw[BitVec.toNat_xor];have h1:(BitVec.ofInt 64 (x:Int)).toNat=x:=by rw[BitVec.ofInt_natCast,BitVec.toNat_ofNat];exact Nat.mod_eq_of_lt (by omega)
  have h2:(BitVec.ofInt 64 65535).toNat=65535:=by decide
  rw[h1,h2]
 show IntKind.i64.wrap ((BitVec.ofInt 64 (x:Int) ^^^ BitVec.ofInt 64 65535).toNat:Nat)=_;rw[e,nat_xor_ffff x h];exact wraps_i64 _ (by omega) (by omega)
theorem storeNX_succ (V:Ux) (n:Nat) (out:List UInt8):storeNX V (n+1) out=(numX V 8).then fun x=>(putX V out (UInt8.ofNat x)).then fun o=>storeNX V n o:=rfl
set_option maxHeartbeats 400000 in
theorem skip_any (w:World) (R A:Nat) (V:Ux) (t:St) (hR:Rx w R A V t) :
  Calls Tryz.prog 174 #[.pointer (some ⟨R,0,none⟩)] w (PostX R A V w (fun (_:Nat) v _=>v=.tuple #[]) (skipX V t)):=by
 have c1:=hR.c1;have hp:=hR.hp;have hs:=hR.hs
 rcases q:numX V ((8-t.k%8)%8) t with⟨x,t1⟩|y
 ·have HN:Hid (skipX V t=.ok x t1):=q
  go_enter Tryz.func174,Tryz.ntmps174
  go_wp2_with fail
  refine (PostX.okC (rnum_any w R A V t ((8-t.k%8)%8) _ (by omega) hR (by omega)) q).mono ?_;rintro e w1 ⟨v,rfl,rfl,hR1,hF1⟩;clear q
  go_wp2_with fail
  first | go_end0 | refine bodyPost_ret (results_none rfl _ _ _) rfl ?_
  exact PostX.ok (unh HN) rfl hR1 hF1
 ·have HN:Hid (skipX V t=.no y):=q
  go_enter Tryz.func174,Tryz.ntmps174
  go_wp2_with fail
  refine (PostX.noC (rnum_any w R A V t ((8-t.k%8)%8) _ (by omega) hR (by omega)) q).mono ?_;rintro e w1 ⟨rfl,hF1⟩;exact⟨rfl,PostX.no (unh HN) hF1⟩
set_option maxHeartbeats 4000000 in
set_option maxRecDepth 100000 in
theorem pstored_any (w:World) (U R A M b0:Nat) (V:Ux) (t:St) (o:Value) (out:List UInt8) (h:Uq w U R A M b0 V t o out) :
  Calls Tryz.prog 155 #[.pointer (some ⟨U,0,none⟩)] w (PostU U R A M b0 V o w (storedX V out t)):=by
 have c0:=h.cu0;have SK:=skip_any w R A V t h.rd
 go_enter Tryz.func155,Tryz.ntmps155
 go_wp2_with fail
 rcases q0:skipX V t with⟨z0,t1⟩|y
 ·have E0:Hid (storedX V out t=((numX V 16).then fun n=>(numX V 16).then fun m=>(demandX V (decide (n+m=65535))).then fun _=>storeNX V n out) t1):=by
   show storedX V out t=_;unfold storedX;rw[Rdr.then_ok q0]
  refine (PostX.okC SK q0).mono ?_;rintro e w1 ⟨v,rfl,rfl,hR1,hF1⟩;have h1:=h.read hR1 hF1;have c01:=h1.cu0;clear c0 q0
  go_wp2_with fail
  have NA:=rnum_any w1 R A V t1 16 16 rfl hR1 (by omega)
  rcases q1:numX V 16 t1 with⟨x,t2⟩|y
  ·have hx6:x<65536:=by have:=numX_lt q1;simpa using this
   have E1:Hid (storedX V out t=((numX V 16).then fun m=>(demandX V (decide (x+m=65535))).then fun _=>storeNX V x out) t2):=(unh E0).trans (by rw[Rdr.then_ok q1]);refine (PostX.okC NA q1).mono ?_;rintro e w2 ⟨v,rfl,rfl,hR2,hF2⟩;have h2:=h1.read hR2 hF2;have c02:=h2.cu0;clear c01 q1 E0
   go_wp2_with fail
   have NB:=rnum_any w2.drew R A V t2 16 16 rfl hR2.drew (by omega);have hxor:=xor_ffff x hx6;obtain⟨z,hz⟩:∃ z,65535-x=z:=⟨_,rfl⟩;rw[hz] at hxor;have HZ:=hid hz;clear hz
   rcases q2:numX V 16 t2 with⟨y,t3⟩|y
   ·have hy6:y<65536:=by have:=numX_lt q2;simpa using this
    by_cases hxy:x+y=65535
    ·have hyz:((y:Int)==(z:Int))=true:=by have:=unh HZ;rw[beq_iff_eq];omega
     have SP2:Hid (storedX V out t=storeNX V x out t3):=(unh E1).trans (by rw[Rdr.then_ok q2,Rdr.then_ok (demandX_ok (by simpa using hxy))]);clear E1 hxy
     go_cut [] (fun wx=>Uq wx U R A M b0 V t3 o out/\Fxr R A V.B w2 wx)
     case first=>
      go_region_with (first | (go_at_call 134;refine (PostX.okC NB q2).mono ?_;rintro e w3 ⟨v,rfl,rfl,hR3,hF3⟩;have c03:=(h2.drew.read hR3 hF3).cu0) | (go_at_call 136;refine (demand_ok _).mono ?_;rintro e w4 ⟨rfl,rfl⟩))
      all_goals
       go_wp2_with fail
       go_meet
       case rel=>exact⟨h2.drew.read hR3 hF3,(Fxr.drew R A V.B w2).trans hF3⟩
     case rest=>
      obtain⟨h3,hF3⟩:=hcut;have hF03:Fv U R A M V.B o w o wc:=Fv.of_fx o ((hF1.trans hF2).trans hF3);clear c02 hyz q2
      go_wp2_with fail
      go_loopw [27] (fun iv wr=>∃ (i:Nat) (ti:St) (outi:List UInt8) (oi:Value),iv=.int .i64 (i:Int)/\i<=x/\Uq wr U R A M b0 V ti oi outi/\Fv U R A M V.B o w oi wr/\Hid (storedX V out t=storeNX V (x-i) outi ti))
       (fun iv _=>x-(intOf iv).toNat)
      case atStart=>exact⟨0,t3,out,o,rfl,by omega,h3,hF03,SP2⟩
      case round=>
       clear h3 hF03 SP2;obtain⟨i,ti,outi,oi,rfl,hi,hU,hF,HE⟩:=hrel;have c0:=hU.cu0
       by_cases hlt:i<x
       ·have HS:Hid (storedX V out t=((numX V 8).then fun x'=>(putX V outi (UInt8.ofNat x')).then fun o=>storeNX V (x-(i+1)) o) ti):=(unh HE).trans (by rw[show x-i=(x-(i+1))+1 by omega,storeNX_succ]);clear HE
        go_wp2_with fail
        have NC:=rnum_any wr R A V ti 8 8 rfl hU.rd (by omega)
        rcases q5:numX V 8 ti with⟨c,t5⟩|y
        ·have hc2:c<256:=by have:=numX_lt q5;simpa using this
         have HS2:Hid (storedX V out t=((putX V outi (UInt8.ofNat c)).then fun o=>storeNX V (x-(i+1)) o) t5):=(unh HS).trans (by rw[Rdr.then_ok q5]);refine (PostX.okC NC q5).mono ?_;rintro e w5 ⟨v,rfl,rfl,hR5,hF5⟩;have h5:=hU.read hR5 hF5;clear HS q5
         go_wp2_with fail
         have PU:=pput_any w5 U R A M b0 V t5 oi outi (c:Int) h5 ⟨by omega,by omega⟩;rw[show ((c:Int)).toNat=c from rfl] at PU
         rcases q6:putX V outi (UInt8.ofNat c) t5 with⟨o6,t6⟩|y
         ·have HS3:Hid (storedX V out t=storeNX V (x-(i+1)) o6 t6):=(unh HS2).trans (by rw[Rdr.then_ok q6]);refine (PostU.okC PU q6).mono ?_;rintro e w6 ⟨rfl,s6,h6,F6⟩;clear HS2 q6
          go_wp2_with fail
          go_roundw
          case rel=>exact⟨i+1,t6,o6,s6,by go_num,by omega,h6,(hF.trans (Fv.of_fx oi hF5)).trans F6,HS3⟩
          case measure=>simp[intOf];omega
         ·have FIN:Hid (storedX V out t=.no y):=(unh HS2).trans (by rw[Rdr.then_no q6]);refine (PostU.noC PU q6).mono ?_;rintro e w6 ⟨rfl,s6,F6⟩;exact⟨rfl,PostU.no (unh FIN) ((hF.trans (Fv.of_fx oi hF5)).trans F6)⟩
        ·have FIN:Hid (storedX V out t=.no y):=(unh HS).trans (by rw[Rdr.then_no q5]);refine (PostX.noC NC q5).mono ?_;rintro e w5 ⟨rfl,hF5⟩;exact⟨rfl,PostU.no (unh FIN) (hF.trans (Fv.of_fx oi hF5))⟩
       ·have FIN:Hid (storedX V out t=.ok outi ti):=(unh HE).trans (by rw[show x-i=0 by omega];rfl);clear HE
        go_wp2_with fail
        first | go_end0 | refine bodyPost_ret (results_none rfl _ _ _) rfl ?_
        exact PostU.ok (unh FIN) hU hF
    ·have hyz:((y:Int)==(z:Int))=false:=by have:=unh HZ;rw[beq_eq_false_iff_ne];omega
     have FIN:Hid (storedX V out t=.no (9,V.n9)):=(unh E1).trans (by rw[Rdr.then_ok q2,Rdr.then_no (demandX_no (by simpa using hxy))]);clear E1
     go_region_with (first | (go_at_call 134;refine (PostX.okC NB q2).mono ?_;rintro e w3 ⟨v,rfl,rfl,hR3,hF3⟩;have c03:=(h2.drew.read hR3 hF3).cu0) | (go_at_call 136;refine (demand_no hR3).mono ?_;rintro e w4 ⟨rfl,rfl⟩;refine dead_end ⟨#[],[]⟩ w (show _ from ⟨rfl,PostU.no (y:=(9,V.n9)) (unh FIN) (Fv.of_fx o ((hF1.trans hF2).trans ((Fxr.drew R A V.B w2).trans hF3)))⟩) ?_))
     all_goals trivial
   ·have FIN:Hid (storedX V out t=.no y):=(unh E1).trans (by rw[Rdr.then_no q2])
    go_region_dies
    all_goals
     refine (PostX.noC NB q2).mono ?_;rintro e w3 ⟨rfl,hF3⟩;exact⟨rfl,PostU.no (unh FIN) (Fv.of_fx o ((hF1.trans hF2).trans ((Fxr.drew R A V.B w2).trans hF3)))⟩
  ·have FIN:Hid (storedX V out t=.no y):=(unh E0).trans (by rw[Rdr.then_no q1]);refine (PostX.noC NA q1).mono ?_;rintro e w2 ⟨rfl,hF2⟩;exact⟨rfl,PostU.no (unh FIN) (Fv.of_fx o (hF1.trans hF2))⟩
 ·have FIN:Hid (storedX V out t=.no y):=by
   show storedX V out t=_;unfold storedX;rw[Rdr.then_no q0]
  refine (PostX.noC SK q0).mono ?_;rintro e w1 ⟨rfl,hF1⟩;exact⟨rfl,PostU.no (unh FIN) (Fv.of_fx o hF1)⟩
end
end Go.Proofs.YtgffljllfenhkaaGreatDoor
