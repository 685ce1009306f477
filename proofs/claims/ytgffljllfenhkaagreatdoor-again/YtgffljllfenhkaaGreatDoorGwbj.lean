import Derived.Deep.CutRange
import Derived.Lib.BufferRead
import Derived.Test.YtgffljllfenhkaaGreatDoorGwbi
namespace Go.Proofs.YtgffljllfenhkaaGreatDoor
section
open Go.RowKit
attribute [local go_sem] Oper.semAt_some
def SpU (w:World) (U R A M B:Nat) (o:Value) (sg:Value) (l:List Nat):Prop:=
 ∃ g cap,sg=.slice (some ⟨g,0,none⟩) (used l) cap/\g<w.heap.size/\g≠R/\g≠A/\g≠U/\g≠M/\g≠B/\o.ownBlock≠some g /\
  ∀ n a,1<=n->n<=15->a<cnt n l->w.cell? ⟨g,start l n+a,none⟩=some (.int .i64 (((idxs n l).getD a 0:Nat):Int))
section
variable {U R A M B b0:Nat}{V:Ux}{t t':St}{o o' sg:Value}{w w':World}{l:List Nat}
theorem Fv.still (hf:Fv U R A M B o w o' w') {g:Nat}(hg:g<w.heap.size) (ho:o.ownBlock≠some g):o'.ownBlock≠some g:=by
 rcases hf.own with e|⟨k,e,hk⟩
 ·rw[e];exact ho
 ·rw[e];intro h;simp at h;omega
theorem SpU.kept (h:SpU w U R A M B o sg l) (hf:Fv U R A M B o w o' w'):SpU w' U R A M B o' sg l:=by
 obtain⟨g,cap,h1,h2,h3,h4,h5,h6,h6',h7,h8⟩:=h;refine⟨g,cap,h1,Nat.lt_of_lt_of_le h2 hf.size,h3,h4,h5,h6,h6',hf.still h2 h7,fun n a hn hn' ha=>?_⟩;rw[World.cell?_of_block (w:=w) (hf.block g h2 h3 h4 h5 h6 h6' h7)];exact h8 n a hn hn' ha
theorem SpU.sp (h:SpU w U R A M B o sg l):Sp w R A B sg l:=by
 obtain⟨g,cap,h1,h2,h3,h4,_,_,h6,_,h8⟩:=h;exact⟨g,cap,h1,h2,h3,h4,h6,h8⟩
theorem PTabs.keptU {out:List UInt8}(h:PTabs w) (hf:Fv U R A M V.B o w o' w') (h22:22<V.B) (hU:Uq w U R A M b0 V t o out):PTabs w':=by
 have h1:=hU.rd.lt;have h2:=hU.nb;have h3:=hU.ltU;have h4:=hU.lt;exact h.blk (fun k hk=>hf.block k (by omega) (by omega) (by omega) (by omega) (by omega) (by omega) (fun e=>by have:=(hU.own k e).1;omega))
end
def measP (R N:Nat) (w:World):Nat:=N-(intOf ((w.cell? ⟨R,1,none⟩).getD undef)).toNat
theorem measP_of {w:World}{R A:Nat}{V:Ux}{t:St}(h:Rx w R A V t) (N:Nat):measP R N w=N-t.k:=by
 unfold measP;rw[h.c1];simp[intOf]
def LoadWp (P:Program) (o:Oper) (a:Act) (w:World) (K:Act->World->Prop) (Q:Exit->Act->World->Prop):Prop:=o.wp P a w K Q
theorem load_aside {P:Program}{d:Option Tmp}{x:Operand}{ty:TypeId}{ps:String}{af:Array Edge}{gd:Option (Nat×Bool)}{a:Act}{w:World}{K:Act->World->Prop}{Q:Exit->Act->World->Prop} :
  Oper.wp P { dst:=d,op:=.load 204 x,type:=ty,pos:=ps,after:=af,guard:=gd } a w K Q=LoadWp P { dst:=d,op:=.load 204 x,type:=ty,pos:=ps,after:=af,guard:=gd } a w K Q:=rfl
theorem LoadWp.row {o:Oper}{a:Act}{w:World}{K:Act->World->Prop}{Q:Exit->Act->World->Prop}(x:Operand) (ho:o.op=.load 204 x)
  (b off:Nat) (arr:Array Value) (hx:a.eval x=.pointer (some ⟨b,off,none⟩)) (hc:w.rangeAt b off arr.toList) (h17:arr.size=17)
  (h:K (a.put o.dst (.agg arr)) w):LoadWp Tryz.prog o a w K Q:=by
 obtain⟨d,h1,h2⟩:=structured Tryz.aggCodeP;refine wp_load_mid 204 x ho b off hx arr.toList d hc h1 ?_ (by have:=Tryz.infoCodeP arr h17;simpa using this) (by simpa using h);cases d <;> first | rfl | cases h2
section
variable {R A U M b0:Nat}{V:Ux}{w W:World}{α:Type}{rep:α->Value->World->Prop}{o:Out α}{p:Program}{f:Nat}{args:Array Value}
theorem PostX.orC (h:Calls p f args W (PostX R A V w rep o)) :
  Calls p f args W fun e w'=>(∃ a t',o=.ok a t'/\∃ v,e=.returned v/\rep a v w'/\Rx w' R A V t'/\Fxr R A V.B w w')\/∃ y,o=.no y/\e=.panicked (thrownY y)/\Fxr R A V.B w w':=by
 rcases o with⟨a,t'⟩|y
 ·exact h.mono (fun e w' hq=>.inl ⟨a,t',rfl,hq⟩)
 ·exact h.mono (fun e w' hq=>.inr ⟨y,rfl,hq⟩)
theorem PostU.orC {o:Value}{r:Out (List UInt8)}(h:Calls p f args W (PostU U R A M b0 V o w r)) :
  Calls p f args W fun e w'=>(∃ out' t',r=.ok out' t'/\e=.returned (.tuple #[])/\∃ o',Uq w' U R A M b0 V t' o' out'/\Fv U R A M V.B o w o' w')\/∃ y,r=.no y/\e=.panicked (thrownY y)/\∃ o',Fv U R A M V.B o w o' w':=by
 rcases r with⟨out',t'⟩|y
 ·exact h.mono (fun e w' hq=>.inl ⟨out',t',rfl,hq⟩)
 ·exact h.mono (fun e w' hq=>.inr ⟨y,rfl,hq⟩)
end
theorem blkX_succ (V:Ux) (l dl:List Nat) (f:Nat) (out:List UInt8):blkX V l dl (f+1) out=(signX V l).then fun g=>if g<256 then (putX V out (UInt8.ofNat g)).then fun o=>blkX V l dl f o else if g=256 then Rdr.ret out else
   (copyLX V (g-257)).then fun n=>(signX V dl).then fun d=>(distX V d).then fun back=>(copyBX V n back out).then fun o=>blkX V l dl f o:=by rw[blkX]
theorem copyLX_inv {V:Ux}{k n:Nat}{t t':St}(h:copyLX V k t=.ok n t'):n<=400/\t.k<=t'.k:=by
 unfold copyLX at h;obtain⟨_,t1,h1,h2⟩:=then_invX h;obtain⟨x,t2,h3,h4⟩:=then_invX h2;cases h4;have e1:=(demandX_inv h1).2;have hx:=Nat.lt_of_lt_of_le (numX_lt h3) (Nat.pow_le_pow_right (n:=2) (by decide) (extra_le k));have hb:=base_le k;have e2:=(numX_inv h3).2.1;have hx2:x<32:=hx;unfold nth at hb;refine⟨by omega,?_⟩;rw[e2,e1];exact Nat.le_add_right _ _
theorem distX_inv {V:Ux}{k n:Nat}{t t':St}(h:distX V k t=.ok n t'):1<=n/\n<=100000/\t.k<=t'.k:=by
 unfold distX at h;obtain⟨_,t1,h1,h2⟩:=then_invX h;obtain⟨x,t2,h3,h4⟩:=then_invX h2;cases h4;have e0:=(demandX_inv h1).1;have e1:=(demandX_inv h1).2;have hk:k<30:=by simpa using e0
 have hx:=Nat.lt_of_lt_of_le (numX_lt h3) (Nat.pow_le_pow_right (n:=2) (by decide) (moreT_le k));have hb:=far_le k;have hp:=far_pos k hk;have e2:=(numX_inv h3).2.1;have hx2:x<8192:=hx;unfold nth at hb hp;refine⟨by omega,by omega,?_⟩;rw[e2,e1];exact Nat.le_add_right _ _
theorem copyNX_k {V:Ux}{back:Nat}:∀ {n:Nat}{out o:List UInt8}{t t':St},copyNX V back n out t=.ok o t'->t'.k=t.k
 | 0,_,_,_,_,h=>by cases h;rfl
 | n+1,out,o,t,t',h=>by
  rw[copyNX_succ] at h;obtain⟨o1,t1,h1,h2⟩:=then_invX h;rw[copyNX_k h2,(putX_inv h1).2.1]
theorem copyBX_k {V:Ux}{n back:Nat}{out o:List UInt8}{t t':St}(h:copyBX V n back out t=.ok o t'):t'.k=t.k:=by
 unfold copyBX at h;obtain⟨_,t1,h1,h2⟩:=then_invX h;rw[copyNX_k h2,(demandX_inv h1).2]
attribute [local go_sem ↓] load_aside Go.wp_at_zero Go.wp_at_succ
set_option maxHeartbeats 8000000 in
set_option maxRecDepth 100000 in
theorem psigns_walk (w:World) (U R A M b0:Nat) (V:Ux) (t:St) (o:Value) (out:List UInt8) (a1 a2:Array Value) (l dl:List Nat) (s1 s2:Value) (h:Uq w U R A M b0 V t o out)
  (hc1:CodeP a1 l s1) (hc2:CodeP a2 dl s2) (hS1:SpU w U R A M V.B o s1 l) (hS2:SpU w U R A M V.B o s2 dl) (hT:PTabs w) (h22:22<V.B) :
  Calls Tryz.prog 156 #[.pointer (some ⟨U,0,none⟩),.agg (a1++a2)] w (PostU U R A M b0 V o w (signsX V l dl out t)):=by
 have h34:(a1++a2).size=34:=by rw[Array.size_append,hc1.size,hc2.size]
 obtain⟨arr,harr⟩:∃ arr,a1++a2=arr:=⟨_,rfl⟩;rw[harr] at h34 ⊢;have HARR:=hide harr;clear harr;have h1:=h.alloc (.cells arr 206);have F1:=Fv.alloc U R A M V.B o w (.cells arr 206);have hT1:=hT.keptU F1 h22 h;have hX:(w.alloc (.cells arr 206)).heap[w.heap.size]?=some (.cells arr 206 (0,0)):=World.alloc_heap_new w _;have hS1a:=hS1.kept F1;have hS2a:=hS2.kept F1;have hltU:=h.ltU;have hltR:=h.rd.ltR;have hltA:=h.rd.ltA;have hltM:=h.ltM;have hltB:=h.rd.lt;have hs9:=h.rd.hs
 go_enter Tryz.func156,Tryz.ntmps156
 go_wp2_with fail
 obtain⟨r,hr⟩:∃ r,signsX V l dl out t=r:=⟨_,rfl⟩;obtain⟨W0,hW0⟩:∃ W0,w.alloc (.cells arr 206)=W0:=⟨_,rfl⟩;have hs0:W0.heap.size=w.heap.size+1:=by rw[← hW0];simp
 rw[hW0] at h1 F1 hT1 hX hS1a hS2a ⊢;rw[hr];have HR:Hid (r=blkX V l dl 80000 out t):=hr.symm;obtain⟨B,hB⟩:∃ B,w.heap.size=B:=⟨_,rfl⟩;rw[hB] at hX ⊢;have hoB:o.ownBlock≠some B:=fun e=>by have:=(h.own B e).2;omega
 clear hW0 hr
 go_loopw [4] (fun _ wr=>∃ (q:St) (f:Nat) (outi:List UInt8) (oi:Value),8*V.s.size+1<=f+q.k/\Uq wr U R A M b0 V q oi outi/\Fv U R A M V.B o W0 oi wr/\Hid (r=blkX V l dl f outi q)) (fun _ wr=>measP R (8*V.s.size+1) wr)
 case atStart=>exact⟨t,80000,out,o,by omega,h1,Fv.refl _ _ _ _ _ _ _,HR⟩
 case round=>
  obtain⟨q,f,outi,oi,hf,hU,hF,HE⟩:=hrel;have hq:=hU.rd.hp;obtain⟨f,rfl⟩:∃ f',f=f'+1:=⟨f-1,by omega⟩;have c0:=hU.cu0;have hXr:=(hF.block B (by omega) (by omega) (by omega) (by omega) (by omega) (by omega) hoB).trans hX;have hFw:=F1.trans hF;have hSi1:=hS1a.kept hF;have hSi2:=hS2a.kept hF;have hTi:=hT1.keptU hF h22 h1;have hm0:=hide (measP_of hU.rd (8*V.s.size+1));have hra:wr.rangeAt B 0 a1.toList:=range_one (by rw[unhide HARR];exact hXr)
  have HE1:Hid (r=((signX V l).then fun g=>if g<256 then (putX V outi (UInt8.ofNat g)).then fun o=>blkX V l dl f o else if g=256 then Rdr.ret outi else
   (copyLX V (g-257)).then fun n=>(signX V dl).then fun d=>(distX V d).then fun back=>(copyBX V n back outi).then fun o=>blkX V l dl f o) q):=(unh HE).trans (by rw[blkX_succ])
  clear hX hS1a hS2a hT1 h1 HE
  go_wp2_with fail
  go_cut [4] from 6 to 45 (fun xv wx=>∃ (x:Nat) (q1:St),xv=.int .i64 (x:Int)/\Hid (signX V l q=.ok x q1)/\Rx wx R A V q1/\Fxr R A V.B wr wx)
  case first=>
   go_region_with (first | (go_at_call 176;refine (PostX.orC (psign_any _ R A V q a1 l s1 hU.rd.drew hc1 hSi1.sp)).mono ?_;rintro e w2 (⟨x,q1,hx,v,rfl,rfl,hR2,hF2⟩ | ⟨y,hx,rfl,hF2⟩);rotate_left;exact⟨rfl,PostU.no ((unh HE1).trans (by rw[Rdr.then_no hx])) (hFw.trans ((Fv.drew U R A M V.B oi wr).trans (Fv.of_fx oi hF2)))⟩) | (refine LoadWp.row _ rfl B 0 a1 rfl hra hc1.size ?_))
   all_goals
    go_wp2_with fail
    go_meet
    case rel=>exact⟨x,q1,rfl,hx,hR2,(Fxr.drew R A V.B wr).trans hF2⟩
  case rest=>
   obtain⟨x,q1,rfl,hx,hR2,hF2⟩:=hcut;obtain⟨w2,hw2⟩:∃ w2,w2=wc:=⟨_,rfl⟩;subst hw2;have hU2:=hU.read hR2 hF2;have hFw2:=hFw.trans (Fv.of_fx oi hF2);obtain⟨hxl,hq1,hq8⟩:=signX_inv (unh hx);have hx4:x<400:=Nat.lt_of_lt_of_le hxl hc1.le
   have HE2:Hid (r=(if x<256 then (putX V outi (UInt8.ofNat x)).then fun o=>blkX V l dl f o else if x=256 then Rdr.ret outi else
    (copyLX V (x-257)).then fun n=>(signX V dl).then fun d=>(distX V d).then fun back=>(copyBX V n back outi).then fun o=>blkX V l dl f o) q1):=(unh HE1).trans (by rw[Rdr.then_ok (unh hx)])
   clear hxl hra c0 HE1
   by_cases hx256:x<256
   ·have HE3:Hid (r=((putX V outi (UInt8.ofNat x)).then fun o=>blkX V l dl f o) q1):=(unh HE2).trans (by rw[if_pos hx256]);have hd1:decide ((x:Int)<256)=true:=by simp;omega
    have hw8:IntKind.u8.wrap (x:Int)=(x:Int):=by rw[IntKind.wrap_u8];omega
    have PU:=pput_any w2 U R A M b0 V q1 oi outi (x:Int) hU2 ⟨by omega,by omega⟩;rw[show ((x:Int)).toNat=x from rfl] at PU;clear HE2
    go_wp2_with fail
    rcases qp:putX V outi (UInt8.ofNat x) q1 with⟨out',q2⟩|y
    ·refine (PostU.okC PU qp).mono ?_;rintro e w3 ⟨rfl,o',hU3,hF3⟩;have HE4:Hid (r=blkX V l dl f out' q2):=(unh HE3).trans (by rw[Rdr.then_ok qp]);have hm3:=hide (measP_of hU3.rd (8*V.s.size+1));have hq2:q2.k=q1.k:=by rw[(putX_inv qp).2.1]
     have HQ2:=hid hq2;clear qp PU HE3 hq2
     go_wp2_with fail
     have hq2:=unh HQ2;exact⟨⟨q2,f,out',o',by omega,hU3,(hF.trans (Fv.of_fx oi hF2)).trans hF3,HE4⟩,by rw[unhide hm3,unhide hm0];omega⟩
    ·refine (PostU.noC PU qp).mono ?_;rintro e w3 ⟨rfl,o',hF3⟩;exact⟨rfl,PostU.no ((unh HE3).trans (by rw[Rdr.then_no qp])) (hFw2.trans hF3)⟩
   ·have hd1:decide ((x:Int)<256)=false:=by simp;omega
    by_cases hxe:x=256
    ·subst hxe;have FIN:Hid (r=.ok outi q1):=(unh HE2).trans (by rw[if_neg (by omega),if_pos rfl];rfl)
     go_wp2_with fail
     first | go_end0 | refine bodyPost_ret (results_none rfl _ _ _) rfl ?_
     exact PostU.ok (unh FIN) hU2 hFw2
    ·have hd2:((x:Int)==256)=false:=by simp;omega
     have HE3:Hid (r=((copyLX V (x-257)).then fun n=>(signX V dl).then fun d=>(distX V d).then fun back=>(copyBX V n back outi).then fun o=>blkX V l dl f o) q1):=(unh HE2).trans (by rw[if_neg hx256,if_neg hxe]);have hk:(x:Int)-256-1=((x-257:Nat):Int):=by omega
     have c2:=hU2.cu0;have hT2:=hTi.kept hF2 h22 hU.rd;have CL:=copyLength_any w2 R A V q1 (x-257) ((x-257:Nat):Int) rfl hR2 hT2 h22 (by omega);clear HE2
     go_wp2_with fail
     rcases qL:copyLX V (x-257) q1 with⟨n,q2⟩|y
     ·refine (PostX.okC CL qL).mono ?_;rintro e w3 ⟨v3,rfl,rfl,hR3,hF3⟩;obtain⟨hn4,hq12⟩:=copyLX_inv qL;have HE4:Hid (r=((signX V dl).then fun d=>(distX V d).then fun back=>(copyBX V n back outi).then fun o=>blkX V l dl f o) q2):=(unh HE3).trans (by rw[Rdr.then_ok qL]);have hU3:=hU2.read hR3 hF3;have hFw3:=hFw2.trans (Fv.of_fx oi hF3);have c3:=hU3.cu0;have hX3:=(hF3.block B (by have:=hF2.size;have:=hF.size;omega) (by omega) (by omega) (by omega)).trans ((hF2.block B (by have:=hF.size;omega) (by omega) (by omega) (by omega)).trans hXr);have hra:w3.rangeAt B 17 a2.toList:=range_two (by rw[unhide HARR];exact hX3) hc1.size;have hS3:=(hSi2.kept (Fv.of_fx oi hF2)).kept (Fv.of_fx oi hF3);have hT3:=hT2.kept hF3 h22 hR2;clear qL HE3 CL
      go_wp2_with fail
      go_region_with (first | (go_at_call 176;refine (PostX.orC (psign_any _ R A V q2 a2 dl s2 hU3.rd.drew hc2 hS3.sp)).mono ?_;rintro e w4 (⟨d,q3,hd,v4,rfl,rfl,hR4,hF4⟩ | ⟨y,hd,rfl,hF4⟩);rotate_left;exact⟨rfl,PostU.no ((unh HE4).trans (by rw[Rdr.then_no hd])) (hFw3.trans ((Fv.drew U R A M V.B oi w3).trans (Fv.of_fx oi hF4)))⟩;have hU4:=hU3.drew.read hR4 hF4;have k4:=hU4.cu0;have hT4:=hT3.kept ((Fxr.drew R A V.B w3).trans hF4) h22 hR3;have HE5:Hid (r=((distX V d).then fun back=>(copyBX V n back outi).then fun o=>blkX V l dl f o) q3):=(unh HE4).trans (by rw[Rdr.then_ok hd]);have hdl:=signX_inv hd;clear hd) | (go_at_call 179;refine (PostX.orC (distance_any _ R A V q3 d _ rfl hR4 hT4 h22 (by have:=hc2.le;omega))).mono ?_;rintro e w5 (⟨back,q4,hb,v5,rfl,rfl,hR5,hF5⟩ | ⟨y,hb,rfl,hF5⟩);rotate_left;exact⟨rfl,PostU.no ((unh HE5).trans (by rw[Rdr.then_no hb])) (hFw3.trans ((Fv.drew U R A M V.B oi w3).trans ((Fv.of_fx oi hF4).trans (Fv.of_fx oi hF5))))⟩;have hU5:=hU4.read hR5 hF5;have HE6:Hid (r=((copyBX V n back outi).then fun o=>blkX V l dl f o) q4):=(unh HE5).trans (by rw[Rdr.then_ok hb]);have hbk:=distX_inv hb;clear hb) | (go_at_call 178;refine (PostU.orC (copyBack_any _ U R A M b0 V q4 n back oi outi hU5 hn4 hbk.1 hbk.2.1)).mono ?_;rintro e w6 (⟨out',q5,ho,rfl,o',hU6,hF6⟩ | ⟨y,ho,rfl,o',hF6⟩);rotate_left;exact⟨rfl,PostU.no ((unh HE6).trans (by rw[Rdr.then_no ho])) (hFw3.trans ((Fv.drew U R A M V.B oi w3).trans ((Fv.of_fx oi hF4).trans ((Fv.of_fx oi hF5).trans hF6))))⟩;have HE7:Hid (r=blkX V l dl f out' q5):=(unh HE6).trans (by rw[Rdr.then_ok ho]);have HK5:=hide (copyBX_k ho);clear ho) | (refine LoadWp.row _ rfl B 17 a2 rfl hra hc2.size ?_))
      all_goals
       have hm6:=hide (measP_of hU6.rd (8*V.s.size+1))
       go_wp2_with fail
       have hk5:=unhide HK5;exact⟨⟨q5,f,out',o',by omega,hU6,(hF.trans (Fv.of_fx oi hF2)).trans ((Fv.of_fx oi hF3).trans ((Fv.drew U R A M V.B oi w3).trans ((Fv.of_fx oi hF4).trans ((Fv.of_fx oi hF5).trans hF6)))),HE7⟩,by rw[unhide hm6,unhide hm0];omega⟩
     ·refine (PostX.noC CL qL).mono ?_;rintro e w3 ⟨rfl,hF3⟩;exact⟨rfl,PostU.no ((unh HE3).trans (by rw[Rdr.then_no qL])) (hFw2.trans (Fv.of_fx oi hF3))⟩
end
section
open Go.RowKit
attribute [local go_sem] Oper.semAt_some
def Mk {α:Type}(m:Rdr α):Prop:=∀ t a t',m t=.ok a t'->t.k<=t'.k
theorem Mk.then {α β:Type}{m:Rdr α}{f:α->Rdr β}(hm:Mk m) (hf:∀ a,Mk (f a)):Mk (m.then f):=fun t b t' h=>by
 obtain⟨a,t1,h1,h2⟩:=then_invX h;exact Nat.le_trans (hm _ _ _ h1) (hf _ _ _ _ h2)
theorem Mk.ret {α:Type}(a:α):Mk (Rdr.ret a):=fun t b t' h=>by cases h;exact Nat.le_refl _
theorem Mk.no {α:Type}(y:Why):Mk (fun _=>(.no y:Out α)):=fun _ _ _ h=>by cases h
theorem Mk.ite {α:Type}{c:Prop} [Decidable c] {m n:Rdr α}(hm:Mk m) (hn:Mk n):Mk (if c then m else n):=by split <;> assumption
theorem mk_num (V:Ux) (n:Nat):Mk (numX V n):=fun _ _ _ h=>by rw[(numX_inv h).2.1];exact Nat.le_add_right _ _
theorem mk_sign (V:Ux) (l:List Nat):Mk (signX V l):=fun _ _ _ h=>Nat.le_of_lt (signX_inv h).2.1
theorem mk_charge (n:Nat):Mk (chargeX n):=fun _ _ _ h=>by
 unfold chargeX chargeM at h;split at h
 ·cases h
 ·cases h;exact Nat.le_refl _
theorem mk_demand (V:Ux) (c:Bool):Mk (demandX V c):=fun _ _ _ h=>by rw[(demandX_inv h).2];exact Nat.le_refl _
theorem mk_put (V:Ux) (out:List UInt8) (c:UInt8):Mk (putX V out c):=fun _ _ _ h=>by rw[(putX_inv h).2.1];exact Nat.le_refl _
theorem mk_copyL (V:Ux) (k:Nat):Mk (copyLX V k):=fun _ _ _ h=>(copyLX_inv h).2
theorem mk_dist (V:Ux) (k:Nat):Mk (distX V k):=fun _ _ _ h=>(distX_inv h).2.2
theorem mk_copyB (V:Ux) (n back:Nat) (out:List UInt8):Mk (copyBX V n back out):=fun _ _ _ h=>by rw[copyBX_k h];exact Nat.le_refl _
theorem mk_storeN (V:Ux):∀ (n:Nat) (out:List UInt8),Mk (storeNX V n out)
 | 0,out=>Mk.ret out
 | n+1,out=>(mk_num V 8).then fun _=>(mk_put V out _).then fun o=>mk_storeN V n o
theorem mk_stored (V:Ux) (out:List UInt8):Mk (storedX V out):=
 Mk.then (fun _ _ _ h=>mk_num V _ _ _ _ h) fun _=>(mk_num V 16).then fun n=>(mk_num V 16).then fun _=>(mk_demand V _).then fun _=>mk_storeN V n out
theorem mk_blk (V:Ux) (l dl:List Nat):∀ (f:Nat) (out:List UInt8),Mk (blkX V l dl f out)
 | 0,_=>Mk.no _
 | f+1,out=>by
  rw[blkX_succ];exact (mk_sign V l).then fun g=>Mk.ite ((mk_put V out _).then fun o=>mk_blk V l dl f o) (Mk.ite (Mk.ret out) ((mk_copyL V _).then fun n=>(mk_sign V dl).then fun d=>(mk_dist V d).then fun back=>(mk_copyB V n back out).then fun o=>mk_blk V l dl f o))
theorem mk_read (V:Ux) (cl:List Nat) (many:Nat):∀ (f:Nat) (l:List Nat),Mk (readX V cl many f l)
 | 0,_=>Mk.no _
 | f+1,l=>by
  rw[readX_succ];exact Mk.ite ((mk_sign V cl).then fun g=>Mk.ite ((mk_demand V _).then fun _=>(mk_num V 2).then fun n=>mk_read V cl many f _) (Mk.ite ((mk_num V 3).then fun n=>mk_read V cl many f _) (Mk.ite ((mk_num V 7).then fun n=>mk_read V cl many f _) (mk_read V cl many f _)))) ((mk_demand V _).then fun _=>Mk.ret l)
theorem mk_clens (V:Ux):∀ (n i:Nat) (l:List Nat),Mk (clensX V n i l)
 | 0,_,l=>Mk.ret l
 | n+1,i,_=>(mk_num V 3).then fun _=>mk_clens V n (i+1) _
theorem mk_codeL (V:Ux) (told:Nat):Mk (codeLX V told):=(mk_clens V told 0 _).then fun l=>(mk_charge 19).then fun _=>(mk_demand V _).then fun _=>Mk.ret l
theorem mk_own (V:Ux):Mk (ownX V):=
 (mk_num V 5).then fun _=>(mk_num V 5).then fun _=>(mk_num V 4).then fun _=>(mk_demand V _).then fun _=>(mk_codeL V _).then fun cl=>(mk_read V cl _ _ []).then fun _=>(mk_charge _).then fun _=>(mk_charge _).then fun _=>
 (mk_demand V _).then fun _=>(mk_demand V _).then fun _=>(mk_demand V _).then fun _=>Mk.ret _
theorem mk_fix:Mk fixX:=(mk_charge 288).then fun _=>(mk_charge 32).then fun _=>Mk.ret _
theorem mk_block (V:Ux) (out:List UInt8):Mk (blockX V out):=
 (mk_num V 2).then fun _=>Mk.ite (mk_stored V out) (Mk.ite (mk_fix.then fun c=>mk_blk V c.1 c.2 80000 out) (Mk.ite ((mk_own V).then fun c=>mk_blk V c.1 c.2 80000 out) (Mk.no _)))
theorem SpN.toU {w:World}{base U R A M B:Nat}{o sg:Value}{l:List Nat}(h:SpN w base sg l) (h1:U<base/\R<base/\A<base/\M<base/\B<base) (ho:∀ k,o.ownBlock=some k->k<base):SpU w U R A M B o sg l:=by
 obtain⟨g,cap,e,h2,h3,h4⟩:=h;exact⟨g,cap,e,h3,by omega,by omega,by omega,by omega,by omega,fun e=>by have:=ho g e;omega,h4⟩
theorem PostU.after {w w1:World}{U R A M b0:Nat}{V:Ux}{o:Value}{r:Out (List UInt8)}{e:Ending}{w':World}(hf:Fv U R A M V.B o w o w1) (h:PostU U R A M b0 V o w1 r e w'):PostU U R A M b0 V o w r e w':=by
 rcases r with⟨out',t'⟩|y
 ·obtain⟨h1,o',h2,h3⟩:=h;exact⟨h1,o',h2,hf.trans h3⟩
 ·obtain⟨h1,o',h3⟩:=h;exact⟨h1,o',hf.trans h3⟩
set_option maxHeartbeats 4000000 in
set_option maxRecDepth 100000 in
theorem pblock_walk (w:World) (U R A M b0:Nat) (V:Ux) (t:St) (o:Value) (out:List UInt8) (h:Uq w U R A M b0 V t o out) (hT:PTabs w) (h22:22<V.B) :
  Calls Tryz.prog 135 #[.pointer (some ⟨U,0,none⟩)] w (PostU U R A M b0 V o w (blockX V out t)):=by
 have c0:=h.cu0;have hltU:=h.ltU;have hltR:=h.rd.ltR;have hltA:=h.rd.ltA;have hltM:=h.ltM;have hltB:=h.rd.lt;have NA:=rnum_any w R A V t 2 2 rfl h.rd (by omega)
 rcases q1:numX V 2 t with⟨k,t1⟩|y
 ·have hk4:k<4:=numX_lt q1
  have HB:Hid (blockX V out t=(if k=0 then storedX V out else if k=1 then fixX.then fun c=>signsX V c.1 c.2 out else if k=2 then (ownX V).then fun c=>signsX V c.1 c.2 out else fun _=>.no (9,V.n9)) t1):=by
   show blockX V out t=_;unfold blockX;rw[Rdr.then_ok q1]
  obtain⟨r,hr⟩:∃ r,blockX V out t=r:=⟨_,rfl⟩;rw[hr] at HB;rw[hr];clear hr
  go_enter Tryz.func135,Tryz.ntmps135
  go_wp2_with fail
  refine (PostX.okC NA q1).mono ?_;rintro e w1 ⟨v1,rfl,rfl,hR1,hF1⟩;have hU1:=h.read hR1 hF1;have hf1:Fv U R A M V.B o w o w1:=Fv.of_fx o hF1;have hT1:=hT.kept hF1 h22 h.rd;have c1:=hU1.cu0;have hz1:=hF1.size;clear q1 NA
  by_cases h0:k=0
  ·subst h0;have FIN:Hid (r=storedX V out t1):=(unh HB).trans (by rw[if_pos rfl]);have ST:=(pstored_any w1 U R A M b0 V t1 o out hU1).mono (fun e w2 hq=>PostU.after hf1 hq)
   go_wp2_with fail
   rcases qs:storedX V out t1 with⟨o2,t2⟩|y
   ·refine (PostU.okC ST qs).mono ?_;rintro e w2 ⟨rfl,s2,hU2,hF2⟩;have HQ:=hid qs;clear qs ST
    go_wp2_with fail
    first | go_end0 | refine bodyPost_ret (results_none rfl _ _ _) rfl ?_
    exact PostU.ok ((unh FIN).trans (unh HQ)) hU2 hF2
   ·refine (PostU.noC ST qs).mono ?_;rintro e w2 ⟨rfl,s2,hF2⟩;exact⟨rfl,PostU.no ((unh FIN).trans qs) hF2⟩
  ·have hb0:((k:Int)==0)=false:=by simp;omega
   by_cases h1:k=1
   ·subst h1;have FIN:Hid (r=(fixX.then fun c=>signsX V c.1 c.2 out) t1):=(unh HB).trans rfl;have FX:=pfixed_walk hR1
    go_wp2_with fail
    rcases qf:fixX t1 with⟨c,t2⟩|y
    ·refine (PostX.okC FX qf).mono ?_;rintro e w2 ⟨v2,rfl,⟨a1,a2,s1,s2,rfl,hc1,hc2,hS1,hS2⟩,hR2,hF2⟩;have FIN2:Hid (r=signsX V c.1 c.2 out t2):=(unh FIN).trans (by rw[Rdr.then_ok qf]);have hU2:=hU1.read hR2 hF2;have hf2:=hf1.trans (Fv.of_fx (U:=U) (M:=M) o hF2);have hT2:=hT1.kept hF2 h22 hR1;have hS1u:=hS1.toU (U:=U) (R:=R) (A:=A) (M:=M) (B:=V.B) (o:=o) ⟨by omega,by omega,by omega,by omega,by omega⟩ (fun k e=>(hU1.own k e).2);have hS2u:=hS2.toU (U:=U) (R:=R) (A:=A) (M:=M) (B:=V.B) (o:=o) ⟨by omega,by omega,by omega,by omega,by omega⟩ (fun k e=>(hU1.own k e).2);have SG:=(psigns_walk w2 U R A M b0 V t2 o out a1 a2 c.1 c.2 s1 s2 hU2 hc1 hc2 hS1u hS2u hT2 h22).mono (fun e w3 hq=>PostU.after hf2 hq);clear qf FX FIN
     go_wp2_with fail
     rcases qs:signsX V c.1 c.2 out t2 with⟨o3,t3⟩|y
     ·refine (PostU.okC SG qs).mono ?_;rintro e w3 ⟨rfl,s3,hU3,hF3⟩;have HQ:=hid qs;clear qs SG
      go_wp2_with fail
      first | go_end0 | refine bodyPost_ret (results_none rfl _ _ _) rfl ?_
      exact PostU.ok ((unh FIN2).trans (unh HQ)) hU3 hF3
     ·refine (PostU.noC SG qs).mono ?_;rintro e w3 ⟨rfl,s3,hF3⟩;exact⟨rfl,PostU.no ((unh FIN2).trans qs) hF3⟩
    ·refine (PostX.noC FX qf).mono ?_;rintro e w2 ⟨rfl,hF2⟩;exact⟨rfl,PostU.no ((unh FIN).trans (by rw[Rdr.then_no qf])) (hf1.trans (Fv.of_fx o hF2))⟩
   ·have hb1:((k:Int)==1)=false:=by simp;omega
    by_cases h2:k=2
    ·subst h2;have FIN:Hid (r=((ownX V).then fun c=>signsX V c.1 c.2 out) t1):=(unh HB).trans rfl;have FX:=powncodes_walk w1 R A V t1 hR1 hT1 h22
     go_wp2_with fail
     rcases qf:ownX V t1 with⟨c,t2⟩|y
     ·refine (PostX.okC FX qf).mono ?_;rintro e w2 ⟨v2,rfl,⟨a1,a2,s1,s2,rfl,hc1,hc2,hS1,hS2⟩,hR2,hF2⟩;have FIN2:Hid (r=signsX V c.1 c.2 out t2):=(unh FIN).trans (by rw[Rdr.then_ok qf]);have hU2:=hU1.read hR2 hF2;have hf2:=hf1.trans (Fv.of_fx (U:=U) (M:=M) o hF2);have hT2:=hT1.kept hF2 h22 hR1;have hS1u:=hS1.toU (U:=U) (R:=R) (A:=A) (M:=M) (B:=V.B) (o:=o) ⟨by omega,by omega,by omega,by omega,by omega⟩ (fun k e=>(hU1.own k e).2);have hS2u:=hS2.toU (U:=U) (R:=R) (A:=A) (M:=M) (B:=V.B) (o:=o) ⟨by omega,by omega,by omega,by omega,by omega⟩ (fun k e=>(hU1.own k e).2);have SG:=(psigns_walk w2 U R A M b0 V t2 o out a1 a2 c.1 c.2 s1 s2 hU2 hc1 hc2 hS1u hS2u hT2 h22).mono (fun e w3 hq=>PostU.after hf2 hq);clear qf FX FIN
      go_wp2_with fail
      rcases qs:signsX V c.1 c.2 out t2 with⟨o3,t3⟩|y
      ·refine (PostU.okC SG qs).mono ?_;rintro e w3 ⟨rfl,s3,hU3,hF3⟩;have HQ:=hid qs;clear qs SG
       go_wp2_with fail
       first | go_end0 | refine bodyPost_ret (results_none rfl _ _ _) rfl ?_
       exact PostU.ok ((unh FIN2).trans (unh HQ)) hU3 hF3
      ·refine (PostU.noC SG qs).mono ?_;rintro e w3 ⟨rfl,s3,hF3⟩;exact⟨rfl,PostU.no ((unh FIN2).trans qs) hF3⟩
     ·refine (PostX.noC FX qf).mono ?_;rintro e w2 ⟨rfl,hF2⟩;exact⟨rfl,PostU.no ((unh FIN).trans (by rw[Rdr.then_no qf])) (hf1.trans (Fv.of_fx o hF2))⟩
    ·have h3:k=3:=by omega
     subst h3;have FIN:Hid (r=.no (9,V.n9)):=(unh HB).trans rfl;have c4:=hR1.c4;have c5:=hR1.c5
     go_wp2_with fail
     exact⟨rfl,PostU.no (y:=(9,V.n9)) (unh FIN) hf1⟩
 ·have FIN:Hid (blockX V out t=.no y):=by
   show blockX V out t=_;unfold blockX;rw[Rdr.then_no q1]
  go_enter Tryz.func135,Tryz.ntmps135
  go_wp2_with fail
  refine (PostX.noC NA q1).mono ?_;rintro e w1 ⟨rfl,hF1⟩;exact⟨rfl,PostU.no (unh FIN) (Fv.of_fx o hF1)⟩
end
section
open Go.RowKit
def strOf (out:List UInt8):ByteArray:=⟨out.toArray⟩
theorem Row8.str {w:World}{base:Nat}{o:Value}{out:List UInt8}(h:Row8 w base o out):(convert 102 9 o).run Tryz.prog w=.ok (.string (strOf out)) w:=by
 rcases h.2 with⟨e,hn⟩|⟨g,cap,cur,e,hb,hg,hc,_,_,ht⟩
 ·have:out=[]:=List.eq_nil_of_length_eq_zero hn;subst this;rw[e];exact Lib.run_convert_nil_bytes w _ _ _ 0 Tryz.underlying102 Tryz.underlying5 Tryz.underlying9
 ·rw[e];refine run_convert_bytes_back w _ _ 5 ⟨g,0,none⟩ cap out Tryz.underlying102 Tryz.underlying5 Tryz.underlying9 (fun j hj=>?_);exact World.ownsRow.cells h (g:=g) (by rw[e];rfl) j _ (by rw[List.getElem?_map,List.getElem?_eq_getElem hj];rfl)
theorem num_B {V W:Ux}(hs:V.s=W.s) (hn:V.n9=W.n9) (n:Nat):numX V n=numX W n:=by unfold numX;rw[hs,hn]
theorem bit_B {V W:Ux}(hs:V.s=W.s) (hn:V.n9=W.n9):bitX V=bitX W:=by unfold bitX;rw[hs,hn]
theorem dec_B {V W:Ux}(hs:V.s=W.s) (hn:V.n9=W.n9) (l:List Nat):∀ (r a:Nat),decX V l r a=decX W l r a
 | 0,a=>by unfold decX;rw[hn]
 | r+1,a=>by
  rw[decX_succ,decX_succ,bit_B hs hn];congr 1
  funext x
  rw[dec_B hs hn l r]
theorem sign_B {V W:Ux}(hs:V.s=W.s) (hn:V.n9=W.n9) (l:List Nat):signX V l=signX W l:=dec_B hs hn l 15 0
theorem demand_B {V W:Ux}(hs:V.s=W.s) (hn:V.n9=W.n9) (c:Bool):demandX V c=demandX W c:=by have:=hs;unfold demandX;rw[hn]
theorem put_B {V W:Ux}(hs:V.s=W.s) (hn:V.n9=W.n9) (out:List UInt8) (c:UInt8):putX V out c=putX W out c:=by have:=hs;unfold putX;rw[hn]
theorem copyL_B {V W:Ux}(hs:V.s=W.s) (hn:V.n9=W.n9) (k:Nat):copyLX V k=copyLX W k:=by
 unfold copyLX;rw[demand_B hs hn,num_B hs hn]
theorem dist_B {V W:Ux}(hs:V.s=W.s) (hn:V.n9=W.n9) (k:Nat):distX V k=distX W k:=by
 unfold distX;rw[demand_B hs hn,num_B hs hn]
theorem copyN_B {V W:Ux}(hs:V.s=W.s) (hn:V.n9=W.n9) (back:Nat):∀ (n:Nat) (out:List UInt8),copyNX V back n out=copyNX W back n out
 | 0,_=>rfl
 | n+1,out=>by
  rw[copyNX_succ,copyNX_succ,put_B hs hn];congr 1
  funext o
  exact copyN_B hs hn back n o
theorem copyB_B {V W:Ux}(hs:V.s=W.s) (hn:V.n9=W.n9) (n back:Nat) (out:List UInt8):copyBX V n back out=copyBX W n back out:=by
 unfold copyBX;rw[demand_B hs hn,copyN_B hs hn]
theorem storeN_B {V W:Ux}(hs:V.s=W.s) (hn:V.n9=W.n9):∀ (n:Nat) (out:List UInt8),storeNX V n out=storeNX W n out
 | 0,_=>rfl
 | n+1,out=>by
  rw[storeNX_succ,storeNX_succ,num_B hs hn];congr 1
  funext x
  rw[put_B hs hn];congr 1
  funext o
  exact storeN_B hs hn n o
theorem stored_B {V W:Ux}(hs:V.s=W.s) (hn:V.n9=W.n9) (out:List UInt8):storedX V out=storedX W out:=by
 have e:skipX V=skipX W:=by unfold skipX;funext t;rw[num_B hs hn]
 unfold storedX;rw[e,num_B hs hn];congr 1;funext _;congr 1;funext n;congr 1;funext m;rw[demand_B hs hn,storeN_B hs hn]
theorem blk_B {V W:Ux}(hs:V.s=W.s) (hn:V.n9=W.n9) (l dl:List Nat):∀ (f:Nat) (out:List UInt8),blkX V l dl f out=blkX W l dl f out
 | 0,_=>by rw[blkX,blkX]
 | f+1,out=>by
  have e1:(fun o=>blkX V l dl f o)=(fun o=>blkX W l dl f o):=funext (blk_B hs hn l dl f);have e3:distX V=distX W:=by funext d;exact dist_B hs hn d
  have e4:∀ n,((signX W dl).then fun d=>(distX V d).then fun back=>(copyBX V n back out).then fun o=>blkX W l dl f o)=((signX W dl).then fun d=>(distX W d).then fun back=>(copyBX W n back out).then fun o=>blkX W l dl f o:Rdr (List UInt8)):=fun n=>by
   rw[e3];congr 1;funext d;congr 1;funext back;rw[show copyBX V n back out=copyBX W n back out from copyB_B hs hn n back out]
  rw[blkX_succ,blkX_succ,sign_B hs hn];refine congrArg (Rdr.then _) (funext fun g=>?_);rw[put_B hs hn,copyL_B hs hn,sign_B hs hn,e1];rw[show (fun n=>(signX W dl).then fun d=>(distX V d).then fun back=>(copyBX V n back out).then fun o=>blkX W l dl f o)=(fun n=>(signX W dl).then fun d=>(distX W d).then fun back=>(copyBX W n back out).then fun o=>blkX W l dl f o) from funext e4]
theorem read_B {V W:Ux}(hs:V.s=W.s) (hn:V.n9=W.n9) (cl:List Nat) (many:Nat):∀ (f:Nat) (l:List Nat),readX V cl many f l=readX W cl many f l
 | 0,_=>by rw[readX,readX]
 | f+1,l=>by
  have e1:readX V cl many f=readX W cl many f:=funext (read_B hs hn cl many f);rw[readX_succ,readX_succ,sign_B hs hn,demand_B hs hn,demand_B hs hn,num_B hs hn,num_B hs hn,num_B hs hn,e1]
theorem clens_B {V W:Ux}(hs:V.s=W.s) (hn:V.n9=W.n9):∀ (n i:Nat) (l:List Nat),clensX V n i l=clensX W n i l
 | 0,_,_=>rfl
 | n+1,i,l=>by
  rw[clensX_succ,clensX_succ,num_B hs hn];congr 1;funext x;exact clens_B hs hn n (i+1) _
theorem codeL_B {V W:Ux}(hs:V.s=W.s) (hn:V.n9=W.n9) (told:Nat):codeLX V told=codeLX W told:=by
 unfold codeLX;rw[clens_B hs hn];congr 1;funext l;congr 1;funext _;rw[demand_B hs hn]
theorem own_B {V W:Ux}(hs:V.s=W.s) (hn:V.n9=W.n9):ownX V=ownX W:=by
 rw[ownX_eq,ownX_eq,num_B hs hn];congr 1;funext a;congr 1;funext b;rw[num_B hs hn];congr 1;funext n;rw[demand_B hs hn];congr 1;funext _;rw[codeL_B hs hn];congr 1;funext cl;rw[read_B hs hn];congr 1;funext all;unfold ownRest;congr 1;funext _;congr 1;funext _;unfold ownEnd;rw[demand_B hs hn];congr 1;funext _;rw[demand_B hs hn];congr 1;funext _;rw[demand_B hs hn]
theorem block_B {V W:Ux}(hs:V.s=W.s) (hn:V.n9=W.n9) (out:List UInt8):blockX V out=blockX W out:=by
 unfold blockX;rw[num_B hs hn];congr 1;funext k;rw[stored_B hs hn,own_B hs hn,hn];congr 1;congr 1
 ·congr 1;funext c;exact blk_B hs hn _ _ _ _
 ·congr 1;congr 1;funext c;exact blk_B hs hn _ _ _ _
theorem blocksX_succ (V:Ux) (f:Nat) (out:List UInt8):blocksX V (f+1) out=(numX V 1).then fun last=>(blockX V out).then fun o=>if last=1 then Rdr.ret o else blocksX V f o:=by rw[blocksX]
theorem blocks_B {V W:Ux}(hs:V.s=W.s) (hn:V.n9=W.n9):∀ (f:Nat) (out:List UInt8),blocksX V f out=blocksX W f out
 | 0,_=>by rw[blocksX,blocksX]
 | f+1,out=>by
  rw[blocksX_succ,blocksX_succ,num_B hs hn];congr 1;funext l;rw[block_B hs hn];congr 1;funext o;rw[blocks_B hs hn f]
theorem unpackX_B (s:ByteArray) (n9 B1 B2:Nat):unpackX ⟨s,n9,B1⟩=unpackX ⟨s,n9,B2⟩:=by
 unfold unpackX;rw[blocks_B (V:=⟨s,n9,B1⟩) (W:=⟨s,n9,B2⟩) rfl rfl];congr 1
end
end Go.Proofs.YtgffljllfenhkaaGreatDoor
