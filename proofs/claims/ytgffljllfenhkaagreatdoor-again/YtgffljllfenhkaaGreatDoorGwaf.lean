import Derived.Test.YtgffljllfenhkaaGreatDoorGwae
namespace Go.Proofs.YtgffljllfenhkaaGreatDoor
section
open Go.RowKit
attribute [local go_sem] Oper.semAt_some
variable {w w':World}{P B:Nat}{E:Env}{s s':St}{S:Nat->Prop}{f:ByteArray->Option Value}
theorem setRow_alloc (w:World) (old cs:Array Value) (t:TypeId):(w.alloc (.cells old t)).setRow w.heap.size cs=w.alloc (.cells cs t):=by
 have h:((w.alloc (.cells old t)).setRow w.heap.size cs).heap=(w.alloc (.cells cs t)).heap:=by
  apply Array.ext_getElem?;intro i
  by_cases hi:i=w.heap.size
  ·subst hi;rw[setRow_heap _ _ _ _ _ _ (heap_alloc_new w _),heap_alloc_new]
  ·rw[setRow_other _ _ _ _ hi];show (w.heap.push _)[i]?=(w.heap.push _)[i]?;rw[Array.getElem?_push,Array.getElem?_push,if_neg hi,if_neg hi]
 show ({ (w.alloc (.cells old t)) with heap:=((w.alloc (.cells old t)).setRow w.heap.size cs).heap }:World)=w.alloc (.cells cs t);rw[h];rfl
theorem Tryz.sizeV:(Tryz.prog.info? 120).map (·.size)=some 6:=by kernel_rfl
theorem one_six (k x:Nat) (t:ByteArray) (r:Nat) (b:Option Addr) (n c:Nat) (m:Option Nat):(#[.int .i64 (k:Int),.float .f64 x,.string t,.int .i64 (r:Int),.slice b n c,.map m]:Array Value).all (·.oneCell')=true:=by simp[Value.oneCell']
theorem MapV.look_true {M n:Nat}{w0:World}(hM:MapV w M n f) (l:List (ByteArray×Val)) (hD:RepD w0 S f l) (hk:∀ a,(f a).isSome=l.any (fun e=>e.1==a)) (a:ByteArray) (ha:a.size<=maxLen) :
  ∃ (k x:Nat) (t:ByteArray) (r:Nat) (b:Option Addr) (n c:Nat) (m:Option Nat),(Instr.lookup 118 (.map (some M)) (.string a) true).run Tryz.prog w=.ok (.tuple #[.agg #[.int .i64 (k:Int),.float .f64 x,.string t,.int .i64 (r:Int),.slice b n c,.map m],.bool (dget l a).isSome]) w:=by
 have hl:=hM.look a ha true
 rcases hg:dget l a with _|x
 ·have h1:=dget_some a l;rw[hg,← hk a] at h1
  rcases hf:f a with _|v
  ·rw[hf] at hl;exact⟨0,0,⟨#[]⟩,0,none,0,0,none,hl⟩
  ·rw[hf] at h1;cases h1
 ·obtain⟨cs,hf,hr⟩:=RepD.get l hD x hg;obtain⟨k,y,t,r,b,n,c,m,rfl⟩:=hr.shape;rw[hf] at hl;exact⟨k,y,t,r,b,n,c,m,hl⟩
set_option maxHeartbeats 4000000 in
set_option maxRecDepth 100000 in
theorem keys_any {G:World->Prop}(hG:∀ w w',G w->Fz P B w w'->G w') (n:Nat) (IH:∀ m,m<n->ValC G P B m) (hw:G w) (ht:E.tab=false) (h:At w P B E s) (ho:s.o<=s.k) (hn:2*(E.e-s.k)+1<=n) :
  Calls Tryz.prog 150 #[.pointer (some ⟨P,0,none⟩)] w (Post P B E w (DQ w) (dictM E n s)):=by
 have hs9:=h.hs;have he9:=h.he;have hk9:=h.hk;have hPB:=h.lt;have hltP:=h.ltP;have hmk:=fun W=>run_makeMap (P:=Tryz.prog) 118 W
 go_enter Tryz.func150,Tryz.ntmps150
 go_wp2_with fail
 have q0:enterM s=.ok () { s with o:=s.o+1,d:=if 6<s.o+1/\s.d=0 then s.k else s.d }:=rfl;obtain⟨s0,hs0⟩:∃ s0:St,{ s with o:=s.o+1,d:=if 6<s.o+1/\s.d=0 then s.k else s.d }=s0:=⟨_,rfl⟩;have ek0:s0.k=s.k/\s0.o=s.o+1:=by rw[← hs0];exact⟨rfl,rfl⟩
 rw[hs0] at q0;clear hs0;refine (Post.okC (enter_any ht (by omega) h) q0).mono ?_;rintro e w0 ⟨v0,rfl,rfl,h0,F0⟩
 rcases q1:wordM E [60,60] s0 with⟨u1,s1⟩|y
 ·have HE0:Hid (dictM E n s=((keysM E n []).then (dictEnd E)) s1):=by show dictM E n s=_;simp[dictM,dictEnd,Rdr.then,q0,q1]
  have ek1:=(word_inv _ q1).1;have eo1:=(word_o _ q1).1;simp only[List.length_cons,List.length_nil] at ek1
  go_wp2_with fail
  refine (Post.okC (word_any ⟨#[60,60]⟩ (by decide) h0) (show wordM E (bl ⟨#[60,60]⟩) s0=_ from q1)).mono ?_;rintro e w1 ⟨v1,rfl,rfl,h1,F1⟩;have hk1:=h1.hk;have hb1:s1.o<=s1.k/\s1.o=s.o+1/\2*(E.e-s1.k)+3<=n:=by omega
  clear ek0 ek1 eo1 q0 q1;have F01:=F0.trans F1;have hM1:=MapV.made w1;have h1a:=h1.alloc (.map #[] 0);have F1a:=F01.alloc (.map #[] 0);obtain⟨M,hM⟩:∃ M,w1.heap.size=M:=⟨_,rfl⟩;have hMw:w.heap.size<=M:=by rw[← hM];exact F01.size
  have hmk1:=hmk w1;rw[hM] at hM1 hmk1;have hszM:M<(w1.alloc (.map #[] 0)).heap.size:=hM1.lt;obtain⟨wa,hwa⟩:∃ wa,w1.alloc (.map #[] 0)=wa:=⟨_,rfl⟩;rw[hwa] at hM1 h1a F1a hmk1 hszM;clear hM hwa hmk h1
  go_wp2_with fail
  go_loopw [15] (fun _ wr=>∃ (m nn:Nat) (si:St) (l:List (ByteArray×Val)) (f:ByteArray->Option Value),m<=n/\2*(E.e-si.k)+3<=m/\si.o<=si.k/\si.o=s.o+1/\nn<=si.k/\At wr P B E si/\Fz P B w wr /\
    MapV wr M nn f/\(∀ a,(f a).isSome=l.any (fun e=>e.1==a))/\RepD wr (fun b=>NewB w wr b/\b≠M) f l/\Hid (dictM E n s=((keysM E m l).then (dictEnd E)) si))
   (fun _ wr=>E.e-kOf P wr)
  case atStart=>exact⟨n,0,s1,[],fun _=>none,Nat.le_refl _,hb1.2.2,hb1.1,hb1.2.1,Nat.zero_le _,h1a,F1a,hM1,fun _=>rfl,by unfold RepD;trivial,HE0⟩
  case round=>
   clear h1a HE0 F01 F0 F1 F1a h0 hb1 hk1 hM1 hmk1 hszM;obtain⟨m,nn,si,l,f,hmn,hfuel,hoi,hos,hll,hA,hF,hMV,hkeys,hD,HE⟩:=hrel;have hki:=hA.hk;obtain⟨m',rfl⟩:∃ m',m=m'+1:=⟨m-1,by omega⟩;have hMlt:=hMV.lt
   rcases q2:nextM E si with⟨x2,s2⟩|y
   ·obtain⟨nk,no,nne,hxx⟩:=nextM_inv q2;clear hxx
    by_cases hx:x2=62
    ·have i2:((x2:Int)==62)=true:=beqI hx;have i2':((x2:Int) != 62)=false:=by rw[bne,i2];rfl
     have HE1:Hid (dictM E n s=dictEnd E l s2):=(unh HE).trans (by simp[keysM_succ,Rdr.then,q2,hx,Rdr.ret]);clear HE hx
     go_wp2_with fail
     refine (Post.okC (next_any hA) q2).mono ?_;rintro e w2 ⟨v2,rfl,rfl,h2,F2⟩
     rcases q3:wordM E [62,62] s2 with⟨u3,s3⟩|y
     ·have eo3:=(word_o _ q3).1;have HN:Hid (dictM E n s=.ok l { s3 with o:=s3.o-1 }):=(unh HE1).trans (by simp[dictEnd,Rdr.then,q3,leaveM,Rdr.ret])
      go_wp2_with fail
      refine (Post.okC (word_any ⟨#[62,62]⟩ (by decide) h2) (show wordM E (bl ⟨#[62,62]⟩) s2=_ from q3)).mono ?_;rintro e w3 ⟨v3,rfl,rfl,h3,F3⟩;have d5:=h3.c5 ht;have f5:=h3.fr 5;have ho3:1<=s3.o/\s3.o<=100000:=by omega
      have h4:=h3.leave ht ho3.1;have F23:=F2.trans F3;have F4:Fz P B wr (w3.setCell ⟨P,5,none⟩ (.int .i64 ((s3.o:Int)-1))):=F23.setP _ _;clear eo3
      go_wp2_with fail
      go_ret
      have hsz:=F4.size
      have hbl:∀ b,NewB w wr b->NewB w (w3.setCell ⟨P,5,none⟩ (.int .i64 ((s3.o:Int)-1))) b/\(w3.setCell ⟨P,5,none⟩ (.int .i64 ((s3.o:Int)-1))).heap[b]?=wr.heap[b]?:=fun b hb=>
       ⟨⟨hb.1,Nat.lt_of_lt_of_le hb.2 hsz⟩,F4.block b hb.2 (by have:=hb.1;omega) (by have:=hb.1;omega)⟩
      refine Post.ok (unh HN) ⟨M,nn,f,rfl,(hbl M ⟨hMw,hMlt⟩).1,hMV.of_block (hbl M ⟨hMw,hMlt⟩).2,hkeys,RepD.kept (fun b hb=>hbl b hb.1) l hD⟩ h4 (hF.trans F4)
     ·have HN:Hid (dictM E n s=.no y):=(unh HE1).trans (by simp[dictEnd,Rdr.then,q3])
      go_wp2_with fail
      refine (Post.noC (word_any ⟨#[62,62]⟩ (by decide) h2) (show wordM E (bl ⟨#[62,62]⟩) s2=_ from q3)).mono ?_;rintro e w3 ⟨rfl,F3⟩;exact⟨rfl,Post.no (unh HN) ((hF.trans F2).trans F3)⟩
    ·have i2:((x2:Int)==62)=false:=beqI' hx;have i2':((x2:Int) != 62)=true:=by rw[bne,i2];rfl
     rcases q3:nameM E s2 with⟨t3,s3⟩|y
     ·have ht3:=nameM_inv q3;obtain⟨nk3,no3⟩:=Mx.name _ _ _ q3;obtain⟨s4,hs4⟩:∃ s4:St,{ s3 with t:=if (dget l t3).isSome=true/\s3.t=0 then s2.k else s3.t }=s4:=⟨_,rfl⟩;have q4:twiceM (dget l t3).isSome s2.k s3=.ok () s4:=by rw[← hs4];rfl
      have ek4:s4.k<=s3.k/\s3.k<=s4.k/\s4.o=s3.o:=by rw[← hs4];exact⟨Nat.le_refl _,Nat.le_refl _,rfl⟩
      have HE1:Hid (dictM E n s=(((valueM E m').then fun v=>keysM E m' (dset l t3 v)).then (dictEnd E)) s4):=(unh HE).trans (by simp[keysM_succ,Rdr.then,q2,hx,atM,q3,q4]);have HS4:=hid hs4;clear HE hx q4 hs4
      go_wp2_with fail
      refine (Post.okC (next_any hA) q2).mono ?_;rintro e w2 ⟨v2,rfl,rfl,h2,F2⟩;have g1:=h2.c1
      go_wp2_with fail
      refine (Post.okC (name_any h2) q3).mono ?_;rintro e w3 ⟨v3,rfl,rfl,h3,F3⟩;have hk3:=h3.hk;have F23:=F2.trans F3;have hMV3:MapV w3 M nn f:=hMV.of_block (F23.block M hMlt (by omega) (by omega));obtain⟨kk,xx,tt,rr,aa,n9,c9,mm,hlk⟩:=hMV3.look_true l hD hkeys t3 (by unfold maxLen;omega);obtain⟨bb,hbb⟩:∃ bb,(dget l t3).isSome=bb:=⟨_,rfl⟩;rw[hbb] at hlk;have HBB:=hid hbb;clear hbb;have h3a:=h3.alloc (.cells #[.int .i64 (kk:Int),.float .f64 xx,.string tt,.int .i64 (rr:Int),.slice aa n9 c9,.map mm] 120);have d7:=h3a.c7 ht;have f7:=h3a.fr 7;have F3a:=F23.alloc (.cells #[.int .i64 (kk:Int),.float .f64 xx,.string tt,.int .i64 (rr:Int),.slice aa n9 c9,.map mm] 120);clear g1;cases bb with
      | false=>
       have e4:s4=s3:=by rw[← unh HS4,unh HBB];simp
       have h4:At (w3.alloc (.cells #[.int .i64 (kk:Int),.float .f64 xx,.string tt,.int .i64 (rr:Int),.slice aa n9 c9,.map mm] 120)) P B E s4:=by rw[e4];exact h3a
       clear e4
       go_wp2_with (refine wpList_store_row rfl 120 _ _ rfl w3.heap.size _ rfl rfl 120 _ (heap_alloc_new w3 _) Tryz.sizeV rfl (one_six kk xx tt rr aa n9 c9 mm) ?_;rw[setRow_alloc])
       rcases q5:valueM E m' s4 with⟨x5,s5⟩|y
       ·obtain⟨vk,vo⟩:=(val_mo m').1 _ _ _ q5;have HE2:Hid (dictM E n s=((keysM E m' (dset l t3 x5)).then (dictEnd E)) s5):=(unh HE1).trans (by simp[Rdr.then,q5]);refine (Post.okC (IH m' (by omega) _ E s4 (hG _ _ hw (hF.trans (by assumption))) ht h4 (by omega) (by omega)) q5).mono ?_;rintro e w5 ⟨v5,rfl,⟨cs,rfl,hRep⟩,h5,F5⟩;obtain⟨k5,x5',t5,r5,a5,n5,c5,m5,rfl⟩:=hRep.shape;have hk5:=h5.hk;have hFX:=F3a;have FX5:=hFX.trans F5;have hMV5:MapV w5 M nn f:=hMV.of_block (FX5.block M hMlt (by omega) (by omega));obtain⟨w6,hu,hMV6,hg6⟩:=hMV5.update t3 (by unfold maxLen;omega) (by unfold maxLen;omega) (.agg #[.int .i64 (k5:Int),.float .f64 x5',.string t5,.int .i64 (r5:Int),.slice a5 n5 c5,.map m5]);unfold vC
        go_wp2_with fail
        have hsX:=FX5.size;have hsF:=hF.size;have hsX1:=hFX.size;have hs5:=F5.size;have hs6:=hg6.size;have h6:At w6 P B E s5:=h5.of_blocks (fun k hk=>hg6.block k (by have:=h5.ltP;have:=h5.lt;omega) (by simp;omega));have hF5:=hF.trans FX5;have hF6:Fz P B w w6:=⟨hg6.os.trans hF5.os,hg6.tape.trans hF5.tape,hg6.output.trans hF5.output,by omega,fun k hk a b=>(hg6.block k (by omega) (by simp;omega)).trans (hF5.block k hk a b)⟩;refine⟨⟨m',nn+1,s5,dset l t3 x5,_,by omega,by omega,by omega,by omega,by omega,h6,hF6,hMV6,?_,RepD.set (Rep.kept ?_ x5 hRep) l (RepD.kept ?_ l hD),HE2⟩,?_⟩
        ·intro a;rw[any_dset,← hkeys a]
         by_cases ha:a=t3
         ·rw[if_pos ha,beqB ha];rfl
         ·rw[if_neg ha,beqB' ha];rfl
        ·intro b hb;have hb1:=hb.1;have hb2:=hb.2;refine⟨⟨⟨by omega,by omega⟩,by omega⟩,hg6.block b hb2 (by simp;omega)⟩
        ·intro b hb;obtain⟨⟨hb1,hb2⟩,hb3⟩:=hb;exact⟨⟨⟨hb1,by omega⟩,hb3⟩,(hg6.block b (by omega) (by simp;omega)).trans (FX5.block b hb2 (by omega) (by omega))⟩
        ·rw[hA.kOf,h6.kOf];omega
       ·have HN:Hid (dictM E n s=.no y):=(unh HE1).trans (by simp[Rdr.then,q5]);refine (Post.noC (IH m' (by omega) _ E s4 (hG _ _ hw (hF.trans (by assumption))) ht h4 (by omega) (by omega)) q5).mono ?_;rintro e w5 ⟨rfl,F5⟩;exact⟨rfl,Post.no (unh HN) ((hF.trans F3a).trans F5)⟩
      | true=>
       by_cases hz:s3.t=0
       ·have e4:s4={ s3 with t:=s2.k }:=by rw[← unh HS4,unh HBB];simp[hz]
        have iz:((s3.t:Int)==0)=true:=by rw[hz];rfl
        have h4:At ((w3.alloc (.cells #[.int .i64 (kk:Int),.float .f64 xx,.string tt,.int .i64 (rr:Int),.slice aa n9 c9,.map mm] 120)).setCell ⟨P,7,none⟩ (.int .i64 (s2.k:Int))) P B E s4:=by rw[e4];exact h3a.setT ht s2.k
        have F4:Fz P B wr ((w3.alloc (.cells #[.int .i64 (kk:Int),.float .f64 xx,.string tt,.int .i64 (rr:Int),.slice aa n9 c9,.map mm] 120)).setCell ⟨P,7,none⟩ (.int .i64 (s2.k:Int))):=F3a.setP _ _;clear e4 hz
        go_wp2_with (refine wpList_store_row rfl 120 _ _ rfl w3.heap.size _ rfl rfl 120 _ (heap_alloc_new w3 _) Tryz.sizeV rfl (one_six kk xx tt rr aa n9 c9 mm) ?_;rw[setRow_alloc])
        rcases q5:valueM E m' s4 with⟨x5,s5⟩|y
        ·obtain⟨vk,vo⟩:=(val_mo m').1 _ _ _ q5;have HE2:Hid (dictM E n s=((keysM E m' (dset l t3 x5)).then (dictEnd E)) s5):=(unh HE1).trans (by simp[Rdr.then,q5]);refine (Post.okC (IH m' (by omega) _ E s4 (hG _ _ hw (hF.trans (by assumption))) ht h4 (by omega) (by omega)) q5).mono ?_;rintro e w5 ⟨v5,rfl,⟨cs,rfl,hRep⟩,h5,F5⟩;obtain⟨k5,x5',t5,r5,a5,n5,c5,m5,rfl⟩:=hRep.shape;have hk5:=h5.hk;have hFX:=F4;have FX5:=hFX.trans F5;have hMV5:MapV w5 M nn f:=hMV.of_block (FX5.block M hMlt (by omega) (by omega));obtain⟨w6,hu,hMV6,hg6⟩:=hMV5.update t3 (by unfold maxLen;omega) (by unfold maxLen;omega) (.agg #[.int .i64 (k5:Int),.float .f64 x5',.string t5,.int .i64 (r5:Int),.slice a5 n5 c5,.map m5]);unfold vC
         go_wp2_with fail
         have hsX:=FX5.size;have hsF:=hF.size;have hsX1:=hFX.size;have hs5:=F5.size;have hs6:=hg6.size;have h6:At w6 P B E s5:=h5.of_blocks (fun k hk=>hg6.block k (by have:=h5.ltP;have:=h5.lt;omega) (by simp;omega));have hF5:=hF.trans FX5;have hF6:Fz P B w w6:=⟨hg6.os.trans hF5.os,hg6.tape.trans hF5.tape,hg6.output.trans hF5.output,by omega,fun k hk a b=>(hg6.block k (by omega) (by simp;omega)).trans (hF5.block k hk a b)⟩;refine⟨⟨m',nn+1,s5,dset l t3 x5,_,by omega,by omega,by omega,by omega,by omega,h6,hF6,hMV6,?_,RepD.set (Rep.kept ?_ x5 hRep) l (RepD.kept ?_ l hD),HE2⟩,?_⟩
         ·intro a;rw[any_dset,← hkeys a]
          by_cases ha:a=t3
          ·rw[if_pos ha,beqB ha];rfl
          ·rw[if_neg ha,beqB' ha];rfl
         ·intro b hb;have hb1:=hb.1;have hb2:=hb.2;refine⟨⟨⟨by omega,by omega⟩,by omega⟩,hg6.block b hb2 (by simp;omega)⟩
         ·intro b hb;obtain⟨⟨hb1,hb2⟩,hb3⟩:=hb;exact⟨⟨⟨hb1,by omega⟩,hb3⟩,(hg6.block b (by omega) (by simp;omega)).trans (FX5.block b hb2 (by omega) (by omega))⟩
         ·rw[hA.kOf,h6.kOf];omega
        ·have HN:Hid (dictM E n s=.no y):=(unh HE1).trans (by simp[Rdr.then,q5]);refine (Post.noC (IH m' (by omega) _ E s4 (hG _ _ hw (hF.trans (by assumption))) ht h4 (by omega) (by omega)) q5).mono ?_;rintro e w5 ⟨rfl,F5⟩;exact⟨rfl,Post.no (unh HN) ((hF.trans F4).trans F5)⟩
       ·have e4:s4=s3:=by rw[← unh HS4,unh HBB];simp[hz]
        have iz:((s3.t:Int)==0)=false:=by rw[beq_eq_false_iff_ne];omega
        have h4:At (w3.alloc (.cells #[.int .i64 (kk:Int),.float .f64 xx,.string tt,.int .i64 (rr:Int),.slice aa n9 c9,.map mm] 120)) P B E s4:=by rw[e4];exact h3a
        clear e4 hz
        go_wp2_with (refine wpList_store_row rfl 120 _ _ rfl w3.heap.size _ rfl rfl 120 _ (heap_alloc_new w3 _) Tryz.sizeV rfl (one_six kk xx tt rr aa n9 c9 mm) ?_;rw[setRow_alloc])
        rcases q5:valueM E m' s4 with⟨x5,s5⟩|y
        ·obtain⟨vk,vo⟩:=(val_mo m').1 _ _ _ q5;have HE2:Hid (dictM E n s=((keysM E m' (dset l t3 x5)).then (dictEnd E)) s5):=(unh HE1).trans (by simp[Rdr.then,q5]);refine (Post.okC (IH m' (by omega) _ E s4 (hG _ _ hw (hF.trans (by assumption))) ht h4 (by omega) (by omega)) q5).mono ?_;rintro e w5 ⟨v5,rfl,⟨cs,rfl,hRep⟩,h5,F5⟩;obtain⟨k5,x5',t5,r5,a5,n5,c5,m5,rfl⟩:=hRep.shape;have hk5:=h5.hk;have hFX:=F3a;have FX5:=hFX.trans F5;have hMV5:MapV w5 M nn f:=hMV.of_block (FX5.block M hMlt (by omega) (by omega));obtain⟨w6,hu,hMV6,hg6⟩:=hMV5.update t3 (by unfold maxLen;omega) (by unfold maxLen;omega) (.agg #[.int .i64 (k5:Int),.float .f64 x5',.string t5,.int .i64 (r5:Int),.slice a5 n5 c5,.map m5]);unfold vC
         go_wp2_with fail
         have hsX:=FX5.size;have hsF:=hF.size;have hsX1:=hFX.size;have hs5:=F5.size;have hs6:=hg6.size;have h6:At w6 P B E s5:=h5.of_blocks (fun k hk=>hg6.block k (by have:=h5.ltP;have:=h5.lt;omega) (by simp;omega));have hF5:=hF.trans FX5;have hF6:Fz P B w w6:=⟨hg6.os.trans hF5.os,hg6.tape.trans hF5.tape,hg6.output.trans hF5.output,by omega,fun k hk a b=>(hg6.block k (by omega) (by simp;omega)).trans (hF5.block k hk a b)⟩;refine⟨⟨m',nn+1,s5,dset l t3 x5,_,by omega,by omega,by omega,by omega,by omega,h6,hF6,hMV6,?_,RepD.set (Rep.kept ?_ x5 hRep) l (RepD.kept ?_ l hD),HE2⟩,?_⟩
         ·intro a;rw[any_dset,← hkeys a]
          by_cases ha:a=t3
          ·rw[if_pos ha,beqB ha];rfl
          ·rw[if_neg ha,beqB' ha];rfl
         ·intro b hb;have hb1:=hb.1;have hb2:=hb.2;refine⟨⟨⟨by omega,by omega⟩,by omega⟩,hg6.block b hb2 (by simp;omega)⟩
         ·intro b hb;obtain⟨⟨hb1,hb2⟩,hb3⟩:=hb;exact⟨⟨⟨hb1,by omega⟩,hb3⟩,(hg6.block b (by omega) (by simp;omega)).trans (FX5.block b hb2 (by omega) (by omega))⟩
         ·rw[hA.kOf,h6.kOf];omega
        ·have HN:Hid (dictM E n s=.no y):=(unh HE1).trans (by simp[Rdr.then,q5]);refine (Post.noC (IH m' (by omega) _ E s4 (hG _ _ hw (hF.trans (by assumption))) ht h4 (by omega) (by omega)) q5).mono ?_;rintro e w5 ⟨rfl,F5⟩;exact⟨rfl,Post.no (unh HN) ((hF.trans F3a).trans F5)⟩
     ·have HN:Hid (dictM E n s=.no y):=(unh HE).trans (by simp[keysM_succ,Rdr.then,q2,hx,atM,q3]);clear HE hx
      go_wp2_with fail
      refine (Post.okC (next_any hA) q2).mono ?_;rintro e w2 ⟨v2,rfl,rfl,h2,F2⟩;have g1:=h2.c1
      go_wp2_with fail
      refine (Post.noC (name_any h2) q3).mono ?_;rintro e w3 ⟨rfl,F3⟩;exact⟨rfl,Post.no (unh HN) ((hF.trans F2).trans F3)⟩
   ·have HN:Hid (dictM E n s=.no y):=(unh HE).trans (by simp[keysM_succ,Rdr.then,q2]);clear HE
    go_wp2_with fail
    refine (Post.noC (next_any hA) q2).mono ?_;rintro e w2 ⟨rfl,F2⟩;exact⟨rfl,Post.no (unh HN) (hF.trans F2)⟩
 ·have HN:Hid (dictM E n s=.no y):=by show dictM E n s=_;simp[dictM,Rdr.then,q0,q1]
  go_wp2_with fail
  refine (Post.noC (word_any ⟨#[60,60]⟩ (by decide) h0) (show wordM E (bl ⟨#[60,60]⟩) s0=_ from q1)).mono ?_;rintro e w1 ⟨rfl,F1⟩;exact⟨rfl,Post.no (unh HN) (F0.trans F1)⟩
end
section
open Go.RowKit
attribute [local go_sem] Oper.semAt_some
variable {w w':World}{P B:Nat}{E:Env}{s s':St}{S:Nat->Prop}
def NumC (G:World->Prop) (P B:Nat):Prop:=∀ (w:World) (E:Env) (s:St),G w->E.tab=false->At w P B E s ->
 Calls Tryz.prog 151 #[.pointer (some ⟨P,0,none⟩)] w (Post P B E w (fun y v _=>v=.float .f64 (fb y.1 y.2.1 y.2.2)) (numM E s))
def zrow:Obj:=.cells #[.int .i64 0,.float .f64 0,.string ⟨#[]⟩,.int .i64 0,.slice none 0 0,.map none] 120
def isAg:TypeDesc->Bool
 | .struct _=>true
 | .array _ _=>true
 | _=>false
theorem Tryz.agV:(Tryz.prog.underlying 120).map isAg=some true:=by kernel_rfl
theorem isStruct {t:TypeId}(h:(Tryz.prog.underlying t).map isAg=some true):∃ d,Tryz.prog.underlying t=some d/\isAg d=true:=by
 rcases hu:Tryz.prog.underlying t with _|d
 ·rw[hu] at h;cases h
 ·rw[hu] at h;exact⟨d,rfl,Option.some.inj h⟩
theorem Fz.un_alloc {x:Obj}{W:World}(F:Fz P B (w.alloc x) W):Fz P B w W:=
 ⟨F.os,F.tape,F.output,by have:=F.size;simp at this;omega,fun k hk a b=>(F.block k (by simp;omega) a b).trans (Below.heap_alloc _ _ _ hk)⟩
theorem Fz.setRow {W:World}(F:Fz P B w W) (R:Nat) (cs:Array Value) (hR:w.heap.size<=R):Fz P B w (W.setRow R cs):=
 ⟨F.os,F.tape,F.output,by rw[setRow_size];exact F.size,fun k hk a b=>(setRow_other _ _ _ _ (by omega)).trans (F.block k hk a b)⟩
theorem At.setRow {W:World}(h:At W P B E s) (R:Nat) (cs:Array Value) (hR:R≠P/\R≠B/\R≠B+1):At (W.setRow R cs) P B E s:=
 h.of_blocks (fun k hk=>setRow_other _ _ _ _ (by omega))
theorem value_end {W:World}{x:Val}{cs:List Value}{o:Out Val}(hP:P<w.heap.size) (hPB:B+1<P) (F:Fz P B (w.alloc zrow) W) (hA:At W P B E s') (hr:Rep W (NewB (w.alloc zrow) W) x cs) (ho:o=.ok x s') :
  Post P B E w (VQ w) o (.returned (.agg cs.toArray)) (W.setRow w.heap.size cs.toArray):=by
 have hs:=F.size;simp at hs;refine Post.ok ho ⟨cs,rfl,Rep.kept (fun b hb=>?_) x hr⟩ (hA.setRow _ _ (by omega)) (F.un_alloc.setRow _ _ (Nat.le_refl _));have h1:=hb.1;have h2:=hb.2;simp at h1;exact⟨⟨by omega,by rw[setRow_size];exact h2⟩,setRow_other _ _ _ _ (by omega)⟩
theorem newB_mono {W W':World}{b:Nat}(F:Fz P B w W) (h:NewB W W' b):NewB w W' b:=⟨Nat.le_trans F.size h.1,h.2⟩
theorem zrow_kept {W:World}(hP:P<w.heap.size) (hPB:B+1<P) (F:Fz P B (w.alloc zrow) W):W.heap[w.heap.size]?=some zrow:=
 (F.block w.heap.size (by simp) (by omega) (by omega)).trans (heap_alloc_new w _)
set_option maxHeartbeats 4000000 in
set_option maxRecDepth 100000 in
theorem value_step {G:World->Prop}(hG:∀ w w',G w->Fz P B w w'->G w') (NC:NumC G P B) (n:Nat) (IH:∀ m,m<n+1->ValC G P B m):ValC G P B (n+1):=by
 intro w E s hw ht h ho hn;have hs9:=h.hs;have he9:=h.he;have hk9:=h.hk;have hPB:=h.lt;have hltP:=h.ltP;obtain⟨dV,hd1,hd2⟩:=isStruct Tryz.agV;have h0:At (w.alloc zrow) P B E s:=h.alloc zrow;have F0:Fz P B w (w.alloc zrow):=(Fz.refl _ _ _).alloc zrow
 go_enter Tryz.func130,Tryz.ntmps130
 rcases q1:nextM E s with⟨x,s1⟩|y
 ·obtain⟨nk,no,nne,hxx⟩:=nextM_inv q1;clear hxx
  go_wp2_with fail
  refine (Post.okC (next_any (show At (w.alloc (.cells #[.int .i64 0,.float .f64 0,.string ⟨#[]⟩,.int .i64 0,.slice none 0 0,.map none] 120)) P B E s from h0)) q1).mono ?_;rintro e w1 ⟨v1,rfl,rfl,h1,F1'⟩;have F1:Fz P B (w.alloc zrow) w1:=F1';have hk1:=h1.hk;have hG1:G w1:=hG _ _ hw F1.un_alloc;clear F1'
  by_cases x110:x=110
  ·subst x110
   rcases q2:wordM E [110,117,108,108] s1 with⟨u,s2⟩|y
   ·go_wp2_with fail
    refine (Post.okC (word_any ⟨#[110,117,108,108]⟩ (by decide) h1) (show wordM E (bl ⟨#[110,117,108,108]⟩) s1=_ from q2)).mono ?_;rintro e w2 ⟨v2,rfl,rfl,h2,F2⟩;have HN:Hid (valueM E (n+1) s=.ok .null s2):=by show valueM E (n+1) s=_;simp[valueM_succ,Rdr.then,q1,Rdr.ret,q2]
    have hzr:=zrow_kept hltP hPB (F1.trans F2);unfold zrow at hzr
    go_wp2_with (refine wpList_store_row rfl 120 _ _ rfl w.heap.size _ rfl rfl 120 _ hzr Tryz.sizeV rfl (one_six 1 0 ⟨#[]⟩ 0 none 0 0 none) ?_)
    refine bodyPost_ret (results_cell_row rfl _ _ w.heap.size 120 _ (0,0) dV rfl (setRow_heap _ _ _ _ _ _ hzr) hd1 (by cases dV <;> first | rfl | cases hd2) Tryz.sizeV) rfl ?_;exact value_end hltP hPB (F1.trans F2) h2 (by unfold Rep;rfl) (unh HN)
   ·have HN:Hid (valueM E (n+1) s=.no y):=by show valueM E (n+1) s=_;simp[valueM_succ,Rdr.then,q1,q2]
    go_wp2_with fail
    refine (Post.noC (word_any ⟨#[110,117,108,108]⟩ (by decide) h1) (show wordM E (bl ⟨#[110,117,108,108]⟩) s1=_ from q2)).mono ?_;rintro e w2 ⟨rfl,F2⟩;exact⟨rfl,Post.no (unh HN) (F1.trans F2).un_alloc⟩
  have i110:((x:Int)==110)=false:=beqI' x110
  by_cases x116:x=116
  ·subst x116
   rcases q2:wordM E [116,114,117,101] s1 with⟨u,s2⟩|y
   ·go_wp2_with fail
    refine (Post.okC (word_any ⟨#[116,114,117,101]⟩ (by decide) h1) (show wordM E (bl ⟨#[116,114,117,101]⟩) s1=_ from q2)).mono ?_;rintro e w2 ⟨v2,rfl,rfl,h2,F2⟩;have HN:Hid (valueM E (n+1) s=.ok .tru s2):=by show valueM E (n+1) s=_;simp[valueM_succ,Rdr.then,q1,Rdr.ret,q2]
    have hzr:=zrow_kept hltP hPB (F1.trans F2);unfold zrow at hzr
    go_wp2_with (refine wpList_store_row rfl 120 _ _ rfl w.heap.size _ rfl rfl 120 _ hzr Tryz.sizeV rfl (one_six 2 0 ⟨#[]⟩ 0 none 0 0 none) ?_)
    refine bodyPost_ret (results_cell_row rfl _ _ w.heap.size 120 _ (0,0) dV rfl (setRow_heap _ _ _ _ _ _ hzr) hd1 (by cases dV <;> first | rfl | cases hd2) Tryz.sizeV) rfl ?_;exact value_end hltP hPB (F1.trans F2) h2 (by unfold Rep;rfl) (unh HN)
   ·have HN:Hid (valueM E (n+1) s=.no y):=by show valueM E (n+1) s=_;simp[valueM_succ,Rdr.then,q1,q2]
    go_wp2_with fail
    refine (Post.noC (word_any ⟨#[116,114,117,101]⟩ (by decide) h1) (show wordM E (bl ⟨#[116,114,117,101]⟩) s1=_ from q2)).mono ?_;rintro e w2 ⟨rfl,F2⟩;exact⟨rfl,Post.no (unh HN) (F1.trans F2).un_alloc⟩
  have i116:((x:Int)==116)=false:=beqI' x116
  by_cases x102:x=102
  ·subst x102
   rcases q2:wordM E [102,97,108,115,101] s1 with⟨u,s2⟩|y
   ·go_wp2_with fail
    refine (Post.okC (word_any ⟨#[102,97,108,115,101]⟩ (by decide) h1) (show wordM E (bl ⟨#[102,97,108,115,101]⟩) s1=_ from q2)).mono ?_;rintro e w2 ⟨v2,rfl,rfl,h2,F2⟩;have HN:Hid (valueM E (n+1) s=.ok .fls s2):=by show valueM E (n+1) s=_;simp[valueM_succ,Rdr.then,q1,Rdr.ret,q2]
    have hzr:=zrow_kept hltP hPB (F1.trans F2);unfold zrow at hzr
    go_wp2_with (refine wpList_store_row rfl 120 _ _ rfl w.heap.size _ rfl rfl 120 _ hzr Tryz.sizeV rfl (one_six 3 0 ⟨#[]⟩ 0 none 0 0 none) ?_)
    refine bodyPost_ret (results_cell_row rfl _ _ w.heap.size 120 _ (0,0) dV rfl (setRow_heap _ _ _ _ _ _ hzr) hd1 (by cases dV <;> first | rfl | cases hd2) Tryz.sizeV) rfl ?_;exact value_end hltP hPB (F1.trans F2) h2 (by unfold Rep;rfl) (unh HN)
   ·have HN:Hid (valueM E (n+1) s=.no y):=by show valueM E (n+1) s=_;simp[valueM_succ,Rdr.then,q1,q2]
    go_wp2_with fail
    refine (Post.noC (word_any ⟨#[102,97,108,115,101]⟩ (by decide) h1) (show wordM E (bl ⟨#[102,97,108,115,101]⟩) s1=_ from q2)).mono ?_;rintro e w2 ⟨rfl,F2⟩;exact⟨rfl,Post.no (unh HN) (F1.trans F2).un_alloc⟩
  have i102:((x:Int)==102)=false:=beqI' x102
  by_cases x40:x=40
  ·subst x40
   rcases q2:textM E s1 with⟨t,s2⟩|y
   ·go_wp2_with fail
    refine (Post.okC (text_any h1) q2).mono ?_;rintro e w2 ⟨v2,rfl,rfl,h2,F2⟩;have HN:Hid (valueM E (n+1) s=.ok (.str t) s2):=by show valueM E (n+1) s=_;simp[valueM_succ,Rdr.then,q1,Rdr.ret,q2]
    have hzr:=zrow_kept hltP hPB (F1.trans F2);unfold zrow at hzr
    go_wp2_with (refine wpList_store_row rfl 120 _ _ rfl w.heap.size _ rfl rfl 120 _ hzr Tryz.sizeV rfl (one_six 5 0 t 0 none 0 0 none) ?_)
    refine bodyPost_ret (results_cell_row rfl _ _ w.heap.size 120 _ (0,0) dV rfl (setRow_heap _ _ _ _ _ _ hzr) hd1 (by cases dV <;> first | rfl | cases hd2) Tryz.sizeV) rfl ?_;exact value_end hltP hPB (F1.trans F2) h2 (by unfold Rep;rfl) (unh HN)
   ·have HN:Hid (valueM E (n+1) s=.no y):=by show valueM E (n+1) s=_;simp[valueM_succ,Rdr.then,q1,q2]
    go_wp2_with fail
    refine (Post.noC (text_any h1) q2).mono ?_;rintro e w2 ⟨rfl,F2⟩;exact⟨rfl,Post.no (unh HN) (F1.trans F2).un_alloc⟩
  have i40:((x:Int)==40)=false:=beqI' x40
  by_cases x47:x=47
  ·subst x47
   rcases q2:nameM E s1 with⟨t,s2⟩|y
   ·go_wp2_with fail
    refine (Post.okC (name_any h1) q2).mono ?_;rintro e w2 ⟨v2,rfl,rfl,h2,F2⟩;have HN:Hid (valueM E (n+1) s=.ok (.name t) s2):=by show valueM E (n+1) s=_;simp[valueM_succ,Rdr.then,q1,Rdr.ret,q2]
    have hzr:=zrow_kept hltP hPB (F1.trans F2);unfold zrow at hzr
    go_wp2_with (refine wpList_store_row rfl 120 _ _ rfl w.heap.size _ rfl rfl 120 _ hzr Tryz.sizeV rfl (one_six 6 0 t 0 none 0 0 none) ?_)
    refine bodyPost_ret (results_cell_row rfl _ _ w.heap.size 120 _ (0,0) dV rfl (setRow_heap _ _ _ _ _ _ hzr) hd1 (by cases dV <;> first | rfl | cases hd2) Tryz.sizeV) rfl ?_;exact value_end hltP hPB (F1.trans F2) h2 (by unfold Rep;rfl) (unh HN)
   ·have HN:Hid (valueM E (n+1) s=.no y):=by show valueM E (n+1) s=_;simp[valueM_succ,Rdr.then,q1,q2]
    go_wp2_with fail
    refine (Post.noC (name_any h1) q2).mono ?_;rintro e w2 ⟨rfl,F2⟩;exact⟨rfl,Post.no (unh HN) (F1.trans F2).un_alloc⟩
  have i47:((x:Int)==47)=false:=beqI' x47
  by_cases x64:x=64
  ·subst x64
   rcases q2:wordM E [64] s1 with⟨u,s2⟩|y
   ·go_wp2_with fail
    refine (Post.okC (word_any ⟨#[64]⟩ (by decide) h1) (show wordM E (bl ⟨#[64]⟩) s1=_ from q2)).mono ?_;rintro e w2 ⟨v2,rfl,rfl,h2,F2⟩
    rcases q3:wholeM E 4 s2 with⟨r,s3⟩|y
    ·go_wp2_with fail
     refine (Post.okC (whole_any 4 (by decide) (by decide) h2) q3).mono ?_;rintro e w3 ⟨v3,rfl,rfl,h3,F3⟩;have HN:Hid (valueM E (n+1) s=.ok (.ref r) s3):=by show valueM E (n+1) s=_;simp[valueM_succ,Rdr.then,q1,Rdr.ret,q2,q3]
     have hzr:=zrow_kept hltP hPB ((F1.trans F2).trans F3);unfold zrow at hzr
     go_wp2_with (refine wpList_store_row rfl 120 _ _ rfl w.heap.size _ rfl rfl 120 _ hzr Tryz.sizeV rfl (one_six 7 0 ⟨#[]⟩ r none 0 0 none) ?_)
     refine bodyPost_ret (results_cell_row rfl _ _ w.heap.size 120 _ (0,0) dV rfl (setRow_heap _ _ _ _ _ _ hzr) hd1 (by cases dV <;> first | rfl | cases hd2) Tryz.sizeV) rfl ?_;exact value_end hltP hPB ((F1.trans F2).trans F3) h3 (by unfold Rep;rfl) (unh HN)
    ·have HN:Hid (valueM E (n+1) s=.no y):=by show valueM E (n+1) s=_;simp[valueM_succ,Rdr.then,q1,q2,q3]
     go_wp2_with fail
     refine (Post.noC (whole_any 4 (by decide) (by decide) h2) q3).mono ?_;rintro e w3 ⟨rfl,F3⟩;exact⟨rfl,Post.no (unh HN) ((F1.trans F2).trans F3).un_alloc⟩
   ·have HN:Hid (valueM E (n+1) s=.no y):=by show valueM E (n+1) s=_;simp[valueM_succ,Rdr.then,q1,q2]
    go_wp2_with fail
    refine (Post.noC (word_any ⟨#[64]⟩ (by decide) h1) (show wordM E (bl ⟨#[64]⟩) s1=_ from q2)).mono ?_;rintro e w2 ⟨rfl,F2⟩;exact⟨rfl,Post.no (unh HN) (F1.trans F2).un_alloc⟩
  have i64:((x:Int)==64)=false:=beqI' x64
  by_cases x91:x=91
  ·subst x91
   rcases q2:arrayM E n s1 with⟨l,s2⟩|y
   ·go_wp2_with fail
    refine (Post.okC (elements_any hG n (fun m hm=>IH m (by omega)) hG1 ht h1 (by omega) (by omega)) q2).mono ?_;rintro e w2 ⟨v2,rfl,⟨xs,hrow,hown,hL⟩,h2,F2⟩;have HN:Hid (valueM E (n+1) s=.ok (.arr l) s2):=by show valueM E (n+1) s=_;simp[valueM_succ,Rdr.then,q1,Rdr.ret,q2]
    obtain⟨ao,cp,rfl⟩:=ownsRow_shape hrow;have hzr:=zrow_kept hltP hPB (F1.trans F2);unfold zrow at hzr
    go_wp2_with (refine wpList_store_row rfl 120 _ _ rfl w.heap.size _ rfl rfl 120 _ hzr Tryz.sizeV rfl (one_six 8 0 ⟨#[]⟩ 0 ao l.length cp none) ?_)
    refine bodyPost_ret (results_cell_row rfl _ _ w.heap.size 120 _ (0,0) dV rfl (setRow_heap _ _ _ _ _ _ hzr) hd1 (by cases dV <;> first | rfl | cases hd2) Tryz.sizeV) rfl ?_;exact value_end hltP hPB (F1.trans F2) h2 (by unfold Rep;exact⟨_,xs,rfl,hrow,fun g hg=>(newB_mono F1 (hown g hg)),RepL.kept (fun b hb=>⟨newB_mono F1 hb,rfl⟩) l hL⟩) (unh HN)
   ·have HN:Hid (valueM E (n+1) s=.no y):=by show valueM E (n+1) s=_;simp[valueM_succ,Rdr.then,q1,q2]
    go_wp2_with fail
    refine (Post.noC (elements_any hG n (fun m hm=>IH m (by omega)) hG1 ht h1 (by omega) (by omega)) q2).mono ?_;rintro e w2 ⟨rfl,F2⟩;exact⟨rfl,Post.no (unh HN) (F1.trans F2).un_alloc⟩
  have i91:((x:Int)==91)=false:=beqI' x91
  by_cases x60:x=60
  ·subst x60
   rcases q2:dictM E n s1 with⟨l,s2⟩|y
   ·go_wp2_with fail
    refine (Post.okC (keys_any hG n (fun m hm=>IH m (by omega)) hG1 ht h1 (by omega) (by omega)) q2).mono ?_;rintro e w2 ⟨v2,rfl,⟨M,nn,f,rfl,hM,hMV,hkeys,hD⟩,h2,F2⟩;have HN:Hid (valueM E (n+1) s=.ok (.dict l) s2):=by show valueM E (n+1) s=_;simp[valueM_succ,Rdr.then,q1,Rdr.ret,q2]
    have hzr:=zrow_kept hltP hPB (F1.trans F2);unfold zrow at hzr
    go_wp2_with (refine wpList_store_row rfl 120 _ _ rfl w.heap.size _ rfl rfl 120 _ hzr Tryz.sizeV rfl (one_six 9 0 ⟨#[]⟩ 0 none 0 0 (some M)) ?_)
    refine bodyPost_ret (results_cell_row rfl _ _ w.heap.size 120 _ (0,0) dV rfl (setRow_heap _ _ _ _ _ _ hzr) hd1 (by cases dV <;> first | rfl | cases hd2) Tryz.sizeV) rfl ?_;exact value_end hltP hPB (F1.trans F2) h2 (by unfold Rep;exact⟨M,nn,f,rfl,newB_mono F1 hM,hMV,hkeys,RepD.kept (fun b hb=>⟨newB_mono F1 hb,rfl⟩) l hD⟩) (unh HN)
   ·have HN:Hid (valueM E (n+1) s=.no y):=by show valueM E (n+1) s=_;simp[valueM_succ,Rdr.then,q1,q2]
    go_wp2_with fail
    refine (Post.noC (keys_any hG n (fun m hm=>IH m (by omega)) hG1 ht h1 (by omega) (by omega)) q2).mono ?_;rintro e w2 ⟨rfl,F2⟩;exact⟨rfl,Post.no (unh HN) (F1.trans F2).un_alloc⟩
  have i60:((x:Int)==60)=false:=beqI' x60
  rcases q2:numM E s1 with⟨y2,s2⟩|y
  ·go_wp2_with fail
   refine (Post.okC (NC w1 E s1 hG1 ht h1) q2).mono ?_;rintro e w2 ⟨v2,rfl,rfl,h2,F2⟩;have HN:Hid (valueM E (n+1) s=.ok (.num y2.1 y2.2.1 y2.2.2) s2):=by show valueM E (n+1) s=_;simp[valueM_succ,Rdr.then,q1,Rdr.ret,q2,x110,x116,x102,x40,x47,x64,x91,x60]
   have hzr:=zrow_kept hltP hPB (F1.trans F2);unfold zrow at hzr
   go_wp2_with (refine wpList_store_row rfl 120 _ _ rfl w.heap.size _ rfl rfl 120 _ hzr Tryz.sizeV rfl (one_six 4 (fb y2.1 y2.2.1 y2.2.2) ⟨#[]⟩ 0 none 0 0 none) ?_)
   refine bodyPost_ret (results_cell_row rfl _ _ w.heap.size 120 _ (0,0) dV rfl (setRow_heap _ _ _ _ _ _ hzr) hd1 (by cases dV <;> first | rfl | cases hd2) Tryz.sizeV) rfl ?_;exact value_end hltP hPB (F1.trans F2) h2 (by unfold Rep;rfl) (unh HN)
  ·have HN:Hid (valueM E (n+1) s=.no y):=by show valueM E (n+1) s=_;simp[valueM_succ,Rdr.then,q1,q2,x110,x116,x102,x40,x47,x64,x91,x60]
   go_wp2_with fail
   refine (Post.noC (NC w1 E s1 hG1 ht h1) q2).mono ?_;rintro e w2 ⟨rfl,F2⟩;exact⟨rfl,Post.no (unh HN) (F1.trans F2).un_alloc⟩
 ·have HN:Hid (valueM E (n+1) s=.no y):=by show valueM E (n+1) s=_;simp[valueM_succ,Rdr.then,q1]
  go_wp2_with fail
  refine (Post.noC (next_any (show At (w.alloc (.cells #[.int .i64 0,.float .f64 0,.string ⟨#[]⟩,.int .i64 0,.slice none 0 0,.map none] 120)) P B E s from h0)) q1).mono ?_;rintro e w1 ⟨rfl,F1⟩;exact⟨rfl,Post.no (unh HN) (Fz.un_alloc F1)⟩
end
end Go.Proofs.YtgffljllfenhkaaGreatDoor
