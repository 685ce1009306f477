import Derived.Deep.DeepCutAuto
import Derived.WalkMore
import Derived.Test.YtgffljllfenhkaaGreatDoorGwaj
namespace Go.Proofs.YtgffljllfenhkaaGreatDoor
section
open Go.RowKit
theorem NumTx.all {s:ByteArray}{neg:Bool}{ni nf:Nat}(h:NumTx s neg ni nf) (i:Nat) (h1:neg.toNat<=i) (h2:i<s.size):46<=bt s i/\bt s i<=57:=by
 have hsz:=h.size
 by_cases hi:i<neg.toNat+ni
 ·have:=h.di (i-neg.toNat) (by omega);rw[show neg.toNat+(i-neg.toNat)=i by omega] at this;omega
 ·by_cases hf:nf=0
  ·rw[if_pos hf] at hsz;omega
  ·rw[if_neg hf] at hsz
   by_cases he:i=neg.toNat+ni
   ·have:=h.pt hf;rw[he];omega
   ·have:=h.df (i-(neg.toNat+ni+1)) (by omega);rw[show neg.toNat+ni+1+(i-(neg.toNat+ni+1))=i by omega] at this;omega
theorem NumTx.len {s:ByteArray}{neg:Bool}{ni nf:Nat}(h:NumTx s neg ni nf):s.size<=11/\neg.toNat<s.size:=by
 have hsz:=h.size;have h1:=h.i1;have h2:=h.i2;have h3:=h.f2;have:neg.toNat<=1:=by cases neg <;> simp
 split at hsz <;> omega
theorem or32 (c:Nat) (h1:46<=c) (h2:c<=57):bits .or .u8 (c:Int) 32=(c:Int):=by
 have h:∀ i:Fin 12,bits .or .u8 ((46+i.1:Nat):Int) 32=((46+i.1:Nat):Int):=by decide
 have:=h ⟨c-46,by omega⟩;rw[show 46+(⟨c-46,by omega⟩:Fin 12).1=c by simp;omega] at this;exact this
theorem results_tmp7 {fn:Func}{t0 t1 t2 t3 t4 t5 t6:Tmp}(h:fn.results=#[.tmp t0,.tmp t1,.tmp t2,.tmp t3,.tmp t4,.tmp t5,.tmp t6]) (tmps:Array Value) (P:Program) (w:World) :
  (results fn tmps).run P w=.ok (.tuple #[tmps.getD t0 undef,tmps.getD t1 undef,tmps.getD t2 undef,tmps.getD t3 undef,tmps.getD t4 undef,tmps.getD t5 undef,tmps.getD t6 undef]) w:=by
 simp[results,h]
set_option maxHeartbeats 4000000 in
set_option maxRecDepth 100000 in
theorem readFloat_pos (w:World) (s:ByteArray) (neg:Bool) (hneg:neg=false) (ni nf:Nat) (hN:NumTx s neg ni nf) :
  Calls Tryz.prog 253 #[.string s] w fun e w'=>e=.returned (.tuple #[.int .u64 ((vF s neg.toNat ni nf:Nat):Int),.int .i64 (if vF s neg.toNat ni nf=0 then 0 else -(nf:Int)),.bool neg,.bool false,.bool false,.int .i64 (s.size:Int),.bool true])/\w.grownBy w' none:=by
 obtain⟨hl1,hl2⟩:=hN.len;have hge:¬ (s.size:Int)<=0:=by omega
 have hsz0:¬ s.size=0:=by omega
 obtain⟨ex,hex⟩:∃ ex:Int,(if vF s neg.toNat ni nf=0 then 0 else -(nf:Int))=ex:=⟨_,rfl⟩;obtain⟨M,hM⟩:∃ M,vF s neg.toNat ni nf=M:=⟨_,rfl⟩;rw[hex,hM];rw[hM] at hex;have HEX:=hid hex;have HM:=hid hM;clear hex hM
 go_enter Tryz.func253,Tryz.ntmps253
 subst hneg;have hb:=hN.all 0 (by simp) (by omega);obtain⟨c,hc⟩:∃ c,bt s 0=c:=⟨_,rfl⟩;have x0:∀ w,(Instr.index 9 (.string s) (.int .i64 0)).run Tryz.prog w=.ok (.int .u8 (c:Int)) w:=fun w=>by rw[← hc];exact str_index s 0 (by omega) w
 rw[hc] at hb;have e1:((c:Int)==43)=false:=by rw[beq_eq_false_iff_ne];omega
 have e2:((c:Int)==45)=false:=by rw[beq_eq_false_iff_ne];omega
 go_wp2_with fail
 go_step3
 go_upto_region 12 with fail
 go_cut [54] (fun v wx=>v=.bool false/\wx=w)
 case first=>
  by_cases h3:(2:Nat)<s.size
  ·have h3I:(2:Int)<(s.size:Int):=by omega
   have hb1:=hN.all 1 (by simp) (by omega);obtain⟨c1,hc1⟩:∃ c,bt s 1=c:=⟨_,rfl⟩;have x1:∀ w,(Instr.index 9 (.string s) (.int .i64 1)).run Tryz.prog w=.ok (.int .u8 (c1:Int)) w:=fun w=>by rw[← hc1];exact str_index s 1 (by omega) w
   rw[hc1] at hb1;have h32:=or32 c1 hb1.1 hb1.2;have e3:((c1:Int)==120)=false:=by rw[beq_eq_false_iff_ne];omega
   by_cases hz:c=48
   ·have e4:((c:Int)==48)=true:=by rw[hz];rfl
    clear hz hc
    go_wp2_with (go_at_call 226;refine (Tryz.internal_strconv_lower _ _).mono ?_;rintro e w1 ⟨rfl,rfl⟩)
    go_meet
    case rel=>exact⟨rfl,rfl⟩
   ·have e4:((c:Int)==48)=false:=by rw[beq_eq_false_iff_ne];omega
    go_wp2_with fail
    go_meet
    case rel=>exact⟨rfl,rfl⟩
  ·have h3I:¬ (2:Int)<(s.size:Int):=by omega
   go_wp2_with fail
   go_meet
   case rel=>exact⟨rfl,rfl⟩
 case rest=>
  obtain⟨rfl,rfl⟩:=hcut
  go_wp2_with fail
  go_step3
  go_wp2_with fail
  clear x0
  go_loop [2,5,7,9,13,14,15,16,17] (fun va v5 vb v9 vc vd ve vf vg=>∃ (i t mant nd:Nat) (dp:Int) (dot:Bool),v5=.bool false/\v9=.bool false/\va=.int .u64 (mant:Int)/\vb=.int .i64 (i:Int)/\vc=.bool dot/\vd=.bool (decide (0<t))/\ve=.int .i64 (nd:Int)/\vf=.int .i64 (nd:Int)/\vg=.int .i64 dp/\i=0+t/\i<=s.size/\RdS s false ni nf t mant nd dp dot)
   (fun _ _ vb _ _ _ _ _ _=>s.size-(intOf vb).toNat)
  case atStart=>exact⟨0,0,0,0,0,false,rfl,rfl,rfl,rfl,rfl,rfl,rfl,rfl,rfl,rfl,by omega,.inl ⟨by omega,rfl,rfl,by omega,by omega,by omega,by omega⟩⟩
  case round=>
   obtain⟨i,t,mant,nd,dp,dot,rfl,rfl,rfl,rfl,rfl,rfl,rfl,rfl,rfl,hit,his,hR⟩:=hrel;have HIT:=hid hit
   by_cases hend:i<s.size
   ·have hendI:(i:Int)<(s.size:Int):=by omega
    have hidx:=str_index s i hend;have hsz:=hN.size;have hni:=hN.i1;have htn:(false:Bool).toNat=0:=rfl
    by_cases hpt:t=ni
    ·have hnf:nf≠0:=by
      intro e;rw[if_pos e] at hsz;omega
     have hb46:bt s i=46:=by have:=hN.pt hnf;rw[htn] at this;rw[hit,hpt];exact this
     rw[hb46] at hidx;subst hpt;obtain⟨hdot,hR2⟩:=hR.point hnf;subst hdot;have HR:=hid hR2;have h0t:decide (0<t)=true:=by simp;omega
     clear hR hR2 hit hb46 hsz
     go_wp2_with fail
     exact⟨⟨i+1,t+1,mant,nd,(nd:Int),true,rfl,rfl,rfl,by go_num,rfl,by simp;omega,rfl,rfl,rfl,by have:=unh HIT;omega,by omega,unh HR⟩,by simp[intOf];omega⟩
    ·have hd:t<ni\/(∃ u,u<nf/\t=ni+1+u):=by
      rcases hR with⟨h1,_⟩|⟨u,hu,hnf,ht,_⟩
      ·left;omega
      ·right;refine⟨u,?_,ht⟩;rw[if_neg hnf] at hsz;omega
     obtain⟨d1,d2,hm9,hn9,Z,NZ⟩:=hR.digit hN hd
     have hdpb:-20<=dp/\dp<=20:=by
      have:=hN.i2;have:=hN.f2
      rcases hR with⟨_,_,_,_,_,h6,h7⟩|⟨u,hu,_,_,_,_,h4,_,h6⟩ <;> omega
     have hw64:wrap64 (dp-1)=dp-1:=by unfold wrap64;omega
     rw[htn,← hit] at d1 d2 Z NZ;obtain⟨c,hc⟩:∃ c,bt s i=c:=⟨_,rfl⟩;rw[hc] at hidx d1 d2 Z NZ;have e95:((c:Int)==95)=false:=by rw[beq_eq_false_iff_ne];omega
     have e46:((c:Int)==46)=false:=by rw[beq_eq_false_iff_ne];omega
     have l48:(48:Int)<=(c:Int):=by omega
     have l57:(c:Int)<=57:=by omega
     have ltn:(nd:Int)<19:=by omega
     clear hR hd hit hc hsz hpt
     by_cases hcz:c=48
     ·have e48:((c:Int)==48)=true:=by rw[hcz];rfl
      by_cases hnz:nd=0
      ·have en0:((nd:Int)==0)=true:=by rw[hnz];rfl
       have HR:=hid (Z hcz hnz);clear Z NZ hcz hnz
       go_wp2_with fail
       exact⟨⟨i+1,t+1,mant,nd,dp-1,dot,rfl,rfl,rfl,by go_num,rfl,by simp,rfl,rfl,by first | rfl | rw[hw64],by have:=unh HIT;omega,by omega,unh HR⟩,by simp[intOf];omega⟩
      ·have en0:((nd:Int)==0)=false:=by rw[beq_eq_false_iff_ne];omega
       have HR:=hid (NZ (fun e=>hnz e.2));clear Z NZ hcz hnz
       go_wp2_with fail
       exact⟨⟨i+1,t+1,10*mant+(c-48),nd+1,dp,dot,rfl,rfl,congrArg (Value.int .u64) (by omega),by go_num,rfl,by simp,by go_num,by go_num,rfl,by have:=unh HIT;omega,by omega,unh HR⟩,by simp[intOf];omega⟩
     ·have e48:((c:Int)==48)=false:=by rw[beq_eq_false_iff_ne];omega
      have HR:=hid (NZ (fun e=>hcz e.1));clear Z NZ hcz
      go_wp2_with fail
      exact⟨⟨i+1,t+1,10*mant+(c-48),nd+1,dp,dot,rfl,rfl,congrArg (Value.int .u64) (by omega),by go_num,rfl,by simp,by go_num,by go_num,rfl,by have:=unh HIT;omega,by omega,unh HR⟩,by simp[intOf];omega⟩
   ·have hendI:¬ (i:Int)<(s.size:Int):=by omega
    have hsz:=hN.size;have htn:(false:Bool).toNat=0:=rfl;have hni:=hN.i1;have hie:i=s.size:=by omega
    have h0t:decide (0<t)=true:=by simp;split at hsz <;> omega
    have KEY:mant=M/\(if M=0 then (0:Int) else (if dot then dp else (nd:Int))-(nd:Int))=ex/\-20<=dp/\dp<=20/\nd<=9:=by
     have hM:=unh HM;have hE:=unh HEX;have:=hN.i2;have:=hN.f2
     rcases hR with⟨h1,h2,h3,h4,h5,h6,h7⟩|⟨u,hu,hnf,ht,h2,h3,h4,h5,h6⟩
     ·have hf0:nf=0:=by by_cases hf:nf=0;exact hf;rw[if_neg hf] at hsz;omega
      have ht:t=ni:=by rw[if_pos hf0] at hsz;omega
      subst hf0;have:mant=M:=by rw[h3,ht,← hM];rfl
      refine⟨this,?_,by omega,by omega,by omega⟩;rw[h2,← hE];simp
     ·rw[if_neg hnf] at hsz;have hu':u=nf:=by omega
      subst hu';have:mant=M:=by rw[h3,hM]
      refine⟨this,?_,by omega,by omega,by omega⟩;rw[h2,← hE];split
      ·rfl
      ·simp;omega
    obtain⟨rfl,hex2,hb1,hb2,hb3⟩:=KEY;have HX:=hid hex2;clear hR hsz hit hex2 HEX HM;cases dot with
    | false=>
     by_cases hm0:mant=0
     ·have em:((mant:Int) != 0)=false:=by rw[hm0];rfl
      have hx:ex=0:=by have:=unh HX;rw[if_pos hm0] at this;exact this.symm
      subst hx;clear HX hm0
      go_wp2_with fail
      (try simp only[Exit.inBlock,Exit.then])
      refine bodyPost_ret (results_tmp7 rfl _ _ _) rfl ?_;exact⟨by first | rfl | rw[hie],by first | exact grownBy_refl _ _ | exact hgw⟩
     ·have em:((mant:Int) != 0)=true:=by simp;omega
      have hx:(nd:Int)-(nd:Int)=ex:=by have:=unh HX;rw[if_neg hm0] at this;simpa using this
      clear HX hm0
      go_wp2_with fail
      (try simp only[Exit.inBlock,Exit.then])
      refine bodyPost_ret (results_tmp7 rfl _ _ _) rfl ?_;exact⟨by first | rfl | rw[hie],by first | exact grownBy_refl _ _ | exact hgw⟩
    | true=>
     by_cases hm0:mant=0
     ·have em:((mant:Int) != 0)=false:=by rw[hm0];rfl
      have hx:ex=0:=by have:=unh HX;rw[if_pos hm0] at this;exact this.symm
      subst hx;clear HX hm0
      go_wp2_with fail
      (try simp only[Exit.inBlock,Exit.then])
      refine bodyPost_ret (results_tmp7 rfl _ _ _) rfl ?_;exact⟨by first | rfl | rw[hie],by first | exact grownBy_refl _ _ | exact hgw⟩
     ·have em:((mant:Int) != 0)=true:=by simp;omega
      have hx:dp-(nd:Int)=ex:=by have:=unh HX;rw[if_neg hm0] at this;simpa using this
      clear HX hm0
      go_wp2_with fail
      (try simp only[Exit.inBlock,Exit.then])
      refine bodyPost_ret (results_tmp7 rfl _ _ _) rfl ?_;exact⟨by first | rfl | rw[hie],by first | exact grownBy_refl _ _ | exact hgw⟩
end
section
open Go.RowKit
set_option maxHeartbeats 4000000 in
set_option maxRecDepth 100000 in
theorem readFloat_neg (w:World) (s:ByteArray) (neg:Bool) (hneg:neg=true) (ni nf:Nat) (hN:NumTx s neg ni nf) :
  Calls Tryz.prog 253 #[.string s] w fun e w'=>e=.returned (.tuple #[.int .u64 ((vF s neg.toNat ni nf:Nat):Int),.int .i64 (if vF s neg.toNat ni nf=0 then 0 else -(nf:Int)),.bool neg,.bool false,.bool false,.int .i64 (s.size:Int),.bool true])/\w.grownBy w' none:=by
 obtain⟨hl1,hl2⟩:=hN.len;have hge:¬ (s.size:Int)<=0:=by omega
 have hsz0:¬ s.size=0:=by omega
 obtain⟨ex,hex⟩:∃ ex:Int,(if vF s neg.toNat ni nf=0 then 0 else -(nf:Int))=ex:=⟨_,rfl⟩;obtain⟨M,hM⟩:∃ M,vF s neg.toNat ni nf=M:=⟨_,rfl⟩;rw[hex,hM];rw[hM] at hex;have HEX:=hid hex;have HM:=hid hM;clear hex hM
 go_enter Tryz.func253,Tryz.ntmps253
 subst hneg;have hb0:=hN.sg rfl;have x00:∀ w,(Instr.index 9 (.string s) (.int .i64 0)).run Tryz.prog w=.ok (.int .u8 45) w:=fun w=>by have:=str_index s 0 (by omega) w;rw[hb0] at this;exact this
 have hl2':1<s.size:=hl2;have hb:=hN.all 1 (by simp) (by omega);obtain⟨c,hc⟩:∃ c,bt s 1=c:=⟨_,rfl⟩;have x0:∀ w,(Instr.index 9 (.string s) (.int .i64 1)).run Tryz.prog w=.ok (.int .u8 (c:Int)) w:=fun w=>by rw[← hc];exact str_index s 1 (by omega) w
 rw[hc] at hb
 go_wp2_with fail
 go_step3
 go_upto_region 12 with fail
 go_cut [54] (fun v wx=>v=.bool false/\wx=w)
 case first=>
  by_cases h3:(3:Nat)<s.size
  ·have h3I:(3:Int)<(s.size:Int):=by omega
   have hb1:=hN.all 2 (by simp) (by omega);obtain⟨c1,hc1⟩:∃ c,bt s 2=c:=⟨_,rfl⟩;have x1:∀ w,(Instr.index 9 (.string s) (.int .i64 2)).run Tryz.prog w=.ok (.int .u8 (c1:Int)) w:=fun w=>by rw[← hc1];exact str_index s 2 (by omega) w
   rw[hc1] at hb1;have h32:=or32 c1 hb1.1 hb1.2;have e3:((c1:Int)==120)=false:=by rw[beq_eq_false_iff_ne];omega
   by_cases hz:c=48
   ·have e4:((c:Int)==48)=true:=by rw[hz];rfl
    clear hz hc
    go_wp2_with (go_at_call 226;refine (Tryz.internal_strconv_lower _ _).mono ?_;rintro e w1 ⟨rfl,rfl⟩)
    go_meet
    case rel=>exact⟨rfl,rfl⟩
   ·have e4:((c:Int)==48)=false:=by rw[beq_eq_false_iff_ne];omega
    go_wp2_with fail
    go_meet
    case rel=>exact⟨rfl,rfl⟩
  ·have h3I:¬ (3:Int)<(s.size:Int):=by omega
   go_wp2_with fail
   go_meet
   case rel=>exact⟨rfl,rfl⟩
 case rest=>
  obtain⟨rfl,rfl⟩:=hcut
  go_wp2_with fail
  go_step3
  go_wp2_with fail
  clear x0
  go_loop [2,5,7,9,13,14,15,16,17] (fun va v5 vb v9 vc vd ve vf vg=>∃ (i t mant nd:Nat) (dp:Int) (dot:Bool),v5=.bool false/\v9=.bool false/\va=.int .u64 (mant:Int)/\vb=.int .i64 (i:Int)/\vc=.bool dot/\vd=.bool (decide (0<t))/\ve=.int .i64 (nd:Int)/\vf=.int .i64 (nd:Int)/\vg=.int .i64 dp/\i=1+t/\i<=s.size/\RdS s true ni nf t mant nd dp dot)
   (fun _ _ vb _ _ _ _ _ _=>s.size-(intOf vb).toNat)
  case atStart=>exact⟨1,0,0,0,0,false,rfl,rfl,rfl,rfl,rfl,rfl,rfl,rfl,rfl,rfl,by omega,.inl ⟨by omega,rfl,rfl,by omega,by omega,by omega,by omega⟩⟩
  case round=>
   obtain⟨i,t,mant,nd,dp,dot,rfl,rfl,rfl,rfl,rfl,rfl,rfl,rfl,rfl,hit,his,hR⟩:=hrel;have HIT:=hid hit
   by_cases hend:i<s.size
   ·have hendI:(i:Int)<(s.size:Int):=by omega
    have hidx:=str_index s i hend;have hsz:=hN.size;have hni:=hN.i1;have htn:(true:Bool).toNat=1:=rfl
    by_cases hpt:t=ni
    ·have hnf:nf≠0:=by
      intro e;rw[if_pos e] at hsz;omega
     have hb46:bt s i=46:=by have:=hN.pt hnf;rw[htn] at this;rw[hit,hpt];exact this
     rw[hb46] at hidx;subst hpt;obtain⟨hdot,hR2⟩:=hR.point hnf;subst hdot;have HR:=hid hR2;have h0t:decide (0<t)=true:=by simp;omega
     clear hR hR2 hit hb46 hsz
     go_wp2_with fail
     exact⟨⟨i+1,t+1,mant,nd,(nd:Int),true,rfl,rfl,rfl,by go_num,rfl,by simp;omega,rfl,rfl,rfl,by have:=unh HIT;omega,by omega,unh HR⟩,by simp[intOf];omega⟩
    ·have hd:t<ni\/(∃ u,u<nf/\t=ni+1+u):=by
      rcases hR with⟨h1,_⟩|⟨u,hu,hnf,ht,_⟩
      ·left;omega
      ·right;refine⟨u,?_,ht⟩;rw[if_neg hnf] at hsz;omega
     obtain⟨d1,d2,hm9,hn9,Z,NZ⟩:=hR.digit hN hd
     have hdpb:-20<=dp/\dp<=20:=by
      have:=hN.i2;have:=hN.f2
      rcases hR with⟨_,_,_,_,_,h6,h7⟩|⟨u,hu,_,_,_,_,h4,_,h6⟩ <;> omega
     have hw64:wrap64 (dp-1)=dp-1:=by unfold wrap64;omega
     rw[htn,← hit] at d1 d2 Z NZ;obtain⟨c,hc⟩:∃ c,bt s i=c:=⟨_,rfl⟩;rw[hc] at hidx d1 d2 Z NZ;have e95:((c:Int)==95)=false:=by rw[beq_eq_false_iff_ne];omega
     have e46:((c:Int)==46)=false:=by rw[beq_eq_false_iff_ne];omega
     have l48:(48:Int)<=(c:Int):=by omega
     have l57:(c:Int)<=57:=by omega
     have ltn:(nd:Int)<19:=by omega
     clear hR hd hit hc hsz hpt
     by_cases hcz:c=48
     ·have e48:((c:Int)==48)=true:=by rw[hcz];rfl
      by_cases hnz:nd=0
      ·have en0:((nd:Int)==0)=true:=by rw[hnz];rfl
       have HR:=hid (Z hcz hnz);clear Z NZ hcz hnz
       go_wp2_with fail
       exact⟨⟨i+1,t+1,mant,nd,dp-1,dot,rfl,rfl,rfl,by go_num,rfl,by simp,rfl,rfl,by first | rfl | rw[hw64],by have:=unh HIT;omega,by omega,unh HR⟩,by simp[intOf];omega⟩
      ·have en0:((nd:Int)==0)=false:=by rw[beq_eq_false_iff_ne];omega
       have HR:=hid (NZ (fun e=>hnz e.2));clear Z NZ hcz hnz
       go_wp2_with fail
       exact⟨⟨i+1,t+1,10*mant+(c-48),nd+1,dp,dot,rfl,rfl,congrArg (Value.int .u64) (by omega),by go_num,rfl,by simp,by go_num,by go_num,rfl,by have:=unh HIT;omega,by omega,unh HR⟩,by simp[intOf];omega⟩
     ·have e48:((c:Int)==48)=false:=by rw[beq_eq_false_iff_ne];omega
      have HR:=hid (NZ (fun e=>hcz e.1));clear Z NZ hcz
      go_wp2_with fail
      exact⟨⟨i+1,t+1,10*mant+(c-48),nd+1,dp,dot,rfl,rfl,congrArg (Value.int .u64) (by omega),by go_num,rfl,by simp,by go_num,by go_num,rfl,by have:=unh HIT;omega,by omega,unh HR⟩,by simp[intOf];omega⟩
   ·have hendI:¬ (i:Int)<(s.size:Int):=by omega
    have hsz:=hN.size;have htn:(true:Bool).toNat=1:=rfl;have hni:=hN.i1;have hie:i=s.size:=by omega
    have h0t:decide (0<t)=true:=by simp;split at hsz <;> omega
    have KEY:mant=M/\(if M=0 then (0:Int) else (if dot then dp else (nd:Int))-(nd:Int))=ex/\-20<=dp/\dp<=20/\nd<=9:=by
     have hM:=unh HM;have hE:=unh HEX;have:=hN.i2;have:=hN.f2
     rcases hR with⟨h1,h2,h3,h4,h5,h6,h7⟩|⟨u,hu,hnf,ht,h2,h3,h4,h5,h6⟩
     ·have hf0:nf=0:=by by_cases hf:nf=0;exact hf;rw[if_neg hf] at hsz;omega
      have ht:t=ni:=by rw[if_pos hf0] at hsz;omega
      subst hf0;have:mant=M:=by rw[h3,ht,← hM];rfl
      refine⟨this,?_,by omega,by omega,by omega⟩;rw[h2,← hE];simp
     ·rw[if_neg hnf] at hsz;have hu':u=nf:=by omega
      subst hu';have:mant=M:=by rw[h3,hM]
      refine⟨this,?_,by omega,by omega,by omega⟩;rw[h2,← hE];split
      ·rfl
      ·simp;omega
    obtain⟨rfl,hex2,hb1,hb2,hb3⟩:=KEY;have HX:=hid hex2;clear hR hsz hit hex2 HEX HM;cases dot with
    | false=>
     by_cases hm0:mant=0
     ·have em:((mant:Int) != 0)=false:=by rw[hm0];rfl
      have hx:ex=0:=by have:=unh HX;rw[if_pos hm0] at this;exact this.symm
      subst hx;clear HX hm0
      go_wp2_with fail
      (try simp only[Exit.inBlock,Exit.then])
      refine bodyPost_ret (results_tmp7 rfl _ _ _) rfl ?_;exact⟨by first | rfl | rw[hie],by first | exact grownBy_refl _ _ | exact hgw⟩
     ·have em:((mant:Int) != 0)=true:=by simp;omega
      have hx:(nd:Int)-(nd:Int)=ex:=by have:=unh HX;rw[if_neg hm0] at this;simpa using this
      clear HX hm0
      go_wp2_with fail
      (try simp only[Exit.inBlock,Exit.then])
      refine bodyPost_ret (results_tmp7 rfl _ _ _) rfl ?_;exact⟨by first | rfl | rw[hie],by first | exact grownBy_refl _ _ | exact hgw⟩
    | true=>
     by_cases hm0:mant=0
     ·have em:((mant:Int) != 0)=false:=by rw[hm0];rfl
      have hx:ex=0:=by have:=unh HX;rw[if_pos hm0] at this;exact this.symm
      subst hx;clear HX hm0
      go_wp2_with fail
      (try simp only[Exit.inBlock,Exit.then])
      refine bodyPost_ret (results_tmp7 rfl _ _ _) rfl ?_;exact⟨by first | rfl | rw[hie],by first | exact grownBy_refl _ _ | exact hgw⟩
     ·have em:((mant:Int) != 0)=true:=by simp;omega
      have hx:dp-(nd:Int)=ex:=by have:=unh HX;rw[if_neg hm0] at this;simpa using this
      clear HX hm0
      go_wp2_with fail
      (try simp only[Exit.inBlock,Exit.then])
      refine bodyPost_ret (results_tmp7 rfl _ _ _) rfl ?_;exact⟨by first | rfl | rw[hie],by first | exact grownBy_refl _ _ | exact hgw⟩
end
section
open Go.RowKit
structure FT (T:Nat) (w:World):Prop where
 opt:w.cell? ⟨11,0,none⟩=some (.bool true)
 info:w.cell? ⟨19,0,none⟩=some (.int .u64 52)
 tab:∃ (a:Addr) (cap:Nat),a.block=T/\w.cell? ⟨22,0,none⟩=some (.slice (some a) 23 cap)/\∀ k,1<=k->k<=3->w.cell? (a.add k)=some (.float .f64 (pw k))
set_option maxHeartbeats 1000000 in
theorem cpl_zero (w:World) (t:ByteArray) (h:1<=t.size) (h1:48<=bt t 0) (h2:bt t 0<=57) :
  Calls Tryz.prog 264 #[.string t,.string ⟨#[105,110,102,105,110,105,116,121]⟩] w fun e w'=>e=.returned (.int .i64 0)/\w=w':=by
 obtain⟨c,hc⟩:∃ c,bt t 0=c:=⟨_,rfl⟩;have x0:∀ w,(Instr.index 9 (.string t) (.int .i64 0)).run Tryz.prog w=.ok (.int .u8 (c:Int)) w:=fun w=>by rw[← hc];exact str_index t 0 (by omega) w
 have x1:∀ w,(Instr.index 9 (.string ⟨#[105,110,102,105,110,105,116,121]⟩) (.int .i64 0)).run Tryz.prog w=.ok (.int .u8 105) w:=fun w=>str_index ⟨#[105,110,102,105,110,105,116,121]⟩ 0 (by decide) w
 rw[hc] at h1 h2;have hmin:(0:Int)<min 8 (t.size:Int):=by omega
 have i1:decide ((65:Int)<=(c:Int))=false:=by simp;omega
 have i1':¬ (65:Int)<=(c:Int):=by omega
 have i2:((c:Int)==105)=false:=by rw[beq_eq_false_iff_ne];omega
 have i2':((c:Int) != 105)=true:=by rw[bne,i2];rfl
 clear hc h1 h2
 go_enter Tryz.func264,Tryz.ntmps264
 go_wp2_with fail
 go_loop [6] (fun v=>v=.int .i64 0) (fun _=>0)
 case atStart=>rfl
 case round=>
  subst hrel
  go_wp2_with fail
  go_ret
  exact⟨rfl,rfl⟩
set_option maxHeartbeats 1000000 in
theorem special_pos (w:World) (s:ByteArray) (h:1<=s.size) (h1:48<=bt s 0) (h2:bt s 0<=57) :
  Calls Tryz.prog 252 #[.string s] w fun e w'=>e=.returned (.tuple #[.float .f64 0,.int .i64 0,.bool false])/\w=w':=by
 obtain⟨c,hc⟩:∃ c,bt s 0=c:=⟨_,rfl⟩;have x0:∀ w,(Instr.index 9 (.string s) (.int .i64 0)).run Tryz.prog w=.ok (.int .u8 (c:Int)) w:=fun w=>by rw[← hc];exact str_index s 0 (by omega) w
 rw[hc] at h1 h2;have hz:((s.size:Int)==0)=false:=by rw[beq_eq_false_iff_ne];omega
 have hz':¬ s.size=0:=by omega
 have i1:((c:Int)==43)=false:=by rw[beq_eq_false_iff_ne];omega
 have i2:((c:Int)==45)=false:=by rw[beq_eq_false_iff_ne];omega
 have i3:((c:Int)==105)=false:=by rw[beq_eq_false_iff_ne];omega
 have i4:((c:Int)==73)=false:=by rw[beq_eq_false_iff_ne];omega
 have i5:((c:Int)==110)=false:=by rw[beq_eq_false_iff_ne];omega
 have i6:((c:Int)==78)=false:=by rw[beq_eq_false_iff_ne];omega
 clear hc h1 h2
 go_enter Tryz.func252,Tryz.ntmps252
 go_wp2_with fail
 go_ret3
 exact⟨rfl,rfl⟩
set_option maxHeartbeats 1000000 in
theorem special_neg (w:World) (s:ByteArray) (h:2<=s.size) (h0:bt s 0=45) (h1:48<=bt s 1) (h2:bt s 1<=57) :
  Calls Tryz.prog 252 #[.string s] w fun e w'=>e=.returned (.tuple #[.float .f64 0,.int .i64 0,.bool false])/\w=w':=by
 have x0:∀ w,(Instr.index 9 (.string s) (.int .i64 0)).run Tryz.prog w=.ok (.int .u8 45) w:=fun w=>by have:=str_index s 0 (by omega) w;rw[h0] at this;exact this
 have hz:((s.size:Int)==0)=false:=by rw[beq_eq_false_iff_ne];omega
 have hz':¬ s.size=0:=by omega
 have l1:(1:Int)<=(s.size:Int):=by omega
 have hb:bt (s.extract 1 s.size) 0=bt s 1:=by
  unfold bt;simp only[ByteArray.data_extract,Array.toList_extract,List.getD_eq_getElem?_getD,List.extract_eq_take_drop,List.getElem?_take,List.getElem?_drop];rw[if_pos (by omega)]
 have CP:=cpl_zero w (s.extract 1 s.size) (by rw[ByteArray.size_extract];omega) (by rw[hb];exact h1) (by rw[hb];exact h2);clear h0 h1 h2 hb
 go_enter Tryz.func252,Tryz.ntmps252
 go_wp2_with (go_at_call 264;refine CP.mono ?_;rintro e w1 ⟨rfl,rfl⟩)
 go_ret3
 exact⟨rfl,rfl⟩
end
section
open Go.RowKit
theorem xor63 (r:Nat) (h:r<2^63):r ^^^ 2^63=r+2^63:=by
 apply Nat.eq_of_testBit_eq;intro i;rw[Nat.testBit_xor,Nat.testBit_two_pow,Nat.add_comm]
 by_cases h1:i<63
 ·rw[Nat.testBit_two_pow_add_gt h1];have:decide (63=i)=false:=by simp;omega
  rw[this];simp
 ·by_cases h2:i=63
  ·subst h2;rw[Nat.testBit_two_pow_add_eq];simp
  ·have e1:r.testBit i=false:=Nat.testBit_lt_two_pow (Nat.lt_of_lt_of_le h (Nat.pow_le_pow_right (by decide) (by omega)));have e2:(2^63+r).testBit i=false:=Nat.testBit_lt_two_pow (Nat.lt_of_lt_of_le (show 2^63+r<2^64 by omega) (Nat.pow_le_pow_right (by decide) (by omega)));have:decide (63=i)=false:=by simp;omega
   rw[e1,e2,this];rfl
theorem neg_f0 (M:Nat) (h1:1<=M) (h2:M<2^30):Op.negFloat .f64 (f0 false M)=f0 true M:=by
 obtain⟨a,ha1,ha2,h3,h4⟩:=full_shift M h1 h2;rw[f0_word false M a h3 h4 ha2,f0_word true M a h3 h4 ha2];show _ ^^^ 2^63=_;have hr:(1074-a)*2^52+M*2^a<2^63:=by omega
 have e1:Ieee.double.word false ((1074-a)*2^52+M*2^a)=(1074-a)*2^52+M*2^a:=by simp[Ieee.Format.word]
 have e2:Ieee.double.word true ((1074-a)*2^52+M*2^a)=2^63+((1074-a)*2^52+M*2^a):=by simp[Ieee.Format.word,Ieee.Format.signWeight,Ieee.double]
 rw[e1,e2,xor63 _ hr,Nat.add_comm]
theorem ofInt_f0 (M:Nat):floatOfInt .f64 (M:Int)=f0 false M:=by
 show FloatKind.f64.nearest (M:Int)=Ieee.double.nearest false M 0;have h:¬ (M:Int)<0:=by omega
 simp[FloatKind.nearest,FloatKind.encode,Ieee.Format.write];rfl
set_option maxHeartbeats 2000000 in
theorem exact_any (w:World) (T:Nat) (hT:FT T w) (neg:Bool) (M k:Nat) (hM:1<=M) (hM2:M<10^6*10^k) (hk:k<=3) :
  Calls Tryz.prog 262 #[.int .u64 (M:Int),.int .i64 (-(k:Int)),.bool neg] w fun e w'=>e=.returned (.tuple #[.float .f64 (fb neg M k),.bool true])/\w=w':=by
 obtain⟨ta,cap,htb,hsl,hTp⟩:=hT.tab;have hinf:=hT.info
 have hM3:M<2^30:=by
  have:10^k<=10^3:=Nat.pow_le_pow_right (by decide) hk;have:=Nat.mul_le_mul_left (10^6) this;omega
 obtain⟨_,_,_,_,_,_,hdiv⟩:=fb_near neg M k hM hM2 hk;have hof:=ofInt_f0 M;have hng:=neg_f0 M hM hM3;have hshr:(M:Int)/4503599627370496=0:=by omega
 have hun:∀ W:World,(Op.unary .neg (.float .f64 (f0 false M))).run Tryz.prog W=.ok (.float .f64 (f0 true M)) W:=fun W=>by rw[← hng];rfl
 clear hng
 by_cases hk0:k=0
 ·subst hk0;have hfb:fb neg M 0=f0 neg M:=by unfold fb;rfl
  rw[hfb];clear hdiv hfb;cases neg
  ·go_enter Tryz.func262,Tryz.ntmps262
   go_wp2_with fail
   go_ret2
   exact⟨rfl,rfl⟩
  ·go_enter Tryz.func262,Tryz.ntmps262
   go_wp2_with fail
   go_ret2
   exact⟨rfl,rfl⟩
 ·have hd:=hdiv hk0;have hpw:=hTp k (by omega) hk;obtain⟨b,hb⟩:∃ b,fb neg M k=b:=⟨_,rfl⟩;rw[hb] at hd ⊢;have hq:∀ W:World,(binOp .quo 116 (.float .f64 (f0 neg M)) (.float .f64 (pw k))).run Tryz.prog W=.ok (.float .f64 b) W:=fun W=>run_float_arith W .quo _ .f64 _ _ _ hd
  have z1:(-(k:Int)==0)=false:=by rw[beq_eq_false_iff_ne];omega
  have z2:¬ (0:Int) < -(k:Int):=by omega
  have z2':decide ((0:Int) < -(k:Int))=false:=by simp
  have z3:-(k:Int)<0:=by omega
  have z4:(-22:Int)<=-(k:Int):=by omega
  have z5:(k:Int)<23:=by omega
  have z6:k<23:=by omega
  have z7:k<=22:=by omega
  have z8:0<k:=by omega
  clear hdiv hd hb;cases neg
  ·go_enter Tryz.func262,Tryz.ntmps262
   go_wp2_with fail
   go_ret2
   exact⟨rfl,rfl⟩
  ·go_enter Tryz.func262,Tryz.ntmps262
   go_wp2_with fail
   go_ret2
   exact⟨rfl,rfl⟩
end
section
open Go.RowKit
theorem addr_block (a:Addr) (k:Nat):(a.add k).block=a.block:=by unfold Addr.add;split <;> rfl
theorem FT.kept {T:Nat}{w w':World}(h:FT T w) (hb:∀ k,(k=11\/k=19\/k=22\/k=T)->w'.heap[k]?=w.heap[k]?):FT T w':=by
 refine⟨?_,?_,?_⟩
 ·rw[World.cell?_of_block (w:=w) (hb _ (.inl rfl))];exact h.opt
 ·rw[World.cell?_of_block (w:=w) (hb _ (.inr (.inl rfl)))];exact h.info
 ·obtain⟨a,cap,ha,hc,hp⟩:=h.tab;refine⟨a,cap,ha,by rw[World.cell?_of_block (w:=w) (hb _ (.inr (.inr (.inl rfl))))];exact hc,fun k h1 h2=>?_⟩;rw[World.cell?_of_block (w:=w) (hb _ (.inr (.inr (.inr (by rw[addr_block,ha])))))];exact hp k h1 h2
theorem FT.lt {T:Nat}{w:World}(h:FT T w):11<w.heap.size/\19<w.heap.size/\22<w.heap.size/\T<w.heap.size:=by
 obtain⟨a,cap,ha,hc,hp⟩:=h.tab;have h4:=World.block_lt_of_cell? w _ (hp 1 (by decide) (by decide));rw[addr_block,ha] at h4;exact⟨World.block_lt_of_cell? w _ h.opt,World.block_lt_of_cell? w _ h.info,World.block_lt_of_cell? w _ hc,h4⟩
theorem FT.grown {T:Nat}{w w':World}(h:FT T w) (hg:w.grownBy w' none):FT T w':=
 h.kept (fun k hk=>hg.block k (by have:=h.lt;omega) (by simp))
theorem fb_zero (neg:Bool) (k:Nat) (hk:k<=3):fb neg 0 k=if neg then 9223372036854775808 else 0:=by
 match k,hk with
 | 0,_=>cases neg <;> decide
 | 1,_=>cases neg <;> decide
 | 2,_=>cases neg <;> decide
 | 3,_=>cases neg <;> decide
theorem readFloat_any (w:World) (s:ByteArray) (neg:Bool) (ni nf:Nat) (hN:NumTx s neg ni nf) :
  Calls Tryz.prog 253 #[.string s] w fun e w'=>e=.returned (.tuple #[.int .u64 ((vF s neg.toNat ni nf:Nat):Int),.int .i64 (if vF s neg.toNat ni nf=0 then 0 else -(nf:Int)),.bool neg,.bool false,.bool false,.int .i64 (s.size:Int),.bool true])/\w.grownBy w' none:=by
 rcases neg with _|_
 ·exact readFloat_pos w s false rfl ni nf hN
 ·exact readFloat_neg w s true rfl ni nf hN
theorem special_any (w:World) (s:ByteArray) (neg:Bool) (ni nf:Nat) (hN:NumTx s neg ni nf) :
  Calls Tryz.prog 252 #[.string s] w fun e w'=>e=.returned (.tuple #[.float .f64 0,.int .i64 0,.bool false])/\w=w':=by
 have hl:=hN.len;have h1:=hN.i1
 rcases neg with _|_
 ·have:=hN.di 0 (by omega);exact special_pos w s (by omega) (by simpa using this.1) (by simpa using this.2)
 ·have:=hN.di 0 (by omega);exact special_neg w s (by simp at hl;omega) (hN.sg rfl) (by simpa using this.1) (by simpa using this.2)
set_option maxHeartbeats 400000 in
theorem bool2u_any (w:World) (b:Bool):Calls Tryz.prog 248 #[.bool b] w fun e w'=>e=.returned (.int .u64 (if b then 1 else 0))/\w=w':=by
 cases b
 ·go_enter Tryz.func248,Tryz.ntmps248
  go_wp2_with fail
  go_ret
  exact⟨rfl,rfl⟩
 ·go_enter Tryz.func248,Tryz.ntmps248
  go_wp2_with fail
  go_ret
  exact⟨rfl,rfl⟩
set_option maxHeartbeats 2000000 in
set_option maxRecDepth 100000 in
theorem atof_any (w:World) (T:Nat) (hT:FT T w) (s:ByteArray) (neg:Bool) (ni nf:Nat) (hN:NumTx s neg ni nf) :
  Calls Tryz.prog 247 #[.string s] w fun e w'=>e=.returned (.tuple #[.float .f64 (fb neg (vF s neg.toNat ni nf) nf),.int .i64 (s.size:Int),.nilIface])/\w.grownBy w' none:=by
 have SP:=special_any w s neg ni nf hN;have RF:=readFloat_any w s neg ni nf hN;have hlt:=vF_lt hN nf (Nat.le_refl _);have hf3:=hN.f2
 have hM2:vF s neg.toNat ni nf<10^6*10^nf:=by
  rw[← Nat.pow_add];exact Nat.lt_of_lt_of_le hlt (Nat.pow_le_pow_right (by decide) (by have:=hN.i2;omega))
 have hsz:=hN.len;clear hlt hN;obtain⟨M,hM⟩:∃ M,vF s neg.toNat ni nf=M:=⟨_,rfl⟩;rw[hM] at RF hM2 ⊢;clear hM
 by_cases hM0:M=0
 ·rw[if_pos hM0] at RF;subst hM0;rw[fb_zero neg nf hf3]
  go_enter Tryz.func247,Tryz.ntmps247
  go_wp2_with fail
  refine SP.mono ?_;rintro e w1 ⟨rfl,rfl⟩
  go_wp2_with fail
  refine RF.mono ?_;rintro e w1 ⟨rfl,hg⟩;have ho:=(hT.grown hg).opt;have f0:∀ w,(callFunc 261 #[.int .u64 0]).run Tryz.prog w=.ok (.value (.float .f64 0)) w:=Tryz.f64from 0;have f1:∀ w,(callFunc 261 #[.int .u64 9223372036854775808]).run Tryz.prog w=.ok (.value (.float .f64 9223372036854775808)) w:=Tryz.f64from 9223372036854775808;have o0:bits BinOp.or IntKind.u64 0 0=0:=by decide
  have o1:bits BinOp.or IntKind.u64 9223372036854775808 0=9223372036854775808:=by decide
  cases neg
  ·go_wp2_with (go_at_call 248;refine (bool2u_any _ _).mono ?_;rintro e w2 ⟨rfl,rfl⟩)
   go_ret3
   exact⟨rfl,hg⟩
  ·go_wp2_with (go_at_call 248;refine (bool2u_any _ _).mono ?_;rintro e w2 ⟨rfl,rfl⟩)
   go_ret3
   exact⟨rfl,hg⟩
 ·rw[if_neg hM0] at RF;have EX:=fun W (h:FT T W)=>exact_any W T h neg M nf (by omega) hM2 hf3
  have e1:((M:Int)==0)=false:=by rw[beq_eq_false_iff_ne];omega
  have e2:¬ (310:Int) < -(nf:Int):=by omega
  have e3:¬ -(nf:Int) < -345:=by omega
  obtain⟨b,hb⟩:∃ b,fb neg M nf=b:=⟨_,rfl⟩;rw[hb] at EX ⊢;clear hb hM0
  go_enter Tryz.func247,Tryz.ntmps247
  go_wp2_with fail
  refine SP.mono ?_;rintro e w1 ⟨rfl,rfl⟩
  go_wp2_with fail
  refine RF.mono ?_;rintro e w1 ⟨rfl,hg⟩;have hT1:=hT.grown hg;have ho:=hT1.opt;cases neg
  all_goals
   go_wp2_with (first | (go_at_call 248;refine (bool2u_any _ _).mono ?_;rintro e w2 ⟨rfl,rfl⟩) | (go_at_call 262;refine (EX _ hT1).mono ?_;rintro e w2 ⟨rfl,rfl⟩))
   go_ret3
   exact⟨rfl,hg⟩
set_option maxHeartbeats 1000000 in
theorem prefix_any (w:World) (T:Nat) (hT:FT T w) (s:ByteArray) (neg:Bool) (ni nf:Nat) (hN:NumTx s neg ni nf) :
  Calls Tryz.prog 221 #[.string s,.int .i64 64] w fun e w'=>e=.returned (.tuple #[.float .f64 (fb neg (vF s neg.toNat ni nf) nf),.int .i64 (s.size:Int),.nilIface])/\w.grownBy w' none:=by
 have AT:=atof_any w T hT s neg ni nf hN;obtain⟨b,hb⟩:∃ b,fb neg (vF s neg.toNat ni nf) nf=b:=⟨_,rfl⟩;rw[hb] at AT ⊢;clear hb
 go_enter Tryz.func221,Tryz.ntmps221
 go_wp2_with fail
 refine AT.mono ?_;rintro e w1 ⟨rfl,hg⟩
 go_wp2_with fail
 go_ret3
 exact⟨rfl,hg⟩
set_option maxHeartbeats 1000000 in
theorem iparse_any (w:World) (T:Nat) (hT:FT T w) (s:ByteArray) (neg:Bool) (ni nf:Nat) (hN:NumTx s neg ni nf) :
  Calls Tryz.prog 198 #[.string s,.int .i64 64] w fun e w'=>e=.returned (.tuple #[.float .f64 (fb neg (vF s neg.toNat ni nf) nf),.nilIface])/\w.grownBy w' none:=by
 have AT:=prefix_any w T hT s neg ni nf hN;obtain⟨b,hb⟩:∃ b,fb neg (vF s neg.toNat ni nf) nf=b:=⟨_,rfl⟩;rw[hb] at AT ⊢;clear hb
 go_enter Tryz.func198,Tryz.ntmps198
 go_wp2_with fail
 refine AT.mono ?_;rintro e w1 ⟨rfl,hg⟩
 go_wp2_with fail
 go_ret2
 exact⟨rfl,hg⟩
set_option maxHeartbeats 1000000 in
theorem parse_any (w:World) (T:Nat) (hT:FT T w) (s:ByteArray) (neg:Bool) (ni nf:Nat) (hN:NumTx s neg ni nf) :
  Calls Tryz.prog 172 #[.string s,.int .i64 64] w fun e w'=>e=.returned (.tuple #[.float .f64 (fb neg (vF s neg.toNat ni nf) nf),.nilIface])/\w.grownBy w' none:=by
 have AT:=iparse_any w T hT s neg ni nf hN;obtain⟨b,hb⟩:∃ b,fb neg (vF s neg.toNat ni nf) nf=b:=⟨_,rfl⟩;rw[hb] at AT ⊢;clear hb
 go_enter Tryz.func172,Tryz.ntmps172
 go_wp2_with fail
 refine AT.mono ?_;rintro e w1 ⟨rfl,hg⟩
 go_wp2_with fail
 go_ret2
 exact⟨rfl,hg⟩
end
end Go.Proofs.YtgffljllfenhkaaGreatDoor
