import Derived.Deep.DeepCutAuto
import Derived.RegionTactic
import Derived.Laws.IdiomStrings
import Derived.Lib.BufferRead
import Derived.Test.YtgffljllfenhkaaGreatDoorGwaa
import Derived.Test.YtgffljllfenhkaaGreatDoorGwai
namespace Go.Proofs.YtgffljllfenhkaaGreatDoor
section
open Go.RowKit
set_option maxHeartbeats 8000000 in
set_option maxRecDepth 100000 in
theorem fmtB_any (w:World) (b0 B:Nat) (l ld:List UInt8) (dv:Value) (neg:Bool) (n:Nat) (m d:Nat) (hm:1<=m) (hd:1<=d) (hnd1:m+d<=n) (hnd2:n<=m+d) (h:Fx w b0 B l dv [] w) (hl:l.length<=20) (hld:ld=l.take n) (hn1:1<=n) (hn:n<=l.length) :
  Calls Tryz.prog 208 #[dv,.bool neg,.slice (some ⟨B,0,none⟩) 32 32,.int .i64 (m:Int),.int .i64 (n:Int),.int .i64 (d:Int),.int .u8 102,.bool true] w fun e w'=>∃ dv',e=.returned dv'/\Fx w b0 B l dv' (textF neg ld (m:Int)) w':=by
 obtain⟨i0,hi,hz0,hz1,hz2⟩:=info_parts Tryz.info5;have hldl:ld.length=n:=by rw[hld,List.length_take];omega
 have TX:Hid (textF neg ld (m:Int)=(if neg then [45] else [])++(ld.drop 0).take m++[46]++(ld.drop m).take d):=by
  show textF neg ld (m:Int)=_;unfold textF;rw[if_pos (show (0:Int)<(m:Int) by omega),if_pos (show (m:Int)<(ld.length:Int) by omega),show (-(m:Int)).toNat=0 by omega,show ((m:Int)).toNat=m by omega,List.drop_zero,show m-ld.length=0 by omega,List.take_of_length_le (l:=ld.drop m) (by simp;omega)];simp
 obtain⟨tx,htx⟩:∃ tx,textF neg ld (m:Int)=tx:=⟨_,rfl⟩;rw[htx] at TX ⊢;obtain⟨t0,ht0⟩:∃ t0:List UInt8,(if neg then [45] else [])=t0:=⟨_,rfl⟩;have ht1:t0.length<=1:=by rw[← ht0];cases neg <;> simp
 rw[ht0] at TX;clear htx;have a1:max (0:Int) (-(m:Int))=0:=by omega
 have a2:min (d:Int) (0:Int)=0:=by omega
 have a3:(n:Int)-(m:Int)=(d:Int):=by omega
 have a4:min (n:Int) (m:Int)=(m:Int):=by omega
 have a5:max (0:Int) (d:Int)=(d:Int):=by omega
 have a6:min (d:Int) (d:Int)=(d:Int):=by omega
 have a7:(0:Int)<(d:Int):=by omega
 have a8:(0:Int)<(m:Int):=by omega
 have a9:0<m:=by omega
 have b9:0<d:=by omega
 go_enter Tryz.func208,Tryz.ntmps208
 cases neg with
 | false=>
  have hF:Fx w b0 B l dv t0 w:=by rw[← ht0];exact h
  clear h
  go_upto_region 55 with fail
  go_wp2_with fail
  go_loopw [0,191] (fun dvx iv wr=>∃ i:Nat,i<=m/\iv=.int .i64 (i:Int)/\Fx w b0 B l dvx (t0++(ld.drop 0).take i) wr)
   (fun _ iv _=>m-(intOf iv).toNat)
  case atStart=>exact⟨0,Nat.zero_le _,rfl,by simpa using hF⟩
  case round=>
   clear hF;obtain⟨i,hi1,rfl,hF⟩:=hrel
   by_cases hlt:i<m
   ·have hlI:(i:Int)<((m:Nat):Int):=by omega
    have hcell:=hF.byt (0+i) (by omega);obtain⟨cb,hcb⟩:∃ c:UInt8,l.getD (0+i) 0=c:=⟨_,rfl⟩;rw[hcb] at hcell;have HCB:=hid hcb;clear hcb;have hix:(0+i:Nat)<32:=by omega
    rw[Nat.zero_add] at hcell hix;have HF:=hid hF
    go_wp2_with (at_builtin;refine wpList_append_own_at _ rfl _ _ 102 rfl b0 5 i0 (.int .u8 0) 1 1 Tryz.underlying102 hi hz0 hz1 hz2 rfl (by decide) _ _ _ rfl (World.ownsRow.alloc hF.row _) ⟨_,0,none⟩ 1 1 [_] rfl rfl (cell_one_new _ _ _) (by simp[Value.oneCell']) (by unfold maxLen;have:=hF.len;omega) (by have:=hF.len;omega) (by have:=hF.hb;simp;omega) ?_;intro v' w' hown' hgrow _ hat)
    have hN:=(unh HF).step cb _ rfl (by simp;omega) hown' hgrow hat;rw[List.append_assoc,← take_snoc hld (by omega) hn (unh HCB)] at hN
    first | exact⟨⟨i+1,by omega,by go_num,hN⟩,by simp[intOf];omega⟩ | (refine⟨?_,by simp[intOf];omega⟩;(repeat apply Exists.intro);exact⟨⟨i+1,by omega,by go_num,hN⟩,rfl⟩)
   ·have hie:m=i:=by omega
    subst hie;clear hlt hi1;obtain⟨p1,hp1⟩:∃ p:List UInt8,t0++(ld.drop 0).take m=p:=⟨_,rfl⟩;rw[hp1] at hF;have hp1l:p1.length<=25:=by rw[← hp1];simp;omega
    go_wp2_with fail
    go_loopw [0,203] (fun dvx iv wr=>∃ i:Nat,i<=0/\iv=.int .i64 (i:Int)/\Fx w b0 B l dvx (p1++List.replicate i 48) wr)
     (fun _ iv _=>0-(intOf iv).toNat)
    case atStart=>exact⟨0,Nat.zero_le _,rfl,by simpa using hF⟩
    case round=>
     clear hF;obtain⟨i,hi1,rfl,hF⟩:=hrel
     by_cases hlt:i<0
     ·exact absurd hlt (by omega)
     ·have hie:0=i:=by omega
      subst hie;clear hlt hi1;rw[List.replicate_zero,List.append_nil] at hF
      go_upto_region 69 with (at_builtin;refine wpList_append_own_at _ rfl _ _ 102 rfl b0 5 i0 (.int .u8 0) 1 1 Tryz.underlying102 hi hz0 hz1 hz2 rfl (by decide) _ _ _ rfl (World.ownsRow.alloc hF.row _) ⟨_,0,none⟩ 1 1 [_] rfl rfl (cell_one_new _ _ _) (by simp[Value.oneCell']) (by unfold maxLen;have:=hF.len;omega) (by have:=hF.len;omega) (by have:=hF.hb;simp;omega) ?_;intro v' w' hown' hgrow _ hat)
      have hP:=hF.step (v':=v') 46 46 rfl (by first | omega | (simp;omega)) hown' hgrow hat;clear hF hown' hgrow hat;obtain⟨p2,hp2⟩:∃ p:List UInt8,p1++[46]=p:=⟨_,rfl⟩;rw[hp2] at hP;have hF:=hP;clear hP;have hp2l:p2.length<=26:=by rw[← hp2];simp;omega
      go_wp2_with fail
      go_loopw [0,240] (fun dvx iv wr=>∃ i:Nat,i<=0/\iv=.int .i64 (i:Int)/\Fx w b0 B l dvx (p2++List.replicate i 48) wr)
       (fun _ iv _=>0-(intOf iv).toNat)
      case atStart=>exact⟨0,Nat.zero_le _,rfl,by simpa using hF⟩
      case round=>
       clear hF;obtain⟨i,hi1,rfl,hF⟩:=hrel
       by_cases hlt:i<0
       ·exact absurd hlt (by omega)
       ·have hie:0=i:=by omega
        subst hie;clear hlt hi1;rw[List.replicate_zero,List.append_nil] at hF
        go_wp2_with fail
        go_loopw [0,247] (fun dvx iv wr=>∃ i:Nat,i<=d/\iv=.int .i64 (i:Int)/\Fx w b0 B l dvx (p2++(ld.drop m).take i) wr)
         (fun _ iv _=>d-(intOf iv).toNat)
        case atStart=>exact⟨0,Nat.zero_le _,rfl,by simpa using hF⟩
        case round=>
         clear hF;obtain⟨i,hi1,rfl,hF⟩:=hrel
         by_cases hlt:i<d
         ·have hlI:(i:Int)<((d:Nat):Int):=by omega
          have hcell:=hF.byt (m+i) (by omega);obtain⟨cb,hcb⟩:∃ c:UInt8,l.getD (m+i) 0=c:=⟨_,rfl⟩;rw[hcb] at hcell;have HCB:=hid hcb;clear hcb;have hix:(m+i:Nat)<32:=by omega
          obtain⟨jx,hjx⟩:∃ jx,m+i=jx:=⟨_,rfl⟩;have hoi:(m:Int)+(i:Int)=(jx:Int):=by omega
          have hjn:jx<n:=by omega
          rw[hjx] at hcell hix;have HJX:=hid hjx;clear hjx;have hjI:(jx:Int)<32:=by omega
          have HF:=hid hF
          go_wp2_with (at_builtin;refine wpList_append_own_at _ rfl _ _ 102 rfl b0 5 i0 (.int .u8 0) 1 1 Tryz.underlying102 hi hz0 hz1 hz2 rfl (by decide) _ _ _ rfl (World.ownsRow.alloc hF.row _) ⟨_,0,none⟩ 1 1 [_] rfl rfl (cell_one_new _ _ _) (by simp[Value.oneCell']) (by unfold maxLen;have:=hF.len;omega) (by have:=hF.len;omega) (by have:=hF.hb;simp;omega) ?_;intro v' w' hown' hgrow _ hat)
          have hN:=(unh HF).step cb _ rfl (by simp;omega) hown' hgrow hat;rw[List.append_assoc,← take_snoc hld (by omega) hn (unh HCB)] at hN
          first | exact⟨⟨i+1,by omega,by go_num,hN⟩,by simp[intOf];omega⟩ | (refine⟨?_,by simp[intOf];omega⟩;(repeat apply Exists.intro);exact⟨⟨i+1,by omega,by go_num,hN⟩,rfl⟩)
         ·have hie:d=i:=by omega
          subst hie;clear hlt hi1;obtain⟨p4,hp4⟩:∃ p:List UInt8,p2++(ld.drop m).take d=p:=⟨_,rfl⟩;rw[hp4] at hF;have hp4l:p4.length<=50:=by rw[← hp4];simp;omega
          go_wp2_with fail
          go_loopw [0,261] (fun dvx iv wr=>∃ i:Nat,i<=0/\iv=.int .i64 (i:Int)/\Fx w b0 B l dvx (p4++List.replicate i 48) wr)
           (fun _ iv _=>0-(intOf iv).toNat)
          case atStart=>exact⟨0,Nat.zero_le _,rfl,by simpa using hF⟩
          case round=>
           clear hF;obtain⟨i,hi1,rfl,hF⟩:=hrel
           by_cases hlt:i<0
           ·exact absurd hlt (by omega)
           ·have hie:0=i:=by omega
            subst hie;clear hlt hi1;have TX2:Hid (tx=p4):=by have:=unh TX;rw[hp1,hp2,hp4] at this;exact this
            rw[List.replicate_zero,List.append_nil] at hF
            go_wp2_with fail
            go_ret
            exact⟨_,rfl,by rw[unh TX2];exact hF⟩
 | true=>
  go_upto_region 55 with (at_builtin;refine wpList_append_own_at _ rfl _ _ 102 rfl b0 5 i0 (.int .u8 0) 1 1 Tryz.underlying102 hi hz0 hz1 hz2 rfl (by decide) _ _ _ rfl (World.ownsRow.alloc h.row _) ⟨_,0,none⟩ 1 1 [_] rfl rfl (cell_one_new _ _ _) (by simp[Value.oneCell']) (by unfold maxLen;have:=h.len;omega) (by have:=h.len;omega) (by have:=h.hb;simp;omega) ?_;intro v' w' hown' hgrow _ hat)
  have hF:Fx w b0 B l v' t0 w':=by rw[← ht0];exact h.step 45 45 rfl (by simp) hown' hgrow hat
  clear h hown' hgrow hat
  go_wp2_with fail
  go_loopw [0,191] (fun dvx iv wr=>∃ i:Nat,i<=m/\iv=.int .i64 (i:Int)/\Fx w b0 B l dvx (t0++(ld.drop 0).take i) wr)
   (fun _ iv _=>m-(intOf iv).toNat)
  case atStart=>exact⟨0,Nat.zero_le _,rfl,by simpa using hF⟩
  case round=>
   clear hF;obtain⟨i,hi1,rfl,hF⟩:=hrel
   by_cases hlt:i<m
   ·have hlI:(i:Int)<((m:Nat):Int):=by omega
    have hcell:=hF.byt (0+i) (by omega);obtain⟨cb,hcb⟩:∃ c:UInt8,l.getD (0+i) 0=c:=⟨_,rfl⟩;rw[hcb] at hcell;have HCB:=hid hcb;clear hcb;have hix:(0+i:Nat)<32:=by omega
    rw[Nat.zero_add] at hcell hix;have HF:=hid hF
    go_wp2_with (at_builtin;refine wpList_append_own_at _ rfl _ _ 102 rfl b0 5 i0 (.int .u8 0) 1 1 Tryz.underlying102 hi hz0 hz1 hz2 rfl (by decide) _ _ _ rfl (World.ownsRow.alloc hF.row _) ⟨_,0,none⟩ 1 1 [_] rfl rfl (cell_one_new _ _ _) (by simp[Value.oneCell']) (by unfold maxLen;have:=hF.len;omega) (by have:=hF.len;omega) (by have:=hF.hb;simp;omega) ?_;intro v' w' hown' hgrow _ hat)
    have hN:=(unh HF).step cb _ rfl (by simp;omega) hown' hgrow hat;rw[List.append_assoc,← take_snoc hld (by omega) hn (unh HCB)] at hN
    first | exact⟨⟨i+1,by omega,by go_num,hN⟩,by simp[intOf];omega⟩ | (refine⟨?_,by simp[intOf];omega⟩;(repeat apply Exists.intro);exact⟨⟨i+1,by omega,by go_num,hN⟩,rfl⟩)
   ·have hie:m=i:=by omega
    subst hie;clear hlt hi1;obtain⟨p1,hp1⟩:∃ p:List UInt8,t0++(ld.drop 0).take m=p:=⟨_,rfl⟩;rw[hp1] at hF;have hp1l:p1.length<=25:=by rw[← hp1];simp;omega
    go_wp2_with fail
    go_loopw [0,203] (fun dvx iv wr=>∃ i:Nat,i<=0/\iv=.int .i64 (i:Int)/\Fx w b0 B l dvx (p1++List.replicate i 48) wr)
     (fun _ iv _=>0-(intOf iv).toNat)
    case atStart=>exact⟨0,Nat.zero_le _,rfl,by simpa using hF⟩
    case round=>
     clear hF;obtain⟨i,hi1,rfl,hF⟩:=hrel
     by_cases hlt:i<0
     ·exact absurd hlt (by omega)
     ·have hie:0=i:=by omega
      subst hie;clear hlt hi1;rw[List.replicate_zero,List.append_nil] at hF
      go_upto_region 69 with (at_builtin;refine wpList_append_own_at _ rfl _ _ 102 rfl b0 5 i0 (.int .u8 0) 1 1 Tryz.underlying102 hi hz0 hz1 hz2 rfl (by decide) _ _ _ rfl (World.ownsRow.alloc hF.row _) ⟨_,0,none⟩ 1 1 [_] rfl rfl (cell_one_new _ _ _) (by simp[Value.oneCell']) (by unfold maxLen;have:=hF.len;omega) (by have:=hF.len;omega) (by have:=hF.hb;simp;omega) ?_;intro v' w' hown' hgrow _ hat)
      have hP:=hF.step (v':=v') 46 46 rfl (by first | omega | (simp;omega)) hown' hgrow hat;clear hF hown' hgrow hat;obtain⟨p2,hp2⟩:∃ p:List UInt8,p1++[46]=p:=⟨_,rfl⟩;rw[hp2] at hP;have hF:=hP;clear hP;have hp2l:p2.length<=26:=by rw[← hp2];simp;omega
      go_wp2_with fail
      go_loopw [0,240] (fun dvx iv wr=>∃ i:Nat,i<=0/\iv=.int .i64 (i:Int)/\Fx w b0 B l dvx (p2++List.replicate i 48) wr)
       (fun _ iv _=>0-(intOf iv).toNat)
      case atStart=>exact⟨0,Nat.zero_le _,rfl,by simpa using hF⟩
      case round=>
       clear hF;obtain⟨i,hi1,rfl,hF⟩:=hrel
       by_cases hlt:i<0
       ·exact absurd hlt (by omega)
       ·have hie:0=i:=by omega
        subst hie;clear hlt hi1;rw[List.replicate_zero,List.append_nil] at hF
        go_wp2_with fail
        go_loopw [0,247] (fun dvx iv wr=>∃ i:Nat,i<=d/\iv=.int .i64 (i:Int)/\Fx w b0 B l dvx (p2++(ld.drop m).take i) wr)
         (fun _ iv _=>d-(intOf iv).toNat)
        case atStart=>exact⟨0,Nat.zero_le _,rfl,by simpa using hF⟩
        case round=>
         clear hF;obtain⟨i,hi1,rfl,hF⟩:=hrel
         by_cases hlt:i<d
         ·have hlI:(i:Int)<((d:Nat):Int):=by omega
          have hcell:=hF.byt (m+i) (by omega);obtain⟨cb,hcb⟩:∃ c:UInt8,l.getD (m+i) 0=c:=⟨_,rfl⟩;rw[hcb] at hcell;have HCB:=hid hcb;clear hcb;have hix:(m+i:Nat)<32:=by omega
          obtain⟨jx,hjx⟩:∃ jx,m+i=jx:=⟨_,rfl⟩;have hoi:(m:Int)+(i:Int)=(jx:Int):=by omega
          have hjn:jx<n:=by omega
          rw[hjx] at hcell hix;have HJX:=hid hjx;clear hjx;have hjI:(jx:Int)<32:=by omega
          have HF:=hid hF
          go_wp2_with (at_builtin;refine wpList_append_own_at _ rfl _ _ 102 rfl b0 5 i0 (.int .u8 0) 1 1 Tryz.underlying102 hi hz0 hz1 hz2 rfl (by decide) _ _ _ rfl (World.ownsRow.alloc hF.row _) ⟨_,0,none⟩ 1 1 [_] rfl rfl (cell_one_new _ _ _) (by simp[Value.oneCell']) (by unfold maxLen;have:=hF.len;omega) (by have:=hF.len;omega) (by have:=hF.hb;simp;omega) ?_;intro v' w' hown' hgrow _ hat)
          have hN:=(unh HF).step cb _ rfl (by simp;omega) hown' hgrow hat;rw[List.append_assoc,← take_snoc hld (by omega) hn (unh HCB)] at hN
          first | exact⟨⟨i+1,by omega,by go_num,hN⟩,by simp[intOf];omega⟩ | (refine⟨?_,by simp[intOf];omega⟩;(repeat apply Exists.intro);exact⟨⟨i+1,by omega,by go_num,hN⟩,rfl⟩)
         ·have hie:d=i:=by omega
          subst hie;clear hlt hi1;obtain⟨p4,hp4⟩:∃ p:List UInt8,p2++(ld.drop m).take d=p:=⟨_,rfl⟩;rw[hp4] at hF;have hp4l:p4.length<=50:=by rw[← hp4];simp;omega
          go_wp2_with fail
          go_loopw [0,261] (fun dvx iv wr=>∃ i:Nat,i<=0/\iv=.int .i64 (i:Int)/\Fx w b0 B l dvx (p4++List.replicate i 48) wr)
           (fun _ iv _=>0-(intOf iv).toNat)
          case atStart=>exact⟨0,Nat.zero_le _,rfl,by simpa using hF⟩
          case round=>
           clear hF;obtain⟨i,hi1,rfl,hF⟩:=hrel
           by_cases hlt:i<0
           ·exact absurd hlt (by omega)
           ·have hie:0=i:=by omega
            subst hie;clear hlt hi1;have TX2:Hid (tx=p4):=by have:=unh TX;rw[hp1,hp2,hp4] at this;exact this
            rw[List.replicate_zero,List.append_nil] at hF
            go_wp2_with fail
            go_ret
            exact⟨_,rfl,by rw[unh TX2];exact hF⟩
end
section
open Go.RowKit
theorem and_mask52 (b:Nat) (hb:b<2^64):bits .and .u64 (b:Int) 4503599627370495=((b%2^52:Nat):Int):=by
 have h:=bits_and_u64_nat b 4503599627370495 (by omega) (by omega);rw[show b &&& 4503599627370495=b%2^52 from Nat.and_two_pow_sub_one_eq_mod b 52] at h;exact h
theorem and_mask11 (a:Nat) (ha:a<2^62):bits .and .i64 (a:Int) 2047=((a%2048:Nat):Int):=by
 have h1:(BitVec.ofInt 64 (a:Int)).toNat=a:=by rw[BitVec.ofInt_natCast,BitVec.toNat_ofNat];exact Nat.mod_eq_of_lt (by omega)
 have h2:(BitVec.ofInt 64 (2047:Int)).toNat=2047:=by decide
 show IntKind.i64.wrap ((BitVec.ofInt 64 (a:Int) &&& BitVec.ofInt 64 (2047:Int)).toNat:Int)=_;rw[BitVec.toNat_and,h1,h2,show a &&& 2047=a%2048 from Nat.and_two_pow_sub_one_eq_mod a 11,wraps_i64 _ (by omega) (by omega)]
theorem or_bit52 (x:Nat) (hx:x<2^52):bits .or .u64 (x:Int) 4503599627370496=((x+2^52:Nat):Int):=by
 have h:=bits_or_u64_nat x 4503599627370496 (by omega) (by omega)
 have e:x ||| 4503599627370496=x+2^52:=by
  rw[Nat.or_comm];have:=Nat.two_pow_add_eq_or_of_lt (i:=52) (b:=x) hx 1;rw[Nat.mul_one] at this;rw[Nat.add_comm];exact this.symm
 rw[e] at h;exact h
theorem bitLen_pow : ∀ (n x : Nat), n <= 60 -> 2^n <= x -> x<2^(n + 1) -> Lib.bitLen x = n + 1
  | 0, x, _, h1, h2 => by have : x = 1 := by omega
                          rw[this]; decide
  | n + 1, x, hn, h1, h2 => by
    have h60 : 2^(n + 1 + 1) <= 2^62 := Nat.pow_le_pow_right (by decide) (by omega);have hp := Nat.two_pow_pos (n + 1);rw[Lib.bitLen_half x (by omega) (by omega), bitLen_pow n (x/2) (by omega) (by rw[Nat.pow_succ] at h1; omega) (by rw[Nat.pow_succ] at h2; omega)];omega
theorem bitLen53 (mt:Nat) (h1:2^52<=mt) (h2:mt<2^53):Lib.bitLen mt=53:=bitLen_pow 52 mt (by decide) h1 h2
theorem Tryz.f64bits (b:Nat) (w:World):(callFunc 205 #[.float .f64 b]).run Tryz.prog w=.ok (.value (.int .u64 (b:Int))) w:=by
 first | kernel_rfl | rfl
theorem Tryz.f64from (b:Nat) (w:World):(callFunc 261 #[.int .u64 (b:Int)]).run Tryz.prog w=.ok (.value (.float .f64 b)) w:=by
 first | kernel_rfl | rfl
end
section
open Go.RowKit
theorem word_fields (neg:Bool) (q mt b:Nat) (hq1:33<=q) (hq2:q<=62) (h1:2^52<=mt) (h2:mt<2^53) (hb:b=Ieee.double.word neg ((1074-q)*2^52+mt)) :
  b<2^64/\b/9223372036854775808=(if neg then 1 else 0)/\b/4503599627370496%2048=1075-q/\b%2^52=mt-2^52/\b/4503599627370496<2^62:=by
 have hw:b=(if neg then 9223372036854775808 else 0)+((1074-q)*2^52+mt):=by
  rw[hb];unfold Ieee.Format.word;cases neg
  ·simp
  ·simp[Ieee.Format.signWeight,Ieee.double]
 cases neg
 ·simp only[Bool.false_eq_true,if_false] at hw ⊢;omega
 ·simp only[if_true] at hw ⊢;omega
theorem sl_pos {l:List UInt8}(h:¬ l.getD 0 0=48):∀ n,1<=n->1<=sl l n
 | 1,_=>by rw[sl_miss h];exact Nat.le_refl _
 | n+2,_=>by
  by_cases h2:l.getD (n+1) 0=48
  ·rw[sl_hit h2];exact sl_pos h (n+1) (by omega)
  ·rw[sl_miss h2];omega
theorem decDigits_first (d:Nat) (hd:1<=d):¬ (Lib.decDigits d).getD 0 0=48:=by
 induction d using Nat.strongRecOn with
 | _ d ih=>
  rw[Lib.decDigits];split
  ·rename_i h;have h9:∀ i:Fin 10,1<=i.1->¬ UInt8.ofNat (48+i.1)=48:=by decide
   simpa using h9 ⟨d,h⟩ hd
  ·rename_i h;have hl:=decDigits_len (d/10);have:=Lib.nDigits_pos (d/10);rw[List.getD_eq_getElem?_getD,List.getElem?_append_left (by omega),← List.getD_eq_getElem?_getD];exact ih (d/10) (by omega) (by omega)
theorem Fx.mono {w0 w1:World}{b0 B:Nat}{l:List UInt8}{dv:Value}{out:List UInt8}{w:World}(h:Fx w1 b0 B l dv out w) (hb:Below b0 w0 w1):Fx w0 b0 B l dv out w:=
 ⟨h.row,h.byt,h.blt,h.ne,hb.trans h.bel,h.hb,h.len⟩
def numT (neg:Bool) (d:Nat) (dp:Int):List UInt8:=textF neg ((Lib.decDigits d).take (sl (Lib.decDigits d) (Lib.nDigits d))) dp
set_option maxHeartbeats 4000000 in
set_option maxRecDepth 100000 in
theorem ftoa_any (w:World) (b0:Nat) (dv:Value) (neg:Bool) (mt q b d p:Nat) (hq1:33<=q) (hq2:q<=62) (h1:2^52<=mt) (h2:mt<2^53) (hb:b=Ieee.double.word neg ((1074-q)*2^52+mt))
  (hrow:Row8 w b0 dv []) (hb0:b0<=w.heap.size) (hdv:∀ k,dv.ownBlock=some k->k<w.heap.size)
  (hd1:1<=d) (hd2:d<10^18) (hp1:10<=p) (hp2:p<=19) (hdp:-3<=(Lib.nDigits d:Int)-((p-1:Nat):Int)/\(Lib.nDigits d:Int)-((p-1:Nat):Int)<=7)
  (ND:∀ W:World,Below w.heap.size w W->Calls Tryz.prog 163 #[.int .u64 (d:Int)] W fun e w'=>e=.returned (.int .i64 ((Lib.nDigits d:Nat):Int))/\w'=W)
  (SF:∀ W:World,Below w.heap.size w W->Calls Tryz.prog 215 #[.int .u64 ((mt*2^11:Nat):Int),.int .i64 (-((q+11:Nat):Int))] W fun e w'=>e=.returned (.tuple #[.int .u64 (d:Int),.int .i64 (-((p-1:Nat):Int))])/\Below W.heap.size W w') :
  Calls Tryz.prog 195 #[dv,.float .f64 b,.int .u8 102,.int .i64 (-1)] w fun e w'=>∃ dv' B l,e=.returned dv'/\Fx w b0 B l dv' (numT neg d ((Lib.nDigits d:Nat)-((p-1:Nat):Int))) w':=by
 obtain⟨hbl,hf1,hf2,hf3,hf4⟩:=word_fields neg q mt b hq1 hq2 h1 h2 hb;have ext:=Tryz.f64bits b;obtain⟨sg,hsg⟩:∃ sg,b/9223372036854775808=sg:=⟨_,rfl⟩;have x1:(b:Int)/9223372036854775808=(sg:Int):=by omega
 have hneg:(((sg:Nat):Int) != 0)=neg:=by rw[hsg] at hf1;rw[hf1];cases neg <;> rfl
 have x2:=and_mask52 b hbl;rw[hf3] at x2;obtain⟨e0,he0⟩:∃ e0,b/4503599627370496=e0:=⟨_,rfl⟩;have x3:(b:Int)/4503599627370496=(e0:Int):=by omega
 have x4:=and_mask11 e0 (by omega);rw[he0] at hf2;rw[hf2] at x4;obtain⟨mf,hmf⟩:∃ mf,mt-2^52=mf:=⟨_,rfl⟩;rw[hmf] at x2;have x5:=or_bit52 mf (by omega);rw[show mf+2^52=mt by omega] at x5
 have L53:∀ W:World,Calls Tryz.prog 190 #[.int .u64 (mt:Int)] W fun e w'=>e=.returned (.int .i64 53)/\w'=W:=fun W=>by
  have h:=Tryz.bits_Len64 (mt:Int) W (by omega) (by omega);rw[show ((mt:Int)).toNat=mt by omega,bitLen53 mt h1 h2] at h;exact h
 obtain⟨ef,hef⟩:∃ ef,1075-q=ef:=⟨_,rfl⟩;rw[hef] at x4;have y1:¬ (ef:Int)=2047:=by omega
 have y2:¬ (ef:Int)=0:=by omega
 have y3:((ef:Int)==2047)=false:=by rw[beq_eq_false_iff_ne];exact y1
 have y4:((ef:Int)==0)=false:=by rw[beq_eq_false_iff_ne];exact y2
 have y5:((mt:Int)==0)=false:=by rw[beq_eq_false_iff_ne];omega
 obtain⟨m,hm⟩:∃ m,mt*2^11=m:=⟨_,rfl⟩;have hmI:(mt:Int)*2048=(m:Int):=by omega
 have hml:m<2^64:=by omega
 obtain⟨ee,hee⟩:∃ ee:Int,-((q+11:Nat):Int)=ee:=⟨_,rfl⟩;have hex:(ef:Int)+-1023-11-52=ee:=by omega
 have hex':(ef:Int)-1023-11-52=ee:=by omega
 have hefl:ef<2000:=by omega
 rw[hm,hee] at SF;obtain⟨nd,hnd⟩:∃ nd,Lib.nDigits d=nd:=⟨_,rfl⟩;clear hb hsg hf1 hf2 hf3 hf4 he0 hmf hef hee hm
 go_enter Tryz.func195,Tryz.ntmps195
 have he0l:e0<2^62:=by omega
 go_wp2_with fail
 go_region
 go_wp2_with (go_at_call 190;refine (L53 _).mono ?_;rintro e w1 ⟨rfl,rfl⟩)
 obtain⟨arr,harr⟩:∃ arr:Array Value,#[.int .u8 0,.int .u8 0,.int .u8 0,.int .u8 0,.int .u8 0,.int .u8 0,.int .u8 0,.int .u8 0,.int .u8 0,.int .u8 0,.int .u8 0,.int .u8 0,.int .u8 0,.int .u8 0,.int .u8 0,.int .u8 0,.int .u8 0,.int .u8 0,.int .u8 0,.int .u8 0,.int .u8 0,.int .u8 0,.int .u8 0,.int .u8 0,.int .u8 0,.int .u8 0,.int .u8 0,.int .u8 0,.int .u8 0,.int .u8 0,.int .u8 0,.int .u8 0]=arr:=⟨_,rfl⟩;have harr2:arr=Array.replicate 32 (.int .u8 0):=by rw[← harr];rfl
 rw[harr];clear harr;have hB1:Below w.heap.size w (w.alloc (.cells arr 248)).drew:=((Below.refl _ _).alloc (Nat.le_refl _) _).drew;have hbuf:(w.alloc (.cells arr 248)).drew.heap[w.heap.size]?=some (.cells arr 248 (0,0)):=World.alloc_heap_new w _;obtain⟨W1,hW1⟩:∃ W1,(w.alloc (.cells arr 248)).drew=W1:=⟨_,rfl⟩;rw[hW1] at hB1 hbuf ⊢;clear hW1;refine (SF W1 hB1).mono ?_;rintro e w2 ⟨rfl,hB2⟩;have hlt1:w.heap.size<W1.heap.size:=(Array.getElem?_eq_some_iff.1 hbuf).1;have hbuf2:=(hB2.block w.heap.size hlt1).trans hbuf;have hBw2:Below w.heap.size w w2:=hB1.trans (hB2.mono hB1.size);have hlt2:w.heap.size<w2.heap.size:=(Array.getElem?_eq_some_iff.1 hbuf2).1;clear SF hbuf hB1 hB2 L53 ext hlt1;have SD:=setDigits_any w2.drew w.heap.size d (-((p-1:Nat):Int)) arr hbuf2 harr2 hd1 hd2 (by omega);have NDw:=ND w2.drew hBw2.drew;rw[hnd] at SD NDw;obtain⟨l,hl⟩:∃ l,Lib.decDigits d=l:=⟨_,rfl⟩;have hlen:l.length=nd:=by rw[← hl,← hnd];exact decDigits_len d
 rw[hl] at SD;obtain⟨n,hn⟩:∃ n,sl l nd=n:=⟨_,rfl⟩;rw[hn] at SD;obtain⟨dp,hdpe⟩:∃ dp:Int,((nd:Nat):Int)+-((p-1:Nat):Int)=dp:=⟨_,rfl⟩;rw[hdpe] at SD;clear ND hbuf2
 go_wp2_with fail
 go_cut [22,23] (fun a c wx=>a=.int .i64 dp/\c=.int .i64 (n:Int)/\Byt wx w.heap.size l/\w2.grownBy wx (some w.heap.size))
 case first=>
  go_region_with (first | (go_at_call 163;refine NDw.mono ?_;rintro e w3 ⟨rfl,rfl⟩) | (go_at_call 210;refine SD.mono ?_;rintro e w4 ⟨rfl,hby,hg4⟩))
  all_goals
   go_wp2_with fail
   go_meet
   case rel=>exact⟨rfl,rfl,hby,grownBy_trans (grown_drew (grownBy_refl w2 _)) hg4⟩
 case rest=>
  obtain⟨rfl,rfl,hby,hg⟩:=hcut;have hsz:=hg.size;have hnd1:=Lib.nDigits_pos d;have hnd18:=nDigits_le 17 d hd2;have hn1:1<=n:=by rw[← hn];exact sl_pos (by rw[← hl];exact decDigits_first d hd1) nd (by omega)
  have hnn:n<=nd:=by rw[← hn];exact sl_le l nd
  have hgw:w.grownBy w2 none:=⟨hBw2.os,hBw2.tape,hBw2.output,hBw2.size,fun k hk _=>hBw2.block k hk⟩;have hneN:dv.ownBlock≠some w.heap.size:=fun e=>by have:=hdv _ e;omega
  have hrow2:Row8 wc b0 dv []:=(hrow.kept hgw (by cases h:dv.ownBlock with | none=>exact .inl rfl | some k=>exact .inr (by simp))).kept hg (.inr hneN);have hF:Fx wc b0 w.heap.size l dv [] wc:=⟨hrow2,hby,by omega,hneN,Below.refl _ _,by omega,by simp⟩;have hBb:Below b0 w wc:=(hBw2.mono hb0).grown hg (by omega) (fun k e=>by simp at e;omega);have hdp2:-3<=dp/\dp<=7:=by omega
  have GOAL:Hid (numT neg d ((Lib.nDigits d:Nat)-((p-1:Nat):Int))=textF neg (l.take n) dp):=by
   show numT neg d ((Lib.nDigits d:Nat)-((p-1:Nat):Int))=_;unfold numT;rw[hl,hnd,hn,show ((nd:Nat):Int)-((p-1:Nat):Int)=dp by omega]
  have hll:l.length<=20:=by omega
  have hnl:n<=l.length:=by omega
  have FINISH:∀ e w',(∃ dv',e=Ending.returned dv'/\Fx wc b0 w.heap.size l dv' (textF neg (l.take n) dp) w')->∃ dv' B l,e=Ending.returned dv'/\Fx w b0 B l dv' (numT neg d ((Lib.nDigits d:Nat)-((p-1:Nat):Int))) w':=by
   rintro e w' ⟨dv',rfl,h⟩;exact⟨dv',w.heap.size,l,rfl,by rw[unh GOAL];exact h.mono hBb⟩
  have HFIN:=hid FINISH;clear FINISH GOAL hrow2 hBb hgw hdp hby hg hrow hdv hBw2 hl hn hnd SD NDw x1 x2 x3 x4 x5 y3 y4 y5 hneg hbl hdpe
  rcases Int.lt_or_le 0 dp with hpos|hneg0
  ·obtain⟨m,hm⟩:∃ m:Nat,dp=(m:Int):=⟨dp.toNat,by omega⟩;subst hm
   by_cases hmn:m<n
   ·obtain⟨d',hd'⟩:∃ d',n-m=d':=⟨_,rfl⟩;have FB:=fmtB_any wc b0 w.heap.size l (l.take n) dv neg n m d' (by omega) (by omega) (by omega) (by omega) hF hll rfl hn1 hnl;have hpr:max ((n:Int)-(m:Int)) 0=(d':Int):=by omega
    clear hd'
    go_wp2_with fail
    refine FB.mono ?_;rintro e w5 ⟨dv',rfl,h5⟩;clear FB
    go_wp2_with fail
    go_ret
    exact unh HFIN _ _ ⟨dv',rfl,h5⟩
   ·have FB:=fmtC_any wc b0 w.heap.size l (l.take n) dv neg n m (m-n) (by omega) (by omega) (by omega) hF hll rfl hn1 hnl;have hpr:max ((n:Int)-(m:Int)) 0=0:=by omega
    go_wp2_with fail
    refine FB.mono ?_;rintro e w5 ⟨dv',rfl,h5⟩;clear FB
    go_wp2_with fail
    go_ret
    exact unh HFIN _ _ ⟨dv',rfl,h5⟩
  ·obtain⟨z,hz⟩:∃ z:Nat,dp=-(z:Int):=⟨(-dp).toNat,by omega⟩;subst hz;have FB:=fmtA_any wc b0 w.heap.size l (l.take n) dv neg n z (by omega) hF hll rfl hn1 hnl;have hpr:max ((n:Int)+(z:Int)) 0=(n:Int)+(z:Int):=by omega
   go_wp2_with fail
   refine FB.mono ?_;rintro e w5 ⟨dv',rfl,h5⟩;clear FB
   go_wp2_with fail
   go_ret
   exact unh HFIN _ _ ⟨dv',rfl,h5⟩
end
section
open Go.RowKit
theorem Tryz.mk24 (w:World):(Instr.makeSlice 102 (.int .i64 0) (.int .i64 24)).run Tryz.prog w=.ok (.slice (some ⟨w.heap.size,0,none⟩) 0 24) (w.alloc (.cells #[.int .u8 0,.int .u8 0,.int .u8 0,.int .u8 0,.int .u8 0,.int .u8 0,.int .u8 0,.int .u8 0,.int .u8 0,.int .u8 0,.int .u8 0,.int .u8 0,.int .u8 0,.int .u8 0,.int .u8 0,.int .u8 0,.int .u8 0,.int .u8 0,.int .u8 0,.int .u8 0,.int .u8 0,.int .u8 0,.int .u8 0,.int .u8 0] 5)):=by kernel_rfl
def bstr (out:List UInt8):ByteArray:=⟨out.toArray⟩
theorem Tryz.und5:Tryz.prog.underlying 5=some (.int .u8):=by kernel_rfl
theorem Tryz.und9:Tryz.prog.underlying 9=some .string:=by kernel_rfl
theorem Row8.bstr {w:World}{base:Nat}{o:Value}{out:List UInt8}(h:Row8 w base o out):(convert 102 9 o).run Tryz.prog w=.ok (.string (bstr out)) w:=by
 rcases h.2 with⟨e,hn⟩|⟨g,cap,cur,e,hb,hg,hc,_,_,ht⟩
 ·have:out=[]:=List.eq_nil_of_length_eq_zero hn;subst this;rw[e];exact Lib.run_convert_nil_bytes w _ _ _ 0 Tryz.underlying102 Tryz.und5 Tryz.und9
 ·rw[e];refine run_convert_bytes_back w _ _ 5 ⟨g,0,none⟩ cap out Tryz.underlying102 Tryz.und5 Tryz.und9 (fun j hj=>?_);exact World.ownsRow.cells h (g:=g) (by rw[e];rfl) j _ (by rw[List.getElem?_map,List.getElem?_eq_getElem hj];rfl)
set_option maxHeartbeats 1000000 in
set_option maxRecDepth 100000 in
theorem format_any (w:World) (neg:Bool) (mt q b d p:Nat) (hq1:33<=q) (hq2:q<=62) (h1:2^52<=mt) (h2:mt<2^53) (hb:b=Ieee.double.word neg ((1074-q)*2^52+mt))
  (hd1:1<=d) (hd2:d<10^18) (hp1:10<=p) (hp2:p<=19) (hdp:-3<=(Lib.nDigits d:Int)-((p-1:Nat):Int)/\(Lib.nDigits d:Int)-((p-1:Nat):Int)<=7)
  (ND:∀ W:World,Below w.heap.size w W->Calls Tryz.prog 163 #[.int .u64 (d:Int)] W fun e w'=>e=.returned (.int .i64 ((Lib.nDigits d:Nat):Int))/\w'=W)
  (SF:∀ W:World,Below w.heap.size w W->Calls Tryz.prog 215 #[.int .u64 ((mt*2^11:Nat):Int),.int .i64 (-((q+11:Nat):Int))] W fun e w'=>e=.returned (.tuple #[.int .u64 (d:Int),.int .i64 (-((p-1:Nat):Int))])/\Below W.heap.size W w') :
  Calls Tryz.prog 166 #[.float .f64 b,.int .u8 102,.int .i64 (-1),.int .i64 64] w fun e w'=>e=.returned (.string (bstr (numT neg d ((Lib.nDigits d:Nat)-((p-1:Nat):Int)))))/\Below w.heap.size w w':=by
 have hmk:=Tryz.mk24 w;have hmx:max (3:Int) 24=24:=by decide
 obtain⟨arr,harr⟩:∃ arr:Array Value,#[.int .u8 0,.int .u8 0,.int .u8 0,.int .u8 0,.int .u8 0,.int .u8 0,.int .u8 0,.int .u8 0,.int .u8 0,.int .u8 0,.int .u8 0,.int .u8 0,.int .u8 0,.int .u8 0,.int .u8 0,.int .u8 0,.int .u8 0,.int .u8 0,.int .u8 0,.int .u8 0,.int .u8 0,.int .u8 0,.int .u8 0,.int .u8 0]=arr:=⟨_,rfl⟩;have hsz:arr.size=24:=by rw[← harr];rfl
 rw[harr] at hmk;have hB0:Below w.heap.size w (w.alloc (.cells arr 5)):=(Below.refl _ _).alloc (Nat.le_refl _) _
 have hrow:Row8 (w.alloc (.cells arr 5)) w.heap.size (.slice (some ⟨w.heap.size,0,none⟩) 0 24) []:=by
  exact⟨rfl,.inr ⟨w.heap.size,24,arr,rfl,Nat.le_refl _,World.alloc_heap_new w _,Nat.zero_le _,by unfold maxLen;omega,by rw[hsz],rfl⟩⟩
 have FA:=ftoa_any (w.alloc (.cells arr 5)) w.heap.size (.slice (some ⟨w.heap.size,0,none⟩) 0 24) neg mt q b d p hq1 hq2 h1 h2 hb hrow (by simp) (fun k e=>by simp[Value.ownBlock] at e;simp;omega) hd1 hd2 hp1 hp2 hdp
  (fun W hW=>ND W (hB0.trans (hW.mono (by simp)))) (fun W hW=>SF W (hB0.trans (hW.mono (by simp))))
 clear hb harr ND SF
 go_enter Tryz.func166,Tryz.ntmps166
 go_wp2_with fail
 refine FA.mono ?_;rintro e w2 ⟨dv',B,l,rfl,hF⟩;have hcv:=hF.row.bstr
 go_wp2_with fail
 go_ret
 exact⟨rfl,hB0.trans hF.bel⟩
set_option maxHeartbeats 1000000 in
theorem sformat_any (w:World) (b:Nat) (s:ByteArray) (FF:Calls Tryz.prog 166 #[.float .f64 b,.int .u8 102,.int .i64 (-1),.int .i64 64] w fun e w'=>e=.returned (.string s)/\Below w.heap.size w w') :
  Calls Tryz.prog 144 #[.float .f64 b,.int .u8 102,.int .i64 (-1),.int .i64 64] w fun e w'=>e=.returned (.string s)/\Below w.heap.size w w':=by
 go_enter Tryz.func144,Tryz.ntmps144
 go_wp2_with fail
 refine FF.mono ?_;rintro e w2 ⟨rfl,hB⟩
 go_wp2_with fail
 go_ret
 exact⟨rfl,hB⟩
theorem cmp_eq0 (x:Int) (h:compare x 0=.eq):x=0:=by
 simp only[compare,compareOfLessAndEq] at h;split at h
 ·cases h
 ·split at h
  ·assumption
  ·cases h
theorem word_ne0 (neg:Bool) (q mt:Nat) (hq1:33<=q) (hq2:q<=62) (h1:2^52<=mt) (h2:mt<2^53):(FloatKind.f64.format.order (Ieee.double.word neg ((1074-q)*2^52+mt)) 0==some .eq)=false:=by
 rw[beq_eq_false_iff_ne];show Ieee.double.order _ 0≠_;unfold Ieee.Format.order;have hz:Ieee.double.read 0=.number false 0 (-1074):=by decide
 rw[read_word neg (1074-q) mt h1 h2 (by omega),hz];unfold Ieee.Datum.order;simp only[Ieee.signed,Nat.zero_shiftLeft];intro e;have hs:∀ k,mt <<< k≠0:=fun k=>by rw[Nat.shiftLeft_eq];have:=Nat.two_pow_pos k;exact Nat.mul_ne_zero (by omega) (by omega)
 have e3:=cmp_eq0 _ (Option.some.inj e);revert e3;cases neg
 ·simp only[Bool.false_eq_true,if_false];intro e3;exact hs _ (Int.natCast_eq_zero.1 e3)
 ·simp only[if_true];intro e3;exact hs _ (Int.natCast_eq_zero.1 (Int.neg_eq_zero.1 e3))
set_option maxHeartbeats 1000000 in
theorem numberText_any (w:World) (b:Nat) (s:ByteArray) (hne:(FloatKind.f64.format.order b 0==some .eq)=false) (FF:Calls Tryz.prog 144 #[.float .f64 b,.int .u8 102,.int .i64 (-1),.int .i64 64] w fun e w'=>e=.returned (.string s)/\Below w.heap.size w w') :
  Calls Tryz.prog 123 #[.float .f64 b] w fun e w'=>e=.returned (.string s)/\Below w.heap.size w w':=by
 go_enter Tryz.func123,Tryz.ntmps123
 go_wp2_with fail
 refine FF.mono ?_;rintro e w2 ⟨rfl,hB⟩
 go_wp2_with fail
 go_ret
 exact⟨rfl,hB⟩
set_option maxHeartbeats 1000000 in
theorem numberText_zero (w:World) (neg:Bool):Calls Tryz.prog 123 #[.float .f64 (if neg then 9223372036854775808 else 0)] w fun e w'=>e=.returned (.string (bstr [48]))/\w=w':=by
 cases neg
 ·have h0:(FloatKind.f64.format.order 0 0==some .eq)=true:=by decide
  go_enter Tryz.func123,Tryz.ntmps123
  go_wp2_with fail
  go_ret
  exact⟨rfl,rfl⟩
 ·have h0:(FloatKind.f64.format.order 9223372036854775808 0==some .eq)=true:=by decide
  go_enter Tryz.func123,Tryz.ntmps123
  go_wp2_with fail
  go_ret
  exact⟨rfl,rfl⟩
end
section
open Go.RowKit
structure NumTx (s:ByteArray) (neg:Bool) (ni nf:Nat):Prop where
 i1:1<=ni
 i2:ni<=6
 f2:nf<=3
 size:s.size=neg.toNat+ni+(if nf=0 then 0 else 1+nf)
 sg:neg=true->bt s 0=45
 di:∀ j,j<ni->48<=bt s (neg.toNat+j)/\bt s (neg.toNat+j)<=57
 pt:nf≠0->bt s (neg.toNat+ni)=46
 df:∀ j,j<nf->48<=bt s (neg.toNat+ni+1+j)/\bt s (neg.toNat+ni+1+j)<=57
def vF (s:ByteArray) (o ni:Nat):Nat->Nat
 | 0=>vI s o ni
 | j+1=>10*vF s o ni j+(bt s (o+ni+1+j)-48)
theorem vI_lt {s:ByteArray}{neg:Bool}{ni nf:Nat}(h:NumTx s neg ni nf):∀ j,j<=ni->vI s neg.toNat j<10^j
 | 0,_=>by unfold vI;decide
 | j+1,hj=>by
  have:=vI_lt h j (by omega);have hd:=h.di j (by omega);rw[Nat.pow_succ];unfold vI;omega
theorem vF_lt {s:ByteArray}{neg:Bool}{ni nf:Nat}(h:NumTx s neg ni nf):∀ j,j<=nf->vF s neg.toNat ni j<10^(ni+j)
 | 0,_=>by unfold vF;exact vI_lt h ni (Nat.le_refl _)
 | j+1,hj=>by
  have:=vF_lt h j (by omega);have hd:=h.df j (by omega);rw[show ni+(j+1)=(ni+j)+1 by omega,Nat.pow_succ];unfold vF;omega
theorem pow_mono9 {a:Nat}(h:a<=9):10^a<=1000000000:=Nat.pow_le_pow_right (n:=10) (by decide) h
theorem str_index (s:ByteArray) (i:Nat) (hi:i<s.size) (w:World):(Instr.index 9 (.string s) (.int .i64 (i:Int))).run Tryz.prog w=.ok (.int .u8 ((bt s i:Nat):Int)) w:=by
 rw[run_index_string w _ _ _ _ Tryz.underlying9,dif_pos ⟨by omega,by omega⟩];congr 3;simp only[Int.toNat_natCast];unfold bt;rw[List.getD_eq_getElem?_getD];simp[ByteArray.getElem_eq_getElem_data,hi]
def RdS (s:ByteArray) (neg:Bool) (ni nf t:Nat) (mant nd:Nat) (dp:Int) (dot:Bool):Prop:=
 (t<=ni/\dot=false/\mant=vI s neg.toNat t/\nd<=t/\(nd=0 ↔ mant=0)/\-(t:Int)<=dp/\dp<=0) \/
 (∃ u,u<=nf/\nf≠0/\t=ni+1+u/\dot=true/\mant=vF s neg.toNat ni u/\nd<=ni+u/\(nd=0 ↔ mant=0)/\dp=(nd:Int)-(u:Int))
theorem RdS.digit {s:ByteArray}{neg:Bool}{ni nf t mant nd:Nat}{dp:Int}{dot:Bool}(hN:NumTx s neg ni nf) (h:RdS s neg ni nf t mant nd dp dot) (hd:t<ni\/(∃ u,u<nf/\t=ni+1+u)) :
  48<=bt s (neg.toNat+t)/\bt s (neg.toNat+t)<=57/\mant<1000000000/\nd<=9 /\
  (bt s (neg.toNat+t)=48->nd=0->RdS s neg ni nf (t+1) mant nd (dp-1) dot) /\
  (¬ (bt s (neg.toNat+t)=48/\nd=0)->RdS s neg ni nf (t+1) (10*mant+(bt s (neg.toNat+t)-48)) (nd+1) dp dot):=by
 have hi2:=hN.i2;have hf2:=hN.f2
 rcases h with⟨h1,h2,h3,h4,h5,h6,h7⟩|⟨u,hu,hnf,ht,h2,h3,h4,h5,h6⟩
 ·have hlt:t<ni:=by
   rcases hd with h|⟨u,_,h⟩
   ·exact h
   ·omega
  have hb:=hN.di t hlt;have hv:=vI_lt hN t (by omega);have hp:=pow_mono9 (a:=t) (by omega);refine⟨hb.1,hb.2,by omega,by omega,fun e1 e2=>.inl ⟨by omega,h2,?_,by omega,h5,by omega,by omega⟩,fun hne=>.inl ⟨by omega,h2,?_,by omega,?_,by omega,by omega⟩⟩
  ·show mant=10*vI s neg.toNat t+(bt s (neg.toNat+t)-48);have:=h5.1 e2;omega
  ·show _=10*vI s neg.toNat t+(bt s (neg.toNat+t)-48);omega
  ·by_cases hz:nd=0
   ·have:mant=0:=h5.1 hz;have:¬ bt s (neg.toNat+t)=48:=fun e=>hne ⟨e,hz⟩
    omega
   ·have:¬ mant=0:=fun e=>hz (h5.2 e)
    omega
 ·have hlt:u<nf:=by
   rcases hd with h|⟨u',h,h'⟩
   ·omega
   ·omega
  have hb:=hN.df u hlt;rw[show neg.toNat+ni+1+u=neg.toNat+t by omega] at hb;have hv:=vF_lt hN u (by omega);have hp:=pow_mono9 (a:=ni+u) (by omega)
  have ev:vF s neg.toNat ni (u+1)=10*vF s neg.toNat ni u+(bt s (neg.toNat+t)-48):=by
   show 10*vF s neg.toNat ni u+(bt s (neg.toNat+ni+1+u)-48)=_;rw[show neg.toNat+ni+1+u=neg.toNat+t by omega]
  refine⟨hb.1,hb.2,by omega,by omega,fun e1 e2=>.inr ⟨u+1,by omega,hnf,by omega,h2,?_,by omega,h5,by omega⟩,fun hne=>.inr ⟨u+1,by omega,hnf,by omega,h2,?_,by omega,?_,by omega⟩⟩
  ·rw[ev];have:=h5.1 e2;omega
  ·rw[ev];omega
  ·by_cases hz:nd=0
   ·have:mant=0:=h5.1 hz;have:¬ bt s (neg.toNat+t)=48:=fun e=>hne ⟨e,hz⟩
    omega
   ·have:¬ mant=0:=fun e=>hz (h5.2 e)
    omega
theorem RdS.point {s:ByteArray}{neg:Bool}{ni nf mant nd:Nat}{dp:Int}{dot:Bool}(h:RdS s neg ni nf ni mant nd dp dot) (hnf:nf≠0):dot=false/\RdS s neg ni nf (ni+1) mant nd (nd:Int) true:=by
 rcases h with⟨h1,h2,h3,h4,h5,h6,h7⟩|⟨u,hu,hnf,ht,_⟩
 ·exact⟨h2,.inr ⟨0,by omega,hnf,rfl,rfl,h3,h4,h5,by omega⟩⟩
 ·omega
end
end Go.Proofs.YtgffljllfenhkaaGreatDoor
