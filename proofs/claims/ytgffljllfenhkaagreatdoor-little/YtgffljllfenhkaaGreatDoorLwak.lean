import Derived.Deep.DeepCutAuto
import Derived.RegionTactic
import Derived.Test.YtgffljllfenhkaaGreatDoorLwaj
section
namespace Go.Proofs.YtgffljllfenhkaaGreatDoor
open Go.RowKit
set_option maxHeartbeats 8000000 in
set_option maxRecDepth 100000 in
theorem fmtC_any (w:World) (b0 B:Nat) (l ld:List UInt8) (dv:Value) (neg:Bool) (n:Nat) (dp z:Nat) (hz:z≤10) (hdz1:dp≤n+z) (hdz2:n+z≤dp) (h:Fx w b0 B l dv [] w) (hl:l.length≤20) (hld:ld=l.take n) (hn1:1≤n) (hn:n≤l.length) :
  Calls Tryz.prog 208 #[dv,.bool neg,.slice (some ⟨B,0,none⟩) 32 32,.int .i64 (dp:Int),.int .i64 (n:Int),.int .i64 0,.int .u8 102,.bool true] w fun e w'=>∃ dv',e=.returned dv'∧Fx w b0 B l dv' (textF neg ld (dp:Int)) w':=by
 obtain ⟨i0,hi,hz0,hz1,hz2⟩:=info_parts Tryz.info5
 have hldl:ld.length=n:=by rw [hld,List.length_take];omega
 have TX:Hid (textF neg ld (dp:Int)=(if neg then [45] else [])++(ld.drop 0).take n++List.replicate z 48):=by
  show textF neg ld (dp:Int)=_
  unfold textF;rw [if_pos (show (0:Int) < (dp:Int) by omega),if_neg (show ¬ (dp:Int) < (ld.length:Int) by omega),show ((dp:Int)).toNat=dp by omega,List.drop_zero,show dp - ld.length=z by omega,List.take_of_length_le (l:=ld) (i:=n) (by omega),List.take_of_length_le (l:=ld) (i:=dp) (by omega)];simp
 obtain ⟨tx,htx⟩:∃ tx,textF neg ld (dp:Int)=tx:=⟨_,rfl⟩
 rw [htx] at TX ⊢
 obtain ⟨t0,ht0⟩:∃ t0:List UInt8,(if neg then [45] else [])=t0:=⟨_,rfl⟩
 have ht1:t0.length≤1:=by rw [← ht0];cases neg <;> simp
 rw [ht0] at TX
 clear htx
 have a4:min (n:Int) (dp:Int)=(n:Int):=by omega
 have a3:(dp:Int) - (n:Int)=(z:Int):=by omega
 have a8:(0:Int) < (dp:Int):=by omega
 have a9:0 < dp:=by omega
 go_enter Tryz.func208,Tryz.ntmps208
 cases neg with
 | false=>
  have hF:Fx w b0 B l dv t0 w:=by rw [← ht0];exact h
  clear h
  go_upto_region 55 with fail
  go_wp2_with fail
  go_loopw [0,191] (fun dvx iv wr=>∃ i:Nat,i≤n∧iv=.int .i64 (i:Int)∧Fx w b0 B l dvx (t0++(ld.drop 0).take i) wr)
   (fun _ iv _=>n - (intOf iv).toNat)
  case atStart=>exact ⟨0,Nat.zero_le _,rfl,by simpa using hF⟩
  case round=>
   clear hF
   obtain ⟨i,hi1,rfl,hF⟩:=hrel
   by_cases hlt:i < n
   ·have hlI:(i:Int) < ((n:Nat):Int):=by omega
    have hcell:=hF.byt (0+i) (by omega)
    obtain ⟨cb,hcb⟩:∃ c:UInt8,l.getD (0+i) 0=c:=⟨_,rfl⟩
    rw [hcb] at hcell
    have HCB:=hid hcb
    clear hcb
    have hix:(0+i:Nat) < 32:=by omega
    rw [Nat.zero_add] at hcell hix
    have HF:=hid hF
    go_wp2_with (at_builtin;refine wpList_append_own_at _ rfl _ _ 102 rfl b0 5 i0 (.int .u8 0) 1 1 Tryz.underlying102 hi hz0 hz1 hz2 rfl (by decide) _ _ _ rfl (World.ownsRow.alloc hF.row _) ⟨_,0,none⟩ 1 1 [_] rfl rfl (cell_one_new _ _ _) (by simp [Value.oneCell']) (by unfold maxLen;have:=hF.len;omega) (by have:=hF.len;omega) (by have:=hF.hb;simp;omega) ?_;intro v' w' hown' hgrow _ hat)
    have hN:=(unh HF).step cb _ rfl (by simp;omega) hown' hgrow hat
    rw [List.append_assoc,← take_snoc hld (by omega) hn (unh HCB)] at hN
    first | exact ⟨⟨i+1,by omega,by go_num,hN⟩,by simp [intOf];omega⟩ | (refine ⟨?_,by simp [intOf];omega⟩;(repeat apply Exists.intro);exact ⟨⟨i+1,by omega,by go_num,hN⟩,rfl⟩)
   ·have hie:n=i:=by omega
    subst hie
    clear hlt hi1
    obtain ⟨p1,hp1⟩:∃ p:List UInt8,t0++(ld.drop 0).take n=p:=⟨_,rfl⟩
    rw [hp1] at hF
    have hp1l:p1.length≤25:=by rw [← hp1];simp;omega
    go_wp2_with fail
    go_loopw [0,203] (fun dvx iv wr=>∃ i:Nat,i≤z∧iv=.int .i64 (i:Int)∧Fx w b0 B l dvx (p1++List.replicate i 48) wr)
     (fun _ iv _=>z - (intOf iv).toNat)
    case atStart=>exact ⟨0,Nat.zero_le _,rfl,by simpa using hF⟩
    case round=>
     clear hF
     obtain ⟨i,hi1,rfl,hF⟩:=hrel
     by_cases hlt:i < z
     ·have hlI:(i:Int) < ((z:Nat):Int):=by omega
      have HF:=hid hF
      go_wp2_with (at_builtin;refine wpList_append_own_at _ rfl _ _ 102 rfl b0 5 i0 (.int .u8 0) 1 1 Tryz.underlying102 hi hz0 hz1 hz2 rfl (by decide) _ _ _ rfl (World.ownsRow.alloc hF.row _) ⟨_,0,none⟩ 1 1 [_] rfl rfl (cell_one_new _ _ _) (by simp [Value.oneCell']) (by unfold maxLen;have:=hF.len;omega) (by have:=hF.len;omega) (by have:=hF.hb;simp;omega) ?_;intro v' w' hown' hgrow _ hat)
      have hN:=(unh HF).step 48 48 rfl (by simp;omega) hown' hgrow hat
      rw [List.append_assoc,← rep_snoc] at hN
      first | exact ⟨⟨i+1,by omega,by go_num,hN⟩,by simp [intOf];omega⟩ | (refine ⟨?_,by simp [intOf];omega⟩;(repeat apply Exists.intro);exact ⟨⟨i+1,by omega,by go_num,hN⟩,rfl⟩)
     ·have hie:z=i:=by omega
      subst hie
      clear hlt hi1
      obtain ⟨p4,hp4⟩:∃ p:List UInt8,p1++List.replicate z 48=p:=⟨_,rfl⟩
      rw [hp4] at hF
      have hp4l:p4.length≤40:=by rw [← hp4];simp;omega
      have TX2:Hid (tx=p4):=by have:=unh TX;rw [hp1,hp4] at this;exact this
      go_wp2_with fail
      go_ret
      exact ⟨_,rfl,by rw [unh TX2];exact hF⟩
 | true=>
  go_upto_region 55 with (at_builtin;refine wpList_append_own_at _ rfl _ _ 102 rfl b0 5 i0 (.int .u8 0) 1 1 Tryz.underlying102 hi hz0 hz1 hz2 rfl (by decide) _ _ _ rfl (World.ownsRow.alloc h.row _) ⟨_,0,none⟩ 1 1 [_] rfl rfl (cell_one_new _ _ _) (by simp [Value.oneCell']) (by unfold maxLen;have:=h.len;omega) (by have:=h.len;omega) (by have:=h.hb;simp;omega) ?_;intro v' w' hown' hgrow _ hat)
  have hF:Fx w b0 B l v' t0 w':=by rw [← ht0];exact h.step 45 45 rfl (by simp) hown' hgrow hat
  clear h hown' hgrow hat
  go_wp2_with fail
  go_loopw [0,191] (fun dvx iv wr=>∃ i:Nat,i≤n∧iv=.int .i64 (i:Int)∧Fx w b0 B l dvx (t0++(ld.drop 0).take i) wr)
   (fun _ iv _=>n - (intOf iv).toNat)
  case atStart=>exact ⟨0,Nat.zero_le _,rfl,by simpa using hF⟩
  case round=>
   clear hF
   obtain ⟨i,hi1,rfl,hF⟩:=hrel
   by_cases hlt:i < n
   ·have hlI:(i:Int) < ((n:Nat):Int):=by omega
    have hcell:=hF.byt (0+i) (by omega)
    obtain ⟨cb,hcb⟩:∃ c:UInt8,l.getD (0+i) 0=c:=⟨_,rfl⟩
    rw [hcb] at hcell
    have HCB:=hid hcb
    clear hcb
    have hix:(0+i:Nat) < 32:=by omega
    rw [Nat.zero_add] at hcell hix
    have HF:=hid hF
    go_wp2_with (at_builtin;refine wpList_append_own_at _ rfl _ _ 102 rfl b0 5 i0 (.int .u8 0) 1 1 Tryz.underlying102 hi hz0 hz1 hz2 rfl (by decide) _ _ _ rfl (World.ownsRow.alloc hF.row _) ⟨_,0,none⟩ 1 1 [_] rfl rfl (cell_one_new _ _ _) (by simp [Value.oneCell']) (by unfold maxLen;have:=hF.len;omega) (by have:=hF.len;omega) (by have:=hF.hb;simp;omega) ?_;intro v' w' hown' hgrow _ hat)
    have hN:=(unh HF).step cb _ rfl (by simp;omega) hown' hgrow hat
    rw [List.append_assoc,← take_snoc hld (by omega) hn (unh HCB)] at hN
    first | exact ⟨⟨i+1,by omega,by go_num,hN⟩,by simp [intOf];omega⟩ | (refine ⟨?_,by simp [intOf];omega⟩;(repeat apply Exists.intro);exact ⟨⟨i+1,by omega,by go_num,hN⟩,rfl⟩)
   ·have hie:n=i:=by omega
    subst hie
    clear hlt hi1
    obtain ⟨p1,hp1⟩:∃ p:List UInt8,t0++(ld.drop 0).take n=p:=⟨_,rfl⟩
    rw [hp1] at hF
    have hp1l:p1.length≤25:=by rw [← hp1];simp;omega
    go_wp2_with fail
    go_loopw [0,203] (fun dvx iv wr=>∃ i:Nat,i≤z∧iv=.int .i64 (i:Int)∧Fx w b0 B l dvx (p1++List.replicate i 48) wr)
     (fun _ iv _=>z - (intOf iv).toNat)
    case atStart=>exact ⟨0,Nat.zero_le _,rfl,by simpa using hF⟩
    case round=>
     clear hF
     obtain ⟨i,hi1,rfl,hF⟩:=hrel
     by_cases hlt:i < z
     ·have hlI:(i:Int) < ((z:Nat):Int):=by omega
      have HF:=hid hF
      go_wp2_with (at_builtin;refine wpList_append_own_at _ rfl _ _ 102 rfl b0 5 i0 (.int .u8 0) 1 1 Tryz.underlying102 hi hz0 hz1 hz2 rfl (by decide) _ _ _ rfl (World.ownsRow.alloc hF.row _) ⟨_,0,none⟩ 1 1 [_] rfl rfl (cell_one_new _ _ _) (by simp [Value.oneCell']) (by unfold maxLen;have:=hF.len;omega) (by have:=hF.len;omega) (by have:=hF.hb;simp;omega) ?_;intro v' w' hown' hgrow _ hat)
      have hN:=(unh HF).step 48 48 rfl (by simp;omega) hown' hgrow hat
      rw [List.append_assoc,← rep_snoc] at hN
      first | exact ⟨⟨i+1,by omega,by go_num,hN⟩,by simp [intOf];omega⟩ | (refine ⟨?_,by simp [intOf];omega⟩;(repeat apply Exists.intro);exact ⟨⟨i+1,by omega,by go_num,hN⟩,rfl⟩)
     ·have hie:z=i:=by omega
      subst hie
      clear hlt hi1
      obtain ⟨p4,hp4⟩:∃ p:List UInt8,p1++List.replicate z 48=p:=⟨_,rfl⟩
      rw [hp4] at hF
      have hp4l:p4.length≤40:=by rw [← hp4];simp;omega
      have TX2:Hid (tx=p4):=by have:=unh TX;rw [hp1,hp4] at this;exact this
      go_wp2_with fail
      go_ret
      exact ⟨_,rfl,by rw [unh TX2];exact hF⟩
end Go.Proofs.YtgffljllfenhkaaGreatDoor
end
section
namespace Go.Proofs.YtgffljllfenhkaaGreatDoor
open Go.RowKit
set_option maxHeartbeats 8000000 in
set_option maxRecDepth 100000 in
theorem fmtB_any (w:World) (b0 B:Nat) (l ld:List UInt8) (dv:Value) (neg:Bool) (n:Nat) (m d:Nat) (hm:1≤m) (hd:1≤d) (hnd1:m+d≤n) (hnd2:n≤m+d) (h:Fx w b0 B l dv [] w) (hl:l.length≤20) (hld:ld=l.take n) (hn1:1≤n) (hn:n≤l.length) :
  Calls Tryz.prog 208 #[dv,.bool neg,.slice (some ⟨B,0,none⟩) 32 32,.int .i64 (m:Int),.int .i64 (n:Int),.int .i64 (d:Int),.int .u8 102,.bool true] w fun e w'=>∃ dv',e=.returned dv'∧Fx w b0 B l dv' (textF neg ld (m:Int)) w':=by
 obtain ⟨i0,hi,hz0,hz1,hz2⟩:=info_parts Tryz.info5
 have hldl:ld.length=n:=by rw [hld,List.length_take];omega
 have TX:Hid (textF neg ld (m:Int)=(if neg then [45] else [])++(ld.drop 0).take m++[46]++(ld.drop m).take d):=by
  show textF neg ld (m:Int)=_
  unfold textF;rw [if_pos (show (0:Int) < (m:Int) by omega),if_pos (show (m:Int) < (ld.length:Int) by omega),show (-(m:Int)).toNat=0 by omega,show ((m:Int)).toNat=m by omega,List.drop_zero,show m - ld.length=0 by omega,List.take_of_length_le (l:=ld.drop m) (by simp;omega)];simp
 obtain ⟨tx,htx⟩:∃ tx,textF neg ld (m:Int)=tx:=⟨_,rfl⟩
 rw [htx] at TX ⊢
 obtain ⟨t0,ht0⟩:∃ t0:List UInt8,(if neg then [45] else [])=t0:=⟨_,rfl⟩
 have ht1:t0.length≤1:=by rw [← ht0];cases neg <;> simp
 rw [ht0] at TX
 clear htx
 have a1:max (0:Int) (-(m:Int))=0:=by omega
 have a2:min (d:Int) (0:Int)=0:=by omega
 have a3:(n:Int) - (m:Int)=(d:Int):=by omega
 have a4:min (n:Int) (m:Int)=(m:Int):=by omega
 have a5:max (0:Int) (d:Int)=(d:Int):=by omega
 have a6:min (d:Int) (d:Int)=(d:Int):=by omega
 have a7:(0:Int) < (d:Int):=by omega
 have a8:(0:Int) < (m:Int):=by omega
 have a9:0 < m:=by omega
 have b9:0 < d:=by omega
 go_enter Tryz.func208,Tryz.ntmps208
 cases neg with
 | false=>
  have hF:Fx w b0 B l dv t0 w:=by rw [← ht0];exact h
  clear h
  go_upto_region 55 with fail
  go_wp2_with fail
  go_loopw [0,191] (fun dvx iv wr=>∃ i:Nat,i≤m∧iv=.int .i64 (i:Int)∧Fx w b0 B l dvx (t0++(ld.drop 0).take i) wr)
   (fun _ iv _=>m - (intOf iv).toNat)
  case atStart=>exact ⟨0,Nat.zero_le _,rfl,by simpa using hF⟩
  case round=>
   clear hF
   obtain ⟨i,hi1,rfl,hF⟩:=hrel
   by_cases hlt:i < m
   ·have hlI:(i:Int) < ((m:Nat):Int):=by omega
    have hcell:=hF.byt (0+i) (by omega)
    obtain ⟨cb,hcb⟩:∃ c:UInt8,l.getD (0+i) 0=c:=⟨_,rfl⟩
    rw [hcb] at hcell
    have HCB:=hid hcb
    clear hcb
    have hix:(0+i:Nat) < 32:=by omega
    rw [Nat.zero_add] at hcell hix
    have HF:=hid hF
    go_wp2_with (at_builtin;refine wpList_append_own_at _ rfl _ _ 102 rfl b0 5 i0 (.int .u8 0) 1 1 Tryz.underlying102 hi hz0 hz1 hz2 rfl (by decide) _ _ _ rfl (World.ownsRow.alloc hF.row _) ⟨_,0,none⟩ 1 1 [_] rfl rfl (cell_one_new _ _ _) (by simp [Value.oneCell']) (by unfold maxLen;have:=hF.len;omega) (by have:=hF.len;omega) (by have:=hF.hb;simp;omega) ?_;intro v' w' hown' hgrow _ hat)
    have hN:=(unh HF).step cb _ rfl (by simp;omega) hown' hgrow hat
    rw [List.append_assoc,← take_snoc hld (by omega) hn (unh HCB)] at hN
    first | exact ⟨⟨i+1,by omega,by go_num,hN⟩,by simp [intOf];omega⟩ | (refine ⟨?_,by simp [intOf];omega⟩;(repeat apply Exists.intro);exact ⟨⟨i+1,by omega,by go_num,hN⟩,rfl⟩)
   ·have hie:m=i:=by omega
    subst hie
    clear hlt hi1
    obtain ⟨p1,hp1⟩:∃ p:List UInt8,t0++(ld.drop 0).take m=p:=⟨_,rfl⟩
    rw [hp1] at hF
    have hp1l:p1.length≤25:=by rw [← hp1];simp;omega
    go_wp2_with fail
    go_loopw [0,203] (fun dvx iv wr=>∃ i:Nat,i≤0∧iv=.int .i64 (i:Int)∧Fx w b0 B l dvx (p1++List.replicate i 48) wr)
     (fun _ iv _=>0 - (intOf iv).toNat)
    case atStart=>exact ⟨0,Nat.zero_le _,rfl,by simpa using hF⟩
    case round=>
     clear hF
     obtain ⟨i,hi1,rfl,hF⟩:=hrel
     by_cases hlt:i < 0
     ·exact absurd hlt (by omega)
     ·have hie:0=i:=by omega
      subst hie
      clear hlt hi1
      rw [List.replicate_zero,List.append_nil] at hF
      go_upto_region 69 with (at_builtin;refine wpList_append_own_at _ rfl _ _ 102 rfl b0 5 i0 (.int .u8 0) 1 1 Tryz.underlying102 hi hz0 hz1 hz2 rfl (by decide) _ _ _ rfl (World.ownsRow.alloc hF.row _) ⟨_,0,none⟩ 1 1 [_] rfl rfl (cell_one_new _ _ _) (by simp [Value.oneCell']) (by unfold maxLen;have:=hF.len;omega) (by have:=hF.len;omega) (by have:=hF.hb;simp;omega) ?_;intro v' w' hown' hgrow _ hat)
      have hP:=hF.step (v':=v') 46 46 rfl (by first | omega | (simp;omega)) hown' hgrow hat
      clear hF hown' hgrow hat
      obtain ⟨p2,hp2⟩:∃ p:List UInt8,p1++[46]=p:=⟨_,rfl⟩
      rw [hp2] at hP
      have hF:=hP
      clear hP
      have hp2l:p2.length≤26:=by rw [← hp2];simp;omega
      go_wp2_with fail
      go_loopw [0,240] (fun dvx iv wr=>∃ i:Nat,i≤0∧iv=.int .i64 (i:Int)∧Fx w b0 B l dvx (p2++List.replicate i 48) wr)
       (fun _ iv _=>0 - (intOf iv).toNat)
      case atStart=>exact ⟨0,Nat.zero_le _,rfl,by simpa using hF⟩
      case round=>
       clear hF
       obtain ⟨i,hi1,rfl,hF⟩:=hrel
       by_cases hlt:i < 0
       ·exact absurd hlt (by omega)
       ·have hie:0=i:=by omega
        subst hie
        clear hlt hi1
        rw [List.replicate_zero,List.append_nil] at hF
        go_wp2_with fail
        go_loopw [0,247] (fun dvx iv wr=>∃ i:Nat,i≤d∧iv=.int .i64 (i:Int)∧Fx w b0 B l dvx (p2++(ld.drop m).take i) wr)
         (fun _ iv _=>d - (intOf iv).toNat)
        case atStart=>exact ⟨0,Nat.zero_le _,rfl,by simpa using hF⟩
        case round=>
         clear hF
         obtain ⟨i,hi1,rfl,hF⟩:=hrel
         by_cases hlt:i < d
         ·have hlI:(i:Int) < ((d:Nat):Int):=by omega
          have hcell:=hF.byt (m+i) (by omega)
          obtain ⟨cb,hcb⟩:∃ c:UInt8,l.getD (m+i) 0=c:=⟨_,rfl⟩
          rw [hcb] at hcell
          have HCB:=hid hcb
          clear hcb
          have hix:(m+i:Nat) < 32:=by omega
          obtain ⟨jx,hjx⟩:∃ jx,m+i=jx:=⟨_,rfl⟩
          have hoi:(m:Int)+(i:Int)=(jx:Int):=by omega
          have hjn:jx < n:=by omega
          rw [hjx] at hcell hix
          have HJX:=hid hjx
          clear hjx
          have hjI:(jx:Int) < 32:=by omega
          have HF:=hid hF
          go_wp2_with (at_builtin;refine wpList_append_own_at _ rfl _ _ 102 rfl b0 5 i0 (.int .u8 0) 1 1 Tryz.underlying102 hi hz0 hz1 hz2 rfl (by decide) _ _ _ rfl (World.ownsRow.alloc hF.row _) ⟨_,0,none⟩ 1 1 [_] rfl rfl (cell_one_new _ _ _) (by simp [Value.oneCell']) (by unfold maxLen;have:=hF.len;omega) (by have:=hF.len;omega) (by have:=hF.hb;simp;omega) ?_;intro v' w' hown' hgrow _ hat)
          have hN:=(unh HF).step cb _ rfl (by simp;omega) hown' hgrow hat
          rw [List.append_assoc,← take_snoc hld (by omega) hn (unh HCB)] at hN
          first | exact ⟨⟨i+1,by omega,by go_num,hN⟩,by simp [intOf];omega⟩ | (refine ⟨?_,by simp [intOf];omega⟩;(repeat apply Exists.intro);exact ⟨⟨i+1,by omega,by go_num,hN⟩,rfl⟩)
         ·have hie:d=i:=by omega
          subst hie
          clear hlt hi1
          obtain ⟨p4,hp4⟩:∃ p:List UInt8,p2++(ld.drop m).take d=p:=⟨_,rfl⟩
          rw [hp4] at hF
          have hp4l:p4.length≤50:=by rw [← hp4];simp;omega
          go_wp2_with fail
          go_loopw [0,261] (fun dvx iv wr=>∃ i:Nat,i≤0∧iv=.int .i64 (i:Int)∧Fx w b0 B l dvx (p4++List.replicate i 48) wr)
           (fun _ iv _=>0 - (intOf iv).toNat)
          case atStart=>exact ⟨0,Nat.zero_le _,rfl,by simpa using hF⟩
          case round=>
           clear hF
           obtain ⟨i,hi1,rfl,hF⟩:=hrel
           by_cases hlt:i < 0
           ·exact absurd hlt (by omega)
           ·have hie:0=i:=by omega
            subst hie
            clear hlt hi1
            have TX2:Hid (tx=p4):=by have:=unh TX;rw [hp1,hp2,hp4] at this;exact this
            rw [List.replicate_zero,List.append_nil] at hF
            go_wp2_with fail
            go_ret
            exact ⟨_,rfl,by rw [unh TX2];exact hF⟩
 | true=>
  go_upto_region 55 with (at_builtin;refine wpList_append_own_at _ rfl _ _ 102 rfl b0 5 i0 (.int .u8 0) 1 1 Tryz.underlying102 hi hz0 hz1 hz2 rfl (by decide) _ _ _ rfl (World.ownsRow.alloc h.row _) ⟨_,0,none⟩ 1 1 [_] rfl rfl (cell_one_new _ _ _) (by simp [Value.oneCell']) (by unfold maxLen;have:=h.len;omega) (by have:=h.len;omega) (by have:=h.hb;simp;omega) ?_;intro v' w' hown' hgrow _ hat)
  have hF:Fx w b0 B l v' t0 w':=by rw [← ht0];exact h.step 45 45 rfl (by simp) hown' hgrow hat
  clear h hown' hgrow hat
  go_wp2_with fail
  go_loopw [0,191] (fun dvx iv wr=>∃ i:Nat,i≤m∧iv=.int .i64 (i:Int)∧Fx w b0 B l dvx (t0++(ld.drop 0).take i) wr)
   (fun _ iv _=>m - (intOf iv).toNat)
  case atStart=>exact ⟨0,Nat.zero_le _,rfl,by simpa using hF⟩
  case round=>
   clear hF
   obtain ⟨i,hi1,rfl,hF⟩:=hrel
   by_cases hlt:i < m
   ·have hlI:(i:Int) < ((m:Nat):Int):=by omega
    have hcell:=hF.byt (0+i) (by omega)
    obtain ⟨cb,hcb⟩:∃ c:UInt8,l.getD (0+i) 0=c:=⟨_,rfl⟩
    rw [hcb] at hcell
    have HCB:=hid hcb
    clear hcb
    have hix:(0+i:Nat) < 32:=by omega
    rw [Nat.zero_add] at hcell hix
    have HF:=hid hF
    go_wp2_with (at_builtin;refine wpList_append_own_at _ rfl _ _ 102 rfl b0 5 i0 (.int .u8 0) 1 1 Tryz.underlying102 hi hz0 hz1 hz2 rfl (by decide) _ _ _ rfl (World.ownsRow.alloc hF.row _) ⟨_,0,none⟩ 1 1 [_] rfl rfl (cell_one_new _ _ _) (by simp [Value.oneCell']) (by unfold maxLen;have:=hF.len;omega) (by have:=hF.len;omega) (by have:=hF.hb;simp;omega) ?_;intro v' w' hown' hgrow _ hat)
    have hN:=(unh HF).step cb _ rfl (by simp;omega) hown' hgrow hat
    rw [List.append_assoc,← take_snoc hld (by omega) hn (unh HCB)] at hN
    first | exact ⟨⟨i+1,by omega,by go_num,hN⟩,by simp [intOf];omega⟩ | (refine ⟨?_,by simp [intOf];omega⟩;(repeat apply Exists.intro);exact ⟨⟨i+1,by omega,by go_num,hN⟩,rfl⟩)
   ·have hie:m=i:=by omega
    subst hie
    clear hlt hi1
    obtain ⟨p1,hp1⟩:∃ p:List UInt8,t0++(ld.drop 0).take m=p:=⟨_,rfl⟩
    rw [hp1] at hF
    have hp1l:p1.length≤25:=by rw [← hp1];simp;omega
    go_wp2_with fail
    go_loopw [0,203] (fun dvx iv wr=>∃ i:Nat,i≤0∧iv=.int .i64 (i:Int)∧Fx w b0 B l dvx (p1++List.replicate i 48) wr)
     (fun _ iv _=>0 - (intOf iv).toNat)
    case atStart=>exact ⟨0,Nat.zero_le _,rfl,by simpa using hF⟩
    case round=>
     clear hF
     obtain ⟨i,hi1,rfl,hF⟩:=hrel
     by_cases hlt:i < 0
     ·exact absurd hlt (by omega)
     ·have hie:0=i:=by omega
      subst hie
      clear hlt hi1
      rw [List.replicate_zero,List.append_nil] at hF
      go_upto_region 69 with (at_builtin;refine wpList_append_own_at _ rfl _ _ 102 rfl b0 5 i0 (.int .u8 0) 1 1 Tryz.underlying102 hi hz0 hz1 hz2 rfl (by decide) _ _ _ rfl (World.ownsRow.alloc hF.row _) ⟨_,0,none⟩ 1 1 [_] rfl rfl (cell_one_new _ _ _) (by simp [Value.oneCell']) (by unfold maxLen;have:=hF.len;omega) (by have:=hF.len;omega) (by have:=hF.hb;simp;omega) ?_;intro v' w' hown' hgrow _ hat)
      have hP:=hF.step (v':=v') 46 46 rfl (by first | omega | (simp;omega)) hown' hgrow hat
      clear hF hown' hgrow hat
      obtain ⟨p2,hp2⟩:∃ p:List UInt8,p1++[46]=p:=⟨_,rfl⟩
      rw [hp2] at hP
      have hF:=hP
      clear hP
      have hp2l:p2.length≤26:=by rw [← hp2];simp;omega
      go_wp2_with fail
      go_loopw [0,240] (fun dvx iv wr=>∃ i:Nat,i≤0∧iv=.int .i64 (i:Int)∧Fx w b0 B l dvx (p2++List.replicate i 48) wr)
       (fun _ iv _=>0 - (intOf iv).toNat)
      case atStart=>exact ⟨0,Nat.zero_le _,rfl,by simpa using hF⟩
      case round=>
       clear hF
       obtain ⟨i,hi1,rfl,hF⟩:=hrel
       by_cases hlt:i < 0
       ·exact absurd hlt (by omega)
       ·have hie:0=i:=by omega
        subst hie
        clear hlt hi1
        rw [List.replicate_zero,List.append_nil] at hF
        go_wp2_with fail
        go_loopw [0,247] (fun dvx iv wr=>∃ i:Nat,i≤d∧iv=.int .i64 (i:Int)∧Fx w b0 B l dvx (p2++(ld.drop m).take i) wr)
         (fun _ iv _=>d - (intOf iv).toNat)
        case atStart=>exact ⟨0,Nat.zero_le _,rfl,by simpa using hF⟩
        case round=>
         clear hF
         obtain ⟨i,hi1,rfl,hF⟩:=hrel
         by_cases hlt:i < d
         ·have hlI:(i:Int) < ((d:Nat):Int):=by omega
          have hcell:=hF.byt (m+i) (by omega)
          obtain ⟨cb,hcb⟩:∃ c:UInt8,l.getD (m+i) 0=c:=⟨_,rfl⟩
          rw [hcb] at hcell
          have HCB:=hid hcb
          clear hcb
          have hix:(m+i:Nat) < 32:=by omega
          obtain ⟨jx,hjx⟩:∃ jx,m+i=jx:=⟨_,rfl⟩
          have hoi:(m:Int)+(i:Int)=(jx:Int):=by omega
          have hjn:jx < n:=by omega
          rw [hjx] at hcell hix
          have HJX:=hid hjx
          clear hjx
          have hjI:(jx:Int) < 32:=by omega
          have HF:=hid hF
          go_wp2_with (at_builtin;refine wpList_append_own_at _ rfl _ _ 102 rfl b0 5 i0 (.int .u8 0) 1 1 Tryz.underlying102 hi hz0 hz1 hz2 rfl (by decide) _ _ _ rfl (World.ownsRow.alloc hF.row _) ⟨_,0,none⟩ 1 1 [_] rfl rfl (cell_one_new _ _ _) (by simp [Value.oneCell']) (by unfold maxLen;have:=hF.len;omega) (by have:=hF.len;omega) (by have:=hF.hb;simp;omega) ?_;intro v' w' hown' hgrow _ hat)
          have hN:=(unh HF).step cb _ rfl (by simp;omega) hown' hgrow hat
          rw [List.append_assoc,← take_snoc hld (by omega) hn (unh HCB)] at hN
          first | exact ⟨⟨i+1,by omega,by go_num,hN⟩,by simp [intOf];omega⟩ | (refine ⟨?_,by simp [intOf];omega⟩;(repeat apply Exists.intro);exact ⟨⟨i+1,by omega,by go_num,hN⟩,rfl⟩)
         ·have hie:d=i:=by omega
          subst hie
          clear hlt hi1
          obtain ⟨p4,hp4⟩:∃ p:List UInt8,p2++(ld.drop m).take d=p:=⟨_,rfl⟩
          rw [hp4] at hF
          have hp4l:p4.length≤50:=by rw [← hp4];simp;omega
          go_wp2_with fail
          go_loopw [0,261] (fun dvx iv wr=>∃ i:Nat,i≤0∧iv=.int .i64 (i:Int)∧Fx w b0 B l dvx (p4++List.replicate i 48) wr)
           (fun _ iv _=>0 - (intOf iv).toNat)
          case atStart=>exact ⟨0,Nat.zero_le _,rfl,by simpa using hF⟩
          case round=>
           clear hF
           obtain ⟨i,hi1,rfl,hF⟩:=hrel
           by_cases hlt:i < 0
           ·exact absurd hlt (by omega)
           ·have hie:0=i:=by omega
            subst hie
            clear hlt hi1
            have TX2:Hid (tx=p4):=by have:=unh TX;rw [hp1,hp2,hp4] at this;exact this
            rw [List.replicate_zero,List.append_nil] at hF
            go_wp2_with fail
            go_ret
            exact ⟨_,rfl,by rw [unh TX2];exact hF⟩
end Go.Proofs.YtgffljllfenhkaaGreatDoor
end
section
namespace Go.Proofs.YtgffljllfenhkaaGreatDoor
open Go.RowKit
theorem and_mask52 (b:Nat) (hb:b < 2 ^ 64):bits .and .u64 (b:Int) 4503599627370495=((b % 2 ^ 52:Nat):Int):=by
 have h:=bits_and_u64_nat b 4503599627370495 (by omega) (by omega)
 rw [show b &&& 4503599627370495=b % 2 ^ 52 from Nat.and_two_pow_sub_one_eq_mod b 52] at h
 exact h
theorem and_mask11 (a:Nat) (ha:a < 2 ^ 62):bits .and .i64 (a:Int) 2047=((a % 2048:Nat):Int):=by
 have h1:(BitVec.ofInt 64 (a:Int)).toNat=a:=by rw [BitVec.ofInt_natCast,BitVec.toNat_ofNat];exact Nat.mod_eq_of_lt (by omega)
 have h2:(BitVec.ofInt 64 (2047:Int)).toNat=2047:=by decide
 show IntKind.i64.wrap ((BitVec.ofInt 64 (a:Int) &&& BitVec.ofInt 64 (2047:Int)).toNat:Int)=_
 rw [BitVec.toNat_and,h1,h2,show a &&& 2047=a % 2048 from Nat.and_two_pow_sub_one_eq_mod a 11,wraps_i64 _ (by omega) (by omega)]
theorem or_bit52 (x:Nat) (hx:x < 2 ^ 52):bits .or .u64 (x:Int) 4503599627370496=((x+2 ^ 52:Nat):Int):=by
 have h:=bits_or_u64_nat x 4503599627370496 (by omega) (by omega)
 have e:x ||| 4503599627370496=x+2 ^ 52:=by
  rw [Nat.or_comm]
  have:=Nat.two_pow_add_eq_or_of_lt (i:=52) (b:=x) hx 1
  rw [Nat.mul_one] at this
  rw [Nat.add_comm];exact this.symm
 rw [e] at h
 exact h
theorem bitLen_pow : ∀ (n x : Nat), n ≤ 60 → 2 ^ n ≤ x → x < 2 ^ (n + 1) → Lib.bitLen x = n + 1
  | 0, x, _, h1, h2 => by have : x = 1 := by omega
                          rw [this]; decide
  | n + 1, x, hn, h1, h2 => by
    have h60 : 2 ^ (n + 1 + 1) ≤ 2 ^ 62 := Nat.pow_le_pow_right (by decide) (by omega)
    have hp := Nat.two_pow_pos (n + 1)
    rw [Lib.bitLen_half x (by omega) (by omega), bitLen_pow n (x / 2) (by omega) (by rw [Nat.pow_succ] at h1; omega) (by rw [Nat.pow_succ] at h2; omega)]
    omega
theorem bitLen53 (mt:Nat) (h1:2 ^ 52≤mt) (h2:mt < 2 ^ 53):Lib.bitLen mt=53:=bitLen_pow 52 mt (by decide) h1 h2
theorem Tryz.f64bits (b:Nat) (w:World):(callFunc 205 #[.float .f64 b]).run Tryz.prog w=.ok (.value (.int .u64 (b:Int))) w:=by
 first | kernel_rfl | rfl
theorem Tryz.f64from (b:Nat) (w:World):(callFunc 261 #[.int .u64 (b:Int)]).run Tryz.prog w=.ok (.value (.float .f64 b)) w:=by
 first | kernel_rfl | rfl
end Go.Proofs.YtgffljllfenhkaaGreatDoor
end
section
namespace Go.Proofs.YtgffljllfenhkaaGreatDoor
open Go.RowKit
theorem word_fields (neg:Bool) (q mt b:Nat) (hq1:33≤q) (hq2:q≤62) (h1:2 ^ 52≤mt) (h2:mt < 2 ^ 53) (hb:b=Ieee.double.word neg ((1074 - q) * 2 ^ 52+mt)) :
  b < 2 ^ 64∧b / 9223372036854775808=(if neg then 1 else 0)∧b / 4503599627370496 % 2048=1075 - q∧b % 2 ^ 52=mt - 2 ^ 52∧b / 4503599627370496 < 2 ^ 62:=by
 have hw:b=(if neg then 9223372036854775808 else 0)+((1074 - q) * 2 ^ 52+mt):=by
  rw [hb];unfold Ieee.Format.word
  cases neg
  ·simp
  ·simp [Ieee.Format.signWeight,Ieee.double]
 cases neg
 ·simp only [Bool.false_eq_true,if_false] at hw ⊢;omega
 ·simp only [if_true] at hw ⊢;omega
theorem sl_pos {l:List UInt8} (h:¬ l.getD 0 0=48):∀ n,1≤n→1≤sl l n
 | 1,_=>by rw [sl_miss h];exact Nat.le_refl _
 | n+2,_=>by
  by_cases h2:l.getD (n+1) 0=48
  ·rw [sl_hit h2];exact sl_pos h (n+1) (by omega)
  ·rw [sl_miss h2];omega
theorem decDigits_first (d:Nat) (hd:1≤d):¬ (Lib.decDigits d).getD 0 0=48:=by
 induction d using Nat.strongRecOn with
 | _ d ih=>
  rw [Lib.decDigits]
  split
  ·rename_i h
   have h9:∀ i:Fin 10,1≤i.1→¬ UInt8.ofNat (48+i.1)=48:=by decide
   simpa using h9 ⟨d,h⟩ hd
  ·rename_i h
   have hl:=decDigits_len (d / 10)
   have:=Lib.nDigits_pos (d / 10)
   rw [List.getD_eq_getElem?_getD,List.getElem?_append_left (by omega),← List.getD_eq_getElem?_getD]
   exact ih (d / 10) (by omega) (by omega)
theorem Fx.mono {w0 w1:World} {b0 B:Nat} {l:List UInt8} {dv:Value} {out:List UInt8} {w:World} (h:Fx w1 b0 B l dv out w) (hb:Below b0 w0 w1):Fx w0 b0 B l dv out w:=
 ⟨h.row,h.byt,h.blt,h.ne,hb.trans h.bel,h.hb,h.len⟩
def numT (neg:Bool) (d:Nat) (dp:Int):List UInt8:=textF neg ((Lib.decDigits d).take (sl (Lib.decDigits d) (Lib.nDigits d))) dp
set_option maxHeartbeats 4000000 in
set_option maxRecDepth 100000 in
theorem ftoa_any (w:World) (b0:Nat) (dv:Value) (neg:Bool) (mt q b d p:Nat) (hq1:33≤q) (hq2:q≤62) (h1:2 ^ 52≤mt) (h2:mt < 2 ^ 53) (hb:b=Ieee.double.word neg ((1074 - q) * 2 ^ 52+mt))
  (hrow:Row8 w b0 dv []) (hb0:b0≤w.heap.size) (hdv:∀ k,dv.ownBlock=some k→k < w.heap.size)
  (hd1:1≤d) (hd2:d < 10 ^ 18) (hp1:10≤p) (hp2:p≤19) (hdp:-3≤(Lib.nDigits d:Int) - ((p - 1:Nat):Int)∧(Lib.nDigits d:Int) - ((p - 1:Nat):Int)≤7)
  (ND:∀ W:World,Below w.heap.size w W→Calls Tryz.prog 163 #[.int .u64 (d:Int)] W fun e w'=>e=.returned (.int .i64 ((Lib.nDigits d:Nat):Int))∧w'=W)
  (SF:∀ W:World,Below w.heap.size w W→Calls Tryz.prog 215 #[.int .u64 ((mt * 2 ^ 11:Nat):Int),.int .i64 (-((q+11:Nat):Int))] W fun e w'=>e=.returned (.tuple #[.int .u64 (d:Int),.int .i64 (-((p - 1:Nat):Int))])∧Below W.heap.size W w') :
  Calls Tryz.prog 195 #[dv,.float .f64 b,.int .u8 102,.int .i64 (-1)] w fun e w'=>∃ dv' B l,e=.returned dv'∧Fx w b0 B l dv' (numT neg d ((Lib.nDigits d:Nat) - ((p - 1:Nat):Int))) w':=by
 obtain ⟨hbl,hf1,hf2,hf3,hf4⟩:=word_fields neg q mt b hq1 hq2 h1 h2 hb
 have ext:=Tryz.f64bits b
 obtain ⟨sg,hsg⟩:∃ sg,b / 9223372036854775808=sg:=⟨_,rfl⟩
 have x1:(b:Int) / 9223372036854775808=(sg:Int):=by omega
 have hneg:(((sg:Nat):Int) != 0)=neg:=by rw [hsg] at hf1;rw [hf1];cases neg <;> rfl
 have x2:=and_mask52 b hbl
 rw [hf3] at x2
 obtain ⟨e0,he0⟩:∃ e0,b / 4503599627370496=e0:=⟨_,rfl⟩
 have x3:(b:Int) / 4503599627370496=(e0:Int):=by omega
 have x4:=and_mask11 e0 (by omega)
 rw [he0] at hf2
 rw [hf2] at x4
 obtain ⟨mf,hmf⟩:∃ mf,mt - 2 ^ 52=mf:=⟨_,rfl⟩
 rw [hmf] at x2
 have x5:=or_bit52 mf (by omega)
 rw [show mf+2 ^ 52=mt by omega] at x5
 have L53:∀ W:World,Calls Tryz.prog 190 #[.int .u64 (mt:Int)] W fun e w'=>e=.returned (.int .i64 53)∧w'=W:=fun W=>by
  have h:=Tryz.bits_Len64 (mt:Int) W (by omega) (by omega)
  rw [show ((mt:Int)).toNat=mt by omega,bitLen53 mt h1 h2] at h
  exact h
 obtain ⟨ef,hef⟩:∃ ef,1075 - q=ef:=⟨_,rfl⟩
 rw [hef] at x4
 have y1:¬ (ef:Int)=2047:=by omega
 have y2:¬ (ef:Int)=0:=by omega
 have y3:((ef:Int) == 2047)=false:=by rw [beq_eq_false_iff_ne];exact y1
 have y4:((ef:Int) == 0)=false:=by rw [beq_eq_false_iff_ne];exact y2
 have y5:((mt:Int) == 0)=false:=by rw [beq_eq_false_iff_ne];omega
 obtain ⟨m,hm⟩:∃ m,mt * 2 ^ 11=m:=⟨_,rfl⟩
 have hmI:(mt:Int) * 2048=(m:Int):=by omega
 have hml:m < 2 ^ 64:=by omega
 obtain ⟨ee,hee⟩:∃ ee:Int,-((q+11:Nat):Int)=ee:=⟨_,rfl⟩
 have hex:(ef:Int)+-1023 - 11 - 52=ee:=by omega
 have hex':(ef:Int) - 1023 - 11 - 52=ee:=by omega
 have hefl:ef < 2000:=by omega
 rw [hm,hee] at SF
 obtain ⟨nd,hnd⟩:∃ nd,Lib.nDigits d=nd:=⟨_,rfl⟩
 clear hb hsg hf1 hf2 hf3 hf4 he0 hmf hef hee hm
 go_enter Tryz.func195,Tryz.ntmps195
 have he0l:e0 < 2 ^ 62:=by omega
 go_wp2_with fail
 go_region
 go_wp2_with (go_at_call 190;refine (L53 _).mono ?_;rintro e w1 ⟨rfl,rfl⟩)
 obtain ⟨arr,harr⟩:∃ arr:Array Value,#[.int .u8 0,.int .u8 0,.int .u8 0,.int .u8 0,.int .u8 0,.int .u8 0,.int .u8 0,.int .u8 0,.int .u8 0,.int .u8 0,.int .u8 0,.int .u8 0,.int .u8 0,.int .u8 0,.int .u8 0,.int .u8 0,.int .u8 0,.int .u8 0,.int .u8 0,.int .u8 0,.int .u8 0,.int .u8 0,.int .u8 0,.int .u8 0,.int .u8 0,.int .u8 0,.int .u8 0,.int .u8 0,.int .u8 0,.int .u8 0,.int .u8 0,.int .u8 0]=arr:=⟨_,rfl⟩
 have harr2:arr=Array.replicate 32 (.int .u8 0):=by rw [← harr];rfl
 rw [harr]
 clear harr
 have hB1:Below w.heap.size w (w.alloc (.cells arr 248)).drew:=((Below.refl _ _).alloc (Nat.le_refl _) _).drew
 have hbuf:(w.alloc (.cells arr 248)).drew.heap[w.heap.size]?=some (.cells arr 248 (0,0)):=World.alloc_heap_new w _
 obtain ⟨W1,hW1⟩:∃ W1,(w.alloc (.cells arr 248)).drew=W1:=⟨_,rfl⟩
 rw [hW1] at hB1 hbuf ⊢
 clear hW1
 refine (SF W1 hB1).mono ?_
 rintro e w2 ⟨rfl,hB2⟩
 have hlt1:w.heap.size < W1.heap.size:=(Array.getElem?_eq_some_iff.1 hbuf).1
 have hbuf2:=(hB2.block w.heap.size hlt1).trans hbuf
 have hBw2:Below w.heap.size w w2:=hB1.trans (hB2.mono hB1.size)
 have hlt2:w.heap.size < w2.heap.size:=(Array.getElem?_eq_some_iff.1 hbuf2).1
 clear SF hbuf hB1 hB2 L53 ext hlt1
 have SD:=setDigits_any w2.drew w.heap.size d (-((p - 1:Nat):Int)) arr hbuf2 harr2 hd1 hd2 (by omega)
 have NDw:=ND w2.drew hBw2.drew
 rw [hnd] at SD NDw
 obtain ⟨l,hl⟩:∃ l,Lib.decDigits d=l:=⟨_,rfl⟩
 have hlen:l.length=nd:=by rw [← hl,← hnd];exact decDigits_len d
 rw [hl] at SD
 obtain ⟨n,hn⟩:∃ n,sl l nd=n:=⟨_,rfl⟩
 rw [hn] at SD
 obtain ⟨dp,hdpe⟩:∃ dp:Int,((nd:Nat):Int)+-((p - 1:Nat):Int)=dp:=⟨_,rfl⟩
 rw [hdpe] at SD
 clear ND hbuf2
 go_wp2_with fail
 go_cut [22,23] (fun a c wx=>a=.int .i64 dp∧c=.int .i64 (n:Int)∧Byt wx w.heap.size l∧w2.grownBy wx (some w.heap.size))
 case first=>
  go_region_with (first | (go_at_call 163;refine NDw.mono ?_;rintro e w3 ⟨rfl,rfl⟩) | (go_at_call 210;refine SD.mono ?_;rintro e w4 ⟨rfl,hby,hg4⟩))
  all_goals
   go_wp2_with fail
   go_meet
   case rel=>exact ⟨rfl,rfl,hby,grownBy_trans (grown_drew (grownBy_refl w2 _)) hg4⟩
 case rest=>
  obtain ⟨rfl,rfl,hby,hg⟩:=hcut
  have hsz:=hg.size
  have hnd1:=Lib.nDigits_pos d
  have hnd18:=nDigits_le 17 d hd2
  have hn1:1≤n:=by rw [← hn];exact sl_pos (by rw [← hl];exact decDigits_first d hd1) nd (by omega)
  have hnn:n≤nd:=by rw [← hn];exact sl_le l nd
  have hgw:w.grownBy w2 none:=⟨hBw2.os,hBw2.tape,hBw2.output,hBw2.size,fun k hk _=>hBw2.block k hk⟩
  have hneN:dv.ownBlock≠some w.heap.size:=fun e=>by have:=hdv _ e;omega
  have hrow2:Row8 wc b0 dv []:=(hrow.kept hgw (by cases h:dv.ownBlock with | none=>exact .inl rfl | some k=>exact .inr (by simp))).kept hg (.inr hneN)
  have hF:Fx wc b0 w.heap.size l dv [] wc:=⟨hrow2,hby,by omega,hneN,Below.refl _ _,by omega,by simp⟩
  have hBb:Below b0 w wc:=(hBw2.mono hb0).grown hg (by omega) (fun k e=>by simp at e;omega)
  have hdp2:-3≤dp∧dp≤7:=by omega
  have GOAL:Hid (numT neg d ((Lib.nDigits d:Nat) - ((p - 1:Nat):Int))=textF neg (l.take n) dp):=by
   show numT neg d ((Lib.nDigits d:Nat) - ((p - 1:Nat):Int))=_
   unfold numT;rw [hl,hnd,hn,show ((nd:Nat):Int) - ((p - 1:Nat):Int)=dp by omega]
  have hll:l.length≤20:=by omega
  have hnl:n≤l.length:=by omega
  have FINISH:∀ e w',(∃ dv',e=Ending.returned dv'∧Fx wc b0 w.heap.size l dv' (textF neg (l.take n) dp) w')→∃ dv' B l,e=Ending.returned dv'∧Fx w b0 B l dv' (numT neg d ((Lib.nDigits d:Nat) - ((p - 1:Nat):Int))) w':=by
   rintro e w' ⟨dv',rfl,h⟩
   exact ⟨dv',w.heap.size,l,rfl,by rw [unh GOAL];exact h.mono hBb⟩
  have HFIN:=hid FINISH
  clear FINISH GOAL hrow2 hBb hgw hdp hby hg hrow hdv hBw2 hl hn hnd SD NDw x1 x2 x3 x4 x5 y3 y4 y5 hneg hbl hdpe
  rcases Int.lt_or_le 0 dp with hpos | hneg0
  ·obtain ⟨m,hm⟩:∃ m:Nat,dp=(m:Int):=⟨dp.toNat,by omega⟩
   subst hm
   by_cases hmn:m < n
   ·obtain ⟨d',hd'⟩:∃ d',n - m=d':=⟨_,rfl⟩
    have FB:=fmtB_any wc b0 w.heap.size l (l.take n) dv neg n m d' (by omega) (by omega) (by omega) (by omega) hF hll rfl hn1 hnl
    have hpr:max ((n:Int) - (m:Int)) 0=(d':Int):=by omega
    clear hd'
    go_wp2_with fail
    refine FB.mono ?_
    rintro e w5 ⟨dv',rfl,h5⟩
    clear FB
    go_wp2_with fail
    go_ret
    exact unh HFIN _ _ ⟨dv',rfl,h5⟩
   ·have FB:=fmtC_any wc b0 w.heap.size l (l.take n) dv neg n m (m - n) (by omega) (by omega) (by omega) hF hll rfl hn1 hnl
    have hpr:max ((n:Int) - (m:Int)) 0=0:=by omega
    go_wp2_with fail
    refine FB.mono ?_
    rintro e w5 ⟨dv',rfl,h5⟩
    clear FB
    go_wp2_with fail
    go_ret
    exact unh HFIN _ _ ⟨dv',rfl,h5⟩
  ·obtain ⟨z,hz⟩:∃ z:Nat,dp=-(z:Int):=⟨(-dp).toNat,by omega⟩
   subst hz
   have FB:=fmtA_any wc b0 w.heap.size l (l.take n) dv neg n z (by omega) hF hll rfl hn1 hnl
   have hpr:max ((n:Int)+(z:Int)) 0=(n:Int)+(z:Int):=by omega
   go_wp2_with fail
   refine FB.mono ?_
   rintro e w5 ⟨dv',rfl,h5⟩
   clear FB
   go_wp2_with fail
   go_ret
   exact unh HFIN _ _ ⟨dv',rfl,h5⟩
end Go.Proofs.YtgffljllfenhkaaGreatDoor
end
