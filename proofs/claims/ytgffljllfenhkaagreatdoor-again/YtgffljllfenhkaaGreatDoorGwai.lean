import Derived.Lib.ItoaMem
import Derived.Maps.AppendAt
import Derived.RangeFuncBox
import Derived.Deep.DeepCutAuto
import Derived.Test.YtgffljllfenhkaaGreatDoorGwaa
import Derived.Test.YtgffljllfenhkaaGreatDoorGwab
import Derived.Test.YtgffljllfenhkaaGreatDoorGwah
namespace Go.Proofs.YtgffljllfenhkaaGreatDoor
section
open Go.RowKit
def sl (l:List UInt8):Nat->Nat
 | 0=>0
 | n+1=>if l.getD n 0=48 then sl l n else n+1
theorem sl_hit {l:List UInt8}{n:Nat}(h:l.getD n 0=48):sl l (n+1)=sl l n:=by rw[sl,if_pos h]
theorem sl_miss {l:List UInt8}{n:Nat}(h:¬ l.getD n 0=48):sl l (n+1)=n+1:=by rw[sl,if_neg h]
theorem sl_le (l:List UInt8):∀ n,sl l n<=n
 | 0=>Nat.le_refl _
 | n+1=>by unfold sl;split;(have:=sl_le l n;omega);omega
def Byt (w:World) (B:Nat) (l:List UInt8):Prop:=∀ j,j<l.length->w.cell? ⟨B,j,none⟩=some (.int .u8 ((l.getD j 0).toNat:Int))
theorem heap_putRow_other (w:World) (B n k:Nat) (dk:Array UInt8) (h:k≠B):((Sort.putRow (fun (b:UInt8)=>Value.int .u8 (b.toNat:Int)) w B 0 dk).drewN n).heap[k]?=w.heap[k]?:=by
 show (Sort.putRow (fun (b:UInt8)=>Value.int .u8 (b.toNat:Int)) w B 0 dk).heap[k]?=_;unfold Sort.putRow Sort.mapBlock;show (w.heap.modify B _)[k]?=_;rw[Array.getElem?_modify,if_neg (fun e=>h e.symm)]
theorem nDigits_le:∀ (k u:Nat),u<10^(k+1)->Lib.nDigits u<=k+1
 | 0,u,h=>by rw[Lib.nDigits_small (by simpa using h)];exact Nat.le_refl _
 | k+1,u,h=>by
  by_cases hu:u<10
  ·rw[Lib.nDigits_small hu];omega
  ·rw[Lib.nDigits_big hu];have:=nDigits_le k (u/10) (by rw[Nat.pow_succ] at h;omega);omega
theorem decDigits_len (d:Nat):(Lib.decDigits d).length=Lib.nDigits d:=Lib.decDigits_length d
set_option maxHeartbeats 2000000 in
set_option maxRecDepth 100000 in
theorem setDigits_any (w:World) (B d:Nat) (p:Int) (arr:Array Value) (hB:w.heap[B]?=some (.cells arr 248 (0,0))) (ha:arr=Array.replicate 32 (.int .u8 0)) (hd1:1<=d) (hd2:d<10^18) (hp:-100<=p/\p<=100) :
  Calls Tryz.prog 210 #[.slice (some ⟨B,0,none⟩) 32 32,.int .u64 (d:Int),.int .i64 p,.int .i64 ((Lib.nDigits d:Nat):Int)] w fun e w'=>
   e=.returned (.tuple #[.int .i64 ((Lib.nDigits d:Nat)+p),.int .i64 ((sl (Lib.decDigits d) (Lib.nDigits d):Nat):Int)])/\Byt w' B (Lib.decDigits d)/\w.grownBy w' (some B):=by
 have hnd1:=Lib.nDigits_pos d;have hnd2:Lib.nDigits d<=18:=nDigits_le 17 d hd2;have hlt:=Lib.lt_pow_nDigits d
 have hH:Sort.Holds (fun (b:UInt8)=>Value.int .u8 (b.toNat:Int)) w B 0 (Array.replicate (Lib.nDigits d) (0:UInt8)):=fun j hj=>by
  have hj':j<Lib.nDigits d:=by simpa using hj
  have h0:arr[j]?=some (.int .u8 0):=by rw[ha,Array.getElem?_replicate,if_pos (by omega)]
  refine⟨?_,by simp[World.frozen?,hB]⟩;simp only[World.cell?,hB,Nat.zero_add];rw[h0,getElem!_pos _ j hj];simp
 have FB:=Tryz.internal_strconv_formatBase10 B 0 32 d (Array.replicate (Lib.nDigits d) (0:UInt8)) w hH (by simpa using hlt) (by omega) (by simp;omega);rw[Array.size_replicate] at FB;obtain⟨nd,hnd⟩:∃ nd,Lib.nDigits d=nd:=⟨_,rfl⟩;have hlen:=decDigits_len d;rw[hnd] at FB hnd1 hnd2 hlen hH ⊢;obtain⟨l,hl⟩:∃ l,Lib.decDigits d=l:=⟨_,rfl⟩;rw[hl]
 go_enter Tryz.func210,Tryz.ntmps210
 go_wp2_with fail
 refine FB.mono ?_;rintro e w1 ⟨rfl,n,v',dk,hw1,hinv⟩;have hdk:dk.size=nd:=hinv.size
 have hby:Byt w1 B (Lib.decDigits d):=fun j hj=>by
  rw[hlen] at hj;have h1:=Sort.cell?_putRow (fun (b:UInt8)=>Value.int .u8 (b.toNat:Int)) w B 0 _ dk hH (by simp[hdk]) j (by omega);rw[hw1];show (Sort.putRow (fun (b:UInt8)=>Value.int .u8 (b.toNat:Int)) w B 0 dk).cell? ⟨B,j,none⟩=_;rw[Nat.zero_add] at h1;rw[h1];have h2:=Lib.row_is_numeral (by rw[hnd];exact hinv) j (by rw[hlen];exact hj);rw[← h2,List.getD_eq_getElem?_getD,List.getElem?_eq_getElem (by rw[hlen];exact hj)];rfl
 have hgr:w.grownBy w1 (some B):=by
  rw[hw1];refine⟨rfl,rfl,rfl,by simp[World.drewN],fun k hk hne=>?_⟩;exact heap_putRow_other _ _ _ _ _ (fun e=>hne (by rw[e]))
 clear hw1 hinv hdk FB hH;rw[hl] at hby
 go_wp2_with fail
 go_loop [3] (fun v=>∃ n:Nat,n<=nd/\v=.int .i64 (n:Int)/\sl l n=sl l nd) (fun v=>(intOf v).toNat)
 case atStart=>exact⟨nd,Nat.le_refl _,rfl,rfl⟩
 case round=>
  obtain⟨n,hn,rfl,he⟩:=hrel;have HE:=hid he;clear he;cases n with
  | zero=>
   have FIN:Hid (sl l nd=0):=(unh HE).symm;clear HE
   go_wp2_with fail
   go_ret2
   refine⟨?_,hby,hgr⟩;rw[unh FIN];rfl
  | succ n=>
   have hc:=hby n (by rw[← hl,hlen];omega);have hi0:((n+1:Nat):Int)-1=(n:Int):=by omega
   obtain⟨b,hb⟩:∃ b:UInt8,l.getD n 0=b:=⟨_,rfl⟩;rw[hb] at hc
   by_cases hz:b=48
   ·have HS:Hid (sl l n=sl l nd):=(sl_hit (hb.trans hz)).symm.trans (unh HE);have hb48:((b.toNat:Int)==48)=true:=by rw[hz];rfl
    clear HE hz hb
    go_wp2_with fail
    exact⟨⟨n,by omega,rfl,unh HS⟩,by simp[intOf]⟩
   ·have FIN:Hid (sl l nd=n+1):=(unh HE).symm.trans (sl_miss (by rw[hb];exact hz))
    have hb48:((b.toNat:Int)==48)=false:=by
     rw[beq_eq_false_iff_ne];intro e;apply hz;have:b.toNat=48:=by omega
     exact UInt8.toNat_inj.1 (by rw[this];rfl)
    clear HE hz hb
    go_wp2_with fail
    go_ret2
    refine⟨?_,hby,hgr⟩;rw[unh FIN];rfl
end
section
open Go.RowKit
def byteV (c:UInt8):Value:=.int .u8 (c.toNat:Int)
def Row8 (w:World) (base:Nat) (o:Value) (out:List UInt8):Prop:=w.ownsRow base 5 1 o out.length (out.map byteV)
theorem Row8.shape {w:World}{base:Nat}{o:Value}{out:List UInt8}(h:Row8 w base o out):∃ a cap,o=.slice a out.length cap:=by
 rcases h.2 with⟨e,hn⟩|⟨g,cap,_,e,_⟩
 ·exact⟨none,0,by rw[hn];exact e⟩
 ·exact⟨_,_,e⟩
theorem Row8.kept {w w':World}{base:Nat}{o:Value}{out:List UInt8}{r:Option Nat}(h:Row8 w base o out) (hg:w.grownBy w' r) (hne:o.ownBlock=none\/o.ownBlock≠r):Row8 w' base o out:=
 World.ownsRow.kept h hg hne
theorem Row8.ne {w:World}{B:Nat}{o:Value}{out:List UInt8}(h:Row8 w (B+1) o out):o.ownBlock=none\/o.ownBlock≠some B:=by
 right;intro e;have:=World.ownsRow.lt h B e;omega
theorem Tryz.underlying102:Tryz.prog.underlying 102=some (.slice 5):=by kernel_rfl
theorem Tryz.info5:(Tryz.prog.info? 5).map (fun i=>(i.zero,i.size,i.bytes))=some (some (.int .u8 0),1,1):=by kernel_rfl
end
section
open Go.RowKit
structure Fx (w0:World) (b0 B:Nat) (l:List UInt8) (dv:Value) (out:List UInt8) (w:World):Prop where
 row:Row8 w b0 dv out
 byt:Byt w B l
 blt:B<w.heap.size
 ne:dv.ownBlock≠some B
 bel:Below b0 w0 w
 hb:b0<=w.heap.size
 len:out.length<=60
theorem Fx.step {w0:World}{b0 B:Nat}{l:List UInt8}{dv v':Value}{out:List UInt8}{w w1:World}(h:Fx w0 b0 B l dv out w) (c:UInt8) (ci:Int) (hc:ci=(c.toNat:Int)) (hl60:out.length<60)
  (hown:w1.ownsRow b0 5 1 v' (out.length+1) (out.map byteV++[.int .u8 ci])) (hgrow:(w.alloc (.cells #[.int .u8 ci] 5)).grownBy w1 dv.ownBlock)
  (hat:v'.ownBlock=dv.ownBlock\/v'.ownBlock=some (w.alloc (.cells #[.int .u8 ci] 5)).heap.size):Fx w0 b0 B l v' (out++[c]) w1:=by
 have hg:=grownBy_trans (World.grownBy_alloc w (.cells #[.int .u8 ci] 5) dv.ownBlock) hgrow;have hbB:=hg.block B h.blt (fun e=>h.ne e.symm);have hlt:=hg.size;have hblt:=h.blt;refine⟨?_,?_,Nat.lt_of_lt_of_le h.blt hg.size,?_,?_,Nat.le_trans h.hb hg.size,by simp;omega⟩
 ·unfold Row8;have e:(out++[c]).map byteV=out.map byteV++[.int .u8 ci]:=by rw[List.map_append,hc];rfl
  rw[e,List.length_append];exact hown
 ·intro j hj;rw[World.cell?_of_block (w:=w) hbB];exact h.byt j hj
 ·rcases hat with e|e
  ·rw[e];exact h.ne
  ·rw[e];intro e';simp at e';omega
 ·refine h.bel.grown hg h.hb (fun k e=>?_);exact (World.ownsRow.lt h.row k e).1
theorem rep_snoc (i:Nat):List.replicate (i+1) (48:UInt8)=List.replicate i 48++[48]:=List.replicate_succ'
theorem take_snoc {l ld:List UInt8}{n off i:Nat}{c:UInt8}(hld:ld=l.take n) (hi:off+i<n) (hn:n<=l.length) (hc:l.getD (off+i) 0=c):(ld.drop off).take (i+1)=(ld.drop off).take i++[c]:=by
 have hl:off+i<l.length:=by omega
 have h1:(ld.drop off)[i]?=some c:=by
  rw[List.getElem?_drop,hld,List.getElem?_take,if_pos hi,List.getElem?_eq_getElem hl];rw[List.getD_eq_getElem?_getD,List.getElem?_eq_getElem hl] at hc;simpa using hc
 rw[List.take_add_one,h1];rfl
def textF (neg:Bool) (l:List UInt8) (dp:Int):List UInt8:=
 (if neg then [45] else [])++(if 0<dp then l.take dp.toNat++List.replicate (dp.toNat-l.length) 48 else [48]) ++
  (if dp<l.length then 46::(List.replicate (-dp).toNat 48++l.drop dp.toNat) else [])
set_option maxHeartbeats 8000000 in
set_option maxRecDepth 100000 in
theorem fmtA_any (w:World) (b0 B:Nat) (l ld:List UInt8) (dv:Value) (neg:Bool) (n:Nat) (z:Nat) (hz:z<=3) (h:Fx w b0 B l dv [] w) (hl:l.length<=20) (hld:ld=l.take n) (hn1:1<=n) (hn:n<=l.length) :
  Calls Tryz.prog 208 #[dv,.bool neg,.slice (some ⟨B,0,none⟩) 32 32,.int .i64 (-(z:Int)),.int .i64 (n:Int),.int .i64 ((n:Int)+(z:Int)),.int .u8 102,.bool true] w fun e w'=>∃ dv',e=.returned dv'/\Fx w b0 B l dv' (textF neg ld (-(z:Int))) w':=by
 obtain⟨i0,hi,hz0,hz1,hz2⟩:=info_parts Tryz.info5;have hldl:ld.length=n:=by rw[hld,List.length_take];omega
 have TX:Hid (textF neg ld (-(z:Int))=(if neg then [45] else [])++[48]++[46]++List.replicate z 48++(ld.drop 0).take n):=by
  show textF neg ld (-(z:Int))=_;unfold textF;rw[if_neg (show ¬ (0:Int) < -(z:Int) by omega),if_pos (show -(z:Int)<(ld.length:Int) by omega),show (-(-(z:Int))).toNat=z by omega,show (-(z:Int)).toNat=0 by omega,List.drop_zero,List.take_of_length_le (by omega)];simp
 obtain⟨tx,htx⟩:∃ tx,textF neg ld (-(z:Int))=tx:=⟨_,rfl⟩;rw[htx] at TX ⊢;obtain⟨t0,ht0⟩:∃ t0:List UInt8,(if neg then [45] else [])=t0:=⟨_,rfl⟩;have ht1:t0.length<=1:=by rw[← ht0];cases neg <;> simp
 rw[ht0] at TX;clear htx;have a1:max (0:Int) (z:Int)=(z:Int):=by omega
 have a2:min ((n:Int)+(z:Int)) (z:Int)=(z:Int):=by omega
 have a3:-(z:Int)+(z:Int)=0:=by omega
 have a4:(n:Int)+(z:Int)-(z:Int)=(n:Int):=by omega
 have a5:max (0:Int) (n:Int)=(n:Int):=by omega
 have a6:min (n:Int) (n:Int)=(n:Int):=by omega
 have a7:(0:Int)<(n:Int)+(z:Int):=by omega
 have a8:¬ (z:Int)<0:=by omega
 go_enter Tryz.func208,Tryz.ntmps208
 cases neg with
 | false=>
  have hF:Fx w b0 B l dv t0 w:=by rw[← ht0];exact h
  clear h
  go_upto_region 55 with fail
  go_upto_region 67 with (at_builtin;refine wpList_append_own_at _ rfl _ _ 102 rfl b0 5 i0 (.int .u8 0) 1 1 Tryz.underlying102 hi hz0 hz1 hz2 rfl (by decide) _ _ _ rfl (World.ownsRow.alloc hF.row _) ⟨_,0,none⟩ 1 1 [_] rfl rfl (cell_one_new _ _ _) (by simp[Value.oneCell']) (by unfold maxLen;have:=hF.len;omega) (by have:=hF.len;omega) (by have:=hF.hb;simp;omega) ?_;intro v' w' hown' hgrow _ hat)
  have hP:=hF.step (v':=v') 48 48 rfl (by first | omega | (simp;omega)) hown' hgrow hat;clear hF hown' hgrow hat;obtain⟨p1,hp1⟩:∃ p:List UInt8,t0++[48]=p:=⟨_,rfl⟩;rw[hp1] at hP;have hF:=hP;clear hP;have hp1l:p1.length<=2:=by rw[← hp1];simp;omega
  go_upto_region 69 with (at_builtin;refine wpList_append_own_at _ rfl _ _ 102 rfl b0 5 i0 (.int .u8 0) 1 1 Tryz.underlying102 hi hz0 hz1 hz2 rfl (by decide) _ _ _ rfl (World.ownsRow.alloc hF.row _) ⟨_,0,none⟩ 1 1 [_] rfl rfl (cell_one_new _ _ _) (by simp[Value.oneCell']) (by unfold maxLen;have:=hF.len;omega) (by have:=hF.len;omega) (by have:=hF.hb;simp;omega) ?_;intro v' w' hown' hgrow _ hat)
  have hP:=hF.step (v':=v') 46 46 rfl (by first | omega | (simp;omega)) hown' hgrow hat;clear hF hown' hgrow hat;obtain⟨p2,hp2⟩:∃ p:List UInt8,p1++[46]=p:=⟨_,rfl⟩;rw[hp2] at hP;have hF:=hP;clear hP;have hp2l:p2.length<=3:=by rw[← hp2];simp;omega
  go_wp2_with fail
  go_loopw [0,240] (fun dvx iv wr=>∃ i:Nat,i<=z/\iv=.int .i64 (i:Int)/\Fx w b0 B l dvx (p2++List.replicate i 48) wr)
   (fun _ iv _=>z-(intOf iv).toNat)
  case atStart=>exact⟨0,Nat.zero_le _,rfl,by simpa using hF⟩
  case round=>
   clear hF;obtain⟨i,hi1,rfl,hF⟩:=hrel
   by_cases hlt:i<z
   ·have hlI:(i:Int)<((z:Nat):Int):=by omega
    have HF:=hid hF
    go_wp2_with (at_builtin;refine wpList_append_own_at _ rfl _ _ 102 rfl b0 5 i0 (.int .u8 0) 1 1 Tryz.underlying102 hi hz0 hz1 hz2 rfl (by decide) _ _ _ rfl (World.ownsRow.alloc hF.row _) ⟨_,0,none⟩ 1 1 [_] rfl rfl (cell_one_new _ _ _) (by simp[Value.oneCell']) (by unfold maxLen;have:=hF.len;omega) (by have:=hF.len;omega) (by have:=hF.hb;simp;omega) ?_;intro v' w' hown' hgrow _ hat)
    have hN:=(unh HF).step 48 48 rfl (by simp;omega) hown' hgrow hat;rw[List.append_assoc,← rep_snoc] at hN
    first | exact⟨⟨i+1,by omega,by go_num,hN⟩,by simp[intOf];omega⟩ | (refine⟨?_,by simp[intOf];omega⟩;(repeat apply Exists.intro);exact⟨⟨i+1,by omega,by go_num,hN⟩,rfl⟩)
   ·have hie:z=i:=by omega
    subst hie;clear hlt hi1;obtain⟨p3,hp3⟩:∃ p:List UInt8,p2++List.replicate z 48=p:=⟨_,rfl⟩;rw[hp3] at hF;have hp3l:p3.length<=6:=by rw[← hp3];simp;omega
    go_wp2_with fail
    go_loopw [0,247] (fun dvx iv wr=>∃ i:Nat,i<=n/\iv=.int .i64 (i:Int)/\Fx w b0 B l dvx (p3++(ld.drop 0).take i) wr)
     (fun _ iv _=>n-(intOf iv).toNat)
    case atStart=>exact⟨0,Nat.zero_le _,rfl,by simpa using hF⟩
    case round=>
     clear hF;obtain⟨i,hi1,rfl,hF⟩:=hrel
     by_cases hlt:i<n
     ·have hlI:(i:Int)<((n:Nat):Int):=by omega
      have hcell:=hF.byt (0+i) (by omega);obtain⟨cb,hcb⟩:∃ c:UInt8,l.getD (0+i) 0=c:=⟨_,rfl⟩;rw[hcb] at hcell;have HCB:=hid hcb;clear hcb;have hix:(0+i:Nat)<32:=by omega
      rw[Nat.zero_add] at hcell hix;have HF:=hid hF
      go_wp2_with (at_builtin;refine wpList_append_own_at _ rfl _ _ 102 rfl b0 5 i0 (.int .u8 0) 1 1 Tryz.underlying102 hi hz0 hz1 hz2 rfl (by decide) _ _ _ rfl (World.ownsRow.alloc hF.row _) ⟨_,0,none⟩ 1 1 [_] rfl rfl (cell_one_new _ _ _) (by simp[Value.oneCell']) (by unfold maxLen;have:=hF.len;omega) (by have:=hF.len;omega) (by have:=hF.hb;simp;omega) ?_;intro v' w' hown' hgrow _ hat)
      have hN:=(unh HF).step cb _ rfl (by simp;omega) hown' hgrow hat;rw[List.append_assoc,← take_snoc hld (by omega) hn (unh HCB)] at hN
      first | exact⟨⟨i+1,by omega,by go_num,hN⟩,by simp[intOf];omega⟩ | (refine⟨?_,by simp[intOf];omega⟩;(repeat apply Exists.intro);exact⟨⟨i+1,by omega,by go_num,hN⟩,rfl⟩)
     ·have hie:n=i:=by omega
      subst hie;clear hlt hi1;obtain⟨p4,hp4⟩:∃ p:List UInt8,p3++(ld.drop 0).take n=p:=⟨_,rfl⟩;rw[hp4] at hF;have hp4l:p4.length<=30:=by rw[← hp4];simp;omega
      go_wp2_with fail
      go_loopw [0,261] (fun dvx iv wr=>∃ i:Nat,i<=0/\iv=.int .i64 (i:Int)/\Fx w b0 B l dvx (p4++List.replicate i 48) wr)
       (fun _ iv _=>0-(intOf iv).toNat)
      case atStart=>exact⟨0,Nat.zero_le _,rfl,by simpa using hF⟩
      case round=>
       clear hF;obtain⟨i,hi1,rfl,hF⟩:=hrel
       by_cases hlt:i<0
       ·exact absurd hlt (by omega)
       ·have hie:0=i:=by omega
        subst hie;clear hlt hi1;have TX2:Hid (tx=p4):=by have:=unh TX;rw[hp1,hp2,hp3,hp4] at this;exact this
        rw[List.replicate_zero,List.append_nil] at hF
        go_wp2_with fail
        go_ret
        exact⟨_,rfl,by rw[unh TX2];exact hF⟩
 | true=>
  go_upto_region 55 with (at_builtin;refine wpList_append_own_at _ rfl _ _ 102 rfl b0 5 i0 (.int .u8 0) 1 1 Tryz.underlying102 hi hz0 hz1 hz2 rfl (by decide) _ _ _ rfl (World.ownsRow.alloc h.row _) ⟨_,0,none⟩ 1 1 [_] rfl rfl (cell_one_new _ _ _) (by simp[Value.oneCell']) (by unfold maxLen;have:=h.len;omega) (by have:=h.len;omega) (by have:=h.hb;simp;omega) ?_;intro v' w' hown' hgrow _ hat)
  have hF:Fx w b0 B l v' t0 w':=by rw[← ht0];exact h.step 45 45 rfl (by simp) hown' hgrow hat
  clear h hown' hgrow hat
  go_upto_region 67 with (at_builtin;refine wpList_append_own_at _ rfl _ _ 102 rfl b0 5 i0 (.int .u8 0) 1 1 Tryz.underlying102 hi hz0 hz1 hz2 rfl (by decide) _ _ _ rfl (World.ownsRow.alloc hF.row _) ⟨_,0,none⟩ 1 1 [_] rfl rfl (cell_one_new _ _ _) (by simp[Value.oneCell']) (by unfold maxLen;have:=hF.len;omega) (by have:=hF.len;omega) (by have:=hF.hb;simp;omega) ?_;intro v' w' hown' hgrow _ hat)
  have hP:=hF.step (v':=v') 48 48 rfl (by first | omega | (simp;omega)) hown' hgrow hat;clear hF hown' hgrow hat;obtain⟨p1,hp1⟩:∃ p:List UInt8,t0++[48]=p:=⟨_,rfl⟩;rw[hp1] at hP;have hF:=hP;clear hP;have hp1l:p1.length<=2:=by rw[← hp1];simp;omega
  go_upto_region 69 with (at_builtin;refine wpList_append_own_at _ rfl _ _ 102 rfl b0 5 i0 (.int .u8 0) 1 1 Tryz.underlying102 hi hz0 hz1 hz2 rfl (by decide) _ _ _ rfl (World.ownsRow.alloc hF.row _) ⟨_,0,none⟩ 1 1 [_] rfl rfl (cell_one_new _ _ _) (by simp[Value.oneCell']) (by unfold maxLen;have:=hF.len;omega) (by have:=hF.len;omega) (by have:=hF.hb;simp;omega) ?_;intro v' w' hown' hgrow _ hat)
  have hP:=hF.step (v':=v') 46 46 rfl (by first | omega | (simp;omega)) hown' hgrow hat;clear hF hown' hgrow hat;obtain⟨p2,hp2⟩:∃ p:List UInt8,p1++[46]=p:=⟨_,rfl⟩;rw[hp2] at hP;have hF:=hP;clear hP;have hp2l:p2.length<=3:=by rw[← hp2];simp;omega
  go_wp2_with fail
  go_loopw [0,240] (fun dvx iv wr=>∃ i:Nat,i<=z/\iv=.int .i64 (i:Int)/\Fx w b0 B l dvx (p2++List.replicate i 48) wr)
   (fun _ iv _=>z-(intOf iv).toNat)
  case atStart=>exact⟨0,Nat.zero_le _,rfl,by simpa using hF⟩
  case round=>
   clear hF;obtain⟨i,hi1,rfl,hF⟩:=hrel
   by_cases hlt:i<z
   ·have hlI:(i:Int)<((z:Nat):Int):=by omega
    have HF:=hid hF
    go_wp2_with (at_builtin;refine wpList_append_own_at _ rfl _ _ 102 rfl b0 5 i0 (.int .u8 0) 1 1 Tryz.underlying102 hi hz0 hz1 hz2 rfl (by decide) _ _ _ rfl (World.ownsRow.alloc hF.row _) ⟨_,0,none⟩ 1 1 [_] rfl rfl (cell_one_new _ _ _) (by simp[Value.oneCell']) (by unfold maxLen;have:=hF.len;omega) (by have:=hF.len;omega) (by have:=hF.hb;simp;omega) ?_;intro v' w' hown' hgrow _ hat)
    have hN:=(unh HF).step 48 48 rfl (by simp;omega) hown' hgrow hat;rw[List.append_assoc,← rep_snoc] at hN
    first | exact⟨⟨i+1,by omega,by go_num,hN⟩,by simp[intOf];omega⟩ | (refine⟨?_,by simp[intOf];omega⟩;(repeat apply Exists.intro);exact⟨⟨i+1,by omega,by go_num,hN⟩,rfl⟩)
   ·have hie:z=i:=by omega
    subst hie;clear hlt hi1;obtain⟨p3,hp3⟩:∃ p:List UInt8,p2++List.replicate z 48=p:=⟨_,rfl⟩;rw[hp3] at hF;have hp3l:p3.length<=6:=by rw[← hp3];simp;omega
    go_wp2_with fail
    go_loopw [0,247] (fun dvx iv wr=>∃ i:Nat,i<=n/\iv=.int .i64 (i:Int)/\Fx w b0 B l dvx (p3++(ld.drop 0).take i) wr)
     (fun _ iv _=>n-(intOf iv).toNat)
    case atStart=>exact⟨0,Nat.zero_le _,rfl,by simpa using hF⟩
    case round=>
     clear hF;obtain⟨i,hi1,rfl,hF⟩:=hrel
     by_cases hlt:i<n
     ·have hlI:(i:Int)<((n:Nat):Int):=by omega
      have hcell:=hF.byt (0+i) (by omega);obtain⟨cb,hcb⟩:∃ c:UInt8,l.getD (0+i) 0=c:=⟨_,rfl⟩;rw[hcb] at hcell;have HCB:=hid hcb;clear hcb;have hix:(0+i:Nat)<32:=by omega
      rw[Nat.zero_add] at hcell hix;have HF:=hid hF
      go_wp2_with (at_builtin;refine wpList_append_own_at _ rfl _ _ 102 rfl b0 5 i0 (.int .u8 0) 1 1 Tryz.underlying102 hi hz0 hz1 hz2 rfl (by decide) _ _ _ rfl (World.ownsRow.alloc hF.row _) ⟨_,0,none⟩ 1 1 [_] rfl rfl (cell_one_new _ _ _) (by simp[Value.oneCell']) (by unfold maxLen;have:=hF.len;omega) (by have:=hF.len;omega) (by have:=hF.hb;simp;omega) ?_;intro v' w' hown' hgrow _ hat)
      have hN:=(unh HF).step cb _ rfl (by simp;omega) hown' hgrow hat;rw[List.append_assoc,← take_snoc hld (by omega) hn (unh HCB)] at hN
      first | exact⟨⟨i+1,by omega,by go_num,hN⟩,by simp[intOf];omega⟩ | (refine⟨?_,by simp[intOf];omega⟩;(repeat apply Exists.intro);exact⟨⟨i+1,by omega,by go_num,hN⟩,rfl⟩)
     ·have hie:n=i:=by omega
      subst hie;clear hlt hi1;obtain⟨p4,hp4⟩:∃ p:List UInt8,p3++(ld.drop 0).take n=p:=⟨_,rfl⟩;rw[hp4] at hF;have hp4l:p4.length<=30:=by rw[← hp4];simp;omega
      go_wp2_with fail
      go_loopw [0,261] (fun dvx iv wr=>∃ i:Nat,i<=0/\iv=.int .i64 (i:Int)/\Fx w b0 B l dvx (p4++List.replicate i 48) wr)
       (fun _ iv _=>0-(intOf iv).toNat)
      case atStart=>exact⟨0,Nat.zero_le _,rfl,by simpa using hF⟩
      case round=>
       clear hF;obtain⟨i,hi1,rfl,hF⟩:=hrel
       by_cases hlt:i<0
       ·exact absurd hlt (by omega)
       ·have hie:0=i:=by omega
        subst hie;clear hlt hi1;have TX2:Hid (tx=p4):=by have:=unh TX;rw[hp1,hp2,hp3,hp4] at this;exact this
        rw[List.replicate_zero,List.append_nil] at hF
        go_wp2_with fail
        go_ret
        exact⟨_,rfl,by rw[unh TX2];exact hF⟩
end
section
open Go.RowKit
set_option maxHeartbeats 8000000 in
set_option maxRecDepth 100000 in
theorem fmtC_any (w:World) (b0 B:Nat) (l ld:List UInt8) (dv:Value) (neg:Bool) (n:Nat) (dp z:Nat) (hz:z<=10) (hdz1:dp<=n+z) (hdz2:n+z<=dp) (h:Fx w b0 B l dv [] w) (hl:l.length<=20) (hld:ld=l.take n) (hn1:1<=n) (hn:n<=l.length) :
  Calls Tryz.prog 208 #[dv,.bool neg,.slice (some ⟨B,0,none⟩) 32 32,.int .i64 (dp:Int),.int .i64 (n:Int),.int .i64 0,.int .u8 102,.bool true] w fun e w'=>∃ dv',e=.returned dv'/\Fx w b0 B l dv' (textF neg ld (dp:Int)) w':=by
 obtain⟨i0,hi,hz0,hz1,hz2⟩:=info_parts Tryz.info5;have hldl:ld.length=n:=by rw[hld,List.length_take];omega
 have TX:Hid (textF neg ld (dp:Int)=(if neg then [45] else [])++(ld.drop 0).take n++List.replicate z 48):=by
  show textF neg ld (dp:Int)=_;unfold textF;rw[if_pos (show (0:Int)<(dp:Int) by omega),if_neg (show ¬ (dp:Int)<(ld.length:Int) by omega),show ((dp:Int)).toNat=dp by omega,List.drop_zero,show dp-ld.length=z by omega,List.take_of_length_le (l:=ld) (i:=n) (by omega),List.take_of_length_le (l:=ld) (i:=dp) (by omega)];simp
 obtain⟨tx,htx⟩:∃ tx,textF neg ld (dp:Int)=tx:=⟨_,rfl⟩;rw[htx] at TX ⊢;obtain⟨t0,ht0⟩:∃ t0:List UInt8,(if neg then [45] else [])=t0:=⟨_,rfl⟩;have ht1:t0.length<=1:=by rw[← ht0];cases neg <;> simp
 rw[ht0] at TX;clear htx;have a4:min (n:Int) (dp:Int)=(n:Int):=by omega
 have a3:(dp:Int)-(n:Int)=(z:Int):=by omega
 have a8:(0:Int)<(dp:Int):=by omega
 have a9:0<dp:=by omega
 go_enter Tryz.func208,Tryz.ntmps208
 cases neg with
 | false=>
  have hF:Fx w b0 B l dv t0 w:=by rw[← ht0];exact h
  clear h
  go_upto_region 55 with fail
  go_wp2_with fail
  go_loopw [0,191] (fun dvx iv wr=>∃ i:Nat,i<=n/\iv=.int .i64 (i:Int)/\Fx w b0 B l dvx (t0++(ld.drop 0).take i) wr)
   (fun _ iv _=>n-(intOf iv).toNat)
  case atStart=>exact⟨0,Nat.zero_le _,rfl,by simpa using hF⟩
  case round=>
   clear hF;obtain⟨i,hi1,rfl,hF⟩:=hrel
   by_cases hlt:i<n
   ·have hlI:(i:Int)<((n:Nat):Int):=by omega
    have hcell:=hF.byt (0+i) (by omega);obtain⟨cb,hcb⟩:∃ c:UInt8,l.getD (0+i) 0=c:=⟨_,rfl⟩;rw[hcb] at hcell;have HCB:=hid hcb;clear hcb;have hix:(0+i:Nat)<32:=by omega
    rw[Nat.zero_add] at hcell hix;have HF:=hid hF
    go_wp2_with (at_builtin;refine wpList_append_own_at _ rfl _ _ 102 rfl b0 5 i0 (.int .u8 0) 1 1 Tryz.underlying102 hi hz0 hz1 hz2 rfl (by decide) _ _ _ rfl (World.ownsRow.alloc hF.row _) ⟨_,0,none⟩ 1 1 [_] rfl rfl (cell_one_new _ _ _) (by simp[Value.oneCell']) (by unfold maxLen;have:=hF.len;omega) (by have:=hF.len;omega) (by have:=hF.hb;simp;omega) ?_;intro v' w' hown' hgrow _ hat)
    have hN:=(unh HF).step cb _ rfl (by simp;omega) hown' hgrow hat;rw[List.append_assoc,← take_snoc hld (by omega) hn (unh HCB)] at hN
    first | exact⟨⟨i+1,by omega,by go_num,hN⟩,by simp[intOf];omega⟩ | (refine⟨?_,by simp[intOf];omega⟩;(repeat apply Exists.intro);exact⟨⟨i+1,by omega,by go_num,hN⟩,rfl⟩)
   ·have hie:n=i:=by omega
    subst hie;clear hlt hi1;obtain⟨p1,hp1⟩:∃ p:List UInt8,t0++(ld.drop 0).take n=p:=⟨_,rfl⟩;rw[hp1] at hF;have hp1l:p1.length<=25:=by rw[← hp1];simp;omega
    go_wp2_with fail
    go_loopw [0,203] (fun dvx iv wr=>∃ i:Nat,i<=z/\iv=.int .i64 (i:Int)/\Fx w b0 B l dvx (p1++List.replicate i 48) wr)
     (fun _ iv _=>z-(intOf iv).toNat)
    case atStart=>exact⟨0,Nat.zero_le _,rfl,by simpa using hF⟩
    case round=>
     clear hF;obtain⟨i,hi1,rfl,hF⟩:=hrel
     by_cases hlt:i<z
     ·have hlI:(i:Int)<((z:Nat):Int):=by omega
      have HF:=hid hF
      go_wp2_with (at_builtin;refine wpList_append_own_at _ rfl _ _ 102 rfl b0 5 i0 (.int .u8 0) 1 1 Tryz.underlying102 hi hz0 hz1 hz2 rfl (by decide) _ _ _ rfl (World.ownsRow.alloc hF.row _) ⟨_,0,none⟩ 1 1 [_] rfl rfl (cell_one_new _ _ _) (by simp[Value.oneCell']) (by unfold maxLen;have:=hF.len;omega) (by have:=hF.len;omega) (by have:=hF.hb;simp;omega) ?_;intro v' w' hown' hgrow _ hat)
      have hN:=(unh HF).step 48 48 rfl (by simp;omega) hown' hgrow hat;rw[List.append_assoc,← rep_snoc] at hN
      first | exact⟨⟨i+1,by omega,by go_num,hN⟩,by simp[intOf];omega⟩ | (refine⟨?_,by simp[intOf];omega⟩;(repeat apply Exists.intro);exact⟨⟨i+1,by omega,by go_num,hN⟩,rfl⟩)
     ·have hie:z=i:=by omega
      subst hie;clear hlt hi1;obtain⟨p4,hp4⟩:∃ p:List UInt8,p1++List.replicate z 48=p:=⟨_,rfl⟩;rw[hp4] at hF;have hp4l:p4.length<=40:=by rw[← hp4];simp;omega
      have TX2:Hid (tx=p4):=by have:=unh TX;rw[hp1,hp4] at this;exact this
      go_wp2_with fail
      go_ret
      exact⟨_,rfl,by rw[unh TX2];exact hF⟩
 | true=>
  go_upto_region 55 with (at_builtin;refine wpList_append_own_at _ rfl _ _ 102 rfl b0 5 i0 (.int .u8 0) 1 1 Tryz.underlying102 hi hz0 hz1 hz2 rfl (by decide) _ _ _ rfl (World.ownsRow.alloc h.row _) ⟨_,0,none⟩ 1 1 [_] rfl rfl (cell_one_new _ _ _) (by simp[Value.oneCell']) (by unfold maxLen;have:=h.len;omega) (by have:=h.len;omega) (by have:=h.hb;simp;omega) ?_;intro v' w' hown' hgrow _ hat)
  have hF:Fx w b0 B l v' t0 w':=by rw[← ht0];exact h.step 45 45 rfl (by simp) hown' hgrow hat
  clear h hown' hgrow hat
  go_wp2_with fail
  go_loopw [0,191] (fun dvx iv wr=>∃ i:Nat,i<=n/\iv=.int .i64 (i:Int)/\Fx w b0 B l dvx (t0++(ld.drop 0).take i) wr)
   (fun _ iv _=>n-(intOf iv).toNat)
  case atStart=>exact⟨0,Nat.zero_le _,rfl,by simpa using hF⟩
  case round=>
   clear hF;obtain⟨i,hi1,rfl,hF⟩:=hrel
   by_cases hlt:i<n
   ·have hlI:(i:Int)<((n:Nat):Int):=by omega
    have hcell:=hF.byt (0+i) (by omega);obtain⟨cb,hcb⟩:∃ c:UInt8,l.getD (0+i) 0=c:=⟨_,rfl⟩;rw[hcb] at hcell;have HCB:=hid hcb;clear hcb;have hix:(0+i:Nat)<32:=by omega
    rw[Nat.zero_add] at hcell hix;have HF:=hid hF
    go_wp2_with (at_builtin;refine wpList_append_own_at _ rfl _ _ 102 rfl b0 5 i0 (.int .u8 0) 1 1 Tryz.underlying102 hi hz0 hz1 hz2 rfl (by decide) _ _ _ rfl (World.ownsRow.alloc hF.row _) ⟨_,0,none⟩ 1 1 [_] rfl rfl (cell_one_new _ _ _) (by simp[Value.oneCell']) (by unfold maxLen;have:=hF.len;omega) (by have:=hF.len;omega) (by have:=hF.hb;simp;omega) ?_;intro v' w' hown' hgrow _ hat)
    have hN:=(unh HF).step cb _ rfl (by simp;omega) hown' hgrow hat;rw[List.append_assoc,← take_snoc hld (by omega) hn (unh HCB)] at hN
    first | exact⟨⟨i+1,by omega,by go_num,hN⟩,by simp[intOf];omega⟩ | (refine⟨?_,by simp[intOf];omega⟩;(repeat apply Exists.intro);exact⟨⟨i+1,by omega,by go_num,hN⟩,rfl⟩)
   ·have hie:n=i:=by omega
    subst hie;clear hlt hi1;obtain⟨p1,hp1⟩:∃ p:List UInt8,t0++(ld.drop 0).take n=p:=⟨_,rfl⟩;rw[hp1] at hF;have hp1l:p1.length<=25:=by rw[← hp1];simp;omega
    go_wp2_with fail
    go_loopw [0,203] (fun dvx iv wr=>∃ i:Nat,i<=z/\iv=.int .i64 (i:Int)/\Fx w b0 B l dvx (p1++List.replicate i 48) wr)
     (fun _ iv _=>z-(intOf iv).toNat)
    case atStart=>exact⟨0,Nat.zero_le _,rfl,by simpa using hF⟩
    case round=>
     clear hF;obtain⟨i,hi1,rfl,hF⟩:=hrel
     by_cases hlt:i<z
     ·have hlI:(i:Int)<((z:Nat):Int):=by omega
      have HF:=hid hF
      go_wp2_with (at_builtin;refine wpList_append_own_at _ rfl _ _ 102 rfl b0 5 i0 (.int .u8 0) 1 1 Tryz.underlying102 hi hz0 hz1 hz2 rfl (by decide) _ _ _ rfl (World.ownsRow.alloc hF.row _) ⟨_,0,none⟩ 1 1 [_] rfl rfl (cell_one_new _ _ _) (by simp[Value.oneCell']) (by unfold maxLen;have:=hF.len;omega) (by have:=hF.len;omega) (by have:=hF.hb;simp;omega) ?_;intro v' w' hown' hgrow _ hat)
      have hN:=(unh HF).step 48 48 rfl (by simp;omega) hown' hgrow hat;rw[List.append_assoc,← rep_snoc] at hN
      first | exact⟨⟨i+1,by omega,by go_num,hN⟩,by simp[intOf];omega⟩ | (refine⟨?_,by simp[intOf];omega⟩;(repeat apply Exists.intro);exact⟨⟨i+1,by omega,by go_num,hN⟩,rfl⟩)
     ·have hie:z=i:=by omega
      subst hie;clear hlt hi1;obtain⟨p4,hp4⟩:∃ p:List UInt8,p1++List.replicate z 48=p:=⟨_,rfl⟩;rw[hp4] at hF;have hp4l:p4.length<=40:=by rw[← hp4];simp;omega
      have TX2:Hid (tx=p4):=by have:=unh TX;rw[hp1,hp4] at this;exact this
      go_wp2_with fail
      go_ret
      exact⟨_,rfl,by rw[unh TX2];exact hF⟩
end
end Go.Proofs.YtgffljllfenhkaaGreatDoor
