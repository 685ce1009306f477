import Derived.Deep.OwnRows
import Derived.Laws.CopyOwn
import Derived.Deep.RegionLaw
import Derived.Test.YtgffljllfenhkaaGreatDoorGwbb
import Derived.Test.YtgffljllfenhkaaGreatDoorGwbc
namespace Go.Proofs.YtgffljllfenhkaaGreatDoor
section
open Go.RowKit Go.Deep
theorem Tryz.infoCodeP (arr:Array Value) (h:arr.size=17):(Tryz.prog.info? 204).map (·.size)=some arr.size:=by rw[h];kernel_rfl
theorem Tryz.aggCodeP:(Tryz.prog.underlying 204).map isAgg=some true:=by kernel_rfl
theorem zeros16 (m:Nat) (hm:m<16):(#[.int .i64 0,.int .i64 0,.int .i64 0,.int .i64 0,.int .i64 0,.int .i64 0,.int .i64 0,.int .i64 0,.int .i64 0,.int .i64 0,.int .i64 0,.int .i64 0,.int .i64 0,.int .i64 0,.int .i64 0,.int .i64 0]:Array Value)[m]?=some (intV 0):=by
 match m,hm with
 | 0,_ | 1,_ | 2,_ | 3,_ | 4,_ | 5,_ | 6,_ | 7,_ | 8,_ | 9,_ | 10,_ | 11,_ | 12,_ | 13,_ | 14,_ | 15,_=>rfl
 | n+16,hm=>exact absurd hm (by omega)
theorem zeros17 (m:Nat) (hm:m<16):(#[.int .i64 0,.int .i64 0,.int .i64 0,.int .i64 0,.int .i64 0,.int .i64 0,.int .i64 0,.int .i64 0,.int .i64 0,.int .i64 0,.int .i64 0,.int .i64 0,.int .i64 0,.int .i64 0,.int .i64 0,.int .i64 0,.slice none 0 0]:Array Value)[m]?=some (intV 0):=by
 match m,hm with
 | 0,_ | 1,_ | 2,_ | 3,_ | 4,_ | 5,_ | 6,_ | 7,_ | 8,_ | 9,_ | 10,_ | 11,_ | 12,_ | 13,_ | 14,_ | 15,_=>rfl
 | n+16,hm=>exact absurd hm (by omega)
theorem CodeP.one {arr:Array Value}{l:List Nat}{sg:Value}(h:CodeP arr l sg) (hs:sg.oneCell'=true):arr.all (·.oneCell')=true:=by
 have hz:=h.size;rw[Array.all_eq_true];intro i hi
 have key:∀ v,arr[i]?=some v->v.oneCell'=true:=by
  intro v hv
  by_cases e6:i=16
  ·subst e6;rw[h.s] at hv;simp at hv;rw[← hv];exact hs
  ·rw[h.c i (by omega)] at hv;simp only[Option.some.injEq] at hv;rw[← hv];rfl
 exact key _ (Array.getElem?_eq_getElem hi)
def SpN (w:World) (base:Nat) (sg:Value) (l:List Nat):Prop:=
 ∃ g cap,sg=.slice (some ⟨g,0,none⟩) (used l) cap/\base<=g/\g<w.heap.size /\
  ∀ n a,1<=n->n<=15->a<cnt n l->w.cell? ⟨g,start l n+a,none⟩=some (.int .i64 (((idxs n l).getD a 0:Nat):Int))
set_option maxHeartbeats 4000000 in
set_option maxRecDepth 100000 in
theorem newCode_walk (w:World) (g off cap:Nat) (l:List Nat) (hl:Nums w g off l) (hlen:l.length<=400) (h15:∀ i,nth l i<=15) :
  Calls Tryz.prog 201 #[.slice (some ⟨g,off,none⟩) l.length cap] w fun e w'=>∃ arr sg,e=.returned (.agg arr)/\CodeP arr l sg/\SpN w' w.heap.size sg l/\Below w.heap.size w w'/\arr.all (·.oneCell')=true:=by
 go_enter Tryz.func201,Tryz.ntmps201
 go_wp2_with fail
 obtain⟨W0,hW0⟩:∃ W0,((w.alloc (.cells #[.int .i64 0,.int .i64 0,.int .i64 0,.int .i64 0,.int .i64 0,.int .i64 0,.int .i64 0,.int .i64 0,.int .i64 0,.int .i64 0,.int .i64 0,.int .i64 0,.int .i64 0,.int .i64 0,.int .i64 0,.int .i64 0,.slice none 0 0] 204)).alloc (.cells #[.int .i64 0,.int .i64 0,.int .i64 0,.int .i64 0,.int .i64 0,.int .i64 0,.int .i64 0,.int .i64 0,.int .i64 0,.int .i64 0,.int .i64 0,.int .i64 0,.int .i64 0,.int .i64 0,.int .i64 0,.int .i64 0,.slice none 0 0] 204))=W0:=⟨_,rfl⟩;rw[hW0];have hB0:Below w.heap.size w W0:=by rw[← hW0];exact ((Below.refl _ _).alloc (Nat.le_refl _) _).alloc (by simp) _
 have hC0:Cn W0 (w.heap.size+1) 204 16 (cf1 l 0) #[.int .i64 0,.int .i64 0,.int .i64 0,.int .i64 0,.int .i64 0,.int .i64 0,.int .i64 0,.int .i64 0,.int .i64 0,.int .i64 0,.int .i64 0,.int .i64 0,.int .i64 0,.int .i64 0,.int .i64 0,.int .i64 0,.slice none 0 0]:=by
  refine⟨by rw[← hW0];exact heap_alloc2_new w _ _,by simp,fun m hm=>?_⟩;have:cf1 l 0 m=0:=by unfold cf1;split <;> simp[idxsTo]
  rw[this];exact zeros17 m hm
 have hR0:∃ old:Array Value,old.size=17/\W0.heap[w.heap.size]?=some (.cells old 204 (0,0)):=⟨_,rfl,by rw[← hW0];exact heap_alloc2_old w _ _⟩;have hs0:W0.heap.size=w.heap.size+2:=by rw[← hW0];simp
 have HS0:=hide hs0;obtain⟨old,hold,hR0⟩:=hR0;clear hW0 hs0
 go_loopw [14] (fun iv wr=>∃ (i:Nat) (arr:Array Value),iv=.int .i64 (i:Int)/\i<=l.length/\Cn wr (w.heap.size+1) 204 16 (cf1 l i) arr/\arr.size=17/\Below w.heap.size w wr/\wr.heap[w.heap.size]?=some (.cells old 204 (0,0))/\Hid (wr.heap.size=w.heap.size+2))
  (fun iv _=>l.length-(intOf iv).toNat)
 case atStart=>exact⟨0,_,rfl,by omega,hC0,rfl,hB0,hR0,HS0⟩
 case round=>
  clear hC0 hB0 hR0 HS0;obtain⟨i,arr,rfl,hi,hC,hsz,hB,hR,HS⟩:=hrel
  by_cases hlt:i<l.length
  ·have hcell:=(hl.below hB).2 i hlt;have hv15:=h15 i;obtain⟨v,hv⟩:∃ v,nth l i=v:=⟨_,rfl⟩;rw[hv] at hcell hv15;have HV:Hid (l.getD i 0=v):=hv;clear hv
   by_cases h0:0<v
   ·have hcc:=hC.cell (show v<16 by omega);have hfc:=hC.fr v;have hle:=cf1_le l i v hi;have h0I:(0:Int)<(v:Int):=by omega
    have hvI:(v:Int)<16:=by omega
    have hC1:=hC.set (show v<16 by omega) (cf1 l i v+1);have hg1:=grownBy_setCell wr (w.heap.size+1) v (.int .i64 ((cf1 l i v+1:Nat):Int));have ec:((cf1 l i v+1:Nat):Int)=(cf1 l i v:Int)+1:=by omega
    rw[ec] at hC1 hg1;clear ec
    go_wp2_with fail
    go_roundw
    case rel=>exact⟨i+1,_,by go_num,by omega,hC1.congr (fun m _=>cf1_hit (unhide HV) h0 m),by simp[hsz],hB.setCell (by simp) _,by rw[heap_setCell_other _ _ _ _ (by simp)];exact hR,by have:=unhide HS;exact (by simpa using this:(wr.setCell _ _).heap.size=w.heap.size+2)⟩
    case measure=>simp[intOf];omega
   ·have hz:v=0:=by omega
    subst hz
    go_wp2_with fail
    go_roundw
    case rel=>exact⟨i+1,arr,by go_num,by omega,hC.congr (fun m _=>cf1_miss (unhide HV) m),hsz,hB,hR,HS⟩
    case measure=>simp[intOf];omega
  ·have e:i=l.length:=by omega
   subst e;have hC':=hC.congr (fun m _=>cf1_all l m)
   have hrg:∀ W:World,W.heap[w.heap.size+1]?=some (.cells arr 204 (0,0))->W.rangeAt (w.heap.size+1) 0 (c16 arr):=fun W hb j v hv=>by
    unfold c16 at hv;rw[List.getElem?_take] at hv;split at hv
    ·rw[Array.getElem?_toList] at hv;simp[World.cell?,hb,hv]
    ·cases hv
   have hl16:(c16 arr).length=16:=by unfold c16;simp[hsz]
   have hX1:∀ o:Obj,(wr.alloc o).heap[w.heap.size+1]?=some (.cells arr 204 (0,0)):=fun o=>by rw[Below.heap_alloc _ _ _ hC.lt];exact hC.blk
   have hi16:(Tryz.prog.info? 136).map (·.size)=some (c16 arr).length:=by rw[hl16];kernel_rfl
   go_wp2_with (refine wpList_load_mid rfl 136 _ rfl (w.heap.size+1) 0 rfl (c16 arr) _ (hrg _ (hX1 _)) Tryz.underlying136 rfl hi16 ?_)
   have hPb:(wr.alloc (.cells #[.int .i64 0,.int .i64 0,.int .i64 0,.int .i64 0,.int .i64 0,.int .i64 0,.int .i64 0,.int .i64 0,.int .i64 0,.int .i64 0,.int .i64 0,.int .i64 0,.int .i64 0,.int .i64 0,.int .i64 0,.int .i64 0] 136)).heap[wr.heap.size]?=some (.cells #[.int .i64 0,.int .i64 0,.int .i64 0,.int .i64 0,.int .i64 0,.int .i64 0,.int .i64 0,.int .i64 0,.int .i64 0,.int .i64 0,.int .i64 0,.int .i64 0,.int .i64 0,.int .i64 0,.int .i64 0,.int .i64 0] 136 (0,0)):=World.alloc_heap_new wr _;have hXC:=hX1 (.cells #[.int .i64 0,.int .i64 0,.int .i64 0,.int .i64 0,.int .i64 0,.int .i64 0,.int .i64 0,.int .i64 0,.int .i64 0,.int .i64 0,.int .i64 0,.int .i64 0,.int .i64 0,.int .i64 0,.int .i64 0,.int .i64 0] 136);obtain⟨W1,hW1⟩:∃ W1,wr.alloc (.cells #[.int .i64 0,.int .i64 0,.int .i64 0,.int .i64 0,.int .i64 0,.int .i64 0,.int .i64 0,.int .i64 0,.int .i64 0,.int .i64 0,.int .i64 0,.int .i64 0,.int .i64 0,.int .i64 0,.int .i64 0,.int .i64 0] 136)=W1:=⟨_,rfl⟩;rw[hW1] at hPb hXC ⊢;have hB1:Below w.heap.size w W1:=by rw[← hW1];exact hB.alloc hB.size _
   have hR1:W1.heap[w.heap.size]?=some (.cells old 204 (0,0)):=by rw[← hW1,Below.heap_alloc _ _ _ (by have:=hC.lt;omega)];exact hR
   have hs1:W1.heap.size=wr.heap.size+1:=by rw[← hW1];simp
   have HS1:=hide hs1;have hP0:Cn W1 wr.heap.size 136 16 (fun m=>if m<0 then start l m else 0) #[.int .i64 0,.int .i64 0,.int .i64 0,.int .i64 0,.int .i64 0,.int .i64 0,.int .i64 0,.int .i64 0,.int .i64 0,.int .i64 0,.int .i64 0,.int .i64 0,.int .i64 0,.int .i64 0,.int .i64 0,.int .i64 0]:=⟨hPb,by simp,fun m hm=>zeros16 m hm⟩
   have hcg:∀ k,k<16->(c16 arr).toArray[k]?=some (.int .i64 (cv l k:Int)):=fun k hk=>by
    unfold c16;rw[List.getElem?_toArray,List.getElem?_take,if_pos hk,Array.getElem?_toList];exact hC'.c k hk
   have HCG:=hide hcg;have hltC:=hC.lt;have hCc:=hide hC'.c;clear hW1 hs1 hrg hX1 hi16 hPb hcg hC hC' hB hR;obtain⟨Pb,hPbe⟩:∃ Pb,wr.heap.size=Pb:=⟨_,rfl⟩;rw[hPbe] at hP0 HS1 hltC ⊢;have HPb:Hid (Pb=w.heap.size+2):=by have:=unhide HS;rw[hPbe] at this;exact this
   clear hPbe HS
   go_loopw [7,30] (fun tv kv wr2=>∃ (k:Nat) (parr:Array Value),kv=.int .i64 (k:Int)/\k<=16/\tv=.int .i64 (start l k:Int)/\Cn wr2 Pb 136 16 (fun m=>if m<k then start l m else 0) parr/\W1.grownBy wr2 (some Pb)/\Hid (wr2.heap.size=W1.heap.size))
    (fun _ kv _=>16-(intOf kv).toNat)
   case atStart=>exact⟨0,_,rfl,by omega,rfl,hP0,grownBy_refl _ _,rfl⟩
   case round=>
    clear hP0;obtain⟨k,parr,rfl,hk,rfl,hP,hg,HSW⟩:=hrel;have hsl:start l k<=6800:=Nat.le_trans (start_le l k) (Nat.mul_le_mul (show k<=17 by omega) hlen)
    by_cases hlt2:k<16
    ·have hix:=index16 (c16 arr).toArray k _ hlt2 (unhide HCG k hlt2);have hcl:=cv_le l k;have hpc:=hP.cell hlt2;have hpf:=hP.fr k;have hkI:(k:Int)<16:=by omega
     have hP1:=hP.set hlt2 (start l k)
     go_wp2_with fail
     go_roundw
     case rel=>exact⟨k+1,_,by go_num,by omega,congrArg (Value.int .i64) (by rw[start_cv];omega),hP1.congr (fun m _=>by by_cases e:m=k;(subst e;rw[if_pos rfl,if_pos (by omega)]);(rw[if_neg e];by_cases e2:m<k;(rw[if_pos e2,if_pos (by omega)]);(rw[if_neg e2,if_neg (by omega)]))),grownBy_trans hg (grownBy_setCell _ _ _ _),(World.size_setCell _ _ _).trans (unhide HSW)⟩
     case measure=>simp[intOf];omega
    ·have e:k=16:=by omega
     subst e;have hmk:=fun w=>run_make_row' (P:=Tryz.prog) 52 3 (.int .i64 0) 8 Tryz.underlying52 Tryz.info3 rfl .i64 .i64 (start l 16) (by omega) (by omega) w
     have hC2:wr.heap[w.heap.size+1]?=some (.cells arr 204 (0,0)):=by rw[hg.block _ (by have:=unhide HS1;omega) (by have:=unhide HPb;simp;omega)];exact hXC
     have hR2:wr.heap[w.heap.size]?=some (.cells old 204 (0,0)):=by rw[hg.block _ (by have:=unhide HS1;omega) (by have:=unhide HPb;simp;omega)];exact hR1
     have hB2:Below w.heap.size w wr:=hB1.grown hg hB1.size (fun k e=>by have:=unhide HPb;simp at e;omega);obtain⟨v16,hv16⟩:∃ v,arr[16]?=some v:=⟨_,Array.getElem?_eq_getElem (by omega)⟩
     have hc16:∀ o:Obj,(wr.alloc o).cell? ⟨w.heap.size+1,16,none⟩=some v16:=fun o=>by
      rw[World.cell?_of_block (w:=wr) (Below.heap_alloc _ _ _ (Array.getElem?_eq_some_iff.1 hC2).1)];simp[World.cell?,hC2,hv16]
     have hf16:∀ o:Obj,(wr.alloc o).frozen? ⟨w.heap.size+1,16,none⟩=false:=fun o=>by
      rw[World.frozen?_of_block (w:=wr) (Below.heap_alloc _ _ _ (Array.getElem?_eq_some_iff.1 hC2).1)];simp[World.frozen?,hC2]
     go_wp2_with fail
     obtain⟨W3,hW3⟩:∃ W3,(wr.alloc (.cells (madeCells #[.int .i64 0] (start l 16)) 3)).setCell ⟨w.heap.size+1,16,none⟩ (.slice (some ⟨wr.heap.size,0,none⟩) (start l 16) (start l 16))=W3:=⟨_,rfl⟩;rw[hW3];have hsW:=unhide HSW;have hs1:=unhide HS1;have hpb:=unhide HPb;obtain⟨S,hS⟩:∃ S,wr.heap.size=S:=⟨_,rfl⟩;obtain⟨n,hn⟩:∃ n,start l 16=n:=⟨_,rfl⟩;have hgs:=grownBy_setCell (wr.alloc (.cells (madeCells #[.int .i64 0] (start l 16)) 3)) (w.heap.size+1) 16 (.slice (some ⟨wr.heap.size,0,none⟩) (start l 16) (start l 16));have hga:=World.grownBy_alloc wr (.cells (madeCells #[.int .i64 0] (start l 16)) 3) (some (w.heap.size+1));have hgg:=grownBy_trans hga hgs;rw[hW3] at hgs hgg
     have hC3:W3.heap[w.heap.size+1]?=some (.cells (arr.setIfInBounds 16 (.slice (some ⟨wr.heap.size,0,none⟩) (start l 16) (start l 16))) 204 (0,0)):=by
      rw[← hW3];exact heap_setCell_same _ _ _ _ _ _ ((Below.heap_alloc _ _ _ (Array.getElem?_eq_some_iff.1 hC2).1).trans hC2)
     have hS3:W3.heap[wr.heap.size]?=some (.cells (madeCells #[.int .i64 0] (start l 16)) 3 (0,0)):=by
      rw[hgs.block _ (by simp) (by simp;omega)];exact World.alloc_heap_new wr _
     have hR3:W3.heap[w.heap.size]?=some (.cells old 204 (0,0)):=by rw[hgg.block _ (by omega) (by simp)];exact hR2
     have hP3:Cn W3 Pb 136 16 (pfK l 0) parr:=(hP.kept hgg (by simp;omega)).congr (fun m hm=>by rw[if_pos hm];unfold pfK cf1;split <;> simp[idxsTo]);have hB3:Below w.heap.size w W3:=hB2.grown hgg hB2.size (fun k e=>by simp at e;omega);have hmz:(madeCells #[.int .i64 0] (start l 16)).size=start l 16:=by simp[madeCells]
     have hL3:Laid (madeCells #[.int .i64 0] (start l 16)) l 0:=fun m a _ _ ha=>by simp[idxsTo] at ha
     have hused:used l=n:=hn;rw[hS,hn] at hC3;rw[hS,hn] at hS3;rw[hn] at hmz hL3;rw[hn] at hsl;obtain⟨sg,hsg⟩:∃ sg,Value.slice (some ⟨S,0,none⟩) n n=sg:=⟨_,rfl⟩;have hSS:S=Pb+1:=by omega
     have HSS:=hide hSS;have HUS:=hide hused;have HN:=hide hn;have hsS:S<W3.heap.size:=(Array.getElem?_eq_some_iff.1 hS3).1;clear hW3 hgs hga hgg hC2 hR2 hB2 hP hg hmk hc16 hf16 hsW hs1 hSS hused hn hsg sg hpb;rw[hS];clear hS HSW;rw[show start l 16=n from unhide HN]
     go_loopw [46] (fun iv w4=>∃ (i:Nat) (parr sarr:Array Value),iv=.int .i64 (i:Int)/\i<=l.length/\Cn w4 Pb 136 16 (pfK l i) parr/\w4.heap[S]?=some (.cells sarr 3 (0,0))/\sarr.size=n/\Laid sarr l i/\w4.heap[w.heap.size+1]?=some (.cells (arr.setIfInBounds 16 (.slice (some ⟨S,0,none⟩) n n)) 204 (0,0))/\w4.heap[w.heap.size]?=some (.cells old 204 (0,0))/\Below w.heap.size w w4)
      (fun iv _=>l.length-(intOf iv).toNat)
     case atStart=>exact⟨0,parr,_,rfl,by omega,hP3,hS3,hmz,hL3,hC3,hR3,hB3⟩
     case round=>
      clear hP3 hS3 hmz hL3 hC3 hR3 hB3 hsS;obtain⟨i,parr,sarr,rfl,hi,hP,hSb,hsz2,hLd,hC,hR,hB⟩:=hrel
      by_cases hlt3:i<l.length
      ·have hcell:=(hl.below hB).2 i hlt3;have hv15:=h15 i;obtain⟨v,hv⟩:∃ v,nth l i=v:=⟨_,rfl⟩;rw[hv] at hcell hv15;have HV:Hid (l.getD i 0=v):=hv;clear hv
       by_cases h0:0<v
       ·have hpc:=hP.cell (show v<16 by omega);have hpf:=hP.fr v;have hpv:pfK l i v=start l v+(idxsTo v l i).length:=by unfold pfK cf1;rw[if_neg (by omega)]
        have hin:=start_used l (show 1<=v by omega) hv15 (idxsTo_cnt_lt hlt3 (unhide HV));obtain⟨j,hj⟩:∃ j,pfK l i v=j:=⟨_,rfl⟩;rw[hj] at hpc;have hjn:j<n:=by have:=unhide HUS;omega
        have hjs:j<sarr.size:=by omega
        have hsc:wr.cell? ⟨S,j,none⟩=some (sarr[j]'hjs):=by simp[World.cell?,hSb,Array.getElem?_eq_getElem hjs]
        have hsf:wr.frozen? ⟨S,j,none⟩=false:=by simp[World.frozen?,hSb]
        have hcs:wr.cell? ⟨w.heap.size+1,16,none⟩=some (.slice (some ⟨S,0,none⟩) n n):=by simp[World.cell?,hC,hsz]
        have hjI:(j:Int)<(n:Int):=by omega
        have h0I:(0:Int)<(v:Int):=by omega
        have hvI:(v:Int)<16:=by omega
        have hPS:Pb≠S:=by have:=unhide HSS;omega
        have hL1:=hLd.hit hlt3 (unhide HV) (by omega) hv15 (by have:=unhide HUS;omega);rw[← hpv,hj] at hL1;have HL1:=hide hL1;have HJ:Hid (pfK l i v=j):=hj;obtain⟨vo,hvo⟩:∃ vo,sarr[j]'hjs=vo:=⟨_,rfl⟩;rw[hvo] at hsc;clear hj hpv hL1 hvo hin;have hgS:=grownBy_setCell wr S j (.int .i64 (i:Int));have hP1:=((hP.kept hgS (by simp;omega)).set (show v<16 by omega) (j+1)).congr (fun m _=>pfK_hit (unhide HV) h0 (unhide HJ) m);have hgP:=grownBy_setCell (wr.setCell ⟨S,j,none⟩ (.int .i64 (i:Int))) Pb v (.int .i64 ((j+1:Nat):Int))
        have hSb1:((wr.setCell ⟨S,j,none⟩ (.int .i64 (i:Int))).setCell ⟨Pb,v,none⟩ (.int .i64 ((j+1:Nat):Int))).heap[S]?=some (.cells (sarr.setIfInBounds j (intV i)) 3 (0,0)):=by
         rw[heap_setCell_other _ _ _ _ (by simp;omega)];exact heap_setCell_same _ _ _ _ _ _ hSb
        have hC1:((wr.setCell ⟨S,j,none⟩ (.int .i64 (i:Int))).setCell ⟨Pb,v,none⟩ (.int .i64 ((j+1:Nat):Int))).heap[w.heap.size+1]?=some (.cells (arr.setIfInBounds 16 (.slice (some ⟨S,0,none⟩) n n)) 204 (0,0)):=by
         have:=unhide HPb;have:=unhide HSS;rw[heap_setCell_other _ _ _ _ (by simp;omega),heap_setCell_other _ _ _ _ (by simp;omega)];exact hC
        have hR1:((wr.setCell ⟨S,j,none⟩ (.int .i64 (i:Int))).setCell ⟨Pb,v,none⟩ (.int .i64 ((j+1:Nat):Int))).heap[w.heap.size]?=some (.cells old 204 (0,0)):=by
         have:=unhide HPb;have:=unhide HSS;rw[heap_setCell_other _ _ _ _ (by simp;omega),heap_setCell_other _ _ _ _ (by simp;omega)];exact hR
        have hBB:Below w.heap.size w ((wr.setCell ⟨S,j,none⟩ (.int .i64 (i:Int))).setCell ⟨Pb,v,none⟩ (.int .i64 ((j+1:Nat):Int))).drew:=by
         have:=unhide HPb;have:=unhide HSS;have h2:=(hB.setCell (p:=⟨S,j,none⟩) (by simp;omega) (.int .i64 (i:Int))).setCell (p:=⟨Pb,v,none⟩) (by simp;omega) (.int .i64 ((j+1:Nat):Int));exact h2.grown (grownBy_drewN (grownBy_refl _ none) 1) h2.size (fun k e=>by simp at e)
        have ec:((j+1:Nat):Int)=(j:Int)+1:=by omega
        rw[ec] at hP1 hSb1 hC1 hR1 hBB;have HP1:=hide hP1;have HSb1:=hide hSb1;have HC1:=hide hC1;have HR1:=hide hR1;have HBB:=hide hBB;clear hgS hP1 hgP hSb1 hC1 hR1 hBB ec
        go_wp2_with fail
        go_region
        all_goals go_wp2_with fail
        all_goals (refine⟨⟨i+1,_,_,by go_num,by omega,⟨(unhide HP1).blk,(unhide HP1).size,(unhide HP1).c⟩,unhide HSb1,by simp[hsz2],unhide HL1,unhide HC1,unhide HR1,unhide HBB⟩,by simp[intOf];omega⟩)
       ·have hz:v=0:=by omega
        subst hz
        go_wp2_with fail
        go_roundw
        case rel=>exact⟨i+1,parr,sarr,by go_num,by omega,hP.congr (fun m _=>by unfold pfK;rw[cf1_miss (unhide HV) m]),hSb,hsz2,hLd.miss (unhide HV),hC,hR,hB⟩
        case measure=>simp[intOf];omega
      ·have e:i=l.length:=by omega
       subst e
       have hD:CodeP (arr.setIfInBounds 16 (.slice (some ⟨S,0,none⟩) n n)) l (.slice (some ⟨S,0,none⟩) n n):=by
        refine⟨by simp[hsz],fun m hm=>?_,by simp[hsz],hlen⟩;rw[Array.getElem?_setIfInBounds,if_neg (by omega)];exact unhide hCc m (by omega)
       have hone:(arr.setIfInBounds 16 (.slice (some ⟨S,0,none⟩) n n)).all (·.oneCell')=true:=hD.one rfl
       go_wp2_with (first | (refine load_whole rfl 204 _ rfl (w.heap.size+1) rfl 204 _ (0,0) hC Tryz.aggCodeP (Tryz.infoCodeP _ hD.size) ?_) | (refine wpList_store_row rfl 204 _ _ rfl w.heap.size _ rfl rfl 204 old hR (Tryz.infoCodeP _ hD.size) (hold.trans hD.size.symm) hone ?_))
       have hW2:=setRow_heap wr w.heap.size old (arr.setIfInBounds 16 (.slice (some ⟨S,0,none⟩) n n)) _ _ hR;obtain⟨d,hd1,hd2⟩:=structured Tryz.aggCodeP;refine bodyPost_ret (v:=.agg (arr.setIfInBounds 16 (.slice (some ⟨S,0,none⟩) n n))) (results_cell_row rfl _ _ w.heap.size 204 _ (0,0) d rfl hW2 hd1 (by cases d <;> first | rfl | cases hd2) (Tryz.infoCodeP _ hD.size)) rfl ?_;have hpb:=unhide HPb;have hss:=unhide HSS;have hSlt:=(Array.getElem?_eq_some_iff.1 hSb).1;have hgr:=grownBy_setRow wr w.heap.size (arr.setIfInBounds 16 (.slice (some ⟨S,0,none⟩) n n));refine⟨_,_,rfl,hD,⟨S,n,by rw[show used l=n from unhide HUS],by omega,by simpa using hSlt,fun m a hm hm' ha=>?_⟩,hB.grown hgr hB.size (fun k e=>by simp at e;omega),hone⟩;rw[World.cell?_of_block (w:=wr) (hgr.block S hSlt (by simp;omega))];have:=hLd m a hm hm' (by rw[idxsTo_all];exact ha);rw[idxsTo_all] at this;simp only[World.cell?,hSb];simpa[intV] using this
end
section
open Go.RowKit Go.Deep
def rowk (x c k:Nat):List Value:=List.replicate k (intV x)++List.replicate (c-k) (intV 0)
theorem rowk_len {x c k:Nat}(h:k<=c):(rowk x c k).length=c:=by simp[rowk];omega
theorem rowk_made {x c:Nat}(_h:1<=c):(intV x::(madeCells #[.int .i64 0] c).toList.tail).toArray=(rowk x c 1).toArray:=by
 congr 1
 have e:(madeCells #[.int .i64 0] c).toList=List.replicate c (intV 0):=by
  apply List.ext_getElem?;intro i
  by_cases hi:i<c
  ·simp[madeCells,hi,Nat.mod_one];rfl
  ·simp[madeCells,hi]
 rw[e];simp[rowk]
theorem rowk_splice {x c k m:Nat}(h:k+m<=c):splice (rowk x c k) k (List.replicate m (intV x))=rowk x c (k+m):=by
 unfold splice rowk;simp only[List.length_replicate];rw[List.take_left' (by simp),List.drop_append,List.drop_replicate,List.drop_replicate,List.length_replicate,show k-(k+m)=0 by omega,show c-k-(k+m-k)=c-(k+m) by omega];simp only[List.replicate_zero,List.nil_append,← List.append_assoc,List.replicate_append_replicate]
theorem rowk_all {x c:Nat}:rowk x c c=List.replicate c (intV x):=by simp[rowk]
theorem rowk_get {x c k j:Nat}(hj:j<k):(rowk x c k)[j]?=some (intV x):=by
 unfold rowk;rw[List.getElem?_append_left (by simpa using hj)];simp[hj]
theorem below_drew {B:Nat}{w0 w:World}(h:Below B w0 w):Below B w0 w.drew:=⟨h.os,h.tape,h.output,h.size,h.block⟩
def RepQ (w:World) (x c:Nat) (e:Ending) (w':World):Prop:=
 ∃ g,e=.returned (.slice (some ⟨g,0,none⟩) c c)/\w.heap.size<=g/\w'.heap[g]?=some (.cells (List.replicate c (intV x)).toArray 3 (0,0))/\Below w.heap.size w w'
set_option maxHeartbeats 1000000 in
set_option maxRecDepth 100000 in
theorem rep_walk (w:World) (X x c:Nat) (hXl:X<w.heap.size) (hX:w.cell? ⟨X,0,none⟩=some (intV x)) (hc1:1<=c) (hc:c<=400) :
  Calls Tryz.prog 181 #[.slice (some ⟨X,0,none⟩) 1 1,.int .i64 (c:Int)] w (RepQ w x c):=by
 have hmk:=fun w=>run_make_row' (P:=Tryz.prog) 52 3 (.int .i64 0) 8 Tryz.underlying52 Tryz.info3 rfl .i64 .i64 c (by omega) (by omega) w
 have hcu:IntKind.u64.wrap (c:Int)=(c:Int):=by rw[IntKind.wrap_u64];omega
 have hci:IntKind.i64.wrap (c:Int)=(c:Int):=wraps_i64 _ (by omega) (by omega);have hcb:decide ((9223372036854775807:Int)<(c:Int))=false:=by simp;omega
 have hsz:(Tryz.prog.info? 3).map (·.size)=some 1:=by kernel_rfl
 go_enter Tryz.func181,Tryz.ntmps181
 go_wp2_with (first | (go_at_call 200;refine (mul_one' _ c hc).mono ?_;rintro e w1 ⟨rfl,rfl⟩) | (refine wpList_copy_own rfl (.tmp 31) (.tmp 32) 52 52 rfl 3 Tryz.underlying52 hsz w.heap.size 0 c c ⟨X,0,none⟩ 1 1 rfl rfl _ 3 (World.alloc_heap_new w _) [intV x] ?c1 ?c2 ?c3 (by simp[intV,Value.oneCell']) ?_))
 case c1=>exact (Nat.min_eq_left hc1).symm
 case c2=>intro j v hj;match j,hj with | 0,hj=>(simp at hj;subst hj;exact (World.cell?_of_block (Below.heap_alloc _ _ _ hXl)).trans hX)
 case c3=>simp[madeCells];omega
 rw[rowk_made hc1];obtain⟨W1,hW1⟩:∃ W1,(w.alloc (.cells (madeCells #[.int .i64 0] c) 3)).setRow w.heap.size (rowk x c 1).toArray=W1:=⟨_,rfl⟩;rw[hW1];have hg1:W1.heap[w.heap.size]?=some (.cells (rowk x c 1).toArray 3 (0,0)):=by rw[← hW1];exact setRow_heap _ _ _ _ _ _ (World.alloc_heap_new w _)
 have hB1:Below w.heap.size w W1:=by rw[← hW1];exact below_setRow ((Below.refl _ _).alloc (Nat.le_refl _) _) (Nat.le_refl _) _
 obtain⟨g,hg⟩:∃ g,w.heap.size=g:=⟨_,rfl⟩;rw[hg] at hg1 ⊢;have HG:=hide hg;clear hW1 hmk hg
 go_loopw [8] (fun nv wr=>∃ k:Nat,nv=.int .i64 (k:Int)/\1<=k/\k<=c/\wr.heap[g]?=some (.cells (rowk x c k).toArray 3 (0,0))/\Below w.heap.size w wr) (fun nv _=>c-(intOf nv).toNat)
 case atStart=>exact⟨1,rfl,by omega,hc1,hg1,hB1⟩
 case round=>
  clear hg1 hB1;obtain⟨k,rfl,hk1,hk,hgk,hB⟩:=hrel
  by_cases hlt:k<c
  ·obtain⟨m,hm⟩:∃ m,Nat.min k (c-k)=m:=⟨_,rfl⟩;have hm1:1<=m:=by rw[← hm];exact Nat.le_min.2 ⟨hk1,by omega⟩
   have hmk:m<=k:=by rw[← hm];exact Nat.min_le_left _ _
   have hmc:m<=c-k:=by rw[← hm];exact Nat.min_le_right _ _
   have hki:IntKind.i64.wrap (k:Int)=(k:Int):=wraps_i64 _ (by omega) (by omega);have hk0:(0:Int)<=(k:Int):=by omega
   have hkc:(k:Int)<=(c:Int):=by omega
   have hne:¬ c=k:=by omega
   have hne':¬ k=c:=by omega
   have hlt':(k:Int)<(c:Int):=by omega
   have hkm:((k+m:Nat):Int)=(k:Int)+(m:Int):=by omega
   have hsrc:∀ W:World,W.heap[g]?=some (.cells (rowk x c k).toArray 3 (0,0))->∀ j v,(List.replicate m (intV x))[j]?=some v->W.cell? ((⟨g,0,none⟩:Addr).add j)=some v:=by
    intro W hW j v hj;have hjm:j<m:=by have:=List.getElem?_eq_some_iff.1 hj;simpa using this.1
    rw[List.getElem?_replicate,if_pos hjm] at hj;have e:(⟨g,0,none⟩:Addr).add j=⟨g,j,none⟩:=by simp[Addr.add];omega
    rw[e];simp only[World.cell?,hW];simp[rowk_get (show j<k by omega),hj]
   have hwkm:IntKind.i64.wrap ((k:Int)+(m:Int))=(k:Int)+(m:Int):=wraps_i64 _ (by omega) (by omega);have HSRC:=hide hsrc;have HM:=hide hm;clear hsrc hm
   go_wp2_with fail
   go_region_law (refine step_copy_splice rfl (.tmp 41) (.tmp 44) 52 52 rfl 3 Tryz.underlying52 hsz (some ⟨g,k,none⟩) (some ⟨g,0,none⟩) (c-k) (c-k) k c (by simp[Act.eval,Act.put]) (by simp[Act.eval,Act.put]) g k (rowk x c k) 3 hgk (List.replicate m (intV x)) (by rw[List.length_replicate];exact (unhide HM).symm) (fun _=>⟨rfl,_,rfl,unhide HSRC _ hgk⟩) (by rw[rowk_len hk,List.length_replicate];omega) (by intro v hv;rw[List.eq_of_mem_replicate hv];rfl) w.heap.size w (below_drew hB) (by have:=unhide HG;omega) ?_;intro w4 hg4 hb4)
   have hg5:=unhide hg4;rw[rowk_splice (by omega)] at hg5;clear hg4;simp[Act.put]
   go_wp2_with fail
   go_roundw
   case rel=>exact⟨k+m,by go_num,by omega,by omega,hg5,hb4⟩
   case measure=>simp[intOf];omega
  ·have e:k=c:=by omega
   subst e;rw[rowk_all] at hgk
   go_wp2_with fail
   go_ret
   exact⟨g,rfl,by have:=unhide HG;omega,hgk,hB⟩
end
end Go.Proofs.YtgffljllfenhkaaGreatDoor
