import Derived.Deep.DrawnRows
import Derived.Test.YtgffljllfenhkaaGreatDoorGwan
namespace Go.Proofs.YtgffljllfenhkaaGreatDoor
section
open Go.RowKit
attribute [local go_sem] Oper.semAt_some
variable {w w':World}{P B:Nat}{D lo at_ root:Nat}{pl:List Nat}{slp slo:Value}{os:List Obj1}{xs:List Value}
def overI (o:Obj1) (num:Nat):List Obj1->Nat->Res Unit
 | [],b=>.ok () b
 | u::l,b=>if b<1 then .no (12,0) else if o.place<u.fin/\u.place<o.fin then .no (8,num) else overI o num l (b-1)
def overO (os:List Obj1):Nat->Nat->Res Unit
 | 0,b=>.ok () b
 | m+1,b=>match os[os.length-(m+1)]? with
  | none=>.ok () b
  | some o=>match overI o (os.length-(m+1)) (os.take (os.length-(m+1))) b with
   | .no y=>.no y
   | .ok _ b'=>overO os m b'
def overR (os:List Obj1) (b:Nat):Res Unit:=overO os os.length b
theorem one_tenO (o:Obj1) (kk xx:Nat) (tt:ByteArray) (rr:Nat) (aa:Option Addr) (nn cc:Nat) (mm:Option Nat):(#[.int .i64 (kk:Int),.float .f64 xx,.string tt,.int .i64 (rr:Int),.slice aa nn cc,.map mm,.int .i64 (o.place:Int),.int .i64 (o.fin:Int),.bool o.has,.string o.stream]:Array Value).all (·.oneCell')=true:=by simp[Value.oneCell']
set_option maxHeartbeats 4000000 in
set_option maxRecDepth 100000 in
theorem overlaps_any {b:Nat}(hd:Doc w D B lo at_ pl root slp slo os xs) (hB:Bud w B b) (hlo:B+1<lo) (hos:os.length<=100) :
  Calls Tryz.prog 68 #[.pointer (some ⟨D,0,none⟩)] w (PostB B w (fun _ v _=>v=.tuple #[]) (overR os b)):=by
 have c3:=hd.c3
 have hsl:∃ a c,slo=.slice a os.length c:=by
  rcases hd.o.2 with⟨e,e2⟩|⟨g,cap,cur,e,_⟩
  ·exact⟨none,0,by rw[e,e2]⟩
  ·exact⟨_,_,e⟩
 obtain⟨ao,cp,rfl⟩:=hsl
 go_enter Tryz.func68,Tryz.ntmps68
 go_wp2_with fail
 clear c3
 go_loopw [11] (fun v wr=>∃ i b',v=.int .i64 ((i:Nat):Int)/\i<=os.length/\Bud wr B b'/\Fb B w wr/\Hid (overR os b=overO os (os.length-i) b'))
  (fun v _=>os.length-(intOf v).toNat)
 case atStart=>exact⟨0,b,rfl,Nat.zero_le _,hB,Fb.refl _ _,rfl⟩
 case round=>
  clear hB;obtain⟨i,b',rfl,hi,hB,hF,HE⟩:=hrel;have hdr:=hd.kept hF (by omega)
  by_cases hlt:i<os.length
  ·have hltI:(i:Int)<(os.length:Int):=by omega
   obtain⟨o,ho⟩:∃ o,os[i]?=some o:=⟨os[i],List.getElem?_eq_getElem hlt⟩;obtain⟨g,cp',kk,xx,tt,rr,aa,nn,cc,mm,e,hcap,hg,hgl,hr,_,_⟩:=hdr.obj i o ho;obtain⟨rfl,rfl⟩:ao=some ⟨g,0,none⟩/\cp=cp':=by simpa using e
   clear e
   have HE1:Hid (overR os b=match overI o i (os.take i) b' with
     | .no y=>.no y
     | .ok _ b''=>overO os (os.length-(i+1)) b''):=(unh HE).trans (by
    rw[show os.length-i=(os.length-(i+1))+1 by omega,overO,show os.length-(os.length-(i+1)+1)=i by omega,ho])
   have c3:=(hdr.kept ((Fb.refl B wr).alloc (.cells #[.int .i64 (kk:Int),.float .f64 xx,.string tt,.int .i64 (rr:Int),.slice aa nn cc,.map mm,.int .i64 (o.place:Int),.int .i64 (o.fin:Int),.bool o.has,.string o.stream] 122)) (by omega)).c3;have icap:(i:Int)<=(cp:Int):=by omega
   have hB3:=hB.alloc (.cells #[.int .i64 (kk:Int),.float .f64 xx,.string tt,.int .i64 (rr:Int),.slice aa nn cc,.map mm,.int .i64 (o.place:Int),.int .i64 (o.fin:Int),.bool o.has,.string o.stream] 122);have hR3:(wr.alloc (.cells #[.int .i64 (kk:Int),.float .f64 xx,.string tt,.int .i64 (rr:Int),.slice aa nn cc,.map mm,.int .i64 (o.place:Int),.int .i64 (o.fin:Int),.bool o.has,.string o.stream] 122)).heap[wr.heap.size]?=some (.cells #[.int .i64 (kk:Int),.float .f64 xx,.string tt,.int .i64 (rr:Int),.slice aa nn cc,.map mm,.int .i64 (o.place:Int),.int .i64 (o.fin:Int),.bool o.has,.string o.stream] 122 (0,0)):=heap_alloc_new wr _;have hd3:=hdr.kept ((Fb.refl B wr).alloc (.cells #[.int .i64 (kk:Int),.float .f64 xx,.string tt,.int .i64 (rr:Int),.slice aa nn cc,.map mm,.int .i64 (o.place:Int),.int .i64 (o.fin:Int),.bool o.has,.string o.stream] 122)) (by omega);have F3:=hF.alloc (.cells #[.int .i64 (kk:Int),.float .f64 xx,.string tt,.int .i64 (rr:Int),.slice aa nn cc,.map mm,.int .i64 (o.place:Int),.int .i64 (o.fin:Int),.bool o.has,.string o.stream] 122);have hz3:wr.heap.size<(wr.alloc (.cells #[.int .i64 (kk:Int),.float .f64 xx,.string tt,.int .i64 (rr:Int),.slice aa nn cc,.map mm,.int .i64 (o.place:Int),.int .i64 (o.fin:Int),.bool o.has,.string o.stream] 122)).heap.size:=by simp
   clear HE
   go_wp2_with (first | (refine load_mid rfl 122 _ rfl g (i*10) rfl _ hr Tryz.agO Tryz.sizeO ?_) | (refine wpList_store_row rfl 122 _ _ rfl wr.heap.size _ rfl rfl 122 _ (heap_alloc_new wr _) Tryz.sizeO rfl (one_tenO o _ _ _ _ _ _ _ _) ?_;rw[setRow_alloc]))
   obtain⟨wo,rfl⟩:∃ wo,wo=wr:=⟨_,rfl⟩;obtain⟨W3,hW3⟩:∃ W3,wo.alloc (.cells #[.int .i64 (kk:Int),.float .f64 xx,.string tt,.int .i64 (rr:Int),.slice aa nn cc,.map mm,.int .i64 (o.place:Int),.int .i64 (o.fin:Int),.bool o.has,.string o.stream] 122)=W3:=⟨_,rfl⟩;rw[hW3] at c3 hB3 hR3 hd3 F3 hz3 ⊢;clear hW3 c3 hr
   go_loopw [23] (fun v wr=>∃ j b2,v=.int .i64 ((j:Nat):Int)/\j<=i/\Bud wr B b2/\Fb B W3 wr/\Hid (overI o i (os.take i) b'=overI o i ((os.take i).drop j) b2))
    (fun v _=>i-(intOf v).toNat)
   case atStart=>exact⟨0,b',rfl,Nat.zero_le _,hB3,Fb.refl _ _,rfl⟩
   case round=>
    clear hB3;obtain⟨j,b2,rfl,hj,hBq,hFq,HQ⟩:=hrel;have hdq:=hd3.kept hFq (by omega)
    by_cases hjl:j<i
    ·have hjlI:(j:Int)<(i:Int):=by omega
     obtain⟨u,hu⟩:∃ u,os[j]?=some u:=⟨os[j],List.getElem?_eq_getElem (by omega)⟩
     have hdrop:(os.take i).drop j=u::(os.take i).drop (j+1):=by
      have hl:j<(os.take i).length:=by simp;omega
      rw[List.drop_eq_getElem_cons hl];congr 1;have:(os.take i)[j]?=some u:=by rw[List.getElem?_take,if_pos hjl];exact hu
      exact Option.some.inj ((List.getElem?_eq_getElem hl).symm.trans this)
     obtain⟨g2,cp2,kk2,xx2,tt2,rr2,aa2,nn2,cc2,mm2,e2,_,hg2,hgl2,hr2,_,_⟩:=hdq.obj j u hu;obtain⟨rfl,rfl⟩:g=g2/\cp=cp2:=by simpa using e2
     clear e2;have c4:=(hdq.kept ((Fb.refl B wr).alloc (.cells #[.int .i64 (kk2:Int),.float .f64 xx2,.string tt2,.int .i64 (rr2:Int),.slice aa2 nn2 cc2,.map mm2,.int .i64 (u.place:Int),.int .i64 (u.fin:Int),.bool u.has,.string u.stream] 122)) (by omega)).c4;unfold chg at c4;have hB4:=hBq.alloc (.cells #[.int .i64 (kk2:Int),.float .f64 xx2,.string tt2,.int .i64 (rr2:Int),.slice aa2 nn2 cc2,.map mm2,.int .i64 (u.place:Int),.int .i64 (u.fin:Int),.bool u.has,.string u.stream] 122);have F4:=hFq.alloc (.cells #[.int .i64 (kk2:Int),.float .f64 xx2,.string tt2,.int .i64 (rr2:Int),.slice aa2 nn2 cc2,.map mm2,.int .i64 (u.place:Int),.int .i64 (u.fin:Int),.bool u.has,.string u.stream] 122);have hzq:=hFq.size;have hb2:=hBq.hb;have hBl:=hBq.lt;have hR34:(wr.alloc (.cells #[.int .i64 (kk2:Int),.float .f64 xx2,.string tt2,.int .i64 (rr2:Int),.slice aa2 nn2 cc2,.map mm2,.int .i64 (u.place:Int),.int .i64 (u.fin:Int),.bool u.has,.string u.stream] 122)).heap[wo.heap.size]?=some (.cells #[.int .i64 (kk:Int),.float .f64 xx,.string tt,.int .i64 (rr:Int),.slice aa nn cc,.map mm,.int .i64 (o.place:Int),.int .i64 (o.fin:Int),.bool o.has,.string o.stream] 122 (0,0)):=(Below.heap_alloc _ _ _ (by omega)).trans ((hFq.block _ (by omega) (by have:=hF.size;have:=hd.lo;have:=hd.ltD;omega)).trans hR3);have hR54:(wr.alloc (.cells #[.int .i64 (kk2:Int),.float .f64 xx2,.string tt2,.int .i64 (rr2:Int),.slice aa2 nn2 cc2,.map mm2,.int .i64 (u.place:Int),.int .i64 (u.fin:Int),.bool u.has,.string u.stream] 122)).heap[wr.heap.size]?=some (.cells #[.int .i64 (kk2:Int),.float .f64 xx2,.string tt2,.int .i64 (rr2:Int),.slice aa2 nn2 cc2,.map mm2,.int .i64 (u.place:Int),.int .i64 (u.fin:Int),.bool u.has,.string u.stream] 122 (0,0)):=heap_alloc_new wr _;have HD:=hid hdrop;clear hdrop
     by_cases hb1:b2<1
     ·have HN:Hid (overR os b=.no (12,0)):=(unh HE1).trans (by rw[unh HQ,unh HD,overI,if_pos hb1])
      go_wp2_with (first | (refine load_mid rfl 122 _ rfl g (j*10) rfl _ hr2 Tryz.agO Tryz.sizeO ?_) | (refine wpList_store_row rfl 122 _ _ rfl wr.heap.size _ rfl rfl 122 _ (heap_alloc_new wr _) Tryz.sizeO rfl (one_tenO u _ _ _ _ _ _ _ _) ?_;rw[setRow_alloc]))
      refine (take_no _ B b2 1 12 0 hB4.ca hB4.y hb1).mono ?_;rintro e w5 ⟨rfl,rfl⟩;exact⟨rfl,PostB.no (unh HN) (F3.trans F4)⟩
     ·go_wp2_with (first | (refine load_mid rfl 122 _ rfl g (j*10) rfl _ hr2 Tryz.agO Tryz.sizeO ?_) | (refine wpList_store_row rfl 122 _ _ rfl wr.heap.size _ rfl rfl 122 _ (heap_alloc_new wr _) Tryz.sizeO rfl (one_tenO u _ _ _ _ _ _ _ _) ?_;rw[setRow_alloc]))
      refine (take_ok _ B b2 1 hB4.ca (hB4.fa 0) (by omega) hb2).mono ?_;rintro e w5 ⟨rfl,hw5⟩;have hB5:=hB4.take 1 (by omega);have F5:=F4.setB 0 (.int .i64 ((b2:Int)-((1:Nat):Int)));have k3:wo.heap.size≠B:=by have:=hF.size;have:=hd.lo;have:=hd.ltD;omega
      have k5:wr.heap.size≠B:=by omega
      have hR35:=(Below.heap_setCell (wr.alloc (.cells #[.int .i64 (kk2:Int),.float .f64 xx2,.string tt2,.int .i64 (rr2:Int),.slice aa2 nn2 cc2,.map mm2,.int .i64 (u.place:Int),.int .i64 (u.fin:Int),.bool u.has,.string u.stream] 122)) ⟨B,0,none⟩ (.int .i64 ((b2:Int)-((1:Nat):Int))) wo.heap.size k3).trans hR34;have hR55:=(Below.heap_setCell (wr.alloc (.cells #[.int .i64 (kk2:Int),.float .f64 xx2,.string tt2,.int .i64 (rr2:Int),.slice aa2 nn2 cc2,.map mm2,.int .i64 (u.place:Int),.int .i64 (u.fin:Int),.bool u.has,.string u.stream] 122)) ⟨B,0,none⟩ (.int .i64 ((b2:Int)-((1:Nat):Int))) wr.heap.size k5).trans hR54;rw[hw5] at hB5 F5 hR35 hR55;clear hw5 hR34 hR54 hB4 F4 c4 hr2;have a6:w5.cell? ⟨wo.heap.size,6,none⟩=some (.int .i64 (o.place:Int)):=by simp[World.cell?,hR35]
      have a7:w5.cell? ⟨wo.heap.size,7,none⟩=some (.int .i64 (o.fin:Int)):=by simp[World.cell?,hR35]
      have u6:w5.cell? ⟨wr.heap.size,6,none⟩=some (.int .i64 (u.place:Int)):=by simp[World.cell?,hR55]
      have u7:w5.cell? ⟨wr.heap.size,7,none⟩=some (.int .i64 (u.fin:Int)):=by simp[World.cell?,hR55]
      clear hR35 hR55
      by_cases h1:o.place<u.fin
      ·have j1:(o.place:Int)<(u.fin:Int):=by omega
       by_cases h2:u.place<o.fin
       ·have j2:(u.place:Int)<(o.fin:Int):=by omega
        have HN:Hid (overR os b=.no (8,i)):=(unh HE1).trans (by rw[unh HQ,unh HD,overI,if_neg hb1,if_pos ⟨h1,h2⟩])
        go_wp2_with fail
        refine (refuse_any _ _ _).mono ?_;rintro e w6 ⟨rfl,rfl⟩;exact⟨rfl,PostB.no (unh HN) (F3.trans F5)⟩
       ·have j2:¬ (u.place:Int)<(o.fin:Int):=by omega
        have j2':decide ((u.place:Int)<(o.fin:Int))=false:=by simp;omega
        have j2'':decide (u.place<o.fin)=false:=by simp;omega
        have HQ2:Hid (overI o i (os.take i) b'=overI o i ((os.take i).drop (j+1)) (b2-1)):=(unh HQ).trans (by rw[unh HD,overI,if_neg hb1,if_neg (fun h=>h2 h.2)])
        go_wp2_with fail
        go_roundw
        case rel=>exact⟨j+1,b2-1,by go_num,by omega,hB5,F5,HQ2⟩
        case measure=>simp[intOf];omega
      ·have j1:¬ (o.place:Int)<(u.fin:Int):=by omega
       have j1':decide ((o.place:Int)<(u.fin:Int))=false:=by simp;omega
       have j1'':decide (o.place<u.fin)=false:=by simp;omega
       have HQ2:Hid (overI o i (os.take i) b'=overI o i ((os.take i).drop (j+1)) (b2-1)):=(unh HQ).trans (by rw[unh HD,overI,if_neg hb1,if_neg (fun h=>h1 h.1)])
       go_wp2_with fail
       go_roundw
       case rel=>exact⟨j+1,b2-1,by go_num,by omega,hB5,F5,HQ2⟩
       case measure=>simp[intOf];omega
    ·have hjlI:¬ (j:Int)<(i:Int):=by omega
     have HE2:Hid (overR os b=overO os (os.length-(i+1)) b2):=(unh HE1).trans (by rw[unh HQ,List.drop_eq_nil_of_le (by simp;omega),overI])
     go_wp2_with fail
     go_roundw
     case rel=>exact⟨i+1,b2,by go_num,by omega,hBq,F3.trans hFq,HE2⟩
     case measure=>simp[intOf];omega
  ·have hltI:¬ (i:Int)<(os.length:Int):=by omega
   have HN:Hid (overR os b=.ok () b'):=(unh HE).trans (by rw[show os.length-i=0 by omega];rfl)
   go_wp2_with fail
   first | go_end0 | refine bodyPost_ret (results_none rfl _ _ _) rfl ?_
   exact PostB.ok (unh HN) rfl hB hF
end
section
open Go.RowKit
attribute [local go_sem] Oper.semAt_some
variable {w w':World}{P B:Nat}{D lo at_ root:Nat}{pl:List Nat}{slp slo:Value}{os:List Obj1}{xs:List Value}{S:Nat->Prop}
def fB:ByteArray:=⟨#[70]⟩
def zB:ByteArray:=⟨#[90]⟩
def packed (o:Obj1):Bool:=(tname o==textB)&&isNameB (vget o.v fB) zB
def unpS (U:ByteArray->Nat->Nat->Res ByteArray) (o:Obj1) (num b:Nat):Res Obj1:=if packed o then (match U o.stream num b with
 | .ok t b'=>.ok { o with stream:=t } b'
 | .no y=>.no y) else .ok o b
def unpL (U:ByteArray->Nat->Nat->Res ByteArray):List Obj1->Nat->Nat->Res (List Obj1)
 | [],_,b=>.ok [] b
 | o::l,k,b=>match unpS U o k b with
  | .no y=>.no y
  | .ok o' b'=>match unpL U l (k+1) b' with
   | .no y=>.no y
   | .ok l' b''=>.ok (o'::l') b''
theorem oCells_stream (cs:List Value) (hc:cs.length=6) (o:Obj1) (t:ByteArray):oCells cs { o with stream:=t }=(oCells cs o).set 9 (.string t):=by
 unfold oCells;rw[List.set_append_right _ _ (by omega),hc];rfl
theorem RepOs.stream (t:ByteArray):∀ (l:List Obj1) {xs:List Value},RepOs w S l xs->∀ (i:Nat) (o:Obj1),l[i]?=some o->RepOs w S (l.set i { o with stream:=t }) (xs.set (i*10+9) (.string t))
 | [],_,_,i,o,hi=>by simp at hi
 | o'::l,_,h,i,o,hi=>by
  obtain⟨cs,rest,e,hv,hl⟩:=h;have hc:=Rep.len _ hv;have ho:=oCells_len hv;cases i with
  | zero=>
   simp at hi;subst hi;refine⟨cs,rest,?_,hv,hl⟩;have hq:=oCells_stream cs hc o' t;rw[e,Nat.zero_mul,Nat.zero_add,List.set_append_left _ _ (by omega),hq]
  | succ i=>
   have:=RepOs.stream t l hl i o (by simpa using hi);refine⟨cs,_,?_,hv,this⟩;rw[e,List.set_append_right _ _ (by omega),ho,show (i+1)*10+9-10=i*10+9 by omega]
theorem ownsRow_set {e:TypeId}{sl:Value}{base n i:Nat}{xs:List Value}{v:Value}{g:Nat}(h:w.ownsRow base e 10 sl n xs) (hg:sl.ownBlock=some g):(w.setCell ⟨g,i,none⟩ v).ownsRow base e 10 sl n (xs.set i v):=by
 refine⟨by rw[List.length_set];exact h.1,?_⟩
 rcases h.2 with⟨rfl,_⟩|⟨g',cap,cur,rfl,h1,h2,h3,h4,h5,h6⟩
 ·simp[Value.ownBlock] at hg
 ·simp[Value.ownBlock] at hg;subst hg;refine .inr ⟨g',cap,cur.setIfInBounds i v,rfl,h1,?_,h3,h4,by simpa using h5,?_⟩
  ·exact heap_setCell_same w g' i _ _ v h2
  ·rw[Array.toList_setIfInBounds,List.take_set,h6]
theorem Doc.stream (h:Doc w D B lo at_ pl root slp slo os xs) (n:Nat) (o:Obj1) (ho:os[n]?=some o) (t:ByteArray) (g:Nat) (hg:slo.ownBlock=some g) :
  Doc (w.setCell ⟨g,n*10+9,none⟩ (.string t)) D B lo at_ pl root slp slo (os.set n { o with stream:=t }) (xs.set (n*10+9) (.string t)):=by
 have hne:=h.ne;have hgD:g≠D:=fun e=>hne.1 (by rw[hg,e])
 refine⟨(Below.heap_setCell _ _ _ _ (by exact Ne.symm hgD)).trans h.d,?_,?_,?_,h.lo,h.ne⟩
 ·exact ownsRow_blockI h.p (fun k hk=>Below.heap_setCell _ _ _ _ (by intro e;exact hne.2.2 g hg (by rw[hk];congr 1)))
 ·rw[List.length_set];exact ownsRow_set h.o hg
 ·refine RepOs.kept (fun b hb=>?_) _ (RepOs.stream t os h.r n o ho);obtain⟨b1,b2,b3,b4,b5⟩:=hb;exact⟨⟨b1,by simpa using b2,b3,b4,b5⟩,Below.heap_setCell _ _ _ _ (by intro e;exact b4 (by rw[hg];congr 1;exact e.symm))⟩
def UnpC (G:World->Prop) (B:Nat) (U:ByteArray->Nat->Nat->Res ByteArray):Prop:=∀ (w:World) (b num:Nat) (s:ByteArray),G w->Bud w B b->s.size<=9000->num<=100 ->
 Calls Tryz.prog 109 #[.string s,chg B,.agg #[.int .i64 9,.int .i64 (num:Int)]] w (PostB B w (fun t v _=>v=.string t) (U s num b))
theorem unpL_drop {U:ByteArray->Nat->Nat->Res ByteArray}{o:Obj1}{l:List Obj1}{k b:Nat}:unpL U (o::l) k b=match unpS U o k b with
  | .no y=>.no y
  | .ok o' b'=>match unpL U l (k+1) b' with
   | .no y=>.no y
   | .ok l' b''=>.ok (o'::l') b'':=rfl
def pre (l:List Obj1):Res (List Obj1)->Res (List Obj1)
 | .no y=>.no y
 | .ok l' b=>.ok (l++l') b
theorem pre_ok {U:ByteArray->Nat->Nat->Res ByteArray}{o o':Obj1}{d l:List Obj1}{k b b':Nat}(h:unpS U o k b=.ok o' b'):pre d (unpL U (o::l) k b)=pre (d++[o']) (unpL U l (k+1) b'):=by
 rw[unpL_drop,h];simp only[]
 rcases hq:unpL U l (k+1) b' with⟨l',b''⟩|y
 ·simp[pre]
 ·rfl
theorem pre_no {U:ByteArray->Nat->Nat->Res ByteArray}{o:Obj1}{d l:List Obj1}{k b:Nat}{y:Why}(h:unpS U o k b=.no y):pre d (unpL U (o::l) k b)=.no y:=by rw[unpL_drop,h];rfl
end
section
open Go.RowKit
attribute [local go_sem] Oper.semAt_some
variable {w w':World}{P B:Nat}{D lo at_ root:Nat}{pl:List Nat}{slp slo:Value}{os:List Obj1}{xs:List Value}{S:Nat->Prop}
def DQ2 (D B lo at_:Nat) (pl:List Nat) (root:Nat) (slp slo:Value):List Obj1->Value->World->Prop:=fun os' v w'=>v=.tuple #[]/\∃ xs',Doc w' D B lo at_ pl root slp slo os' xs'
structure Fo (B g:Nat) (w w':World):Prop where
 os:w'.os=w.os
 tape:w'.tape=w.tape
 output:w'.output=w.output
 size:w.heap.size<=w'.heap.size
 block:∀ k,k<w.heap.size->k≠B->k≠g->w'.heap[k]?=w.heap[k]?
theorem Fo.refl (B g:Nat) (w:World):Fo B g w w:=⟨rfl,rfl,rfl,Nat.le_refl _,fun _ _ _ _=>rfl⟩
theorem Fo.trans {g:Nat}{a b c:World}(h:Fo B g a b) (k:Fo B g b c):Fo B g a c:=
 ⟨k.os.trans h.os,k.tape.trans h.tape,k.output.trans h.output,Nat.le_trans h.size k.size,fun i hi h1 h2=>(k.block i (Nat.lt_of_lt_of_le hi h.size) h1 h2).trans (h.block i hi h1 h2)⟩
theorem Fo.of_fb {g:Nat}(h:Fb B w w'):Fo B g w w':=⟨h.os,h.tape,h.output,h.size,fun k hk h1 _=>h.block k hk h1⟩
theorem Fo.set {g:Nat}(h:Fo B g w w') (i:Nat) (v:Value):Fo B g w (w'.setCell ⟨g,i,none⟩ v):=
 ⟨h.os,h.tape,h.output,by simp[h.size],fun k hk h1 h2=>(Below.heap_setCell _ _ _ _ (by exact h2)).trans (h.block k hk h1 h2)⟩
def PostO (B g:Nat) (w:World) {α:Type}(rep:α->Value->World->Prop) (o:Res α) (e:Ending) (w':World):Prop:=match o with
 | .ok a b'=>∃ v,e=.returned v/\rep a v w'/\Bud w' B b'/\Fo B g w w'
 | .no y=>e=.panicked (thrownY y)/\Fo B g w w'
theorem PostO.ok {g:Nat}{α:Type}{rep:α->Value->World->Prop}{o:Res α}{a:α}{b:Nat}{v:Value}(ho:o=.ok a b) (hr:rep a v w') (hA:Bud w' B b) (hF:Fo B g w w'):PostO B g w rep o (.returned v) w':=by
 subst ho;exact⟨v,rfl,hr,hA,hF⟩
theorem PostO.no {g:Nat}{α:Type}{rep:α->Value->World->Prop}{o:Res α}{y:Why}(ho:o=.no y) (hF:Fo B g w w'):PostO B g w rep o (.panicked (thrownY y)) w':=by
 subst ho;exact⟨rfl,hF⟩
set_option maxHeartbeats 4000000 in
set_option maxRecDepth 100000 in
theorem unpackTexts_any {G:World->Prop}{U:ByteArray->Nat->Nat->Res ByteArray}{b g cp:Nat}(hG:∀ w w',G w->Fo B g w w'->G w') (UC:UnpC G B U) (hw:G w) (hd:Doc w D B lo at_ pl root slp (.slice (some ⟨g,0,none⟩) os.length cp) os xs) (hB:Bud w B b) (hlo:B+1<lo) (hos:os.length<=100) (hst:∀ o ∈ os,o.stream.size<=9000) :
  Calls Tryz.prog 69 #[.pointer (some ⟨D,0,none⟩)] w (PostO B g w (DQ2 D B lo at_ pl root slp (.slice (some ⟨g,0,none⟩) os.length cp)) (unpL U os 0 b)):=by
 have c3:=hd.c3
 go_enter Tryz.func69,Tryz.ntmps69
 go_wp2_with fail
 clear c3
 go_loopw [9] (fun v wr=>∃ i b' os' xs',v=.int .i64 ((i:Nat):Int)/\i<=os.length/\os'.length=os.length/\Doc wr D B lo at_ pl root slp (.slice (some ⟨g,0,none⟩) os.length cp) os' xs'/\os'.drop i=os.drop i/\Bud wr B b'/\Fo B g w wr/\Hid (unpL U os 0 b=pre (os'.take i) (unpL U (os.drop i) i b')))
  (fun v _=>os.length-(intOf v).toNat)
 case atStart=>exact⟨0,b,os,xs,rfl,Nat.zero_le _,rfl,hd,rfl,hB,Fo.refl _ _ _,by
  show unpL U os 0 b=pre [] (unpL U os 0 b)
  rcases unpL U os 0 b with⟨l',b''⟩|y <;> rfl⟩
 case round=>
  clear hB;obtain⟨i,b',os',xs',rfl,hi,hlen,hdr,hdrop,hB,hF,HE⟩:=hrel;have HL:=hid hlen;clear hlen
  by_cases hlt:i<os.length
  ·have hltI:(i:Int)<(os.length:Int):=by omega
   obtain⟨o,ho⟩:∃ o,os[i]?=some o:=⟨os[i],List.getElem?_eq_getElem hlt⟩
   have ho':os'[i]?=some o:=by
    have h1:(os'.drop i)[0]?=(os.drop i)[0]?:=by rw[hdrop]
    rw[List.getElem?_drop,List.getElem?_drop,Nat.add_zero] at h1;rw[h1];exact ho
   have hso:=hst o (List.mem_of_getElem? ho)
   have hcons:os.drop i=o::os.drop (i+1):=by
    rw[List.drop_eq_getElem_cons hlt];congr 1;exact Option.some.inj ((List.getElem?_eq_getElem hlt).symm.trans ho)
   obtain⟨g2,cp2,kk,xx,tt,rr,aa,nn,cc,mm,e,_,hg,hgl,hr,hR,hfz⟩:=hdr.obj i o ho';obtain⟨rfl,hrest⟩:g=g2/\_:=by simpa using e
   clear e hrest;have TN:=typeName_any o hR (fun b hb=>hb.2.1);have c3:=hdr.c3;have HC:=hid hcons;have HD2:=hid hdrop;clear hcons hdrop;have hse:=str_eq (tname o) textB;unfold textB at hse;have hl4:(⟨#[84,101,120,116]⟩:ByteArray).toList=[84,101,120,116]:=by rw[ba_toList]
   rw[hl4] at hse;clear hl4
   rcases htx:(tname o==(⟨#[84,101,120,116]⟩:ByteArray)) with _|_
   ·rw[htx] at hse;have hne4:¬ (tname o).toList=[84,101,120,116]:=beq_eq_false_iff_ne.1 hse;have hpk:packed o=false:=by unfold packed textB;rw[htx];rfl
    have HE2:Hid (unpL U os 0 b=pre (os'.take (i+1)) (unpL U (os.drop (i+1)) (i+1) b')):=(unh HE).trans (by
     rw[unh HC,pre_ok (o':=o) (by unfold unpS;rw[hpk];rfl),List.take_add_one,ho'];rfl)
    clear HE hpk htx
    go_wp2_with (first | (go_at_call 107;refine TN.mono ?_;rintro e w2 ⟨rfl,hB2⟩) | (refine load_mid rfl 122 _ rfl g (i*10) rfl _ hr Tryz.agO Tryz.sizeO ?_))
    have F2:Fb B wr w2:=Fb.of_below hB2
    go_roundw
    case rel=>exact⟨i+1,b',os',xs',by go_num,by omega,unh HL,hdr.kept F2 (by omega),by rw[← List.drop_drop,unh HD2,List.drop_drop],hB.of_blocks (fun k hk=>hB2.block k (by have:=hB.lt;omega)),hF.trans (Fo.of_fb F2),HE2⟩
    case measure=>simp[intOf];omega
   ·rw[htx] at hse;have heq4:(tname o).toList=[84,101,120,116]:=eq_of_beq hse;have hc5:wr.cell? ⟨g,i*10+5,none⟩=some (.map mm):=hr 5 _ rfl;have hc9:wr.cell? ⟨g,i*10+9,none⟩=some (.string o.stream):=hr 9 _ rfl;have hf9:=hfz 9 (by decide);clear hfz;obtain⟨pz,hpz⟩:∃ pz,isNameB (vget o.v fB) zB=pz:=⟨_,rfl⟩
    have TN2:Calls Tryz.prog 107 _ wr (fun e w'=>(e=.returned (.string (tname o))/\Below wr.heap.size wr w')/\∃ (k' x':Nat) (t':ByteArray) (r':Nat) (b:Option Addr) (n c:Nat) (m':Option Nat),(Instr.lookup 118 (.map mm) (.string ⟨#[70]⟩) false).run Tryz.prog w'=.ok (.agg #[.int .i64 (k':Int),.float .f64 x',.string t',.int .i64 (r':Int),.slice b n c,.map m']) w'/\(decide (k'=6)&&(t'==zB))=pz):=TN.mono (fun e w2 hh=>by
     refine⟨hh,?_⟩;have hR2:=Rep.kept (w':=w2) (S':=fun _=>True) (fun b hb=>⟨trivial,hh.2.block b hb.2.1⟩) o.v hR;obtain⟨k',x',t',r',b3,n3,c3,m3,h1,h2⟩:=hR2.look fB (by unfold maxLen;decide)
     exact⟨k',x',t',r',b3,n3,c3,m3,h1,by rw[← h2.name zB];exact hpz⟩)
    have HPZ:=hid hpz;have HTX:=hid htx;clear hpz htx hR TN;have hBl:=hB.lt;have hDl:=hdr.ltD;have hDlo:=hdr.lo;cases pz with
    | false=>
     have HE2:Hid (unpL U os 0 b=pre (os'.take (i+1)) (unpL U (os.drop (i+1)) (i+1) b')):=(unh HE).trans (by
      have hpk:packed o=false:=by unfold packed textB;rw[unh HTX,unh HPZ];rfl
      rw[unh HC,pre_ok (o':=o) (by unfold unpS;rw[hpk];rfl),List.take_add_one,ho'];rfl)
     clear HE
     go_wp2_with (first | (go_at_call 107;refine TN2.mono ?_;rintro e w2 ⟨⟨rfl,hB2⟩,k',x',t',r',b3,n3,c3',m3,hlk,hnm⟩;have d5:w2.cell? ⟨g,i*10+5,none⟩=some (.map mm):=(hB2.cell (by exact hg)).trans hc5;have IN:=(fun W=>isName_any W k' x' t' r' b3 n3 c3' m3 zB);rw[hnm] at IN;clear hnm;unfold zB at IN) | (go_at_call 108;refine (IN _).mono ?_;rintro e w3 ⟨rfl,hB3⟩) | (refine load_mid rfl 122 _ rfl g (i*10) rfl _ hr Tryz.agO Tryz.sizeO ?_))
     have hB23:Below wr.heap.size wr w3:=hB2.trans (hB3.mono hB2.size);have F2:Fb B wr w3:=Fb.of_below hB23
     go_roundw
     case rel=>exact⟨i+1,b',os',xs',by go_num,by omega,unh HL,hdr.kept F2 (by omega),by rw[← List.drop_drop,unh HD2,List.drop_drop],hB.of_blocks (fun k hk=>hB23.block k (by omega)),hF.trans (Fo.of_fb F2),HE2⟩
     case measure=>simp[intOf];omega
    | true=>
     have hpk:packed o=true:=by unfold packed textB;rw[unh HTX,unh HPZ];rfl
     have c4:=hdr.c4;unfold chg at c4;have hgD:g≠B:=by omega
     have hgne:g≠D:=fun e=>hdr.ne.1 (by rw[e];rfl)
     rcases qu:U o.stream i b' with⟨t,b''⟩|y
     ·have HE2:Hid (unpL U os 0 b=pre (os'.take i++[{ o with stream:=t }]) (unpL U (os.drop (i+1)) (i+1) b'')):=(unh HE).trans (by
       rw[unh HC,pre_ok (o':={ o with stream:=t }) (by unfold unpS;rw[if_pos hpk,qu])])
      clear HE hpk
      go_wp2_with (first | (go_at_call 107;refine TN2.mono ?_;rintro e w2 ⟨⟨rfl,hB2⟩,k',x',t',r',b3,n3,c3',m3,hlk,hnm⟩;have d5:w2.cell? ⟨g,i*10+5,none⟩=some (.map mm):=(hB2.cell (by exact hg)).trans hc5;have IN:=(fun W=>isName_any W k' x' t' r' b3 n3 c3' m3 zB);rw[hnm] at IN;clear hnm;unfold zB at IN) | (go_at_call 108;refine (IN _).mono ?_;rintro e w3 ⟨rfl,hB3⟩) | (refine load_mid rfl 122 _ rfl g (i*10) rfl _ hr Tryz.agO Tryz.sizeO ?_))
      have hB23:Below wr.heap.size wr w3:=hB2.trans (hB3.mono hB2.size);have F2:Fb B wr w3:=Fb.of_below hB23;have d9:w3.cell? ⟨g,i*10+9,none⟩=some (.string o.stream):=(hB23.cell (by exact hg)).trans hc9;have d4:=(hB23.cell (p:=⟨D,4,none⟩) (by exact hDl)).trans c4;have hBu3:Bud w3 B b':=hB.of_blocks (fun k hk=>hB23.block k (by omega));have hF3:=hF.trans (Fo.of_fb (g:=g) F2);have hG3:G w3.drew:=hG _ _ hw (hF3.trans (Fo.of_fb (Fb.refl B w3).drew));have UA:=UC w3.drew b' i o.stream hG3 hBu3.drew hso (by omega);have hdr3:=hdr.kept F2 (by omega);unfold chg at UA;clear IN hlk d5 TN2 hr
      go_region_with (go_at_call 109;refine (PostB.okC UA qu).mono ?_;rintro e w4 ⟨v4,rfl,rfl,hB4,F4⟩;have hz3:=hB23.size;have e9:w4.cell? ⟨g,i*10+9,none⟩=some (.string o.stream):=(World.cell?_of_block (w:=w3) (F4.block g (by show g<w3.heap.size;omega) hgD)).trans d9;have f9:w4.frozen? ⟨g,i*10+9,none⟩=false:=(World.frozen?_of_block (w:=w3) (F4.block g (by show g<w3.heap.size;omega) hgD)).trans ((hB23.frozen (p:=⟨g,i*10+9,none⟩) (by exact hg)).trans hf9))
      all_goals
       have F34:Fb B w3 w4:=(Fb.refl B w3).drew.trans F4;have hdr4:=(hdr3.kept F34 (by omega)).stream i o ho' t g rfl
       go_wp2_with fail
       go_roundw
       case rel=>
        refine⟨i+1,b'',os'.set i { o with stream:=t },_,by go_num,by omega,by rw[List.length_set];exact unh HL,hdr4,?_,hB4.of_blocks (fun k hk=>Below.heap_setCell _ _ _ _ (by show k≠g;omega)),(hF3.trans (Fo.of_fb F34)).set _ _,?_⟩
        ·rw[List.drop_set_of_lt (by omega),← List.drop_drop,unh HD2,List.drop_drop]
        ·have hl:=unh HL
         have e:(os'.set i { o with stream:=t }).take (i+1)=os'.take i++[{ o with stream:=t }]:=by
          rw[List.take_add_one,List.take_set_of_le (Nat.le_refl _),List.getElem?_set_self (by omega)];rfl
         rw[e];exact HE2
       case measure=>simp[intOf];omega
     ·have HN:Hid (unpL U os 0 b=.no y):=(unh HE).trans (by rw[unh HC,pre_no (by unfold unpS;rw[if_pos hpk,qu])]);clear HE hpk
      go_wp2_with (first | (go_at_call 107;refine TN2.mono ?_;rintro e w2 ⟨⟨rfl,hB2⟩,k',x',t',r',b3,n3,c3',m3,hlk,hnm⟩;have d5:w2.cell? ⟨g,i*10+5,none⟩=some (.map mm):=(hB2.cell (by exact hg)).trans hc5;have IN:=(fun W=>isName_any W k' x' t' r' b3 n3 c3' m3 zB);rw[hnm] at IN;clear hnm;unfold zB at IN) | (go_at_call 108;refine (IN _).mono ?_;rintro e w3 ⟨rfl,hB3⟩) | (refine load_mid rfl 122 _ rfl g (i*10) rfl _ hr Tryz.agO Tryz.sizeO ?_))
      have hB23:Below wr.heap.size wr w3:=hB2.trans (hB3.mono hB2.size);have F2:Fb B wr w3:=Fb.of_below hB23;have d9:w3.cell? ⟨g,i*10+9,none⟩=some (.string o.stream):=(hB23.cell (by exact hg)).trans hc9;have d4:=(hB23.cell (p:=⟨D,4,none⟩) (by exact hDl)).trans c4;have hBu3:Bud w3 B b':=hB.of_blocks (fun k hk=>hB23.block k (by omega));have hF3:=hF.trans (Fo.of_fb (g:=g) F2);have hG3:G w3.drew:=hG _ _ hw (hF3.trans (Fo.of_fb (Fb.refl B w3).drew));have UA:=UC w3.drew b' i o.stream hG3 hBu3.drew hso (by omega);unfold chg at UA;clear IN hlk d5 TN2 hr
      go_region_dies
      all_goals
       refine (PostB.noC UA qu).mono ?_;rintro e w4 ⟨rfl,F4⟩;exact⟨rfl,PostO.no (unh HN) (hF3.trans (Fo.of_fb ((Fb.refl B w3).drew.trans F4)))⟩
  ·have hltI:¬ (i:Int)<(os.length:Int):=by omega
   have HN:Hid (unpL U os 0 b=.ok os' b'):=(unh HE).trans (by
    rw[List.drop_eq_nil_of_le (by omega),List.take_of_length_le (by rw[unh HL];omega)]
    simp[unpL,pre])
   go_wp2_with fail
   first | go_end0 | refine bodyPost_ret (results_none rfl _ _ _) rfl ?_
   exact PostO.ok (unh HN) ⟨rfl,xs',hdr⟩ hB hF
end
section
open Go.RowKit
variable {w w':World}{P B:Nat}{E:Env}{s s':St}{D lo at_ root:Nat}{pl:List Nat}{slp slo:Value}{os:List Obj1}{xs:List Value}
theorem stream_inv {t:ByteArray}(h:streamM E s=.ok t s'):t.size<=E.f.size:=by
 unfold streamM at h;obtain⟨_,s1,_,k1⟩:=then_inv h;obtain⟨_,s2,_,k2⟩:=then_inv k1;obtain⟨n,s3,_,k3⟩:=then_inv k2;obtain⟨_,s4,_,k4⟩:=then_inv k3;unfold bytesM at k4;split at k4
 ·cases k4
 ·cases k4;rw[ByteArray.size_extract];omega
theorem object_inv {num:Nat}{o:Obj1}(h:objectM E num s=.ok o s'):o.stream.size<=E.f.size:=by
 unfold objectM at h;obtain⟨_,s1,_,k1⟩:=then_inv h;obtain⟨_,s2,_,k2⟩:=then_inv k1;obtain⟨_,s3,_,k3⟩:=then_inv k2;obtain⟨_,s4,_,k4⟩:=then_inv k3;obtain⟨v,s5,_,k5⟩:=then_inv k4;obtain⟨y,s6,_,k6⟩:=then_inv k5;obtain⟨hs,s7,hh,k7⟩:=then_inv k6;obtain⟨_,s8,_,k8⟩:=then_inv k7;obtain⟨_,s9,_,k9⟩:=then_inv k8;obtain⟨_,s10,_,k10⟩:=then_inv k9;obtain⟨e,_⟩:=ret_inv k10;rw[e];split at hh
 ·obtain⟨_,t1,_,j1⟩:=then_inv hh;obtain⟨t,t2,hst,j2⟩:=then_inv j1;obtain⟨e2,_⟩:=ret_inv j2;rw[e2];exact stream_inv hst
 ·obtain⟨e2,_⟩:=ret_inv hh;rw[e2];exact Nat.zero_le _
theorem objR_inv {f:ByteArray}{at_ place num b b':Nat}{o:Obj1}(h:objR f at_ place num b=.ok o b'):o.stream.size<=f.size:=by
 unfold objR at h;split at h
 ·cases h;exact Nat.zero_le _
 ·split at h
  ·cases h
  ·rcases hq:objectM (objEnv f at_) num ⟨b,place,0,0,0⟩ with⟨o',s1⟩|y
   ·rw[hq] at h;simp only[objFin] at h;split at h
    ·cases h
    ·split at h
     ·cases h
     ·cases h;exact object_inv hq
   ·rw[hq] at h;cases h
def headB:ByteArray:=⟨#[68,79,67,49,10]⟩
def docR (U:ByteArray->Nat->Nat->Res ByteArray) (f:ByteArray) (b:Nat):Res (Nat×List Nat×Nat×List Obj1):=
 if 9000<f.size then .no (2,0) else if Lib.hasPrefix f.data.toList headB.data.toList=false then .no (3,0) else
 match tabR f b with
 | .no y=>.no y
 | .ok x b1=>match objsR f x.1 x.2.1 1 b1 with
  | .no y=>.no y
  | .ok l b2=>match overR ({}::l) b2 with
   | .no y=>.no y
   | .ok _ b3=>match unpL U ({}::l) 0 b3 with
    | .no y=>.no y
    | .ok os b4=>if tnameAt os x.2.2==rootB then .ok (x.1,x.2.1,x.2.2,os) b4 else .no (10,0)
theorem pre_objs {f:ByteArray}{at_ p num b b':Nat}{d:List Obj1}{ps:List Nat}{o:Obj1}(h:objR f at_ p num b=.ok o b'):pre d (objsR f at_ (p::ps) num b)=pre (d++[o]) (objsR f at_ ps (num+1) b'):=by
 rw[objsR_cons_ok h]
 rcases hq:objsR f at_ ps (num+1) b' with⟨l',b''⟩|y
 ·simp[pre]
 ·rfl
theorem Tryz.infoO:(Tryz.prog.info? 122).map (fun i=>(i.zero,i.size,i.bytes))=some (some (.agg #[.int .i64 0,.float .f64 0,.string ⟨#[]⟩,.int .i64 0,.slice none 0 0,.map none,.int .i64 0,.int .i64 0,.bool false,.string ⟨#[]⟩]),10,112):=by kernel_rfl
theorem Tryz.undO:Tryz.prog.underlying 99=some (.slice 122):=by kernel_rfl
theorem cell_new (w:World) (l:List Value) (t:TypeId):∀ j u,l[j]?=some u->(w.alloc (.cells l.toArray t)).cell? ((⟨w.heap.size,0,none⟩:Addr).add j)=some u:=by
 intro j u hj;rw[Addr.add_mid,Nat.zero_add];simp only[World.cell?];rw[heap_alloc_new];simpa using hj
end
end Go.Proofs.YtgffljllfenhkaaGreatDoor
