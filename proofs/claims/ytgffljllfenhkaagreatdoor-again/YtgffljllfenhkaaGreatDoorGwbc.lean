import Derived.Deep.MidRow
import Derived.Test.YtgffljllfenhkaaGreatDoorGwbb
namespace Go.Proofs.YtgffljllfenhkaaGreatDoor
section
open Go.RowKit Go.Shelf
attribute [local go_sem] Oper.semAt_some
structure CodeP (arr:Array Value) (l:List Nat) (sg:Value):Prop where
 size:arr.size=17
 c:∀ n:Nat,n<=15->arr[n]?=some (.int .i64 ((if n=0 then 0 else cnt n l:Nat):Int))
 s:arr[16]?=some sg
 le:l.length<=400
def Sp (w:World) (R A B:Nat) (sg:Value) (l:List Nat):Prop:=
 ∃ g cap,sg=.slice (some ⟨g,0,none⟩) (used l) cap/\g<w.heap.size/\g≠R/\g≠A/\g≠B /\
  ∀ n a,1<=n->n<=15->a<cnt n l->w.cell? ⟨g,start l n+a,none⟩=some (.int .i64 (((idxs n l).getD a 0:Nat):Int))
theorem Sp.kept {w w':World}{R A B:Nat}{sg:Value}{l:List Nat}(h:Sp w R A B sg l) (hf:Fxr R A B w w'):Sp w' R A B sg l:=by
 obtain⟨g,cap,h1,h2,h3,h4,h4',h5⟩:=h;refine⟨g,cap,h1,Nat.lt_of_lt_of_le h2 hf.size,h3,h4,h4',fun n a hn hn' ha=>?_⟩;rw[World.cell?_of_block (w:=w) (hf.block g h2 h3 h4 h4')];exact h5 n a hn hn' ha
theorem decX_succ (V:Ux) (l:List Nat) (r above:Nat):decX V l (r+1) above=(bitX V).then fun x=>if 2*above+x<cnt (15-r) l then Rdr.ret ((idxs (15-r) l).getD (2*above+x) 0) else decX V l r (2*above+x-cnt (15-r) l):=rfl
theorem bitX_ok {V:Ux}{t:St}(hb:1<=t.b) (hk:t.k<8*V.s.size):bitX V t=.ok (bitOf V.s t.k) (t.bits 1):=by
 unfold bitX;rw[if_neg (by omega),if_neg (by omega)]
theorem decX_hit {V:Ux}{t:St}{l:List Nat}{k above x:Nat}(hk:k<15) (hb:k<t.b) (h8:t.k+k<8*V.s.size) (hx:x=bitOf V.s (t.k+k)) (ha:2*above+x<cnt (k+1) l) :
  decX V l (15-k) above (t.bits k)=.ok ((idxs (k+1) l).getD (2*above+x) 0) (t.bits (k+1)):=by
 obtain⟨r,hr⟩:∃ r,15-k=r+1:=⟨14-k,by omega⟩;have e1:15-r=k+1:=by omega
 rw[hr,decX_succ,Rdr.then_ok (bitX_ok (by rw[St.bits_b];omega) (by rw[St.bits_k];exact h8)),St.bits_k,St.bits_bits,← hx,e1,if_pos ha];rfl
theorem decX_miss {V:Ux}{t:St}{l:List Nat}{k above x:Nat}(hk:k<15) (hb:k<t.b) (h8:t.k+k<8*V.s.size) (hx:x=bitOf V.s (t.k+k)) (ha:¬ 2*above+x<cnt (k+1) l) :
  decX V l (15-k) above (t.bits k)=decX V l (15-(k+1)) (2*above+x-cnt (k+1) l) (t.bits (k+1)):=by
 obtain⟨r,hr⟩:∃ r,15-k=r+1:=⟨14-k,by omega⟩;have e1:15-r=k+1:=by omega
 have e2:15-(k+1)=r:=by omega
 rw[hr,decX_succ,Rdr.then_ok (bitX_ok (by rw[St.bits_b];omega) (by rw[St.bits_k];exact h8)),St.bits_k,St.bits_bits,← hx,e1,e2,if_neg ha]
theorem decX_stop {V:Ux}{t:St}{l:List Nat}{k above:Nat}{y:Why}(hk:k<15) (h:stopAt V t k y):decX V l (15-k) above (t.bits k)=.no y:=by
 obtain⟨r,hr⟩:∃ r,15-k=r+1:=⟨14-k,by omega⟩;rw[hr,decX_succ];refine Rdr.then_no ?_;unfold bitX;rw[St.bits_b,St.bits_k]
 rcases h with⟨h1,h2,rfl⟩|⟨h1,h2,rfl⟩
 ·rw[if_pos (by omega)]
 ·rw[if_neg (by omega),if_pos (by omega)]
set_option maxRecDepth 100000 in
set_option maxHeartbeats 2000000 in
theorem psign_in (w:World) (R A:Nat) (V:Ux) (t:St) (arr:Array Value) (l:List Nat) (sg:Value) (hR:Rx w R A V t) (hc:CodeP arr l sg) (hsg:Sp w R A V.B sg l) :
  CallsIn Fence.wide 9 Tryz.prog 176 #[.pointer (some ⟨R,0,none⟩),.agg arr] w (PostX R A V w (fun (x:Nat) v _=>v=.int .i64 (x:Int)) (signX V l t)):=by
 have hlR:=hR.ltR;have hlA:=hR.ltA;have hlB:=hR.lt;refine callsIn_of_wp_marks Tryz.func176 rfl trivial ?_ rfl;simp only[Tryz.ntmps176,List.size_toArray,List.length_cons,List.length_nil,Nat.reduceAdd,Nat.reduceSub,Array.replicate_succ,Array.replicate_zero,List.push_toArray,List.append_toArray,List.nil_append,List.cons_append]
 gi_wp2_with fail
 obtain⟨W0,hW0⟩:∃ W0,(((w.alloc (.cells arr 204)).alloc (.cells #[.int .i64 0] 3)).alloc (.cells #[.int .i64 0] 3)).alloc (.cells #[.int .i64 0] 3)=W0:=⟨_,rfl⟩;rw[hW0];have hF0:Fxr R A V.B w W0:=by rw[← hW0];exact (((Fxr.alloc R A V.B w _).trans (Fxr.alloc R A V.B _ _)).trans (Fxr.alloc R A V.B _ _)).trans (Fxr.alloc R A V.B _ _)
 have hR0:Rx W0 R A V t:=by rw[← hW0];exact (((hR.alloc _).alloc _).alloc _).alloc _
 have hs0:W0.heap.size=w.heap.size+4:=by rw[← hW0];simp
 have hC0:W0.heap[w.heap.size]?=some (.cells arr 204 (0,0)):=by
  rw[← hW0,Below.heap_alloc _ _ _ (by simp only[World.size_alloc];omega),Below.heap_alloc _ _ _ (by simp only[World.size_alloc];omega),Below.heap_alloc _ _ _ (by simp)];exact World.alloc_heap_new _ _
 have hX0:W0.heap[w.heap.size+1]?=some (.cells #[.int .i64 0] 3 (0,0)):=by
  rw[← hW0,Below.heap_alloc _ _ _ (by simp only[World.size_alloc];omega),Below.heap_alloc _ _ _ (by simp)];have:=World.alloc_heap_new (w.alloc (.cells arr 204)) (.cells #[.int .i64 0] 3);rwa [World.size_alloc] at this
 have hA0:W0.heap[w.heap.size+2]?=some (.cells #[.int .i64 0] 3 (0,0)):=by
  rw[← hW0,Below.heap_alloc _ _ _ (by simp)];have:=World.alloc_heap_new ((w.alloc (.cells arr 204)).alloc (.cells #[.int .i64 0] 3)) (.cells #[.int .i64 0] 3);rwa [World.size_alloc,World.size_alloc] at this
 have hH0:W0.heap[w.heap.size+3]?=some (.cells #[.int .i64 0] 3 (0,0)):=by
  rw[← hW0];have:=World.alloc_heap_new (((w.alloc (.cells arr 204)).alloc (.cells #[.int .i64 0] 3)).alloc (.cells #[.int .i64 0] 3)) (.cells #[.int .i64 0] 3);rwa [World.size_alloc,World.size_alloc,World.size_alloc] at this
 clear hW0;refine⟨trivial,(callsIn_wide.2 (rnext_any W0 R 15)).mono ?_⟩;rintro e w1 ⟨rfl,hw1⟩;have hF1:Fxr R A V.B w w1:=by rw[← hw1];exact hF0.trans ((Fxr.alloc R A V.B _ _).trans (Fxr.alloc R A V.B _ _))
 have hR1:Rx w1 R A V t:=by rw[← hw1];exact (hR0.alloc _).alloc _
 have hsz:w1.heap.size=w.heap.size+6:=by rw[← hw1];simp[hs0]
 have hold:∀ k,k<w.heap.size+4->w1.heap[k]?=W0.heap[k]?:=fun k hk=>by rw[← hw1,Below.heap_alloc _ _ _ (by simp;omega),Below.heap_alloc _ _ _ (by omega)]
 have hRB1:w1.heap[W0.heap.size]?=some (.cells #[.pointer (some ⟨R,0,none⟩)] 179 (0,0)):=by
  rw[← hw1];exact heap_alloc2_old W0 _ _
 have hNB1:w1.heap[W0.heap.size+1]?=some (.cells #[.int .i64 ((15:Nat):Int)] 3 (0,0)):=by
  rw[← hw1];exact heap_alloc2_new W0 _ _
 have HSZ:Hid (w1.heap.size=w.heap.size+6):=hsz;have HS0:Hid (W0.heap.size=w.heap.size+4):=hs0;have hC1:=(hold _ (by omega)).trans hC0;have hX1:=(hold _ (by omega)).trans hX0;have hA1:=(hold _ (by omega)).trans hA0;have hH1:=(hold _ (by omega)).trans hH0;clear hw1 hsz hs0 hold hC0 hX0 hA0 hH0 hF0 hR0
 gi_wp2_with fail
 have hsz:w1.heap.size=w.heap.size+6:=HSZ;have hs0:W0.heap.size=w.heap.size+4:=HS0
 refine range_next (by omega) (W0.heap.size+1) W0.heap.size R A V t 15 (by omega) rfl rfl hR1 hNB1 hRB1 (by omega)
  (fun k W=>W.heap[w.heap.size]?=some (.cells arr 204 (0,0))/\(∃ z,W.heap[w.heap.size+1]?=some (.cells #[.int .i64 z] 3 (0,0)))/\W.heap[w.heap.size+3]?=some (.cells #[.int .i64 (start l (k+1):Int)] 3 (0,0))/\Fxr R A V.B w W /\
   ∃ above:Nat,W.heap[w.heap.size+2]?=some (.cells #[.int .i64 (above:Int)] 3 (0,0))/\above<=2^k-1/\decX V l (15-k) above (t.bits k)=signX V l t)
  (fun c k W=>c=.ret/\Fxr R A V.B w W/\∃ x:Nat,W.heap[w.heap.size+1]?=some (.cells #[.int .i64 (x:Int)] 3 (0,0))/\signX V l t=.ok x (t.bits k))
  ?cI ?cIx ⟨hC1,⟨0,hX1⟩,hH1,hF1,0,hA1,by simp,rfl⟩
  (fun k b=>{ tmps:=#[.pointer (some ⟨R,0,none⟩),.agg arr,undef,.pointer (some ⟨w.heap.size,0,none⟩),.pointer (some ⟨w.heap.size+1,0,none⟩),.pointer (some ⟨w.heap.size+1+1,0,none⟩),.pointer (some ⟨w.heap.size+1+1+1,0,none⟩),.int .i64 (k:Int),.int .i64 (b:Int),undef,.pointer (some ⟨R,0,none⟩),.func (.func 173) #[] #[.pointer (some ⟨W0.heap.size+1,0,none⟩),.pointer (some ⟨W0.heap.size,0,none⟩)],.int .i64 (k:Int),.int .i64 (b:Int),undef,undef,undef,undef,undef,undef,undef,undef,undef,undef,undef,undef,undef,undef,undef,undef,undef,undef,undef,undef,undef,undef,undef,undef,undef,undef,undef,undef,undef,undef],defers:=[] })
  ?assign ?body ?done ?stop ?panic
 case cI=>
  rintro k W W' ⟨h1,⟨z,h2⟩,h3,h4,above,h5,h6,h7⟩ hl;refine⟨by rw[hl.block _ (by omega) (by omega) (by omega) (by omega)];exact h1,⟨z,by rw[hl.block _ (by omega) (by omega) (by omega) (by omega)];exact h2⟩,by rw[hl.block _ (by omega) (by omega) (by omega) (by omega)];exact h3,?_,above,by rw[hl.block _ (by omega) (by omega) (by omega) (by omega)];exact h5,h6,h7⟩;exact⟨hl.os.trans h4.os,hl.tape.trans h4.tape,hl.output.trans h4.output,Nat.le_trans h4.size hl.size,fun b hb h3 h4' h5'=>(hl.block b (by omega) h3 h4' h5').trans (h4.block b hb h3 h4' h5')⟩
 case cIx=>
  rintro c k W W' ⟨h1,h4,x,h2,h3⟩ hl;refine⟨h1,?_,x,by rw[hl.block _ (by omega) (by omega) (by omega) (by omega)];exact h2,h3⟩;exact⟨hl.os.trans h4.os,hl.tape.trans h4.tape,hl.output.trans h4.output,Nat.le_trans h4.size hl.size,fun b hb h3 h4' h5'=>(hl.block b (by omega) h3 h4' h5').trans (h4.block b hb h3 h4' h5')⟩
 case assign=>
  clear hs0 hsz;intro l' k b W K hK
  gi_wp2
  exact hK
 case body=>
  rintro l' k W ⟨hC,⟨z,hX⟩,hH,hF,above,hA,hab,hE⟩ hRk hk hkb;have hca:W.cell? ⟨w.heap.size+1+1,0,none⟩=some (.int .i64 (above:Int)):=by simp[World.cell?,hA]
  have hfa:W.frozen? ⟨w.heap.size+1+1,0,none⟩=false:=by simp[World.frozen?,hA]
  have hch:W.cell? ⟨w.heap.size+1+1+1,0,none⟩=some (.int .i64 (start l (k+1):Int)):=by simp[World.cell?,hH]
  have hfh:W.frozen? ⟨w.heap.size+1+1+1,0,none⟩=false:=by simp[World.frozen?,hH]
  have hcx:W.cell? ⟨w.heap.size+1,0,none⟩=some (.int .i64 z):=by simp[World.cell?,hX]
  have hfx:W.frozen? ⟨w.heap.size+1,0,none⟩=false:=by simp[World.frozen?,hX]
  have hcc:W.cell? ⟨w.heap.size,k+1,none⟩=some (.int .i64 (cnt (k+1) l:Int)):=by
   simp only[World.cell?,hC];simpa using hc.c (k+1) (by omega)
  obtain⟨g,cap,hsl,hg,hgR,hgA,hgB,hgc⟩:=hsg.kept hF
  have hcs:W.cell? ⟨w.heap.size,16,none⟩=some (.slice (some ⟨g,0,none⟩) (used l) cap):=by
   simp only[World.cell?,hC];rw[← hsl];simpa using hc.s
  have hb:=bitOf_lt V.s (t.k+k);have hcl:=cnt_le (k+1) l;have hll:=hc.le;have hpw:2^k<=2^15:=Nat.pow_le_pow_right (by decide) (by omega);have hab':above<=32768:=by omega
  have hpw1:2^(k+1)=2^k+2^k:=by rw[Nat.pow_succ];omega
  have hone:1<=2^k:=Nat.one_le_two_pow;have hsl4:start l (k+1)<=6400:=Nat.le_trans (start_le l (k+1)) (Nat.mul_le_mul (show k+1<=16 by omega) hc.le);have hov:t.k+k<8*V.s.size:=by have:=hRk.hp;rw[St.bits_k] at this;omega
  by_cases ha:2*above+bitOf V.s (t.k+k)<cnt (k+1) l
  ·have DEC:Hid (signX V l t=.ok ((idxs (k+1) l).getD (2*above+bitOf V.s (t.k+k)) 0) (t.bits (k+1))):=by
    refine hE.symm.trans ?_;exact decX_hit hk hkb hov rfl ha
   have hcv:=hgc (k+1) (2*above+bitOf V.s (t.k+k)) (by omega) (by omega) ha;have hin:=start_used l (show 1<=k+1 by omega) (by omega) ha;obtain⟨b,hbb⟩:∃ b,bitOf V.s (t.k+k)=b:=⟨_,rfl⟩;rw[hbb] at ha DEC hb hcv hin ⊢;have hgn:g≠w.heap.size/\g≠w.heap.size+1/\g≠w.heap.size+1+1/\g≠w.heap.size+1+1+1:=by obtain⟨g',cap',e',hg',_⟩:=hsg;rw[hsl] at e';simp at e';omega
   obtain⟨hg1,hg2,hg3,hg4⟩:=hgn;clear hE hov hbb hgc hpw hsg hsz hs0 hsl;have hd:2*(above:Int)+(b:Int)<(cnt (k+1) l:Int):=by omega
   obtain⟨j,hj⟩:∃ j,start l (k+1)+(2*above+b)=j:=⟨_,rfl⟩;rw[hj] at hcv hin;have hix:(start l (k+1):Int)+(2*(above:Int)+(b:Int))=(j:Int):=by omega
   have hin':(j:Int)<(used l:Int):=by omega
   obtain⟨xv,hxv⟩:∃ xv,(idxs (k+1) l).getD (2*above+b) 0=xv:=⟨_,rfl⟩;rw[hxv] at hcv DEC;clear hj hxv hab hone hpw1
   gi_wp2
   refine⟨fun b' hb'=>?_,rfl,?_,xv,?_,DEC⟩
   ·have:=unhide' HSZ;have:=unhide' HS0;rw[Below.heap_setCell _ _ _ _ (by show b'≠w.heap.size+1;omega),Below.heap_setCell _ _ _ _ (by show b'≠w.heap.size+1+1;omega)]
   ·exact (hF.set _ _ _ (by omega)).set _ _ _ (by omega)
   ·have h1:(W.setCell ⟨w.heap.size+1+1,0,none⟩ (.int .i64 (2*(above:Int)+(b:Int)))).heap[w.heap.size+1]?=_:=(Below.heap_setCell _ _ _ _ (by show w.heap.size+1≠w.heap.size+1+1;omega)).trans hX;have:=heap_setCell_same _ (w.heap.size+1) 0 _ _ (.int .i64 (xv:Int)) h1;simpa using this
  ·have DEC:Hid (decX V l (15-(k+1)) (2*above+bitOf V.s (t.k+k)-cnt (k+1) l) (t.bits (k+1))=signX V l t):=by
    refine Eq.trans ?_ hE;exact (decX_miss hk hkb hov rfl ha).symm
   obtain⟨b,hbb⟩:∃ b,bitOf V.s (t.k+k)=b:=⟨_,rfl⟩;rw[hbb] at ha DEC hb ⊢;clear hE hov hbb hgc hcs hpw hsg hsz hs0;have hd:¬ 2*(above:Int)+(b:Int)<(cnt (k+1) l:Int):=by omega
   gi_wp2
   refine⟨fun b' hb'=>?_,?_,⟨z,?_⟩,?_,?_,2*above+b-cnt (k+1) l,?_,by omega,DEC⟩
   ·have:=unhide' HSZ;have:=unhide' HS0;rw[Below.heap_setCell _ _ _ _ (by show b'≠w.heap.size+1+1+1;omega),Below.heap_setCell _ _ _ _ (by show b'≠w.heap.size+1+1;omega),Below.heap_setCell _ _ _ _ (by show b'≠w.heap.size+1+1;omega)]
   ·rw[Below.heap_setCell _ _ _ _ (by show w.heap.size≠w.heap.size+1+1+1;omega),Below.heap_setCell _ _ _ _ (by show w.heap.size≠w.heap.size+1+1;omega),Below.heap_setCell _ _ _ _ (by show w.heap.size≠w.heap.size+1+1;omega)];exact hC
   ·rw[Below.heap_setCell _ _ _ _ (by show w.heap.size+1≠w.heap.size+1+1+1;omega),Below.heap_setCell _ _ _ _ (by show w.heap.size+1≠w.heap.size+1+1;omega),Below.heap_setCell _ _ _ _ (by show w.heap.size+1≠w.heap.size+1+1;omega)];exact hX
   ·have h1:((W.setCell ⟨w.heap.size+1+1,0,none⟩ (.int .i64 (2*(above:Int)+(b:Int)))).setCell ⟨w.heap.size+1+1,0,none⟩ (.int .i64 (2*(above:Int)+(b:Int)-(cnt (k+1) l:Int)))).heap[w.heap.size+3]?=_:=
     ((Below.heap_setCell _ _ _ _ (by show w.heap.size+3≠w.heap.size+1+1;omega)).trans (Below.heap_setCell _ _ _ _ (by show w.heap.size+3≠w.heap.size+1+1;omega))).trans hH
    have:=heap_setCell_same _ (w.heap.size+3) 0 _ _ (.int .i64 ((start l (k+1):Int)+(cnt (k+1) l:Int))) h1;have e:((start l (k+1+1):Nat):Int)=(start l (k+1):Int)+(cnt (k+1) l:Int):=by rw[start_succ l (show 1<=k+1 by omega)];omega
    rw[e];simpa using this
   ·exact ((hF.set _ _ _ (by omega)).set _ _ _ (by omega)).set _ _ _ (by omega)
   ·have h1:=heap_setCell_same W (w.heap.size+2) 0 _ _ (.int .i64 (2*(above:Int)+(b:Int))) hA;have h2:=heap_setCell_same _ (w.heap.size+2) 0 _ _ (.int .i64 (2*(above:Int)+(b:Int)-(cnt (k+1) l:Int))) h1;have e:((2*above+b-cnt (k+1) l:Nat):Int)=2*(above:Int)+(b:Int)-(cnt (k+1) l:Int):=by omega
    rw[e,Below.heap_setCell _ _ _ _ (by show w.heap.size+2≠w.heap.size+1+1+1;omega)];simpa using h2
 case done=>
  rintro W hnb ⟨hC,⟨z,hX⟩,hH,hF,above,hA,_,hE⟩ hRn hD;have hE':Hid (signX V l t=.no (9,V.n9)):=hE.symm;have c4:=hRn.c4;have c5:=hRn.c5;clear hE
  gi_wp2
  refine⟨by simp,.inl ⟨_,_,rfl,run_takeDeferred hD,?_⟩⟩;unfold LeavesInM LeavesIn;exact PostX.no (y:=(9,V.n9)) (unh hE') (hF.put _ _ (by omega))
 case stop=>
  rintro c k W ⟨rfl,hF,x,hX,hdec⟩ hk hkb hRk hD;have HD:Hid (signX V l t=.ok x (t.bits (k+1))):=hdec;clear hdec
  gi_wp2
  refine⟨by simp,.inl ⟨_,_,rfl,run_takeDeferred hD,?_⟩⟩
  have hcx:(W.putObj w1.heap.size (.deferred none)).cell? ⟨w.heap.size+1,0,none⟩=some (.int .i64 (x:Int)):=by
   simp only[World.cell?];rw[World.putObj_heap_other (by omega),hX];rfl
  refine⟨.int .i64 (x:Int),by simp[results,Tryz.results176,go_sem,hcx],?_⟩;exact PostX.ok (unh HD) rfl (hRk.put _ _ (by omega)) (hF.put _ _ (by omega))
 case panic=>
  rintro k y W ⟨hC,⟨z,hX⟩,hH,hF,above,hA,_,hE⟩ hk hst hD;have HK:Hid (signX V l t=.no y):=hE.symm.trans (decX_stop hk hst);refine⟨by simp,.inl ⟨_,_,rfl,run_takeDeferred hD,?_⟩⟩;unfold LeavesInM LeavesIn;refine PostX.no (unh HK) ?_;exact hF.put _ _ (by omega)
theorem psign_any (w:World) (R A:Nat) (V:Ux) (t:St) (arr:Array Value) (l:List Nat) (sg:Value) (hR:Rx w R A V t) (hc:CodeP arr l sg) (hsg:Sp w R A V.B sg l) :
  Calls Tryz.prog 176 #[.pointer (some ⟨R,0,none⟩),.agg arr] w (PostX R A V w (fun (x:Nat) v _=>v=.int .i64 (x:Int)) (signX V l t)):=callsIn_wide.1 (psign_in w R A V t arr l sg hR hc hsg)
end
section
open Go.RowKit
theorem Tryz.underlying136:Tryz.prog.underlying 136=some (.array 16 3):=by kernel_rfl
theorem index16 (cs:Array Value) (k:Nat) (v:Value) (hk:k<16) (hv:cs[k]?=some v) (w:World) :
  (Instr.index 136 (.agg cs) (.int .i64 (k:Int))).run Tryz.prog w=.ok v w:=by
 have h0:(0:Int)<=(k:Int)/\(k:Int)<((16:Nat):Int):=by omega
 simp[Instr.index,run_underlying Tryz.underlying136,asIntOf,h0,go_sem];rw[if_pos hk,hv];simp
def cv (l:List Nat) (k:Nat):Nat:=if k=0 then 0 else cnt k l
theorem cv_le (l:List Nat) (k:Nat):cv l k<=l.length:=by unfold cv;split;omega;exact cnt_le k l
theorem CodeP.cc {arr:Array Value}{l:List Nat}{sg:Value}(h:CodeP arr l sg) (n:Nat) (hn:n<=15):arr[n]?=some (.int .i64 (cv l n:Int)):=h.c n hn
def c16 (arr:Array Value):List Value:=arr.toList.take 16
theorem c16_get {arr:Array Value}{l:List Nat}{sg:Value}(h:CodeP arr l sg) (k:Nat) (hk:k<16):(c16 arr).toArray[k]?=some (.int .i64 (cv l k:Int)):=by
 unfold c16;rw[List.getElem?_toArray,List.getElem?_take,if_pos hk,Array.getElem?_toList];exact h.cc k (by omega)
theorem c16_len {arr:Array Value}{l:List Nat}{sg:Value}(h:CodeP arr l sg):(c16 arr).length=16:=by unfold c16;simp[h.size]
theorem c16_range {w:World}{b:Nat}{arr:Array Value}{l:List Nat}{sg:Value}(_h:CodeP arr l sg) (hb:w.heap[b]?=some (.cells arr 204 (0,0))):w.rangeAt b 0 (c16 arr):=by
 intro j v hv;unfold c16 at hv;rw[List.getElem?_take] at hv;split at hv
 ·rw[Array.getElem?_toList] at hv;simp[World.cell?,hb,hv]
 ·cases hv
theorem kraft_stepP (l:List Nat) (k:Nat) (hl:l.length<=400) (hk:k<16):wrap64 ((kraftTo l (k-1):Int)+wrap64 ((cv l k:Int)*2^(15-k)))=(kraftTo l (k+1-1):Int):=by
 cases k with
 | zero=>simp[cv,kraftTo,wrap64]
 | succ k=>
  have:=kraft_step l k hl (by omega);rw[show k+1-1=k by omega,show k+1+1-1=k+1 by omega,show 15-(k+1)=14-k by omega];simpa[cv] using this
set_option maxHeartbeats 1000000 in
set_option maxRecDepth 100000 in
theorem isWhole_any (w:World) (arr:Array Value) (l:List Nat) (sg:Value) (h:CodeP arr l sg) :
  Calls Tryz.prog 185 #[.agg arr] w fun e w'=>e=.returned (.bool (whole l))/\∃ x,w.alloc x=w':=by
 have hX:(w.alloc (.cells arr 204)).heap[w.heap.size]?=some (.cells arr 204 (0,0)):=World.alloc_heap_new w _;have hrg:=c16_range h hX;have hll:=h.le
 go_enter Tryz.func185,Tryz.ntmps185
 go_wp2_with (refine wpList_load_mid rfl 136 _ rfl w.heap.size 0 rfl (c16 arr) _ hrg Tryz.underlying136 rfl (by rw[c16_len h];kernel_rfl) ?_)
 go_loop [3,8] (fun sv i=>∃ k:Nat,k<=16/\i=.int .i64 (k:Int)/\sv=.int .i64 (kraftTo l (k-1):Int)) (fun _ i=>16-(intOf i).toNat)
 case atStart=>exact⟨0,by omega,rfl,rfl⟩
 case round=>
  obtain⟨k,hk,rfl,rfl⟩:=hrel;have hb:=kraftTo_le l h.le (k-1) (by omega)
  by_cases hlt:k<16
  ·have hix:=index16 (c16 arr).toArray k _ hlt (c16_get h k hlt);have hcl:=cv_le l k;have hst:=kraft_stepP l k h.le hlt;have HST:=hide hst;clear hst
   go_wp2_with fail
   go_round
   case rel=>exact⟨k+1,by omega,by go_num,congrArg (Value.int .i64) (unhide HST)⟩
   case measure=>simp[intOf];omega
  ·have e:k=16:=by omega
   subst e
   go_wp2_with fail
   go_ret
   refine⟨congrArg (fun b=>Ending.returned (Value.bool b)) ?_,_,rfl⟩;unfold whole;rw[Bool.eq_iff_iff];simp;omega
set_option maxHeartbeats 400000 in
set_option maxRecDepth 100000 in
theorem isSingle_any (w:World) (arr:Array Value) (l:List Nat) (g cap:Nat) (h:CodeP arr l (.slice (some ⟨g,0,none⟩) (used l) cap)) :
  Calls Tryz.prog 186 #[.agg arr] w fun e w'=>e=.returned (.bool (single l))/\∃ x,w.alloc x=w':=by
 have hs:=h.s;have h1:=h.cc 1 (by omega);have e1:cv l 1=cnt 1 l:=by simp[cv]
 rw[e1] at h1;clear e1
 by_cases hu:used l=1
 ·have hub:((used l:Int)==1)=true:=by simp;omega
  by_cases hc:cnt 1 l=1
  ·have hcb:((cnt 1 l:Int)==1)=true:=by simp;omega
   go_enter Tryz.func186,Tryz.ntmps186
   go_wp2
   go_ret
   exact⟨by simp[single,hu,hc],_,rfl⟩
  ·have hcb:((cnt 1 l:Int)==1)=false:=by simp;omega
   go_enter Tryz.func186,Tryz.ntmps186
   go_wp2
   go_ret
   exact⟨by simp[single,hc],_,rfl⟩
 ·have hub:((used l:Int)==1)=false:=by simp;omega
  go_enter Tryz.func186,Tryz.ntmps186
  go_wp2
  go_ret
  exact⟨by simp[single,hu],_,rfl⟩
set_option maxHeartbeats 400000 in
set_option maxRecDepth 100000 in
theorem isEmpty_any (w:World) (arr:Array Value) (l:List Nat) (g cap:Nat) (h:CodeP arr l (.slice (some ⟨g,0,none⟩) (used l) cap)) :
  Calls Tryz.prog 187 #[.agg arr] w fun e w'=>e=.returned (.bool (decide (used l=0)))/\∃ x,w.alloc x=w':=by
 have hs:=h.s
 go_enter Tryz.func187,Tryz.ntmps187
 go_wp2
 go_ret
 refine⟨congrArg (fun b=>Ending.returned (Value.bool b)) ?_,_,rfl⟩;rw[Bool.eq_iff_iff];simp
end
section
open Go.RowKit
theorem idxsTo_mono (m : Nat) (l : List Nat) : ∀ {i j : Nat}, i <= j -> (idxsTo m l i).length <= (idxsTo m l j).length
  | i, 0, h => by have : i = 0 := by omega
                  subst this; exact Nat.le_refl _
  | i, j + 1, h => by
    by_cases e : i = j + 1
    · subst e; exact Nat.le_refl _
    · have := idxsTo_mono m l (show i <= j by omega)
      by_cases hh : l.getD j 0 = m
      · rw[idxsTo_hit hh]; simp; omega
      · rw[idxsTo_miss hh]; exact this
theorem idxsTo_cnt (m:Nat) (l:List Nat) {i:Nat}(hi:i<=l.length):(idxsTo m l i).length<=cnt m l:=by
 have:=idxsTo_mono m l hi;rw[idxsTo_all] at this;exact this
theorem idxsTo_cnt_lt {m:Nat}{l:List Nat}{i:Nat}(hi:i<l.length) (h:l.getD i 0=m):(idxsTo m l i).length<cnt m l:=by
 have:=idxsTo_cnt m l (show i+1<=l.length by omega);rw[idxsTo_hit h] at this;simp at this;omega
def cf1 (l:List Nat) (i m:Nat):Nat:=if m=0 then 0 else (idxsTo m l i).length
theorem cf1_hit {l:List Nat}{i v:Nat}(h:l.getD i 0=v) (hv:0<v) (m:Nat):(if m=v then cf1 l i v+1 else cf1 l i m)=cf1 l (i+1) m:=by
 unfold cf1
 by_cases e:m=v
 ·subst e;rw[if_pos rfl,if_neg (by omega),if_neg (by omega),idxsTo_hit h];simp
 ·rw[if_neg e,idxsTo_miss (show ¬ l.getD i 0=m by omega)]
theorem cf1_miss {l:List Nat}{i:Nat}(h:l.getD i 0=0) (m:Nat):cf1 l i m=cf1 l (i+1) m:=by
 unfold cf1
 by_cases e:m=0
 ·rw[if_pos e,if_pos e]
 ·rw[if_neg e,if_neg e,idxsTo_miss (show ¬ l.getD i 0=m by omega)]
theorem cf1_all (l:List Nat) (m:Nat):cf1 l l.length m=cv l m:=by unfold cf1 cv;rw[idxsTo_all];rfl
theorem cf1_le (l:List Nat) (i m:Nat) (hi:i<=l.length):cf1 l i m<=l.length:=by
 unfold cf1;split
 ·omega
 ·exact Nat.le_trans (idxsTo_le m l i) hi
def pfK (l:List Nat) (i m:Nat):Nat:=start l m+cf1 l i m
theorem pfK_hit {l:List Nat}{i v j:Nat}(h:l.getD i 0=v) (hv:0<v) (hj:pfK l i v=j) (m:Nat):(if m=v then j+1 else pfK l i m)=pfK l (i+1) m:=by
 have hc:=cf1_hit h hv m;unfold pfK at hj ⊢
 by_cases e:m=v
 ·subst e;rw[if_pos rfl] at hc ⊢;omega
 ·rw[if_neg e] at hc ⊢;omega
theorem start_cv (l:List Nat) (k:Nat):start l (k+1)=start l k+cv l k:=by
 cases k with
 | zero=>simp[start,cv]
 | succ k=>rw[start_succ l (by omega)];simp[cv]
structure Cn (w:World) (C:Nat) (t:TypeId) (n:Nat) (f:Nat->Nat) (arr:Array Value):Prop where
 blk:w.heap[C]?=some (.cells arr t (0,0))
 size:n<=arr.size
 c:∀ m,m<n->arr[m]?=some (intV (f m))
theorem Cn.cell {w:World}{C:Nat}{t:TypeId}{n:Nat}{f:Nat->Nat}{arr:Array Value}(h:Cn w C t n f arr) {m:Nat}(hm:m<n):w.cell? ⟨C,m,none⟩=some (.int .i64 (f m:Int)):=by
 simp only[World.cell?,h.blk];simpa[intV] using h.c m hm
theorem Cn.fr {w:World}{C:Nat}{t:TypeId}{n:Nat}{f:Nat->Nat}{arr:Array Value}(h:Cn w C t n f arr) (i:Nat):w.frozen? ⟨C,i,none⟩=false:=by simp[World.frozen?,h.blk]
theorem Cn.lt {w:World}{C:Nat}{t:TypeId}{n:Nat}{f:Nat->Nat}{arr:Array Value}(h:Cn w C t n f arr):C<w.heap.size:=(Array.getElem?_eq_some_iff.1 h.blk).1
theorem Cn.set {w:World}{C:Nat}{t:TypeId}{n:Nat}{f:Nat->Nat}{arr:Array Value}(h:Cn w C t n f arr) {m:Nat}(hm:m<n) (x:Nat) :
  Cn (w.setCell ⟨C,m,none⟩ (.int .i64 (x:Int))) C t n (fun j=>if j=m then x else f j) (arr.setIfInBounds m (intV x)):=by
 have hs:=h.size;refine⟨heap_setCell_same w C m arr _ _ h.blk,by simp[hs],fun j hj=>?_⟩;rw[Array.getElem?_setIfInBounds]
 by_cases e:m=j
 ·subst e;simp[show m<arr.size by omega]
 ·rw[if_neg e,if_neg (fun e'=>e e'.symm)];exact h.c j hj
theorem Cn.kept {w w':World}{C:Nat}{t:TypeId}{n:Nat}{f:Nat->Nat}{arr:Array Value}{r:Option Nat}(h:Cn w C t n f arr) (hg:w.grownBy w' r) (hne:r≠some C):Cn w' C t n f arr:=
 ⟨by rw[hg.block C h.lt (fun e=>hne e.symm)];exact h.blk,h.size,h.c⟩
theorem Cn.congr {w:World}{C:Nat}{t:TypeId}{n:Nat}{f g:Nat->Nat}{arr:Array Value}(h:Cn w C t n f arr) (e:∀ m,m<n->f m=g m):Cn w C t n g arr:=
 ⟨h.blk,h.size,fun m hm=>by rw[← e m hm];exact h.c m hm⟩
theorem apart {l:List Nat}{m v a b:Nat}(hm:1<=m) (hv:1<=v) (ha:a<cnt m l) (hb:b<cnt v l) (h:start l m+a=start l v+b):m=v/\a=b:=by
 by_cases e:m=v
 ·subst e;exact⟨rfl,by omega⟩
 ·exfalso
  rcases Nat.lt_or_gt_of_ne e with hlt|hgt
  ·have:=start_mono l (show 1<=m+1 by omega) (show m+1<=v by omega);rw[start_succ l hm] at this;omega
  ·have:=start_mono l (show 1<=v+1 by omega) (show v+1<=m by omega);rw[start_succ l hv] at this;omega
def Laid (sarr:Array Value) (l:List Nat) (i:Nat):Prop:=∀ m a,1<=m->m<=15->a<(idxsTo m l i).length->sarr[start l m+a]?=some (intV ((idxsTo m l i).getD a 0))
theorem Laid.hit {sarr:Array Value}{l:List Nat}{i v:Nat}(h:Laid sarr l i) (hi:i<l.length) (hv:l.getD i 0=v) (h1:1<=v) (h15:v<=15) (hs:sarr.size=used l):Laid (sarr.setIfInBounds (start l v+(idxsTo v l i).length) (intV i)) l (i+1):=by
 have hlt:=idxsTo_cnt_lt hi hv;have hin:=start_used l h1 h15 hlt;intro m a hm hm15 ha;rw[Array.getElem?_setIfInBounds]
 by_cases e:m=v
 ·subst e;rw[idxsTo_hit hv] at ha ⊢;simp at ha
  by_cases ea:a=(idxsTo m l i).length
  ·subst ea;rw[if_pos rfl,if_pos (by omega)];simp[List.getD_eq_getElem?_getD]
  ·rw[if_neg (by omega),h m a hm hm15 (by omega)];rw[List.getD_eq_getElem?_getD,List.getD_eq_getElem?_getD,List.getElem?_append_left (by omega)]
 ·rw[idxsTo_miss (show ¬ l.getD i 0=m by omega)] at ha ⊢;rw[if_neg (fun e2=>e (apart hm h1 (Nat.lt_of_lt_of_le ha (idxsTo_cnt m l (by omega))) hlt e2.symm).1)];exact h m a hm hm15 ha
theorem Laid.miss {sarr:Array Value}{l:List Nat}{i:Nat}(h:Laid sarr l i) (hv:l.getD i 0=0):Laid sarr l (i+1):=by
 intro m a hm hm15 ha;rw[idxsTo_miss (show ¬ l.getD i 0=m by omega)] at ha ⊢;exact h m a hm hm15 ha
end
end Go.Proofs.YtgffljllfenhkaaGreatDoor
