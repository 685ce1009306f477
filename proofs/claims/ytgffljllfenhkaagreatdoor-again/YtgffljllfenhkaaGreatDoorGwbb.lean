import Derived.Deep.QuietTactic
import Derived.BigQuiet
import Derived.RangeFuncBox
import Derived.Laws.Bits64b
import Derived.Deep.MidRow
import Derived.Test.YtgffljllfenhkaaGreatDoorGwai
import Derived.Test.YtgffljllfenhkaaGreatDoorGwba
namespace Go.Proofs.YtgffljllfenhkaaGreatDoor
section
open Go.RowKit Go.Shelf
attribute [local go_sem] Oper.semAt_some
variable {w w':World}{R A:Nat}{V:Ux}{t:St}
theorem unhide' {p:Prop}(h:Hid p):p:=h
def stopAt (V:Ux) (t:St) (k:Nat) (y:Why):Prop:=(t.b=k/\t.k+k<=8*V.s.size/\y=(12,0))\/(k<t.b/\t.k+k=8*V.s.size/\y=(9,V.n9))
set_option maxRecDepth 100000 in
set_option maxHeartbeats 4000000 in
theorem next1_in (m:Nat) (hm:3<=m) (l NB RB R A:Nat) (V:Ux) (t:St) (n:Nat) (hn:n<=40) (I Ix:Nat->World->Prop)
  (hI:∀ k W W',I k W->Two R A V.B W W'->I k W')
  (hB:∀ k W,I k W->W.cell? ⟨NB,0,none⟩=some (.int .i64 (n:Int))/\W.cell? ⟨RB,0,none⟩=some (.pointer (some ⟨R,0,none⟩)))
  (hY:∀ k W,I k W->Rx W R A V (t.bits (k+1))->k<n->k<t.b->YieldAt Fence.wide (m-1) Tryz.prog l #[.int .i64 (k:Int),.int .i64 (bitOf V.s (t.k+k):Int)] W fun e W'=>
   (e=.returned (.bool true)/\I (k+1) W'/\Rx W' R A V (t.bits (k+1)))\/(e=.returned (.bool false)/\Ix (k+1) W'/\Rx W' R A V (t.bits (k+1))))
  (W:World) (hR:Rx W R A V t) (h0:I 0 W) :
  CallsIn Fence.wide m Tryz.prog 173 #[.func (.yield l) #[] #[],.pointer (some ⟨NB,0,none⟩),.pointer (some ⟨RB,0,none⟩)] W fun e W'=>
   (∃ v,e=.returned v/\((n<=t.b/\I n W'/\Rx W' R A V (t.bits n))\/∃ k,k<n/\k<t.b/\Ix (k+1) W'/\Rx W' R A V (t.bits (k+1)))) \/
   (∃ k y,k<n/\e=.panicked (thrownY y)/\stopAt V t k y/\I k W'):=by
 have hs:=hR.hs;have hpp:=hR.hp;obtain⟨hNB,hRB⟩:=hB 0 W h0;refine callsIn_of_wp Tryz.func173 rfl trivial ?_ rfl;simp only[Tryz.ntmps173,List.size_toArray,List.length_cons,List.length_nil,Nat.reduceAdd,Nat.reduceSub,Array.replicate_succ,Array.replicate_zero,List.push_toArray,List.append_toArray,List.nil_append,List.cons_append]
 gi_wp2
 clear hNB hRB
 gi_loopw [7] (fun i wr=>∃ k:Nat,k<=n/\k<=t.b/\i=.int .i64 (k:Int)/\I k wr/\Rx wr R A V (t.bits k))
  (fun i _=>n-(intOf i).toNat)
 case atStart=>exact⟨0,Nat.zero_le _,Nat.zero_le _,rfl,h0,hR⟩
 case round=>
  clear hR h0;obtain⟨k,hk,hkb,rfl,hIk,hRk⟩:=hrel;obtain⟨hNB,hRB⟩:=hB k wr hIk
  by_cases hlt:k<n
  ·have c2:=hRk.c2;have c3:=hRk.c3;have ca:=hRk.ca;have cb:=hRk.bud.ca;have fa:=hRk.fa 0;have fb:=hRk.bud.fa 0;have hpk:=hRk.hp;have hbb:=hRk.bud.hb;have hRA:=hRk.lt;rw[St.bits_b] at cb hbb;rw[St.bits_k] at ca hpk
   by_cases hb1:k<t.b
   ·have hone:1<=t.b-k:=by omega
    have hwB1:∀ j,j≠V.B->(wr.setCell ⟨V.B,0,none⟩ (.int .i64 (((t.b-k:Nat):Int)-((1:Nat):Int)))).heap[j]?=wr.heap[j]?:=fun j hj=>Below.heap_setCell _ _ _ _ (by exact hj)
    have TK:=take_ok wr V.B (t.b-k) 1 cb fb hone hbb;obtain⟨wb,hwb⟩:∃ wb,wr.setCell ⟨V.B,0,none⟩ (.int .i64 (((t.b-k:Nat):Int)-((1:Nat):Int)))=wb:=⟨_,rfl⟩
    have ca1:wb.cell? ⟨A,0,none⟩=some (.int .i64 ((8*V.s.size-(t.k+k):Nat):Int)):=by
     rw[← hwb,World.cell?_of_block (w:=wr) (hwB1 A (by omega))];exact ca
    have fa1:wb.frozen? ⟨A,0,none⟩=false:=by
     rw[← hwb,World.frozen?_of_block (w:=wr) (hwB1 A (by omega))];exact fa
    have c21:wb.cell? ⟨R,2,none⟩=some (.func (.func 60) #[] #[.pointer (some ⟨A,0,none⟩),.pointer (some ⟨A+1,0,none⟩)]):=by
     rw[← hwb,World.cell?_of_block (w:=wr) (hwB1 R (by omega))];exact c2
    have hTw1:Two R A V.B wr wb:=by rw[← hwb];exact (Two.refl R A V.B wr).setB 0 _
    have hRB1:wb.cell? ⟨RB,0,none⟩=some (.pointer (some ⟨R,0,none⟩)):=(hB k _ (hI k _ _ hIk hTw1)).2
    have hy1:wb.heap[A+1]?=some (.cells #[.int .i64 9,.int .i64 (V.n9:Int)] 45 (0,0)):=by
     rw[← hwb,hwB1 (A+1) (by omega)];exact hRk.y
    have cc0:wb.cell? ⟨R,0,none⟩=some (.string V.s):=by
     rw[← hwb,World.cell?_of_block (w:=wr) (hwB1 R (by omega))];exact hRk.c0
    have cc1:wb.cell? ⟨R,1,none⟩=some (.int .i64 ((t.k+k:Nat):Int)):=by
     rw[← hwb,World.cell?_of_block (w:=wr) (hwB1 R (by omega))];exact hRk.c1
    have fr1:wb.frozen? ⟨R,1,none⟩=false:=by
     rw[← hwb,World.frozen?_of_block (w:=wr) (hwB1 R (by omega))];exact hRk.fr 1
    have hI1:I k wb:=hI k _ _ hIk hTw1
    by_cases hb:t.k+k<8*V.s.size
    ·have hY0:=fun W h1 h2=>hY k W h1 h2 hlt hb1
     have hfin:∀ nq,Rx (((wb.setCell ⟨A,0,none⟩ (.int .i64 ((8*V.s.size-(t.k+k):Nat)-1:Int))).drewN nq).setCell ⟨R,1,none⟩ (.int .i64 (((t.k+k:Nat):Int)+1))) R A V (t.bits (k+1)):=fun nq=>by
      have:=hRk.step hb (by rw[St.bits_b];omega) nq;rw[St.bits_bits,St.bits_b,St.bits_k,show ((t.b-k:Nat):Int)-1=((t.b-k:Nat):Int)-((1:Nat):Int) from rfl,hwb] at this;exact this
     have hTw:∀ nq,Two R A V.B wr (((wb.setCell ⟨A,0,none⟩ (.int .i64 ((8*V.s.size-(t.k+k):Nat)-1:Int))).drewN nq).setCell ⟨R,1,none⟩ (.int .i64 (((t.k+k:Nat):Int)+1))):=fun nq=>(((hTw1).setA 0 _).drewN nq).setR 1 _
     clear hwB1;obtain⟨q,ht⟩:∃ q,t.k+k=q:=⟨_,rfl⟩;rw[ht] at hY0 hfin hTw hb ca1 cc1 hpk;have hq':q/8<V.s.size:=by omega
     have hwq:IntKind.i64.wrap ((q:Int)/8)=(q:Int)/8:=wrap_i64_ediv _ _ (by omega) (by omega) (by omega);have hix:=index_byte V.s q hq';have HT:Hid (t.k+k=q):=ht;clear ht ca cb
     gi_wp2
     refine⟨trivial,fun _=>by omega,?_⟩;refine (callsIn_wide.2 TK).mono ?_;rintro e w0 ⟨rfl,hw0⟩;have ew0:w0=wb:=hw0.symm.trans hwb;subst ew0;clear hwb hw0 c2 c3 fa fb hNB hRB
     gi_wp2
     refine⟨trivial,fun _=>by omega,?_⟩;refine (callsIn_wide.2 (take_ok w0 A (8*V.s.size-q) 1 ca1 fa1 (by omega) (by omega))).mono ?_;rintro e w1 ⟨rfl,hw1⟩;have hw1':w0.setCell ⟨A,0,none⟩ (.int .i64 (((8*V.s.size-q:Nat):Int)-1))=w1:=hw1
     have hRB2:w1.cell? ⟨RB,0,none⟩=some (.pointer (some ⟨R,0,none⟩)):=by
      rw[← hw1];exact (hB k _ (hI k _ _ hI1 ((Two.refl R A V.B w0).setA 0 _))).2
     have hc2:w1.cell? ⟨R,0,none⟩=some (.string V.s):=by
      rw[← hw1,World.cell?_of_block (w:=w0) (Below.heap_setCell _ _ _ _ (by show R≠A;omega))];exact cc0
     have hc3:w1.cell? ⟨R,1,none⟩=some (.int .i64 (q:Int)):=by
      rw[← hw1,World.cell?_of_block (w:=w0) (Below.heap_setCell _ _ _ _ (by show R≠A;omega))];exact cc1
     have hf3:w1.frozen? ⟨R,1,none⟩=false:=by
      rw[← hw1,World.frozen?_of_block (w:=w0) (Below.heap_setCell _ _ _ _ (by show R≠A;omega))];exact fr1
     rw[hw1'] at hfin hTw;clear hw1 hw1' ca1 fa1 c21 cc0 cc1 fr1 hRB1
     gi_wp2
     gi_quiet (fail)
     have hf2:=hfin nq;have hI2:=hI k _ _ hIk (hTw nq);have hbv:=bit_value V.s q hq';obtain⟨fn,tmps,assign,body,hy,hR3⟩:=hY0 _ hI2 hf2;clear hfin hTw hY0 hf2 hI2
     gi_wp2
     refine⟨fun _=>by omega,?_⟩;refine hR3.mono ?_;rintro e W3 (⟨rfl,hI3,hRd3⟩|⟨rfl,hIx3,hRd3⟩)
     ·gi_wp2
      go_roundw
      case rel=>exact⟨k+1,by omega,by omega,by go_num,hI3,hRd3⟩
      case measure=>simp[intOf];omega
     ·gi_wp2
      refine bodyPost_ret (results_none rfl _ _ _) rfl ?_;exact .inl ⟨_,rfl,.inr ⟨k,hlt,hb1,hIx3,hRd3⟩⟩
    ·have h0:8*V.s.size-(t.k+k)=0:=by omega
     rw[h0] at ca1;clear ca cb hwB1
     gi_wp2
     refine⟨trivial,fun _=>by omega,?_⟩;refine (callsIn_wide.2 TK).mono ?_;rintro e w0 ⟨rfl,hw0⟩;have ew0:w0=wb:=hw0.symm.trans hwb;subst ew0;clear hwb hw0 c2 c3 fa fb hNB hRB
     gi_wp2
     refine⟨trivial,fun _=>by omega,?_⟩;refine (callsIn_wide.2 (take_no w0 A 0 1 9 V.n9 ca1 hy1 (by omega))).mono ?_;rintro e w1 ⟨rfl,rfl⟩;exact⟨rfl,.inr ⟨k,(9,V.n9),hlt,rfl,.inr ⟨hb1,by omega,rfl⟩,hI1⟩⟩
   ·have hby:=hRk.bud.y;have hz:t.b-k<1:=by omega
    have TK:=take_no wr V.B (t.b-k) 1 12 0 cb hby hz
    gi_wp2
    refine⟨trivial,fun _=>by omega,?_⟩;refine (callsIn_wide.2 TK).mono ?_;rintro e w1 ⟨rfl,rfl⟩;exact⟨rfl,.inr ⟨k,(12,0),hlt,rfl,.inl ⟨by omega,hpk,rfl⟩,hIk⟩⟩
  ·have e:k=n:=by omega
   subst e
   gi_wp2
   first | go_end0 | refine bodyPost_ret (results_none rfl _ _ _) rfl ?_
   exact .inl ⟨_,rfl,.inl ⟨hkb,hIk,hRk⟩⟩
end
section
open Go.RowKit Go.Shelf
attribute [local go_sem] Oper.semAt_some
theorem Tryz.mfn (P:Program):∀ (fn:Fn) (first cap:Array Value) (w:World),(Instr.makeFunc fn first cap).run P w=.ok (.func fn first cap) w:=fun _ _ _ _=>rfl
set_option maxHeartbeats 400000 in
theorem rnext_any (w:World) (R:Nat) (n:Int) :
  Calls Tryz.prog 154 #[.pointer (some ⟨R,0,none⟩),.int .i64 n] w fun e w'=>
   e=.returned (.func (.func 173) #[] #[.pointer (some ⟨w.heap.size+1,0,none⟩),.pointer (some ⟨w.heap.size,0,none⟩)]) /\
   (w.alloc (.cells #[.pointer (some ⟨R,0,none⟩)] 179)).alloc (.cells #[.int .i64 n] 3)=w':=by
 have hmf:=Tryz.mfn Tryz.prog
 go_enter Tryz.func154,Tryz.ntmps154
 go_wp2
 go_ret
 exact⟨rfl,rfl⟩
structure Fxr (R A B:Nat) (w w':World):Prop where
 os:w'.os=w.os
 tape:w'.tape=w.tape
 output:w'.output=w.output
 size:w.heap.size<=w'.heap.size
 block:∀ k,k<w.heap.size->k≠R->k≠A->k≠B->w'.heap[k]?=w.heap[k]?
section
variable {R A B:Nat}{w w' w1 w2:World}
theorem Fxr.refl (R A B:Nat) (w:World):Fxr R A B w w:=⟨rfl,rfl,rfl,Nat.le_refl _,fun _ _ _ _ _=>rfl⟩
theorem Fxr.trans {a b c:World}(h:Fxr R A B a b) (k:Fxr R A B b c):Fxr R A B a c:=
 ⟨k.os.trans h.os,k.tape.trans h.tape,k.output.trans h.output,Nat.le_trans h.size k.size,fun i hi h1 h2 h3=>(k.block i (Nat.lt_of_lt_of_le hi h.size) h1 h2 h3).trans (h.block i hi h1 h2 h3)⟩
theorem Fxr.of_two (h:Two R A B w w'):Fxr R A B w w':=⟨h.os,h.tape,h.output,Nat.le_of_eq h.size.symm,fun k _ h1 h2 h3=>h.block k h1 h2 h3⟩
theorem Fxr.alloc (R A B:Nat) (w:World) (o:Obj):Fxr R A B w (w.alloc o):=⟨rfl,rfl,rfl,by simp,fun k hk _ _ _=>Below.heap_alloc _ _ _ hk⟩
theorem Fxr.drew (R A B:Nat) (w:World):Fxr R A B w w.drew:=⟨rfl,rfl,rfl,Nat.le_refl _,fun _ _ _ _ _=>rfl⟩
theorem Fxr.below (h:Below w.heap.size w w'):Fxr R A B w w':=⟨h.os,h.tape,h.output,h.size,fun k hk _ _ _=>h.block k hk⟩
theorem Fxr.new (h:Fxr R A B w w1) (ho:w2.os=w1.os) (ht:w2.tape=w1.tape) (hp:w2.output=w1.output) (hs:w2.heap.size=w1.heap.size) (b:Nat) (hb:w.heap.size<=b) (hk:∀ k,k≠b->w2.heap[k]?=w1.heap[k]?):Fxr R A B w w2:=
 ⟨ho.trans h.os,ht.trans h.tape,hp.trans h.output,by rw[hs];exact h.size,fun k h1 h2 h3 h4=>(hk k (by omega)).trans (h.block k h1 h2 h3 h4)⟩
theorem Fxr.put (h:Fxr R A B w w1) (b:Nat) (o:Obj) (hb:w.heap.size<=b):Fxr R A B w (w1.putObj b o):=h.new rfl rfl rfl (by simp) b hb (fun _ e=>World.putObj_heap_other e)
theorem Fxr.set (h:Fxr R A B w w1) (b i:Nat) (v:Value) (hb:w.heap.size<=b):Fxr R A B w (w1.setCell ⟨b,i,none⟩ v):=h.new rfl rfl rfl (by simp) b hb (fun _ e=>Below.heap_setCell _ _ _ _ e)
theorem Fxr.setB (h:Fxr R A B w w1) (i:Nat) (v:Value):Fxr R A B w (w1.setCell ⟨B,i,none⟩ v):=
 ⟨h.os,h.tape,h.output,by simp[h.size],fun k hk h1 h2 h3=>(Below.heap_setCell _ _ _ _ (by exact h3)).trans (h.block k hk h1 h2 h3)⟩
end
def PostX (R A:Nat) (V:Ux) (w:World) {α:Type}(rep:α->Value->World->Prop) (o:Out α) (e:Ending) (w':World):Prop:=match o with
 | .ok a t'=>∃ v,e=.returned v/\rep a v w'/\Rx w' R A V t'/\Fxr R A V.B w w'
 | .no y=>e=.panicked (thrownY y)/\Fxr R A V.B w w'
section
variable {R A:Nat}{V:Ux}{w W w':World}{α:Type}{rep:α->Value->World->Prop}{o:Out α}{a:α}{t':St}{v:Value}{y:Why}
theorem PostX.ok (ho:o=.ok a t') (hr:rep a v w') (hA:Rx w' R A V t') (hF:Fxr R A V.B w w'):PostX R A V w rep o (.returned v) w':=by
 subst ho;exact⟨v,rfl,hr,hA,hF⟩
theorem PostX.no (ho:o=.no y) (hF:Fxr R A V.B w w'):PostX R A V w rep o (.panicked (thrownY y)) w':=by
 subst ho;exact⟨rfl,hF⟩
theorem PostX.okC {p:Program}{f:Nat}{args:Array Value}(h:Calls p f args W (PostX R A V w rep o)) (ho:o=.ok a t') :
  Calls p f args W fun e w'=>∃ v,e=.returned v/\rep a v w'/\Rx w' R A V t'/\Fxr R A V.B w w':=by subst ho;exact h
theorem PostX.noC {p:Program}{f:Nat}{args:Array Value}(h:Calls p f args W (PostX R A V w rep o)) (ho:o=.no y) :
  Calls p f args W fun e w'=>e=.panicked (thrownY y)/\Fxr R A V.B w w':=by subst ho;exact h
end
structure Loc (N R A B:Nat) (w w':World):Prop where
 os:w'.os=w.os
 tape:w'.tape=w.tape
 output:w'.output=w.output
 size:w.heap.size<=w'.heap.size
 block:∀ k,k<N->k≠R->k≠A->k≠B->w'.heap[k]?=w.heap[k]?
theorem Loc.of_two {N R A B:Nat}{w w':World}(h:Two R A B w w'):Loc N R A B w w':=⟨h.os,h.tape,h.output,Nat.le_of_eq h.size.symm,fun k _ h1 h2 h3=>h.block k h1 h2 h3⟩
theorem Loc.put {N R A B:Nat}(w:World) (b:Nat) (o:Obj) (hb:N<=b):Loc N R A B w (w.putObj b o):=⟨rfl,rfl,rfl,by simp,fun _ hk _ _ _=>World.putObj_heap_other (by omega)⟩
def Kept (bs:Nat->Prop) (w w':World):Prop:=∀ b,bs b->w'.heap[b]?=w.heap[b]?
def roundQ (I:Nat->World->Prop) (Ix:Code->Nat->World->Prop) (bs:Nat->Prop) (k:Nat) (W:World):Exit->Act->World->Prop
 | .normal,_,W'=>Kept bs W W'/\I (k+1) W'
 | .ret,_,W'=>Kept bs W W'/\Ix .ret (k+1) W'
 | .exit id,_,W'=>Kept bs W W'/\Ix (.exit id) (k+1) W'
 | _,_,_=>False
theorem range_next {g:Operand}{ps:Array Tmp}{assign body:Code}{Q:Exit->Act->World->Prop}{a:Act}{w:World}{m:Nat}(hm:6<=m) (NB RB R A:Nat) (V:Ux) (t:St) (n:Nat) (hn:n<=40)
  (hg:a.eval g=.func (.func 173) #[] #[.pointer (some ⟨NB,0,none⟩),.pointer (some ⟨RB,0,none⟩)]) (hps:ps.size=2)
  (hR:Rx w R A V t) (hNB:w.heap[NB]?=some (.cells #[.int .i64 (n:Int)] 3 (0,0))) (hRB:w.heap[RB]?=some (.cells #[.pointer (some ⟨R,0,none⟩)] 179 (0,0))) (hne:NB≠R/\NB≠A/\RB≠R/\RB≠A/\NB≠V.B/\RB≠V.B)
  (I:Nat->World->Prop) (Ix:Code->Nat->World->Prop) (hI:∀ k W W',I k W->Loc w.heap.size R A V.B W W'->I k W') (hIx:∀ c k W W',Ix c k W->Loc w.heap.size R A V.B W W'->Ix c k W') (h0:I 0 w) (a₁:Nat->Nat->Act)
  (hassign:∀ (l k b:Nat) (W:World) (K:Act->World->Prop),K (a₁ k b) W ->
   assign.wpIn (Fence.wide.inRound l) (m-1-1) Tryz.prog (Exit.then K (fun _ _ _=>False)) { tmps:=(ps.zip #[.int .i64 (k:Int),.int .i64 (b:Int)]).foldl (fun t (p,v)=>t.setIfInBounds p v) a.tmps,defers:=[] } W)
  (hbody:∀ (l k:Nat) (W:World),I k W->Rx W R A V (t.bits (k+1))->k<n->k<t.b->body.wpIn (Fence.wide.inRound l) (m-1-1) Tryz.prog (roundQ I Ix (fun b=>b=R\/b=A\/b=A+1\/b=V.B\/b=V.B+1\/b=NB\/b=RB\/b=w.heap.size\/b=w.heap.size+1) k W) (a₁ k (bitOf V.s (t.k+k))) W)
  (hdone:∀ W,n<=t.b->I n W->Rx W R A V (t.bits n)->W.heap[w.heap.size]?=some (.deferred (some []))->Q .normal { a with defers:={ target:=.collected w.heap.size,args:=#[] }::a.defers } W)
  (hstop:∀ c k W,Ix c (k+1) W->k<n->k<t.b->Rx W R A V (t.bits (k+1))->W.heap[w.heap.size]?=some (.deferred (some []))->c.wpIn Fence.wide m Tryz.prog Q { a with defers:={ target:=.collected w.heap.size,args:=#[] }::a.defers } W)
  (hpanic:∀ k y W,I k W->k<n->stopAt V t k y->W.heap[w.heap.size]?=some (.deferred (some []))->Q (.panic (thrownY y)) { a with defers:={ target:=.collected w.heap.size,args:=#[] }::a.defers } W) :
  (Code.rangeFunc g ps assign body).wpIn Fence.wide m Tryz.prog Q a w:=by
 have hlNB:NB<w.heap.size:=(Array.getElem?_eq_some_iff.1 hNB).1;have hlRB:RB<w.heap.size:=(Array.getElem?_eq_some_iff.1 hRB).1;have hlR:=hR.ltR;have hlA:=hR.ltA;have hlB:=hR.lt;refine wpIn_rangeFunc ?_;intro fn hfn;obtain⟨rec,hrec⟩:∃ rec:LoopState->Option Code->Loop,rec=fun st pe=>{ state:=st,pending:=pe,fn,tmps:=a.tmps,params:=ps,assign,body,defers:=w.heap.size }:=⟨_,rfl⟩
 obtain⟨W1,hW1⟩:∃ W1,(w.alloc (.deferred (some []))).alloc (.loop (rec .ready none))=W1:=⟨_,rfl⟩;have hL1:W1.heap[w.heap.size+1]?=some (.loop (rec .ready none)):=by rw[← hW1];exact heap_alloc2_new w _ _
 have hD1:W1.heap[w.heap.size]?=some (.deferred (some [])):=by rw[← hW1];exact heap_alloc2_old w _ _
 have hold:∀ k,k<w.heap.size->W1.heap[k]?=w.heap[k]?:=fun k hk=>by
  rw[← hW1,Below.heap_alloc _ _ _ (by simp;omega),Below.heap_alloc _ _ _ hk]
 have hloc1:Loc w.heap.size R A V.B w W1:=⟨by rw[← hW1];rfl,by rw[← hW1];rfl,by rw[← hW1];rfl,by rw[← hW1];simp;omega,fun k hk _ _ _=>hold k hk⟩;have hR1:Rx W1 R A V t:=hR.of_blocks (fun k hk=>hold k (by omega))
 let J:Nat->World->Prop:=fun k W=>I k W/\W.heap[NB]?=some (.cells #[.int .i64 (n:Int)] 3 (0,0))/\W.heap[RB]?=some (.cells #[.pointer (some ⟨R,0,none⟩)] 179 (0,0)) /\
  W.heap[w.heap.size]?=some (.deferred (some []))/\W.heap[w.heap.size+1]?=some (.loop (rec .ready none))
 let Jx:Nat->World->Prop:=fun k W=>∃ c,Ix c k W/\W.heap[w.heap.size]?=some (.deferred (some []))/\W.heap[w.heap.size+1]?=some (.loop (rec .done (some c)))
 refine⟨w.heap.size+1,[{ target:=.collected w.heap.size,args:=#[] }],W1,{ target:=.fn (.func 173) #[.pointer (some ⟨NB,0,none⟩),.pointer (some ⟨RB,0,none⟩)],args:=#[.func (.yield (w.heap.size+1)) #[] #[]] },W1,173,
  #[.func (.yield (w.heap.size+1)) #[] #[],.pointer (some ⟨NB,0,none⟩),.pointer (some ⟨RB,0,none⟩)],W1,?_,?_,?_,?_,fun _=>by omega,?_⟩
 ·rw[← hW1,hrec];exact run_enterLoop_outer _ _ _ _ _
 ·simp only[resolve,hg];simp[go_sem]
 ·intro _ _;trivial
 ·simp[invoke,go_sem]
 ·refine (next1_in (m-1) (by omega) (w.heap.size+1) NB RB R A V t n hn J Jx ?_ ?_ ?_ W1 hR1 ?_).mono ?_
  ·rintro k W W' ⟨h1,h2,h3,h4,h5⟩ ht;exact⟨hI k W W' h1 (Loc.of_two ht),by rw[ht.block NB hne.1 hne.2.1 hne.2.2.2.2.1];exact h2,by rw[ht.block RB hne.2.2.1 hne.2.2.2.1 hne.2.2.2.2.2];exact h3,by rw[ht.block _ (by omega) (by omega) (by omega)];exact h4,by rw[ht.block _ (by omega) (by omega) (by omega)];exact h5⟩
  ·rintro k W ⟨_,h2,h3,_,_⟩;exact⟨by simp[World.cell?,h2],by simp[World.cell?,h3]⟩
  ·rintro k W ⟨h1,h2,h3,h4,h5⟩ hRk hk hkb;have hy:=run_yield (P:=Tryz.prog) (args:=#[.int .i64 (k:Int),.int .i64 (bitOf V.s (t.k+k):Int)]) h5 (by rw[hrec];exact hps.symm);rw[hrec] at hy;refine⟨fn,_,assign,body,hy,roundIn_of_wpIn hfn (hassign _ k _ W _ ⟨_,run_beginRound h5 (by rw[hrec]),?_⟩)⟩;have hlt5:w.heap.size+1<W.heap.size:=(Array.getElem?_eq_some_iff.1 h5).1;obtain⟨W2,hW2⟩:∃ W2,W.putObj (w.heap.size+1) (.loop { rec .ready none with state:=.busy })=W2:=⟨_,rfl⟩;have hl2:W2.heap[w.heap.size+1]?=some (.loop { rec .ready none with state:=.busy }):=by rw[← hW2];exact World.putObj_heap_same hlt5
   have hoth:∀ b,b≠w.heap.size+1->W2.heap[b]?=W.heap[b]?:=fun b hb=>by rw[← hW2];exact World.putObj_heap_other hb
   have hI2:I k W2:=hI k W W2 h1 (by rw[← hW2];exact Loc.put W _ _ (by omega));have hRd2:Rx W2 R A V (t.bits (k+1)):=hRk.of_blocks (fun b hb=>hoth b (by omega));rw[hW2];refine wpIn_mono (hbody _ k W2 hI2 hRd2 hk hkb) ?_
   have fin:∀ (jump:Option Code) (W3:World),Kept (fun b=>b=R\/b=A\/b=A+1\/b=V.B\/b=V.B+1\/b=NB\/b=RB\/b=w.heap.size\/b=w.heap.size+1) W2 W3 ->
     (Instr.endRound (w.heap.size+1) jump).run Tryz.prog W3=.ok (.bool jump.isNone) (W3.putObj (w.heap.size+1) (.loop (rec (if jump.isNone then .ready else .done) jump))) /\
     (W3.putObj (w.heap.size+1) (.loop (rec (if jump.isNone then .ready else .done) jump))).heap[w.heap.size+1]?=some (.loop (rec (if jump.isNone then .ready else .done) jump)) /\
     (∀ b,b≠w.heap.size+1->(W3.putObj (w.heap.size+1) (.loop (rec (if jump.isNone then .ready else .done) jump))).heap[b]?=W3.heap[b]?) /\
     Rx (W3.putObj (w.heap.size+1) (.loop (rec (if jump.isNone then .ready else .done) jump))) R A V (t.bits (k+1)):=by
    intro jump W3 hk3;have hl3:=(hk3 (w.heap.size+1) (by simp)).trans hl2;have hr3:=run_endRound (P:=Tryz.prog) jump hl3;have hRd3:Rx W3 R A V (t.bits (k+1)):=hRd2.of_blocks (fun b hb=>hk3 b (by omega));refine⟨?_,World.putObj_heap_same (Array.getElem?_eq_some_iff.1 hl3).1,fun b hb=>World.putObj_heap_other hb,hRd3.put _ _ (by omega)⟩;rw[hr3,hrec]
   rintro e a3 W3 hp;cases e with
   | normal=>
    obtain⟨hk3,hi3⟩:=hp;obtain⟨hr,hl4,ho4,hRd4⟩:=fin none W3 hk3;refine⟨_,_,hr,.inl ⟨rfl,⟨hI _ _ _ hi3 (Loc.put W3 _ _ (by omega)),?_,?_,?_,hl4⟩,hRd4⟩⟩
    ·rw[ho4 NB (by omega),hk3 NB (by simp),hoth NB (by omega)];exact h2
    ·rw[ho4 RB (by omega),hk3 RB (by simp),hoth RB (by omega)];exact h3
    ·rw[ho4 _ (by omega),hk3 _ (by simp),hoth _ (by omega)];exact h4
   | ret=>
    obtain⟨hk3,hi3⟩:=hp;obtain⟨hr,hl4,ho4,hRd4⟩:=fin (some .ret) W3 hk3;exact⟨_,_,hr,.inr ⟨rfl,⟨.ret,hIx _ _ _ _ hi3 (Loc.put W3 _ _ (by omega)),by rw[ho4 _ (by omega),hk3 _ (by simp),hoth _ (by omega)];exact h4,hl4⟩,hRd4⟩⟩
   | exit id=>
    obtain⟨hk3,hi3⟩:=hp;obtain⟨hr,hl4,ho4,hRd4⟩:=fin (some (.exit id)) W3 hk3;exact⟨_,_,hr,.inr ⟨rfl,⟨.exit id,hIx _ _ _ _ hi3 (Loc.put W3 _ _ (by omega)),by rw[ho4 _ (by omega),hk3 _ (by simp),hoth _ (by omega)];exact h4,hl4⟩,hRd4⟩⟩
   | goto t=>exact hp.elim
   | panic ch=>exact hp.elim
   | outgrown=>exact hp.elim
  ·exact⟨hI 0 w W1 h0 hloc1,by rw[hold NB hlNB];exact hNB,by rw[hold RB hlRB];exact hRB,hD1,hL1⟩
  ·rintro e W2 (⟨v,rfl,(⟨hnb,⟨hi,_,_,hd,hl⟩,hRd⟩|⟨k,hk,hkb,⟨c,hi,hd,hl⟩,hRd⟩)⟩|⟨k,y,hk,rfl,hst,⟨hi,_,_,hd,hl⟩⟩)
   ·refine⟨none,_,by have:=run_endLoop (P:=Tryz.prog) hl (by rw[hrec];simp);rw[hrec] at this;exact this,?_⟩;exact hdone _ hnb (hI _ _ _ hi (Loc.put W2 _ _ (by omega))) (hRd.put _ _ (by omega)) ((World.putObj_heap_other (by omega)).trans hd)
   ·refine⟨some c,_,by have:=run_endLoop (P:=Tryz.prog) hl (by rw[hrec];simp);rw[hrec] at this;exact this,?_⟩;exact hstop c k _ (hIx _ _ _ _ hi (Loc.put W2 _ _ (by omega))) hk hkb (hRd.put _ _ (by omega)) ((World.putObj_heap_other (by omega)).trans hd)
   ·exact hpanic k y W2 hi hk hst hd
end
section
open Go.RowKit Go.Shelf
attribute [local go_sem] Oper.semAt_some
theorem or_bitw (x b i:Nat) (hx:x<2^i) (hi:i<=32) (hb:b<2):bits .or .i64 (x:Int) (IntKind.i64.wrap ((b:Int)*2^i))=((x+b*2^i:Nat):Int):=by
 have hp:2^i<=2^32:=Nat.pow_le_pow_right (by decide) hi;have hb2:b*2^i<=1*2^i:=Nat.mul_le_mul_right _ (by omega);have e:(b:Int)*2^i=((b*2^i:Nat):Int):=by simp
 rw[e,wraps_i64 _ (by omega) (by omega),or_bit x b i hx hi hb]
set_option maxRecDepth 100000 in
set_option maxHeartbeats 2000000 in
theorem number_in (w:World) (R A:Nat) (V:Ux) (t:St) (n:Nat) (mi:Int) (hmi:mi=(n:Int)) (hR:Rx w R A V t) (hn:n<=16) :
  CallsIn Fence.wide 9 Tryz.prog 134 #[.pointer (some ⟨R,0,none⟩),.int .i64 mi] w (PostX R A V w (fun (x:Nat) v _=>v=.int .i64 (x:Int)) (numX V n t)):=by
 subst hmi;have hlR:=hR.ltR;have hlA:=hR.ltA;have hlB:=hR.lt;have hkk:=hR.hp;refine callsIn_of_wp_marks Tryz.func134 rfl trivial ?_ rfl;simp only[Tryz.ntmps134,List.size_toArray,List.length_cons,List.length_nil,Nat.reduceAdd,Nat.reduceSub,Array.replicate_succ,Array.replicate_zero,List.push_toArray,List.append_toArray,List.nil_append,List.cons_append]
 gi_wp2_with fail
 refine⟨trivial,(callsIn_wide.2 (rnext_any _ R (n:Int))).mono ?_⟩;rintro e w1 ⟨rfl,hw1⟩;have hF1:Fxr R A V.B w w1:=by rw[← hw1];exact ((Fxr.alloc R A V.B w _).trans (Fxr.alloc R A V.B _ _)).trans (Fxr.alloc R A V.B _ _)
 have hR1:Rx w1 R A V t:=by rw[← hw1];exact ((hR.alloc _).alloc _).alloc _
 have hsz:w1.heap.size=w.heap.size+3:=by rw[← hw1];simp
 have hV1:w1.heap[w.heap.size]?=some (.cells #[.int .i64 0] 3 (0,0)):=by
  rw[← hw1,Below.heap_alloc _ _ _ (by simp;omega),Below.heap_alloc _ _ _ (by simp)];exact World.alloc_heap_new _ _
 have hRB1:w1.heap[w.heap.size+1]?=some (.cells #[.pointer (some ⟨R,0,none⟩)] 179 (0,0)):=by
  rw[← hw1,Below.heap_alloc _ _ _ (by simp)];have:=World.alloc_heap_new (w.alloc (.cells #[.int .i64 0] 3)) (.cells #[.pointer (some ⟨R,0,none⟩)] 179);rwa [World.size_alloc] at this
 have hNB1:w1.heap[w.heap.size+2]?=some (.cells #[.int .i64 (n:Int)] 3 (0,0)):=by
  rw[← hw1];have:=World.alloc_heap_new ((w.alloc (.cells #[.int .i64 0] 3)).alloc (.cells #[.pointer (some ⟨R,0,none⟩)] 179)) (.cells #[.int .i64 (n:Int)] 3);rwa [World.size_alloc,World.size_alloc] at this
 have HSZ:Hid (w1.heap.size=w.heap.size+3):=hsz;have e2:(w.alloc (.cells #[.int .i64 0] 3)).heap.size=w.heap.size+1:=by simp
 rw[e2];clear hw1 hsz e2
 gi_wp2_with fail
 have hsz:w1.heap.size=w.heap.size+3:=HSZ
 refine range_next (by omega) (w.heap.size+1+1) (w.heap.size+1) R A V t n (by omega) rfl rfl hR1 hNB1 hRB1 (by omega)
  (fun k W=>W.heap[w.heap.size]?=some (.cells #[.int .i64 (numOf V.s t.k k:Int)] 3 (0,0))/\Fxr R A V.B w W) (fun _ _ _=>False)
  ?cI (fun _ _ _ _ h _=>h.elim) ⟨hV1,hF1⟩
  (fun k b=>{ tmps:=#[.pointer (some ⟨R,0,none⟩),.int .i64 (n:Int),undef,undef,.int .i64 0,.pointer (some ⟨w.heap.size,0,none⟩),.int .i64 (k:Int),.int .i64 (b:Int),.pointer (some ⟨R,0,none⟩),.int .i64 (n:Int),.func (.func 173) #[] #[.pointer (some ⟨w.heap.size+1+1,0,none⟩),.pointer (some ⟨w.heap.size+1,0,none⟩)],.int .i64 (k:Int),.int .i64 (b:Int),undef,undef,undef,undef,undef,undef],defers:=[] })
  ?assign ?body ?done ?stop ?panic
 case cI=>
  rintro k W W' ⟨h1,h2⟩ hl;refine⟨by rw[hl.block _ (by omega) (by omega) (by omega) (by omega)];exact h1,?_⟩;exact⟨hl.os.trans h2.os,hl.tape.trans h2.tape,hl.output.trans h2.output,Nat.le_trans h2.size hl.size,fun b hb h3 h4 h5=>(hl.block b (by omega) h3 h4 h5).trans (h2.block b hb h3 h4 h5)⟩
 case assign=>
  intro l k b W K hK
  gi_wp2
  exact hK
 case body=>
  rintro l k W ⟨hV,hF⟩ hRk hk hkb;have hcv:W.cell? ⟨w.heap.size,0,none⟩=some (.int .i64 (numOf V.s t.k k:Int)):=by simp[World.cell?,hV]
  have hfv:W.frozen? ⟨w.heap.size,0,none⟩=false:=by simp[World.frozen?,hV]
  have hmix:Tryz.prog.follows .mixedOrders=true:=by kernel_rfl
  have hor:=or_bitw (numOf V.s t.k k) (bitOf V.s (t.k+k)) k (numOf_lt V.s t.k k) (by omega) (bitOf_lt _ _);have hnum:numOf V.s t.k (k+1)=numOf V.s t.k k+bitOf V.s (t.k+k)*2^k:=rfl;have HN:Hid (numOf V.s t.k (k+1)=numOf V.s t.k k+bitOf V.s (t.k+k)*2^k):=hnum;clear hnum
  gi_wp2
  gi_region_with_o (fail)
  all_goals
   gi_wp2
   refine⟨fun b hb=>?_,?_,?_⟩
   ·exact Below.heap_setCell _ _ _ _ (by show b≠w.heap.size;omega)
   ·have:=heap_setCell_same W w.heap.size 0 _ _ (.int .i64 ((numOf V.s t.k k+bitOf V.s (t.k+k)*2^k:Nat):Int)) hV;rw[← HN.out] at this;simpa[HN.out,heap_drew] using this
   ·exact (hF.set _ _ _ (Nat.le_refl _)).trans (Fxr.drew R A V.B _)
 case done=>
  rintro W hnb ⟨hV,hF⟩ hRn hD
  have HK:Hid (numX V n t=.ok (numOf V.s t.k n) (t.bits n)):=by
   show numX V n t=_;unfold numX;rw[if_pos ⟨hnb,by have:=hRn.hp;rw[St.bits_k] at this;exact this⟩]
  have hcv:W.cell? ⟨w.heap.size,0,none⟩=some (.int .i64 (numOf V.s t.k n:Int)):=by simp[World.cell?,hV]
  gi_wp2
  refine⟨by simp,.inl ⟨_,_,rfl,run_takeDeferred hD,?_⟩⟩;refine⟨_,results_tmp rfl _ _ _,?_⟩;exact PostX.ok (unh HK) rfl (hRn.put _ _ (by omega)) (hF.put _ _ (by omega))
 case stop=>rintro _ _ _ h;exact h.elim
 case panic=>
  rintro k y W ⟨hV,hF⟩ hk hst hD
  have HK:Hid (numX V n t=.no y):=by
   show numX V n t=_;unfold numX
   rcases hst with⟨h1,h2,rfl⟩|⟨h1,h2,rfl⟩
   ·rw[if_neg (by omega)]
    by_cases hc:t.b<=8*V.s.size-t.k
    ·rw[if_pos hc]
    ·omega
   ·rw[if_neg (show ¬ (n<=t.b/\t.k+n<=8*V.s.size) by omega),if_neg (show ¬ t.b<=8*V.s.size-t.k by omega)]
  refine⟨by simp,.inl ⟨_,_,rfl,run_takeDeferred hD,?_⟩⟩;unfold LeavesInM LeavesIn;refine PostX.no (unh HK) ?_;exact hF.put _ _ (by omega)
theorem rnum_any (w:World) (R A:Nat) (V:Ux) (t:St) (n:Nat) (mi:Int) (hmi:mi=(n:Int)) (hR:Rx w R A V t) (hn:n<=16) :
  Calls Tryz.prog 134 #[.pointer (some ⟨R,0,none⟩),.int .i64 mi] w (PostX R A V w (fun (x:Nat) v _=>v=.int .i64 (x:Int)) (numX V n t)):=callsIn_wide.1 (number_in w R A V t n mi hmi hR hn)
end
section
open Go.RowKit
theorem mask32 (c:Nat) (hc:c<=400):bits .and .u64 (c:Int) 4294967295=(c:Int):=by
 have h:=bits_and_u64_nat c 4294967295 (by omega) (by omega);have e:c &&& 4294967295=c%4294967296:=Nat.and_two_pow_sub_one_eq_mod c 32;rw[e,Nat.mod_eq_of_lt (by omega)] at h;exact h
set_option maxHeartbeats 1000000 in
set_option maxRecDepth 100000 in
theorem mul64_one (w:World) (c:Nat) (hc:c<=400) :
  Calls Tryz.prog 223 #[.int .u64 1,.int .u64 (c:Int)] w fun e w'=>e=.returned (.tuple #[.int .u64 0,.int .u64 (c:Int)])/\w=w':=by
 have h1:=mask32 c hc;have h2:(c:Int)/4294967296=0:=by omega
 have h3:bits .and .u64 1 4294967295=1:=mask32 1 (by omega);have h4:bits .and .u64 0 4294967295=0:=mask32 0 (by omega)
 go_enter Tryz.func223,Tryz.ntmps223
 go_wp2_with fail
 go_ret2
 exact⟨rfl,rfl⟩
set_option maxHeartbeats 1000000 in
set_option maxRecDepth 100000 in
theorem mul_one' (w:World) (c:Nat) (hc:c<=400) :
  Calls Tryz.prog 200 #[.int .u64 1,.int .u64 (c:Int)] w fun e w'=>e=.returned (.tuple #[.int .u64 0,.int .u64 (c:Int)])/\w=w':=by
 go_enter Tryz.func200,Tryz.ntmps200
 go_wp2_with (go_at_call 223;refine (mul64_one _ c hc).mono ?_;rintro e w1 ⟨rfl,rfl⟩)
 go_ret2
 exact⟨rfl,rfl⟩
end
section
open Go.RowKit Go.Shelf
attribute [local go_sem] Oper.semAt_some
theorem cnt_le (n:Nat) (l:List Nat):cnt n l<=l.length:=by
 unfold cnt idxs;exact Nat.le_trans (List.length_filter_le _ _) (by simp)
theorem kraftTo_le (l:List Nat) (hl:l.length<=400):∀ n,n<=15->kraftTo l n<=n*(400*16384)
 | 0,_=>by simp[kraftTo]
 | n+1,h=>by
  have:=kraftTo_le l hl n (by omega);have hc:=cnt_le (n+1) l;have hp:2^(14-n)<=2^14:=Nat.pow_le_pow_right (by decide) (by omega);have:cnt (n+1) l*2^(14-n)<=400*2^14:=Nat.mul_le_mul (by omega) hp;simp only[kraftTo];omega
theorem kraft_step (l:List Nat) (k:Nat) (hl:l.length<=400) (hk:k<15):wrap64 ((kraftTo l k:Int)+wrap64 ((cnt (k+1) l:Int)*2^(14-k)))=(kraftTo l (k+1):Int):=by
 have hb:=kraftTo_le l hl k (by omega);have hc:=cnt_le (k+1) l;have hp:2^(14-k)<=2^14:=Nat.pow_le_pow_right (by decide) (by omega);have hm:cnt (k+1) l*2^(14-k)<=400*2^14:=Nat.mul_le_mul (by omega) hp;have e:(cnt (k+1) l:Int)*2^(14-k)=((cnt (k+1) l*2^(14-k):Nat):Int):=by simp
 rw[e,wrap64_id ((cnt (k+1) l*2^(14-k):Nat):Int) (by omega) (by omega),wrap64_id _ (by omega) (by omega)];simp only[kraftTo];omega
def isAgg:TypeDesc->Bool
 | .struct _=>true
 | .array _ _=>true
 | _=>false
theorem structured {P:Program}{ty:TypeId}(h:(P.underlying ty).map isAgg=some true):∃ d,P.underlying ty=some d/\isAgg d=true:=by
 cases e:P.underlying ty with
 | none=>rw[e] at h;cases h
 | some d=>rw[e] at h;exact⟨d,rfl,by simpa using h⟩
theorem load_whole {P:Program}{ops:Array Oper}{rest:List Oper}{o:Oper}{a:Act}{w:World}{Q:Exit->Act->World->Prop}(hgd:o.guard=none) (ty:TypeId) (x:Operand) (ho:o.op=.load ty x)
  (g:Nat) (hx:a.eval x=.pointer (some ⟨g,0,none⟩)) (t:TypeId) (cs:Array Value) (fr:Nat×Nat) (hg:w.heap[g]?=some (.cells cs t fr))
  (hu:(P.underlying ty).map isAgg=some true) (hi:(P.info? ty).map (·.size)=some cs.size)
  (h:wpList P ops Q rest (a.put o.dst (.agg cs)) w):wpList P ops Q (o::rest) a w:=by
 obtain⟨d,h1,h2⟩:=structured hu;refine wpList_load_row hgd ty x ho g hx t cs fr d hg h1 ?_ hi h;cases d <;> first | rfl | cases h2
theorem start_mono (l:List Nat):∀ {n m:Nat},1<=n->n<=m->start l n<=start l m
 | n,0,h1,h2=>by omega
 | n,m+1,h1,h2=>by
  by_cases e:n=m+1
  ·subst e;exact Nat.le_refl _
  ·have:=start_mono l h1 (show n<=m by omega);cases m with
   | zero=>omega
   | succ m=>simp only[start];omega
theorem start_succ (l:List Nat) {n:Nat}(h:1<=n):start l (n+1)=start l n+cnt n l:=by
 cases n with
 | zero=>omega
 | succ n=>rfl
theorem start_used (l:List Nat) {n a:Nat}(h1:1<=n) (h2:n<=15) (ha:a<cnt n l):start l n+a<used l:=by
 have:=start_mono l (show 1<=n+1 by omega) (show n+1<=16 by omega);rw[start_succ l h1] at this;unfold used;omega
theorem start_le (l:List Nat):∀ n,start l n<=n*l.length
 | 0=>by simp[start]
 | 1=>by simp[start]
 | n+2=>by
  have h1:=start_le l (n+1);have h2:=cnt_le (n+1) l;simp only[start,Nat.add_mul] at *;omega
def idxsTo (n:Nat) (l:List Nat) (i:Nat):List Nat:=(List.range i).filter (fun j=>l.getD j 0==n)
theorem idxsTo_all (n:Nat) (l:List Nat):idxsTo n l l.length=idxs n l:=rfl
theorem idxsTo_hit {n i:Nat}{l:List Nat}(h:l.getD i 0=n):idxsTo n l (i+1)=idxsTo n l i++[i]:=by
 unfold idxsTo;rw[List.range_succ,List.filter_append];simp only[List.filter_cons,List.filter_nil,h];simp
theorem idxsTo_miss {n i:Nat}{l:List Nat}(h:¬ l.getD i 0=n):idxsTo n l (i+1)=idxsTo n l i:=by
 unfold idxsTo;rw[List.range_succ,List.filter_append];have e:(l.getD i 0==n)=false:=by simpa using h
 simp only[List.filter_cons,List.filter_nil,e];simp
theorem idxsTo_le (n:Nat) (l:List Nat) (i:Nat):(idxsTo n l i).length<=i:=by
 unfold idxsTo;exact Nat.le_trans (List.length_filter_le _ _) (by simp)
def intV (n:Nat):Value:=.int .i64 (n:Int)
def RowI (w:World) (base:Nat) (o:Value) (xs:List Nat):Prop:=w.ownsRow base 3 1 o xs.length (xs.map intV)
theorem RowI.shape {w:World}{base:Nat}{o:Value}{xs:List Nat}(h:RowI w base o xs):∃ a cap,o=.slice a xs.length cap:=by
 rcases h.2 with⟨e,hn⟩|⟨g,cap,_,e,_⟩
 ·exact⟨none,0,by rw[hn];exact e⟩
 ·exact⟨_,_,e⟩
theorem RowI.kept {w w':World}{base:Nat}{o:Value}{xs:List Nat}{r:Option Nat}(h:RowI w base o xs) (hg:w.grownBy w' r) (hne:o.ownBlock=none\/o.ownBlock≠r):RowI w' base o xs:=
 World.ownsRow.kept h hg hne
theorem RowI.ne {w:World}{base B:Nat}{o:Value}{xs:List Nat}(h:RowI w base o xs) (hb:B<base):o.ownBlock≠some B:=by
 intro e;have:=World.ownsRow.lt h B e;omega
theorem Tryz.underlying52:Tryz.prog.underlying 52=some (.slice 3):=by kernel_rfl
theorem Tryz.info3:(Tryz.prog.info? 3).map (fun i=>(i.zero,i.size,i.bytes))=some (some (.int .i64 0),1,8):=by kernel_rfl
def nth (l:List Nat) (i:Nat):Nat:=l.getD i 0
def Nums (w:World) (g off:Nat) (l:List Nat):Prop:=g<w.heap.size/\∀ i,i<l.length->w.cell? ⟨g,off+i,none⟩=some (.int .i64 (nth l i:Int))
theorem Nums.below {w w':World}{g off:Nat}{l:List Nat}(h:Nums w g off l) (hb:Below w.heap.size w w'):Nums w' g off l:=
 ⟨Nat.lt_of_lt_of_le h.1 hb.size,fun i hi=>(hb.cell (p:=⟨g,off+i,none⟩) h.1).trans (h.2 i hi)⟩
theorem grownBy_setRow (w:World) (g:Nat) (cs:Array Value):w.grownBy (w.setRow g cs) (some g):=
 ⟨rfl,rfl,rfl,by simp,fun k _ hk=>setRow_other w g k _ (fun e=>hk (by rw[e]))⟩
theorem RowI.nums {w:World}{base:Nat}{v:Value}{xs:List Nat}(h:RowI w base v xs) (hx:0<xs.length):∃ g cap,v=.slice (some ⟨g,0,none⟩) xs.length cap/\base<=g/\Nums w g 0 xs:=by
 rcases h.2 with⟨e,hn⟩|⟨g,cap,cur,e,hb,hg,hc,_,_,ht⟩
 ·omega
 ·refine⟨g,cap,e,hb,(Array.getElem?_eq_some_iff.1 hg).1,fun i hi=>?_⟩
  have:=World.ownsRow.cells h (g:=g) (by rw[e];rfl) i (intV (nth xs i)) (by
   rw[List.getElem?_map,List.getElem?_eq_getElem hi];unfold nth;rw[List.getD_eq_getElem?_getD,List.getElem?_eq_getElem hi];rfl)
  have hadd:(⟨g,0,none⟩:Addr).add i=⟨g,0+i,none⟩:=by unfold Addr.add;split <;> simp_all
  rw[hadd] at this;exact this
theorem hide {p:Prop}(h:p):Hid p:=h
theorem unhide {p:Prop}(h:Hid p):p:=h
def Tab (w:World) (G:Nat) (T:List Nat):Prop:=∀ i,i<T.length->w.cell? ⟨G,i,none⟩=some (.int .i64 (nth T i:Int))
theorem extra_le (k:Nat):nth extraT k<=5:=by
 by_cases h:k<29
 ·revert k;decide
 ·unfold nth;rw[List.getD_eq_getElem?_getD,List.getElem?_eq_none (by simp[extraT];omega)];simp
theorem base_le (k:Nat):nth baseT k<=258:=by
 by_cases h:k<29
 ·revert k;decide
 ·unfold nth;rw[List.getD_eq_getElem?_getD,List.getElem?_eq_none (by simp[baseT];omega)];simp
theorem far_le (k:Nat):nth farT k<=24577:=by
 by_cases h:k<30
 ·revert k;decide
 ·unfold nth;rw[List.getD_eq_getElem?_getD,List.getElem?_eq_none (by simp[farT];omega)];simp
theorem far_pos (k:Nat) (h:k<30):1<=nth farT k:=by revert k;decide
theorem Row8.cellAt {w:World}{base:Nat}{o:Value}{out:List UInt8}(h:Row8 w base o out) {j:Nat}(hj:j<out.length):∃ g cap,o=.slice (some ⟨g,0,none⟩) out.length cap/\w.cell? ⟨g,j,none⟩=some (byteV (out.getD j 0)):=by
 rcases h.2 with⟨e,hn⟩|⟨g,cap,cur,e,hb,hg,hc,_,_,ht⟩
 ·omega
 ·refine⟨g,cap,e,?_⟩
  have:=World.ownsRow.cells h (g:=g) (by rw[e];rfl) j (byteV (out.getD j 0)) (by
   rw[List.getElem?_map,List.getElem?_eq_getElem hj,List.getD_eq_getElem?_getD,List.getElem?_eq_getElem hj];rfl)
  have hadd:(⟨g,0,none⟩:Addr).add j=⟨g,j,none⟩:=by unfold Addr.add;split <;> simp_all
  rw[hadd] at this;exact this
end
end Go.Proofs.YtgffljllfenhkaaGreatDoor
