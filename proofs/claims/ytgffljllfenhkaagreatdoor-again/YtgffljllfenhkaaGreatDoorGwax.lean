import Derived.Test.YtgffljllfenhkaaGreatDoorProg
import Derived.RangeFuncRecord
import Derived.RangeFuncCalls
import Derived.Test.YtgffljllfenhkaaGreatDoorGwaw
namespace Go.Proofs.YtgffljllfenhkaaGreatDoor
section
def roundPostP (P:Program) (l:Nat) (R:Ending->World->Prop):Exit->Act->World->Prop
 | .normal,_,w=>∃ v w',(Instr.endRound l none).run P w=.ok v w'/\R (.returned v) w'
 | .panic chain,a,w=>a.defers=[]/\R (.panicked chain) w
 | _,_,_=>False
theorem roundIn_panics {P:Program}{n l:Nat}{f:FuncId}{fn:Func}{tmps:Array Value}{assign body:Code}{w:World}{R:Ending->World->Prop}(hf:P.funcs[f]?=some fn)
  (h:assign.wpIn (Fence.wide.inRound l) n P (Exit.then (fun a₁ w₁=>∃ w₂,(Instr.beginRound l).run P w₁=.ok () w₂/\body.wpIn (Fence.wide.inRound l) n P (roundPostP P l R) a₁ w₂) (fun _ _ _=>False))
   { tmps:=tmps,defers:=[] } w) :
  RoundIn Fence.wide n P l f tmps assign body w R:=by
 refine⟨trivial,fun c cs hr=>?_⟩
 let b:Frame:={ (default:Frame) with fn:=f,kind:=.normal,roundOf:=some l }
 have hb0:Frame.round l f tmps assign body .normal=b.atR { tmps:=tmps,defers:=[] } [.code assign,.beginRound,.code body]:=by
  simp[Frame.round,Frame.atR,b]
 have hr':(Fence.wide.inRound l).room ((c::cs).length+1+n):=hr;have hF':(Fence.wide.inRound l).fn b.fn:=trivial;obtain⟨e,a₁,w₁,hq,harr⟩:=h b [.beginRound,.code body] (c::cs) rfl hF' hr';rw[← hb0] at harr;cases e with
 | normal=>
  obtain⟨w₂,hbr,hbody⟩:=hq
  have s1:StepsIn (Machine.fenced P (Fence.wide.inRound l)) P (lone (b.atR a₁ [.beginRound,.code body]) (c::cs) w₁) (lone (b.atR a₁ [.code body]) (c::cs) w₂):=
   .one (fenced_calm (fr:=b.atR a₁ [.beginRound,.code body]) hF' hr' rfl) (stepR_beginRound rfl hbr)
  obtain⟨e₂,a₂,w₃,hq₂,harr₂⟩:=hbody b [] (c::cs) rfl hF' hr';cases e₂ with
  | normal=>
   obtain⟨v,w₄,hend,hR⟩:=hq₂;exact⟨.returned v,w₄,hR,(StepsIn.trans harr s1).trans (StepsIn.trans harr₂ (.one (fenced_calm (fr:=b.atR a₂ []) hF' hr' rfl) (stepR_round_end rfl rfl hend)))⟩
  | panic chain=>
   obtain⟨hd,hR⟩:=hq₂;obtain⟨todo,hs⟩:=harr₂;have hl:Frame.leaving P { b.atR a₂ todo with mode:=.panicking chain } w₃ (.panicked chain):=⟨rfl,hd,fn,hf⟩;refine⟨.panicked chain,w₃,hR,(StepsIn.trans harr s1).trans (StepsIn.trans hs (.one (fenced_leaving (F:=Fence.wide) (n:=n) trivial (by exact hr) hl) (step_leave_panicked hl)))⟩
  | ret=>exact hq₂.elim
  | exit id=>exact hq₂.elim
  | goto t=>exact hq₂.elim
  | outgrown=>exact hq₂.elim
 | exit id=>exact hq.elim
 | goto t=>exact hq.elim
 | ret=>exact hq.elim
 | panic chain=>exact hq.elim
 | outgrown=>exact hq.elim
def wpF (f:FuncId) (P:Program) (c:Code) (Q:Exit->Act->World->Prop) (a:Act) (w:World):Prop:=
 ∀ (b:Frame) (k:List Item) (cs:List Frame),b.roundOf=none->b.fn=f ->
  ∃ e a' w',Q e a' w'/\ArrivesIn (Machine.fenced P Fence.wide) P (lone (b.atR a (.code c::k)) cs w) b k cs e a' w'
section
variable {f:FuncId}{P:Program}{Q Q':Exit->Act->World->Prop}{a:Act}{w:World}{n:Nat}
theorem wpF_of {c:Code}(h:c.wpIn Fence.wide n P Q a w):wpF f P c Q a w:=
 fun b k cs hro _=>h b k cs hro trivial (room_wide _)
theorem wpF_seq {x y:Code}(h:wpF f P x (Exit.then (wpF f P y Q) Q) a w):wpF f P (Code.seq x y) Q a w:=by
 intro b k cs hro hb;have h0:(lone (b.atR a (.code (.seq x y)::k)) cs w).fenced P Fence.wide:=fenced_wide _ _;obtain⟨e,a₁,w₁,hq,harr⟩:=h b (.code y::k) cs hro hb;cases e with
 | normal=>
  obtain⟨e₂,a₂,w₂,hq₂,harr₂⟩:=hq b k cs hro hb;exact⟨e₂,a₂,w₂,hq₂,.of_steps (.head h0 stepR_seq harr) harr₂⟩
 | exit id=>exact⟨_,a₁,w₁,hq,.of_steps (.one h0 stepR_seq) (.pass (x:=.code y) rfl (fun _ _=>.inl (by simp)) harr)⟩
 | goto l=>exact⟨_,a₁,w₁,hq,.of_steps (.one h0 stepR_seq) (.pass (x:=.code y) rfl (fun _ _=>.inl (by simp)) harr)⟩
 | ret=>exact⟨_,a₁,w₁,hq,.of_steps (.one h0 stepR_seq) (.pass (x:=.code y) rfl (fun _ _=>.inl (by simp)) harr)⟩
 | panic ch=>exact⟨_,a₁,w₁,hq,.of_steps (.one h0 stepR_seq) (.pass (x:=.code y) rfl (fun _ _=>.inl (by simp)) harr)⟩
 | outgrown=>exact⟨_,a₁,w₁,hq,.of_steps (.one h0 stepR_seq) (.pass (x:=.code y) rfl (fun _ _=>.inl (by simp)) harr)⟩
def rangePostF (P:Program) (l:Nat) (Q:Exit->Act->World->Prop) (a':Act):Ending->World->Prop
 | .returned _,w₃=>∃ w₄,(Instr.endLoop l).run P w₃=.ok none w₄/\Q .normal a' w₄
 | .panicked chain,w₃=>Q (.panic chain) a' w₃
 | .outgrown,_=>False
theorem wpF_range {g:Operand}{ps:Array Tmp}{assign body:Code}
  {l:Nat} {mark:List Deferred} {w₁:World} {d:Deferred} {w₁':World} {f':FuncId} {args:Array Value} {w₂:World}
  (he:(Instr.enterLoop f a.tmps ps assign body none).run P w=.ok (l,mark) w₁)
  (hres:(resolve a.eval (rangeCall g l) 0).run P w₁=.ok d w₁')
  (hinv:(invoke d.target d.args).run P w₁'=.ok (.enter f' args) w₂)
  (hcall:CallsIn Fence.wide n P f' args w₂ (rangePostF P l Q { a with defers:=mark++a.defers })) :
  wpF f P (Code.rangeFunc g ps assign body) Q a w:=by
 intro b k cs hro hb;subst hb;have h0:(lone (b.atR a (.code (.rangeFunc g ps assign body)::k)) cs w).fenced P Fence.wide:=fenced_wide _ _;rw[← hro] at he;have henter:=stepR_rangeFunc (P:=P) (b:=b) (a:=a) (k:=k) (cs:=cs) (w:=w) he hres hinv;obtain⟨e,w₃,fr,hR,hsteps,hfn,hleave⟩:=hcall.2 (b.atR { a with defers:=mark++a.defers } (.inRangeFunc l::k)::cs) (room_wide _);cases e with
 | outgrown=>exact hR.elim
 | returned v=>
  obtain⟨w₄,hend,hj⟩:=hR;refine⟨.normal,_,w₄,hj,.head h0 henter (StepsIn.trans hsteps (.head (fenced_wide _ _) ?_ (.one (fenced_wide _ _) (stepR_endRangeFunc hend))))⟩;rw[← finish_atR_inRangeFunc l v];exact step_leave_returned hleave
 | panicked chain=>
  refine⟨.panic chain,_,w₃,hR,.inRangeFunc l::k,.head h0 henter (StepsIn.trans hsteps (.one (fenced_wide _ _) ?_))⟩;rw[← Frame.raise_atR];exact step_leave_panicked hleave
theorem callsIn_of_wpF {fn:Func}{c:Code}{args:Array Value}{R:Ending->World->Prop}
  (hf:P.funcs[f]?=some fn) (hb:fn.body=some c)
  (h:wpF f P c (bodyPostM Fence.wide n P fn R) { tmps:=args++Array.replicate (fn.ntmps-args.size) undef,defers:=[] } w):CallsIn Fence.wide n P f args w R:=by
 refine⟨trivial,fun cs hr=>?_⟩
 let b:Frame:={ (default:Frame) with fn:=f,kind:=.normal,roundOf:=none }
 have henter:Frame.enter P f args .normal =
   b.atR { tmps:=args++Array.replicate (fn.ntmps-args.size) undef,defers:=[] } [.code c]:=by
  simp[Frame.enter,Frame.atR,hf,hb,b]
 obtain⟨e,a',w',hq,harr⟩:=h b [] cs rfl rfl;rw[← henter] at harr;cases e with
 | normal=>
  obtain⟨e',w'',fr',hR,hs,hfn,hl⟩:=leaves_stepsInM a'.defers .returning w' { b.atR a' [] with mode:=.returning } cs rfl rfl rfl hf rfl trivial hr hq;exact⟨e',w'',fr',hR,ComesIn.of_steps (StepsIn.trans harr (.one (fenced_calm (F:=Fence.wide) (fr:=b.atR a' []) trivial hr rfl) (stepR_end rfl))) hs,hfn,hl⟩
 | ret=>
  obtain⟨todo,hs₀⟩:=harr.1 rfl;obtain⟨e',w'',fr',hR,hs,hfn,hl⟩:=leaves_stepsInM a'.defers .returning w' { b.atR a' todo with mode:=.returning } cs rfl rfl rfl hf rfl trivial hr hq;exact⟨e',w'',fr',hR,ComesIn.of_steps hs₀ hs,hfn,hl⟩
 | panic chain=>
  obtain⟨todo,hs₀⟩:=harr;obtain⟨e',w'',fr',hR,hs,hfn,hl⟩:=leaves_stepsInM a'.defers (.panicking chain) w' { b.atR a' todo with mode:=.panicking chain } cs rfl rfl rfl hf rfl trivial hr hq;exact⟨e',w'',fr',hR,ComesIn.of_steps hs₀ hs,hfn,hl⟩
 | exit id=>exact hq.elim
 | goto l=>exact hq.elim
 | outgrown=>exact⟨.outgrown,w',b,hq,harr.resolve_left (by simp[b]),rfl,trivial⟩
end
end
section
open Go.RowKit
attribute [local go_sem] Oper.semAt_some
variable {w w0 w':World}{B D DV OL NV M base lo at_ root:Nat}{pl:List Nat}{slp slo:Value}{os:List Obj1}{xs:List Value}{S S':Nat->Prop}
def OldsLt (K:Nat) (olds:List Nat):Prop:=olds.Nodup/\∀ n ∈ olds,n<K
theorem OldsLt.ok {K:Nat}{olds:List Nat}(h:OldsLt K olds) (hK:K<=40):OldsOk olds:=⟨h.1,fun n hn=>by have:=h.2 n hn;omega⟩
theorem OldsLt.len {K:Nat}{olds:List Nat}(h:OldsLt K olds):olds.length<=K:=few K olds h.1 h.2
theorem idx_lt:∀ {olds:List Nat}{a i:Nat},idx olds a=some i->i<olds.length
 | [],_,_,h=>by simp[idx] at h
 | x::l,a,i,h=>by
  simp only[idx] at h;split at h
  ·cases h;simp
  ·rcases hq:idx l a with _|j
   ·rw[hq] at h;cases h
   ·rw[hq] at h;have:=idx_lt hq;simp at h;simp;omega
theorem numR_lt {K:Nat}{olds olds':List Nat}{old b m b':Nat}(h:numR olds old b=.ok (m,olds') b') (ho:OldsLt K olds) (hold:old<K):OldsLt K olds'/\m<=olds.length+1:=by
 unfold numR at h;split at h
 ·cases h
 ·split at h
  ·rename_i hi;have:=idx_lt hi;cases h;exact⟨ho,by omega⟩
  ·rename_i hi;cases h;have hni:=idx_none hi;refine⟨⟨List.nodup_append.2 ⟨ho.1,by simp,fun a ha c hc=>?_⟩,fun n hn=>?_⟩,Nat.le_refl _⟩
   ·have:c=old:=by simpa using hc
    rw[this];exact fun e=>hni (e ▸ ha)
   ·rcases List.mem_append.1 hn with h1|h1
    ·exact ho.2 n h1
    ·have:n=old:=by simpa using h1
     omega
def leafLt (K:Nat) (v:Val):Prop:=∀ n,v=.ref n->n<K
theorem renLeaf_lt {K:Nat}(hK:K<=40) {olds olds':List Nat}{b b':Nat}{v v':Val}(h:renLeaf olds v b=.ok (v',olds') b') (ho:OldsLt K olds) (hl:leafOk v) (hr:leafLt K v):OldsLt K olds'/\leafOk v':=by
 cases v
 case ref n=>
  simp only[renLeaf] at h
  rcases hq:numR olds n b with⟨⟨m,o2⟩,b2⟩|y
  ·rw[hq] at h;simp only[Res.ok.injEq,Prod.mk.injEq] at h;obtain⟨h1,h2⟩:=numR_lt hq ho (hr n rfl);have:=ho.len;rw[← h.1.2,← h.1.1];exact⟨h1,by show m<=80000;omega⟩
  ·rw[hq] at h;cases h
 all_goals (simp only[renLeaf,Res.ok.injEq,Prod.mk.injEq] at h;rw[← h.1.2,← h.1.1];exact⟨ho,hl⟩)
theorem renL_lt {K:Nat}(hK:K<=40):∀ (l acc:List Val) {olds o':List Nat}{b b':Nat}{l':List Val},renL l acc olds b=.ok (l',o') b'->OldsLt K olds->(∀ v ∈ l,leafOk v/\leafLt K v)->(∀ v ∈ acc,leafOk v)->OldsLt K o'/\l'.length=acc.length+l.length/\∀ v ∈ l',leafOk v
 | [],acc,_,_,_,_,_,h,ho,_,ha=>by simp only[renL,Res.ok.injEq,Prod.mk.injEq] at h;rw[← h.1.2,← h.1.1];exact⟨ho,rfl,ha⟩
 | v::l,acc,olds,o',b,b',l',h,ho,hr,ha=>by
  simp only[renL] at h
  rcases hq:renLeaf olds v b with⟨⟨v',o2⟩,b2⟩|y
  ·rw[hq] at h;have hv:=hr v (by simp);obtain⟨h1,h2⟩:=renLeaf_lt hK hq ho hv.1 hv.2
   have:=renL_lt hK l (acc++[v']) h h1 (fun u hu=>hr u (by simp[hu])) (fun u hu=>by
    rcases List.mem_append.1 hu with h3|h3
    ·exact ha u h3
    ·have:u=v':=by simpa using h3
     rw[this];exact h2)
   refine⟨this.1,?_,this.2.2⟩;rw[this.2.1];simp;omega
  ·rw[hq] at h;cases h
def refsLt (K:Nat):Val->Prop
 | .arr l=>∀ v ∈ l,leafLt K v
 | v=>leafLt K v
theorem renV_lt {K:Nat}(hK:K<=40) {olds o':List Nat}{b b':Nat}{v v':Val}(h:renV olds v b=.ok (v',o') b') (ho:OldsLt K olds) (hk:keptOk v) (hr:refsLt K v):OldsLt K o'/\keptOk v':=by
 cases v
 case arr l=>
  simp only[renV] at h
  rcases hq:renL l [] olds b with⟨⟨l',o2⟩,b2⟩|y
  ·rw[hq] at h;simp only[Res.ok.injEq,Prod.mk.injEq] at h;obtain⟨h1,h2,h3⟩:=renL_lt hK l [] hq ho (fun v hv=>⟨hk.2 v hv,hr v hv⟩) (by simp);rw[← h.1.2,← h.1.1];refine⟨h1,?_,h3⟩;have:=hk.1;rw[h2];simpa using this
  ·rw[hq] at h;cases h
 case ref n=>
  simp only[renV] at h;simp only[renLeaf] at h
  rcases hq:numR olds n b with⟨⟨m,o2⟩,b2⟩|y
  ·rw[hq] at h;simp only[Res.ok.injEq,Prod.mk.injEq] at h;obtain⟨h1,h2⟩:=numR_lt hq ho (hr n rfl);have:=ho.len;rw[← h.1.2,← h.1.1];exact⟨h1,by show m<=80000;omega⟩
  ·rw[hq] at h;cases h
 all_goals (simp only[renV,renLeaf,Res.ok.injEq,Prod.mk.injEq] at h;rw[← h.1.2,← h.1.1];exact⟨ho,hk⟩)
theorem refTo_lt {ty:ByteArray}{v:Val}(ht:ty≠ByteArray.empty) (h:refTo os ty v=true):leafLt os.length v:=by
 cases v
 case ref n=>
  intro m e;cases e;have h1:tnameAt os n=ty:=by haveI:=lawfulB;unfold refTo at h;exact eq_of_beq h
  rcases ho:os[n]? with _|o
  ·unfold tnameAt at h1;rw[ho] at h1;exact absurd h1.symm ht
  ·exact (List.getElem?_eq_some_iff.1 ho).1
 all_goals simp[refTo] at h
theorem right_lt {r:Rule}{v x:Val}{b b':Nat}(h:r.right os v b=.ok (x,true) b'):refsLt os.length x:=by
 cases r
 case kids=>
  simp only[Rule.right,kidsR] at h;split at h
  ·cases h
  ·simp only[Res.ok.injEq,Prod.mk.injEq] at h;obtain⟨⟨rfl,_⟩,_⟩:=h;exact fun e he=>refTo_lt (by decide +kernel) (List.mem_filter.1 he).2
 case title=>
  simp only[Rule.right,Res.ok.injEq,Prod.mk.injEq] at h;obtain⟨⟨rfl,h2⟩,_⟩:=h;cases v <;> first | (simp[isStr] at h2;done) | exact fun m e=>by cases e
 case box=>
  simp only[Rule.right,Res.ok.injEq,Prod.mk.injEq] at h;obtain⟨⟨rfl,h2⟩,_⟩:=h;rw[Bool.and_eq_true] at h2;cases v
  case arr l=>
   have hm:∀ e ∈ l,isNum e=true:=List.all_eq_true.1 h2.2;intro e he m em;have:=hm e he;rw[em] at this;cases this
  all_goals (simp[elemsOf] at h2)
 case next=>
  simp only[Rule.right,refR] at h;split at h
  ·cases h
  ·simp only[Res.ok.injEq,Prod.mk.injEq] at h;obtain⟨⟨rfl,h2⟩,_⟩:=h;have:=refTo_lt (by decide +kernel) h2;cases v <;> first | (simp[refTo] at h2;done) | exact this
 case text=>
  simp only[Rule.right,refR] at h;split at h
  ·cases h
  ·simp only[Res.ok.injEq,Prod.mk.injEq] at h;obtain⟨⟨rfl,h2⟩,_⟩:=h;have:=refTo_lt (by decide +kernel) h2;cases v <;> first | (simp[refTo] at h2;done) | exact this
theorem Rule.key_small (r:Rule):r.key.size<=100:=by cases r <;> decide
theorem keepL_lt {o:Obj1}(hos:os.length<=40) (hok:∀ r:Rule,valOk (vget o.v r.key)):∀ (rs:List Rule) (acc:List (ByteArray×Val)) {olds o':List Nat}{b b':Nat}{fs:List (ByteArray×Val)},keepL os o rs acc olds b=.ok (fs,o') b'->OldsLt os.length olds->(∀ f ∈ acc,f.1.size<=100/\keptOk f.2) ->
  OldsLt os.length o'/\(∀ f ∈ fs,f.1.size<=100/\keptOk f.2)/\fs.length<=acc.length+rs.length
 | [],acc,_,_,_,_,_,h,ho,ha=>by simp only[keepL,Res.ok.injEq,Prod.mk.injEq] at h;rw[← h.1.2,← h.1.1];exact⟨ho,ha,Nat.le_refl _⟩
 | r::rs,acc,olds,o',b,b',fs,h,ho,ha=>by
  simp only[keepL] at h
  rcases hq:r.right os (vget o.v r.key) b with⟨⟨v,t⟩,b1⟩|y
  ·rw[hq] at h
   rcases t with _|_
   ·obtain⟨h1,h2,h3⟩:=keepL_lt hos hok rs acc h ho ha;exact⟨h1,h2,by simp;omega⟩
   ·simp only at h
    rcases hq2:renV olds v b1 with⟨⟨v',o2⟩,b2⟩|y
    ·rw[hq2] at h;simp only at h;obtain⟨r1,r2⟩:=renV_lt hos hq2 ho (right_ok hos (hok r) hq).1 (right_lt hq)
     obtain⟨h1,h2,h3⟩:=keepL_lt hos hok rs (acc++[(r.key,v')]) h r1 (fun f hf=>by
      rcases List.mem_append.1 hf with h4|h4
      ·exact ha f h4
      ·have:f=(r.key,v'):=by simpa using h4
       rw[this];exact⟨r.key_small,r2⟩)
     exact⟨h1,h2,by rw[List.length_append] at h3;simp at h3 ⊢;omega⟩
    ·rw[hq2] at h;cases h
  ·rw[hq] at h;cases h
theorem Nd.put {o:Value}{olds:List Nat}{b b':Nat}(h:Nd w B D DV OL NV M base o olds b) (hs:w.heap.size<=w'.heap.size) (hk:∀ k,k≠B->(k<base\/k=OL\/k=NV\/k=M)\/o.ownBlock=some k->w'.heap[k]?=w.heap[k]?) (hb:Bud w' B b'):Nd w' B D DV OL NV M base o olds b':=by
 obtain⟨q0,q1,q2,q3,hd⟩:=h.d;have hl:=h.n.lt;have h1:=h.ne;have h2:=h.ne2;have hown:=World.ownsRow.lt h.n.row;obtain⟨n,hn,hm⟩:=h.n.map
 exact⟨⟨(hk OL (by omega) (.inl (by omega))).trans h.n.ol,(hk NV (by omega) (.inl (by omega))).trans h.n.nv,ownsRow_blockI h.n.row (fun g hg=>hk g (by have:=(hown g hg).1;omega) (.inr hg)),⟨n,hn,hm.of_block (hk M (by omega) (.inl (by omega)))⟩,h.n.hl,⟨by omega,by omega,by omega,by omega⟩,h.n.ne⟩,
  hb,(hk DV (by omega) (.inl (by omega))).trans h.dv,⟨q0,q1,q2,q3,(hk D (by omega) (.inl (by omega))).trans hd⟩,h.ne,h.ne2⟩
theorem ownsRow_blockG {t:TypeId}{sz:Nat}{sl:Value}{base n:Nat}{xs:List Value}(h:w.ownsRow base t sz sl n xs) (hb:∀ g,sl.ownBlock=some g->w'.heap[g]?=w.heap[g]?):w'.ownsRow base t sz sl n xs:=by
 refine⟨h.1,?_⟩
 rcases h.2 with e|⟨g,cap,cur,e,h1,h2,rest⟩
 ·exact .inl e
 ·exact .inr ⟨g,cap,cur,e,h1,(hb g (by rw[e];rfl)).trans h2,rest⟩
theorem Wr.put {Q R bw:Nat}{o:Value}{out:List UInt8}{b b':Nat}(h:Wr w Q R B bw o out b) (hs:w.heap.size<=w'.heap.size) (hk:∀ k,k=Q\/k=R\/k=R+1\/o.ownBlock=some k->w'.heap[k]?=w.heap[k]?) (hb:Bud w' B b'):Wr w' Q R B bw o out b':=by
 have hl:=h.lt;exact⟨(hk Q (.inl rfl)).trans h.q,(hk R (.inr (.inl rfl))).trans h.m,(hk (R+1) (.inr (.inr (.inl rfl)))).trans h.y,hb,ownsRow_blockG h.row (fun g hg=>hk g (.inr (.inr (.inr hg)))),h.hl,⟨hl.1,hl.2.1,hl.2.2.1,by omega⟩,h.ne⟩
theorem Wr.apart {Q R bw:Nat}{o:Value}{out:List UInt8}{b k:Nat}(h:Wr w Q R B bw o out b) (hk:∀ cs,w.heap[k]?≠some (.cells cs 5 (0,0))):o.ownBlock≠some k:=by
 intro e
 rcases h.row.2 with⟨h1,_⟩|⟨g,cap,cur,h1,_,h2,_⟩
 ·rw[h1] at e;simp[Value.ownBlock] at e
 ·rw[h1] at e;have:g=k:=by simpa[Value.ownBlock] using e
  subst this;exact hk _ h2
end
section
open Go.RowKit
attribute [local go_sem] Oper.semAt_some
variable {w w0 w':World}{B D DV OL NV M base lo at_ root:Nat}{pl:List Nat}{slp slo:Value}{os:List Obj1}{xs:List Value}{S S':Nat->Prop}
structure Jst (s0 B D DV OL NV M base Q R bw PL N:Nat):Prop where
 lo:s0<=Q/\s0<=R/\s0<=PL/\s0<=DV/\s0<=N/\B+1<s0/\D<s0/\s0<=bw/\D≠B
 hi:Q<base/\R+1<base/\PL<base/\DV<base/\N+1<base/\bw<=base/\base<=OL/\base<=NV/\base<=M
 ne:Q≠PL/\Q≠DV/\Q≠N/\Q≠N+1/\R≠PL/\R≠DV/\R≠N/\R≠N+1/\R+1≠PL/\R+1≠DV/\R+1≠N/\R+1≠N+1/\PL≠DV/\PL≠N/\PL≠N+1/\DV≠N/\DV≠N+1/\Q≠R/\Q≠R+1
structure Jw (w0 W:World) (B D DV OL NV M base Q R bw PL N:Nat) (lr:Loop) (o ow sp:Value) (olds pls:List Nat) (out:List UInt8) (b:Nat):Prop where
 nd:Nd W B D DV OL NV M base o olds b
 wr:Wr W Q R B bw ow out b
 pv:At1 W PL sp 52
 pr:W.ownsRow base 3 1 sp pls.length (intsV pls)
 os:∀ g,o.ownBlock=some g->sp.ownBlock≠some g
 fb:Fb B w0 W
 df:W.heap[N]?=some (.deferred (some []))
 lp:W.heap[N+1]?=some (.loop lr)
section
variable {W W':World}{Q R bw PL N:Nat}{lr:Loop}{o o' ow ow' sp sp':Value}{olds olds' pls:List Nat}{out out':List UInt8}{b b':Nat}
theorem Jw.owNe (h:Jw w0 W B D DV OL NV M base Q R bw PL N lr o ow sp olds pls out b):ow.ownBlock≠some OL/\ow.ownBlock≠some NV/\ow.ownBlock≠some M/\ow.ownBlock≠some DV/\ow.ownBlock≠some PL/\ow.ownBlock≠some N/\ow.ownBlock≠some (N+1)/\ow.ownBlock≠some B /\
  (∀ g,o.ownBlock=some g->ow.ownBlock≠some g)/\(∀ g,sp.ownBlock=some g->ow.ownBlock≠some g):=by
 obtain⟨n,_,Dm,⟨es,clock,hm,_⟩,_⟩:=h.nd.n.map
 have hrow:∀ {sl:Value} {bb n:Nat} {ys:List Value},W.ownsRow bb 3 1 sl n ys->∀ g,sl.ownBlock=some g->ow.ownBlock≠some g:=fun hr g hg=>by
  refine h.wr.apart (fun cs e=>?_)
  rcases hr.2 with⟨h1,_⟩|⟨g',cap,cur,h1,_,h2,_⟩
  ·rw[h1] at hg;simp[Value.ownBlock] at hg
  ·rw[h1] at hg;have:g'=g:=by simpa[Value.ownBlock] using hg
   subst this;rw[h2] at e;simp at e
 refine⟨h.wr.apart (fun cs e=>?_),h.wr.apart (fun cs e=>?_),h.wr.apart (fun cs e=>?_),h.wr.apart (fun cs e=>?_),h.wr.apart (fun cs e=>?_),h.wr.apart (fun cs e=>?_),h.wr.apart (fun cs e=>?_),h.wr.apart (fun cs e=>?_),hrow h.nd.n.row,hrow h.pr⟩
 ·have:=h.nd.n.ol;unfold At1 at this;rw[this] at e;simp at e
 ·have:=h.nd.n.nv;unfold At1 at this;rw[this] at e;simp at e
 ·rw[hm] at e;simp at e
 ·have:=h.nd.dv;unfold At1 at this;rw[this] at e;simp at e
 ·have:=h.pv;unfold At1 at this;rw[this] at e;simp at e
 ·rw[h.df] at e;simp at e
 ·rw[h.lp] at e;simp at e
 ·rw[h.nd.bud.a] at e;simp at e
theorem Jw.spNe (hs:Jst w0.heap.size B D DV OL NV M base Q R bw PL N) (h:Jw w0 W B D DV OL NV M base Q R bw PL N lr o ow sp olds pls out b):∀ g,sp.ownBlock=some g->base<=g/\g<W.heap.size/\g≠OL/\g≠NV/\g≠M:=by
 intro g hg;have hlt:=World.ownsRow.lt h.pr g hg;obtain⟨n,_,Dm,⟨es,clock,hm,_⟩,_⟩:=h.nd.n.map;refine⟨hlt.1,hlt.2,?_⟩
 rcases h.pr.2 with⟨h1,_⟩|⟨g',cap,cur,h1,_,h2,_⟩
 ·rw[h1] at hg;simp[Value.ownBlock] at hg
 ·rw[h1] at hg;have:g'=g:=by simpa[Value.ownBlock] using hg
  subst this;refine⟨?_,?_,?_⟩
  ·rintro rfl;have h3:=h.nd.n.ol;unfold At1 at h3;rw[h2] at h3;simp at h3
  ·rintro rfl;have h3:=h.nd.n.nv;unfold At1 at h3;rw[h2] at h3;simp at h3
  ·rintro rfl;rw[hm] at h2;simp at h2
theorem Jw.keep (hs:Jst w0.heap.size B D DV OL NV M base Q R bw PL N) (h:Jw w0 W B D DV OL NV M base Q R bw PL N lr o ow sp olds pls out b) (hN:Nm W' OL NV M base o' olds') (hB:Bud W' B b') (F:Fk B OL M o W o' W') :
  Jw w0 W' B D DV OL NV M base Q R bw PL N lr o' ow sp olds' pls out b':=by
 have h1:=hs.lo;have h2:=hs.hi;have h3:=hs.ne;have hown:=World.ownsRow.lt h.nd.n.row;have hsp:=h.spNe hs;obtain⟨a1,a2,a3,a4,a5,a6,a7,a8,a9,a10⟩:=h.owNe;have hlw:=World.ownsRow.lt h.wr.row;have hno:∀ k,k<base->o.ownBlock≠some k:=fun k hk e=>by have:=(hown k e).1;omega
 have hlN:=(Array.getElem?_eq_some_iff.1 h.df).1;have hlL:=(Array.getElem?_eq_some_iff.1 h.lp).1;have hlQ:=(Array.getElem?_eq_some_iff.1 h.wr.q).1;have hlM:=(Array.getElem?_eq_some_iff.1 h.wr.m).1;have hlY:=(Array.getElem?_eq_some_iff.1 h.wr.y).1
 refine⟨h.nd.step hN hB F,h.wr.put F.size (fun k hk=>?_) hB,(F.block PL h.pv.lt (by omega) (by omega) (by omega) (hno PL (by omega))).trans h.pv,ownsRow_blockI h.pr (fun g hg=>?_),fun g hg e=>?_,F.fb h.fb (by omega) (by omega) (fun k hk=>by have:=(hown k hk).1;omega),
  (F.block N hlN (by omega) (by omega) (by omega) (hno N (by omega))).trans h.df,(F.block (N+1) hlL (by omega) (by omega) (by omega) (hno (N+1) (by omega))).trans h.lp⟩
 ·rcases hk with rfl|rfl|rfl|hk
  ·exact F.block _ hlQ (by omega) (by omega) (by omega) (hno _ (by omega))
  ·exact F.block _ hlM (by omega) (by omega) (by omega) (hno _ (by omega))
  ·exact F.block _ hlY (by omega) (by omega) (by omega) (hno _ (by omega))
  ·have hl:=hlw k hk;exact F.block k hl.2 (fun e=>a8 (e ▸ hk)) (fun e=>a1 (e ▸ hk)) (fun e=>a3 (e ▸ hk)) (fun e=>a9 k e hk)
 ·have:=hsp g hg;exact F.block g this.2.1 (by omega) (by omega) (by omega) (fun e=>h.os g e hg)
 ·rcases F.own with e1|⟨g',e1,hg'⟩
  ·exact h.os g (by rw[← e1];exact hg) e
  ·rw[e1] at hg;have:g'=g:=by simpa using hg
   have:=(hsp g e).2.1;omega
end
end
end Go.Proofs.YtgffljllfenhkaaGreatDoor
