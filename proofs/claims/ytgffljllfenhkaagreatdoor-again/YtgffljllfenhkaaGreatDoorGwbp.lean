import Derived.Test.YtgffljllfenhkaaGreatDoorGwbo
namespace Go.Proofs.YtgffljllfenhkaaGreatDoor
section
variable {os os2:List Obj1}{nt:Bool->Nat->Nat->ByteArray}
def GetsR {α:Type}(r:Nat->Res α) (a:α):Prop:=∀ b,(∃ b',r b=.ok a b')\/r b=.no (12,0)
def refsOf:Val->List Nat
 | .ref n=>[n]
 | .arr l=>l.filterMap (fun v=>match v with
  | .ref n=>some n
  | _=>none)
 | _=>[]
def frs:Nat->List Nat->Option Nat
 | L,[]=>some L
 | L,m::ms=>if 1<=m/\m<=L then frs L ms else if m=L+1 then frs (L+1) ms else none
theorem frs_app:∀ (a c:List Nat) (L:Nat),frs L (a++c)=(frs L a).bind (fun L'=>frs L' c)
 | [],c,L=>rfl
 | m::a,c,L=>by
  rw[List.cons_append,frs,frs];split
  ·exact frs_app a c L
  ·split
   ·exact frs_app a c (L+1)
   ·rfl
def rng (L:Nat):List Nat:=List.range' 1 L
theorem idx_range:∀ (L s a:Nat),idx (List.range' s L) a=if s<=a/\a<s+L then some (a-s) else none
 | 0,s,a=>by rw[List.range'_zero,idx,if_neg (by omega)]
 | L+1,s,a=>by
  rw[List.range'_succ,idx,idx_range L (s+1) a]
  by_cases h:s=a
  ·rw[if_pos h,if_pos (by omega),h,Nat.sub_self]
  ·rw[if_neg h]
   by_cases h2:s+1<=a/\a<s+1+L
   ·rw[if_pos h2,if_pos (by omega)];simp;omega
   ·rw[if_neg h2,if_neg (by omega)];rfl
theorem rng_succ (L:Nat):rng L++[L+1]=rng (L+1):=by
 unfold rng;rw[List.range'_concat];simp[Nat.add_comm]
theorem num2 {L m:Nat}(h:(1<=m/\m<=L)\/m=L+1):GetsR (numR (rng L) m) (m,rng (if 1<=m/\m<=L then L else L+1)):=by
 intro b;unfold numR
 by_cases hb:b<1
 ·exact .inr (by rw[if_pos hb])
 ·rw[if_neg hb];refine .inl ⟨b-1,?_⟩;have hi:=idx_range L 1 m
  by_cases hm:1<=m/\m<=L
  ·rw[if_pos (by omega)] at hi;unfold rng at *;rw[hi,if_pos hm];show Res.ok (m-1+1,_) _=_;rw[show m-1+1=m by omega]
  ·rw[if_neg (by omega)] at hi;have e:m=L+1:=by omega
   have hl:(rng L).length=L:=by unfold rng;simp
   rw[if_neg hm,← rng_succ];unfold rng at *;rw[hi];show Res.ok ((List.range' 1 L).length+1,List.range' 1 L++[m]) _=_;rw[hl,e]
theorem idx_get:∀ {olds:List Nat}{a i:Nat},idx olds a=some i->olds[i]?=some a
 | [],_,_,h=>by simp[idx] at h
 | x::l,a,i,h=>by
  simp only[idx] at h;split at h
  ·rename_i e;cases h;simp[e]
  ·rcases hq:idx l a with _|j
   ·rw[hq] at h;cases h
   ·rw[hq] at h;have:=idx_get hq;have e:i=j+1:=by simpa using h.symm
    rw[e,List.getElem?_cons_succ];exact this
theorem num1 {olds o':List Nat}{n b m b':Nat}(h:numR olds n b=.ok (m,o') b'):1<=m/\o'[m-1]?=some n/\(∃ ext,o'=olds++ext)/\∀ ms,frs olds.length (m::ms)=frs o'.length ms:=by
 unfold numR at h;split at h
 ·cases h
 ·split at h
  ·rename_i i hi;have h1:=idx_lt hi;cases h;refine⟨by omega,idx_get hi,⟨[],by simp⟩,fun ms=>?_⟩;rw[frs,if_pos (by omega)]
  ·cases h;refine⟨by omega,?_,⟨[n],rfl⟩,fun ms=>?_⟩
   ·rw[List.getElem?_append_right (by omega)];simp
   ·rw[frs,if_neg (by omega),if_pos rfl];simp
def Qof (os:List Obj1) (O:List Nat) (ty:ByteArray) (m:Nat):Prop:=1<=m/\∃ n,O[m-1]?=some n/\tnameAt os n=ty
theorem Qof.ext {O:List Nat}{ty:ByteArray}{m:Nat}(h:Qof os O ty m) (ext:List Nat):Qof os (O++ext) ty m:=by
 obtain⟨h1,n,h2,h3⟩:=h;refine⟨h1,n,?_,h3⟩;rw[List.getElem?_append_left (List.getElem?_eq_some_iff.1 h2).1];exact h2
def FOk (Q:ByteArray->Nat->Prop) (r:Rule) (v:Val):Prop:=match r with
 | .kids=>∃ l,v=.arr l/\∀ e ∈ l,∃ m,e=.ref m/\Q pageB m
 | .title=>∃ t,v=.str t/\textOk t.data.toList=true
 | .box=>∃ l,v=.arr l/\l.length=4/\∀ e ∈ l,isNum e=true/\leafOk e
 | .next=>∃ m,v=.ref m/\Q pageB m
 | .text=>∃ m,v=.ref m/\Q textB m
theorem FOk.mono {Q Q':ByteArray->Nat->Prop}(hQ:∀ ty m,Q ty m->Q' ty m) {r:Rule}{v:Val}(h:FOk Q r v):FOk Q' r v:=by
 cases r
 case kids=>obtain⟨l,e,h⟩:=h;exact⟨l,e,fun x hx=>by obtain⟨m,e,h⟩:=h x hx;exact⟨m,e,hQ _ _ h⟩⟩
 case title=>exact h
 case box=>exact h
 case next=>obtain⟨m,e,h⟩:=h;exact⟨m,e,hQ _ _ h⟩
 case text=>obtain⟨m,e,h⟩:=h;exact⟨m,e,hQ _ _ h⟩
theorem refTo_ref {ty:ByteArray}{v:Val}(h:refTo os ty v=true):∃ n,v=.ref n/\tnameAt os n=ty:=by
 cases v
 case ref n=>exact⟨n,rfl,by haveI:=lawfulB;unfold refTo at h;exact eq_of_beq h⟩
 all_goals simp[refTo] at h
theorem ref1 {ty:ByteArray}{olds o':List Nat}{n b b':Nat}{v':Val}(hn:tnameAt os n=ty) (h:renLeaf olds (.ref n) b=.ok (v',o') b') :
  ∃ m,v'=.ref m/\Qof os o' ty m/\(∃ ext,o'=olds++ext)/\∀ ms,frs olds.length (m::ms)=frs o'.length ms:=by
 simp only[renLeaf] at h
 rcases hq:numR olds n b with⟨⟨m,o2⟩,b2⟩|y
 ·rw[hq] at h;simp only[Res.ok.injEq,Prod.mk.injEq] at h;obtain⟨h1,h2,h3,h4⟩:=num1 hq;rw[← h.1.1,← h.1.2];exact⟨m,rfl,⟨h1,n,h2,hn⟩,h3,h4⟩
 ·rw[hq] at h;cases h
theorem refs1 {ty:ByteArray}:∀ (l acc:List Val) {olds o':List Nat}{b b':Nat}{l':List Val},(∀ v ∈ l,∃ n,v=.ref n/\tnameAt os n=ty)->renL l acc olds b=.ok (l',o') b' ->
  ∃ l2,l'=acc++l2/\(∀ e ∈ l2,∃ m,e=.ref m/\Qof os o' ty m)/\(∃ ext,o'=olds++ext)/\∀ ms,frs olds.length (refsOf (.arr l2)++ms)=frs o'.length ms
 | [],acc,olds,o',b,b',l',_,h=>by
  simp only[renL,Res.ok.injEq,Prod.mk.injEq] at h;rw[← h.1.1,← h.1.2];exact⟨[],by simp,by simp,⟨[],by simp⟩,fun ms=>rfl⟩
 | v::l,acc,olds,o',b,b',l',hl,h=>by
  simp only[renL] at h;obtain⟨n,rfl,hn⟩:=hl v (by simp)
  rcases hq:renLeaf olds (.ref n) b with⟨⟨v',o2⟩,b2⟩|y
  ·rw[hq] at h;simp only at h;obtain⟨m,rfl,q1,⟨e1,he1⟩,f1⟩:=ref1 hn hq;obtain⟨l2,hl2,q2,⟨e2,he2⟩,f2⟩:=refs1 l _ (fun u hu=>hl u (by simp[hu])) h;refine⟨.ref m::l2,by rw[hl2];simp,fun e he=>?_,⟨e1++e2,by rw[he2,he1];simp⟩,fun ms=>?_⟩
   ·rcases List.mem_cons.1 he with rfl|h3
    ·exact⟨m,rfl,by rw[he2];exact q1.ext _⟩
    ·exact q2 e h3
   ·rw[← f2 ms,← f1];simp[refsOf]
  ·rw[hq] at h;cases h
theorem renL_o:∀ (l acc:List Val) {olds o':List Nat}{b b':Nat}{l':List Val},renL l acc olds b=.ok (l',o') b'->(∀ v ∈ l,isNum v=true)->o'=olds
 | [],acc,_,_,_,_,_,h,_=>by simp only[renL,Res.ok.injEq,Prod.mk.injEq] at h;exact h.1.2.symm
 | v::l,acc,olds,o',b,b',l',h,hr=>by
  simp only[renL] at h;have hv:=hr v (by simp);have e:renLeaf olds v b=.ok (v,olds) b:=by cases v <;> first | rfl | (simp[isNum] at hv)
  rw[e] at h;exact renL_o l _ h (fun u hu=>hr u (by simp[hu]))
theorem refsOf_nums {l:List Val}(h:∀ v ∈ l,isNum v=true):refsOf (.arr l)=[]:=by
 unfold refsOf;rw[List.filterMap_eq_nil_iff];intro v hv;have:=h v hv;cases v <;> first | rfl | (simp[isNum] at this)
theorem rule1 {r:Rule}{v x x':Val}{b b1 b2:Nat}{olds o':List Nat}(h:r.right os v b=.ok (x,true) b1) (hr:renV olds x b1=.ok (x',o') b2) (hv:valOk v) (ht:txOk v) :
  FOk (Qof os o') r x'/\(∃ ext,o'=olds++ext)/\∀ ms,frs olds.length (refsOf x'++ms)=frs o'.length ms:=by
 cases r
 case kids=>
  simp only[Rule.right,kidsR] at h;split at h
  ·cases h
  ·simp only[Res.ok.injEq,Prod.mk.injEq] at h;obtain⟨⟨rfl,_⟩,_⟩:=h;simp only[renV] at hr
   rcases hq:renL ((elemsOf v).filter (refTo os pageB)) [] olds b1 with⟨⟨l',o2⟩,b3⟩|y
   ·rw[hq] at hr;simp only[Res.ok.injEq,Prod.mk.injEq] at hr;obtain⟨l2,e1,q,ex,fr⟩:=refs1 (os:=os) (ty:=pageB) _ [] (fun u hu=>refTo_ref (List.mem_filter.1 hu).2) hq;rw[List.nil_append] at e1;rw[← hr.1.1,← hr.1.2,e1];exact⟨⟨l2,rfl,q⟩,ex,fr⟩
   ·rw[hq] at hr;cases hr
 case title=>
  simp only[Rule.right,Res.ok.injEq,Prod.mk.injEq] at h;obtain⟨⟨rfl,h2⟩,_⟩:=h;cases v
  case str t=>
   simp only[renV,renLeaf,Res.ok.injEq,Prod.mk.injEq] at hr;rw[← hr.1.1,← hr.1.2];exact⟨⟨t,rfl,ht t rfl⟩,⟨[],by simp⟩,fun ms=>rfl⟩
  all_goals (simp[isStr] at h2)
 case box=>
  simp only[Rule.right,Res.ok.injEq,Prod.mk.injEq] at h;obtain⟨⟨rfl,h2⟩,_⟩:=h;rw[Bool.and_eq_true] at h2;cases v
  case arr l=>
   have hm:∀ e ∈ l,isNum e=true:=List.all_eq_true.1 h2.2;have h4:l.length=4:=by simpa[elemsOf] using h2.1
   simp only[renV] at hr
   rcases hq:renL l [] olds b1 with⟨⟨l',o2⟩,b3⟩|y
   ·rw[hq] at hr;simp only[Res.ok.injEq,Prod.mk.injEq] at hr;have e0:=renL_nums l [] hq hm;rw[List.nil_append] at e0;have eo:=renL_o l [] hq hm;rw[← hr.1.1,← hr.1.2,e0,eo];refine⟨⟨l,rfl,h4,fun e he=>⟨hm e he,hv.2.1 e he (hm e he)⟩⟩,⟨[],by simp⟩,fun ms=>?_⟩;rw[refsOf_nums hm];rfl
   ·rw[hq] at hr;cases hr
  all_goals (simp[elemsOf] at h2)
 case next=>
  simp only[Rule.right,refR] at h;split at h
  ·cases h
  ·simp only[Res.ok.injEq,Prod.mk.injEq] at h;obtain⟨⟨rfl,h2⟩,_⟩:=h;obtain⟨n,rfl,hn⟩:=refTo_ref h2;obtain⟨m,rfl,q,ex,fr⟩:=ref1 hn hr;exact⟨⟨m,rfl,q⟩,ex,fr⟩
 case text=>
  simp only[Rule.right,refR] at h;split at h
  ·cases h
  ·simp only[Res.ok.injEq,Prod.mk.injEq] at h;obtain⟨⟨rfl,h2⟩,_⟩:=h;obtain⟨n,rfl,hn⟩:=refTo_ref h2;obtain⟨m,rfl,q,ex,fr⟩:=ref1 hn hr;exact⟨⟨m,rfl,q⟩,ex,fr⟩
def fsOf (gs:List (Rule×Option Val)):List (ByteArray×Val):=gs.filterMap (fun g=>g.2.map (fun v=>(g.1.key,v)))
def refsG (gs:List (Rule×Option Val)):List Nat:=gs.flatMap (fun g=>(g.2.map refsOf).getD [])
theorem keep1 {o:Obj1}(hv:VO o.v):∀ (rs:List Rule) (acc:List (ByteArray×Val)) {olds o':List Nat}{b b':Nat}{fs:List (ByteArray×Val)},keepL os o rs acc olds b=.ok (fs,o') b' ->
  ∃ gs:List (Rule×Option Val),gs.map (·.1)=rs/\fs=acc++fsOf gs/\(∀ g ∈ gs,∀ v,g.2=some v->FOk (Qof os o') g.1 v)/\(∃ ext,o'=olds++ext)/\frs olds.length (refsG gs)=some o'.length
 | [],acc,olds,o',b,b',fs,h=>by
  simp only[keepL,Res.ok.injEq,Prod.mk.injEq] at h;rw[← h.1.1,← h.1.2];exact⟨[],rfl,by simp[fsOf],by simp,⟨[],by simp⟩,rfl⟩
 | r::rs,acc,olds,o',b,b',fs,h=>by
  rcases keepL_cons h with⟨b1,h1⟩|⟨x,x',o2,b1,b2,h1,h2,h3⟩
  ·obtain⟨gs,g1,g2,g3,g4,g5⟩:=keep1 hv rs acc h1;refine⟨(r,none)::gs,by simp[g1],by rw[g2];simp[fsOf],fun g hg v e=>?_,g4,by rw[← g5];simp[refsG]⟩
   rcases List.mem_cons.1 hg with rfl|hg
   ·cases e
   ·exact g3 g hg v e
  ·obtain⟨q,⟨e1,he1⟩,f1⟩:=rule1 h1 h2 (vget_ok hv r.key) (vget_tx hv r.key);obtain⟨gs,g1,g2,g3,⟨e2,he2⟩,g5⟩:=keep1 hv rs _ h3;refine⟨(r,some x')::gs,by simp[g1],by rw[g2];simp[fsOf],fun g hg v e=>?_,⟨e1++e2,by rw[he2,he1];simp⟩,?_⟩
   ·rcases List.mem_cons.1 hg with rfl|hg
    ·cases e;exact q.mono (fun ty m h=>by rw[he2];exact h.ext _)
    ·exact g3 g hg v e
   ·rw[← g5,← f1];simp[refsG]
theorem right2 {r:Rule}{v:Val}(h:FOk (fun ty m=>tnameAt os2 m=ty) r v):GetsR (r.right os2 v) (v,true):=by
 have hb:∀ (a:ByteArray),(a==a)=true:=fun a=>beqB rfl
 intro b;cases r
 case kids=>
  obtain⟨l,rfl,h⟩:=h;simp only[Rule.right,kidsR]
  by_cases hb':b<(elemsOf (.arr l)).length
  ·exact .inr (by rw[if_pos hb'])
  ·refine .inl ⟨b-(elemsOf (.arr l)).length,?_⟩;rw[if_neg hb']
   have e:(elemsOf (.arr l)).filter (refTo os2 pageB)=l:=List.filter_eq_self.2 (fun e he=>by
    obtain⟨m,rfl,hm⟩:=h e he
    simp only[refTo,hm,hb])
   rw[e];rfl
 case title=>
  obtain⟨t,rfl,h⟩:=h;exact .inl ⟨b,rfl⟩
 case box=>
  obtain⟨l,rfl,h4,h⟩:=h;refine .inl ⟨b,?_⟩;simp only[Rule.right,elemsOf];rw[h4,List.all_eq_true.2 (fun e he=>(h e he).1)];rfl
 case next=>
  obtain⟨m,rfl,h⟩:=h;simp only[Rule.right,refR]
  by_cases hb':b<1
  ·exact .inr (by rw[if_pos hb'])
  ·refine .inl ⟨b-1,?_⟩;rw[if_neg hb'];simp only[refTo,h,hb]
 case text=>
  obtain⟨m,rfl,h⟩:=h;simp only[Rule.right,refR]
  by_cases hb':b<1
  ·exact .inr (by rw[if_pos hb'])
  ·refine .inl ⟨b-1,?_⟩;rw[if_neg hb'];simp only[refTo,h,hb]
theorem right0 (r:Rule):∃ x,GetsR (r.right os2 .none) (x,false):=by
 have h1:∀ b,¬ b<(elemsOf .none).length:=fun b=>by simp[elemsOf]
 cases r
 case kids=>exact⟨_,fun b=>.inl ⟨_,by simp only[Rule.right,kidsR];rw[if_neg (h1 b)];rfl⟩⟩
 case title=>exact⟨_,fun b=>.inl ⟨_,rfl⟩⟩
 case box=>exact⟨_,fun b=>.inl ⟨_,rfl⟩⟩
 all_goals
  refine⟨.none,fun b=>?_⟩;simp only[Rule.right,refR]
  by_cases hb':b<1
  ·exact .inr (by rw[if_pos hb'])
  ·exact .inl ⟨b-1,by rw[if_neg hb'];rfl⟩
theorem renLeaf2 {L m:Nat}(h:(1<=m/\m<=L)\/m=L+1):GetsR (renLeaf (rng L) (.ref m)) (.ref m,rng (if 1<=m/\m<=L then L else L+1)):=by
 intro b;simp only[renLeaf]
 rcases num2 h b with⟨b',e⟩|e
 ·exact .inl ⟨b',by rw[e]⟩
 ·exact .inr (by rw[e])
theorem frs_cons {L L' m:Nat}{ms:List Nat}(h:frs L (m::ms)=some L'):((1<=m/\m<=L)\/m=L+1)/\frs (if 1<=m/\m<=L then L else L+1) ms=some L':=by
 rw[frs] at h;split at h
 ·rename_i h1;rw[if_pos h1];exact⟨.inl h1,h⟩
 ·split at h
  ·rename_i h1 h2;rw[if_neg h1];exact⟨.inr h2,h⟩
  ·cases h
theorem renL2:∀ (l acc:List Val) (L L':Nat),(∀ e ∈ l,(∃ m,e=.ref m)\/isNum e=true)->frs L (refsOf (.arr l))=some L'->GetsR (renL l acc (rng L)) (acc++l,rng L')
 | [],acc,L,L',_,h=>fun b=>.inl ⟨b,by
  have e:L=L':=by simpa[refsOf,frs] using h
  rw[renL,e];simp⟩
 | v::l,acc,L,L',hl,h=>fun b=>by
  rw[renL]
  rcases hl v (by simp) with⟨m,rfl⟩|hn
  ·have h':frs L (m::refsOf (.arr l))=some L':=by rw[← h];simp[refsOf]
   obtain⟨h1,h2⟩:=frs_cons h'
   rcases renLeaf2 h1 b with⟨b1,e⟩|e
   ·rw[e];have:=renL2 l (acc++[.ref m]) _ L' (fun e he=>hl e (by simp[he])) h2 b1;simpa using this
   ·exact .inr (by rw[e])
  ·have e:renLeaf (rng L) v b=.ok (v,rng L) b:=by cases v <;> first | rfl | (simp[isNum] at hn)
   have h':frs L (refsOf (.arr l))=some L':=by
    rw[← h];cases v <;> first | (simp[isNum] at hn;done) | simp[refsOf]
   rw[e];have:=renL2 l (acc++[v]) L L' (fun e he=>hl e (by simp[he])) h' b;simpa using this
theorem renV2 {Q:ByteArray->Nat->Prop}{r:Rule}{v:Val}{L L':Nat}(h:FOk Q r v) (hf:frs L (refsOf v)=some L'):GetsR (renV (rng L) v) (v,rng L'):=by
 have hR:∀ m,v=.ref m->GetsR (renV (rng L) v) (v,rng L'):=by
  intro m e;subst e;obtain⟨h1,h2⟩:=frs_cons (show frs L [m]=some L' from hf);have e:(if 1<=m/\m<=L then L else L+1)=L':=by simpa[frs] using h2
  have:=renLeaf2 h1;rw[e] at this;exact this
 have hA:∀ l,v=.arr l->(∀ e ∈ l,(∃ m,e=.ref m)\/isNum e=true)->GetsR (renV (rng L) v) (v,rng L'):=by
  intro l e hl b;subst e;simp only[renV]
  rcases renL2 l [] L L' hl hf b with⟨b',e⟩|e
  ·exact .inl ⟨b',by rw[e];rfl⟩
  ·exact .inr (by rw[e])
 cases r
 case kids=>obtain⟨l,e,h⟩:=h;exact hA l e (fun x hx=>by obtain⟨m,e,_⟩:=h x hx;exact .inl ⟨m,e⟩)
 case title=>
  obtain⟨t,e,h⟩:=h;subst e;have e:L=L':=by simpa[refsOf,frs] using hf
  exact fun b=>.inl ⟨b,by rw[e];rfl⟩
 case box=>obtain⟨l,e,_,h⟩:=h;exact hA l e (fun x hx=>.inr (h x hx).1)
 case next=>obtain⟨m,e,_⟩:=h;exact hR m e
 case text=>obtain⟨m,e,_⟩:=h;exact hR m e
theorem keep2 {o:Obj1}:∀ (gs:List (Rule×Option Val)) (acc:List (ByteArray×Val)) (L L':Nat),(∀ g ∈ gs,vget o.v g.1.key=g.2.getD .none)->(∀ g ∈ gs,∀ v,g.2=some v->FOk (fun ty m=>tnameAt os2 m=ty) g.1 v)->frs L (refsG gs)=some L' ->
  GetsR (keepL os2 o (gs.map (·.1)) acc (rng L)) (acc++fsOf gs,rng L')
 | [],acc,L,L',_,_,h=>fun b=>.inl ⟨b,by
  have e:L=L':=by simpa[refsG,frs] using h
  rw[List.map_nil,keepL,e];simp[fsOf]⟩
 | (r,none)::gs,acc,L,L',hg,hk,h=>fun b=>by
  rw[List.map_cons,keepL];have e:vget o.v r.key=.none:=hg (r,none) (by simp);rw[e];obtain⟨x,hx⟩:=right0 (os2:=os2) r
  rcases hx b with⟨b1,e1⟩|e1
  ·rw[e1];have:=keep2 gs acc L L' (fun g h=>hg g (by simp[h])) (fun g h=>hk g (by simp[h])) (by rw[← h];simp[refsG]) b1;simpa[fsOf] using this
  ·exact .inr (by rw[e1])
 | (r,some v)::gs,acc,L,L',hg,hk,h=>fun b=>by
  rw[List.map_cons,keepL];have e:vget o.v r.key=v:=hg (r,some v) (by simp);rw[e];have hF:=hk (r,some v) (by simp) v rfl
  rcases right2 hF b with⟨b1,e1⟩|e1
  ·rw[e1];simp only;have h':frs L (refsOf v++refsG gs)=some L':=by rw[← h];simp[refsG]
   rw[frs_app] at h'
   rcases hq:frs L (refsOf v) with _|L1
   ·rw[hq] at h';cases h'
   ·rw[hq] at h';have h2:frs L1 (refsG gs)=some L':=h'
    rcases renV2 hF hq b1 with⟨b2,e2⟩|e2
    ·rw[e2];have:=keep2 gs (acc++[(r.key,v)]) L1 L' (fun g h=>hg g (by simp[h])) (fun g h=>hk g (by simp[h])) h2 b2;simpa[fsOf] using this
    ·exact .inr (by rw[e2])
  ·exact .inr (by rw[e1])
end
section
variable {os os2:List Obj1}
theorem leafB_num (neg:Bool) (m k:Nat):leafB ntB (.num neg m k)=(ntB neg m k).data.toList:=by simp[leafB,leafT]
def backN (v v2:Val):Prop:=isNum v2=true/\leafOk v2/\leafB ntB v2=leafB ntB v/\FldV (leafB ntB v) v2
theorem back_ex {v:Val}(hn:isNum v=true) (h:leafOk v):∃ v2,backN v v2:=by
 cases v
 case num neg m k=>
  obtain⟨neg',ti,tf,h1,h2,h3,h4,h5⟩:=nt_back neg m k h;refine⟨.num neg' (digV (ti++tf.getD []) 0) (tf.getD []).length,rfl,h5,?_,?_⟩
  ·rw[leafB_num,leafB_num,h4]
  ·rw[leafB_num,h3];exact fld_num h1 h2
 all_goals simp[isNum] at hn
noncomputable def bkN:Val->Val
 | .num neg m k=>@Classical.epsilon Val ⟨.none⟩ (backN (.num neg m k))
 | v=>v
theorem bkN_num {v:Val}(hn:isNum v=true) (h:leafOk v):backN v (bkN v):=by
 obtain⟨v2,h2⟩:=back_ex hn h;cases v
 case num neg m k=>exact @Classical.epsilon_spec Val (backN (.num neg m k)) ⟨v2,h2⟩
 all_goals simp[isNum] at hn
noncomputable def bkV:Val->Val
 | .arr l=>.arr (l.map bkN)
 | v=>v
theorem elT_join:∀ (f:Bool) (l:List Val),elT ntB f l=joinB f (l.map (leafB ntB))
 | f,[]=>rfl
 | f,v::l=>by rw[elT,List.map_cons,joinB,elT_join false l]
theorem valB_arr (l:List Val):valB ntB (.arr l)=91::(joinB true (l.map (leafB ntB))++[93]):=by rw[valB,elT_join]
theorem back_ok {Q:ByteArray->Nat->Prop}(hQ:∀ ty m,Q ty m->m<10000) {r:Rule}{v:Val}(h:FOk Q r v) (hl:(valB ntB v).length<=9000) :
  KeyR (valB ntB v) (bkV v)/\valB ntB (bkV v)=valB ntB v/\refsOf (bkV v)=refsOf v/\∀ Q',FOk Q' r v->FOk Q' r (bkV v):=by
 have hR:∀ m,m<10000->KeyR (valB ntB (.ref m)) (.ref m):=by
  intro m hm;have e:valB ntB (.ref m)=64::(itoaB m).data.toList:=by simp[valB,leafB,leafT]
  rw[e];exact (fld_ref hm).key
 cases r
 case kids=>
  obtain⟨l,rfl,h⟩:=h
  have e:l.map bkN=l:=by
   conv=>rhs;rw[← List.map_id l]
   apply List.map_congr_left;intro v hv;obtain⟨m,rfl,_⟩:=h v hv;rfl
  have e2:bkV (.arr l)=.arr l:=by rw[bkV,e]
  rw[e2];refine⟨?_,rfl,rfl,fun Q' h=>h⟩
  have k:=key_arr (l.map (fun v=>(leafB ntB v,v))) (fun x hx=>by
   obtain⟨v,hv,rfl⟩:=List.mem_map.1 hx;obtain⟨m,rfl,hm⟩:=h v hv;have e:leafB ntB (.ref m)=64::(itoaB m).data.toList:=by simp[leafB,leafT]
   show FldV (leafB ntB (.ref m)) (.ref m);rw[e]
   exact fld_ref (hQ _ _ hm))
  rw[List.map_map,List.map_map] at k;rw[valB_arr]
  have e3:List.map ((fun x=>x.2) ∘ fun v=>(leafB ntB v,v)) l=l:=by
   conv=>rhs;rw[← List.map_id l]
   apply List.map_congr_left;intro v _;rfl
  rw[e3] at k;exact k
 case title=>
  obtain⟨t,rfl,h⟩:=h;refine⟨?_,rfl,rfl,fun Q' h=>h⟩;have e:valB ntB (.str t)=40::(t.data.toList++[41]):=by simp[valB,leafB,leafT]
  rw[e] at hl ⊢;simp only[List.length_cons,List.length_append,List.length_nil] at hl;have k:=fld_str (t:=t.data.toList) (by omega) h;rw[bstr_data] at k;exact k.key
 case box=>
  obtain⟨l,rfl,h4,h⟩:=h;have hb:∀ v ∈ l,backN v (bkN v):=fun v hv=>bkN_num (h v hv).1 (h v hv).2
  have ev:valB ntB (bkV (.arr l))=valB ntB (.arr l):=by
   rw[bkV,valB_arr,valB_arr,List.map_map];have:List.map (leafB ntB ∘ bkN) l=l.map (leafB ntB):=List.map_congr_left (fun v hv=>(hb v hv).2.2.1);rw[this]
  refine⟨?_,ev,?_,fun Q' _=>⟨l.map bkN,rfl,by rw[List.length_map];exact h4,fun e he=>?_⟩⟩
  ·have k:=key_arr (l.map (fun v=>(leafB ntB v,bkN v))) (fun x hx=>by
    obtain⟨v,hv,rfl⟩:=List.mem_map.1 hx
    exact (hb v hv).2.2.2)
   rw[List.map_map,List.map_map] at k;rw[valB_arr];exact k
  ·rw[bkV,refsOf_nums (fun v hv=>(h v hv).1),refsOf_nums (fun v hv=>by
    obtain⟨u,hu,rfl⟩:=List.mem_map.1 hv
    exact (hb u hu).1)]
  ·obtain⟨u,hu,rfl⟩:=List.mem_map.1 he;exact⟨(hb u hu).1,(hb u hu).2.1⟩
 case next=>
  obtain⟨m,rfl,h⟩:=h;exact⟨hR m (hQ _ _ h),rfl,rfl,fun Q' h=>h⟩
 case text=>
  obtain⟨m,rfl,h⟩:=h;exact⟨hR m (hQ _ _ h),rfl,rfl,fun Q' h=>h⟩
structure Kp where
 ty:ByteArray
 gs:List (Rule×Option Val)
 st:ByteArray
noncomputable def bkG (gs:List (Rule×Option Val)):List (Rule×Option Val):=gs.map (fun g=>(g.1,g.2.map bkV))
theorem bkG_fst (gs:List (Rule×Option Val)):(bkG gs).map (·.1)=gs.map (·.1):=by unfold bkG;rw[List.map_map];rfl
noncomputable def keysF (k:Kp):List (ByteArray×List UInt8×Val):=(typeB,47::k.ty.data.toList,.name k.ty)::k.gs.filterMap (fun g=>g.2.map (fun v=>(g.1.key,valB ntB v,bkV v)))
theorem keyB_f:∀ gs:List (Rule×Option Val),keyB (gs.filterMap (fun g=>g.2.map (fun v=>(g.1.key,valB ntB v,bkV v))))=fldB ntB (fsOf gs)
 | []=>rfl
 | (r,none)::gs=>by simpa[fsOf] using keyB_f gs
 | (r,some v)::gs=>by
  have ih:=keyB_f gs;have e1:List.filterMap (fun g:Rule×Option Val=>g.2.map (fun v=>(g.1.key,valB ntB v,bkV v))) ((r,some v)::gs)=(r.key,valB ntB v,bkV v)::gs.filterMap (fun g=>g.2.map (fun v=>(g.1.key,valB ntB v,bkV v))):=rfl;have e2:fsOf ((r,some v)::gs)=(r.key,v)::fsOf gs:=rfl;rw[e1,e2,fldB,← ih];unfold keyB;rw[List.flatMap_cons];simp
theorem keysF_bytes (k:Kp):keyB (keysF k)=[47,84,121,112,101,47]++(k.ty.data.toList++fldB ntB (fsOf k.gs)):=by
 unfold keysF;rw[← keyB_f];unfold keyB;rw[List.flatMap_cons];simp[typeB]
theorem keysF_read:∀ gs:List (Rule×Option Val),(gs.filterMap (fun g=>g.2.map (fun v=>(g.1.key,valB ntB v,bkV v)))).map (fun e=>(e.1,e.2.2))=fsOf (bkG gs)
 | []=>rfl
 | (r,none)::gs=>by simpa[fsOf,bkG] using keysF_read gs
 | (r,some v)::gs=>by simpa[fsOf,bkG] using keysF_read gs
theorem fldB_back:∀ gs:List (Rule×Option Val),(∀ g ∈ gs,∀ v,g.2=some v->valB ntB (bkV v)=valB ntB v)->fldB ntB (fsOf (bkG gs))=fldB ntB (fsOf gs)
 | [],_=>rfl
 | (r,none)::gs,h=>by simpa[fsOf,bkG] using fldB_back gs (fun g hg=>h g (by simp[hg]))
 | (r,some v)::gs,h=>by
  have ih:=fldB_back gs (fun g hg=>h g (by simp[hg]));have e1:fsOf (bkG ((r,some v)::gs))=(r.key,bkV v)::fsOf (bkG gs):=rfl;have e2:fsOf ((r,some v)::gs)=(r.key,v)::fsOf gs:=rfl;rw[e1,e2,fldB,fldB,ih,h (r,some v) (by simp) v rfl]
theorem refsG_back:∀ gs:List (Rule×Option Val),(∀ g ∈ gs,∀ v,g.2=some v->refsOf (bkV v)=refsOf v)->refsG (bkG gs)=refsG gs
 | [],_=>rfl
 | (r,none)::gs,h=>by simpa[refsG,bkG] using refsG_back gs (fun g hg=>h g (by simp[hg]))
 | (r,some v)::gs,h=>by
  have ih:=refsG_back gs (fun g hg=>h g (by simp[hg]));have e1:refsG (bkG ((r,some v)::gs))=refsOf (bkV v)++refsG (bkG gs):=rfl;have e2:refsG ((r,some v)::gs)=refsOf v++refsG gs:=rfl;rw[e1,e2,ih,h (r,some v) (by simp) v rfl]
theorem key_ok (r:Rule):keyOk r.key/\(typeB==r.key)=false/\(r.key==fB)=false/\(r.key==typeB)=false:=by
 cases r <;> exact⟨⟨by decide,by decide,by decide⟩,by decide +kernel,by decide +kernel,by decide +kernel⟩
theorem key_ne {r r':Rule}(h:r≠r'):(r.key==r'.key)=false:=by
 cases r <;> cases r' <;> first | exact absurd rfl h | decide +kernel
theorem dget_key:∀ (gs:List (Rule×Option Val)),(gs.map (·.1)).Nodup->∀ g ∈ gs,dget (fsOf gs) g.1.key=g.2
 | [],_,g,h=>by simp at h
 | (r,ov)::gs,hn,g,h=>by
  obtain⟨n1,n2⟩:=List.nodup_cons.1 (show (r::gs.map (·.1)).Nodup from hn)
  have hno:∀ (gs:List (Rule×Option Val)),r ∉ gs.map (·.1)->dget (fsOf gs) r.key=none:=by
   intro gs
   induction gs with
   | nil=>intro _;rfl
   | cons x gs ih=>
    obtain⟨r',ov'⟩:=x;intro hx;have h1:r'≠r:=fun e=>hx (by simp[e])
    have h2:=ih (fun h=>hx (by simp at h ⊢;exact .inr h));cases ov' with
    | none=>exact h2
    | some v=>
     show dget ((r'.key,v)::fsOf gs) r.key=none;unfold dget at h2 ⊢;rw[List.find?_cons,key_ne h1];exact h2
  rcases List.mem_cons.1 h with rfl|hg
  ·cases ov with
   | none=>exact hno gs n1
   | some v=>
    show dget ((r.key,v)::fsOf gs) r.key=some v;unfold dget;rw[List.find?_cons,show ((r.key,v).1==r.key)=true from beqB rfl];rfl
  ·have hne:r≠g.1:=fun e=>n1 (by rw[e];exact List.mem_map.2 ⟨g,hg,rfl⟩)
   have ih:=dget_key gs n2 g hg;cases ov with
   | none=>exact ih
   | some v=>
    show dget ((r.key,v)::fsOf gs) g.1.key=g.2;unfold dget at ih ⊢;rw[List.find?_cons,key_ne hne];exact ih
theorem dget_f:∀ (gs:List (Rule×Option Val)),dget (fsOf gs) fB=none
 | []=>rfl
 | (r,none)::gs=>dget_f gs
 | (r,some v)::gs=>by
  have ih:=dget_f gs;show dget ((r.key,v)::fsOf gs) fB=none;unfold dget at ih ⊢;rw[List.find?_cons,(key_ok r).2.2.1];exact ih
def TyK (ty:ByteArray):Prop:=ty=rootB\/ty=pageB\/ty=textB
theorem TyK.ok {ty:ByteArray}(h:TyK ty):keyOk ty/\(rulesOf ty).Nodup:=by
 rcases h with rfl|rfl|rfl
 ·exact⟨⟨by decide,by decide,by decide⟩,by unfold rulesOf;rw[if_pos rfl];simp⟩
 ·exact⟨⟨by decide,by decide,by decide⟩,by unfold rulesOf;rw[if_neg (by decide +kernel),if_pos rfl];simp⟩
 ·exact⟨⟨by decide,by decide,by decide⟩,by unfold rulesOf;rw[if_neg (by decide +kernel),if_neg (by decide +kernel)];simp⟩
noncomputable def stOf (k:Kp):Option (List UInt8):=if k.ty=textB then some k.st.data.toList else none
noncomputable def objK (k:Kp) (p q:Nat):Obj1:={ v:=.dict ((typeB,.name k.ty)::fsOf (bkG k.gs)),place:=p,fin:=q,has:=(stOf k).isSome,stream:=bstr ((stOf k).getD []) }
theorem objK_type {k:Kp}(h:TyK k.ty) (p q:Nat):tname (objK k p q)=k.ty:=by
 have h1:vget (objK k p q).v typeB=.name k.ty:=by
  show (dget ((typeB,.name k.ty)::fsOf (bkG k.gs)) typeB).getD .none=_;unfold dget;rw[List.find?_cons,show ((typeB,Val.name k.ty).1==typeB)=true from beqB rfl];rfl
 have h2:(objK k p q).has=decide (k.ty=textB):=by
  show (stOf k).isSome=_;unfold stOf
  by_cases e:k.ty=textB
  ·rw[if_pos e,decide_eq_true e];rfl
  ·rw[if_neg e,decide_eq_false e];rfl
 unfold tname matchT;rw[h1,h2]
 rcases h with e|e|e <;> rw[e] <;> decide +kernel
theorem objK_get {k:Kp}(p q:Nat) (hn:(k.gs.map (·.1)).Nodup):∀ g ∈ bkG k.gs,vget (objK k p q).v g.1.key=g.2.getD .none:=by
 intro g hg;show (dget ((typeB,.name k.ty)::fsOf (bkG k.gs)) g.1.key).getD .none=_;have h1:=dget_key (bkG k.gs) (by rw[bkG_fst];exact hn) g hg;unfold dget at h1 ⊢;rw[List.find?_cons,(key_ok g.1).2.1];show ((fsOf (bkG k.gs)).find? _ |>.map (·.2)).getD .none=_;rw[h1]
theorem objK_packed {k:Kp}(p q:Nat):packed (objK k p q)=false:=by
 have h1:vget (objK k p q).v fB=.none:=by
  show (dget ((typeB,.name k.ty)::fsOf (bkG k.gs)) fB).getD .none=_;have h1:=dget_f (bkG k.gs);unfold dget at h1 ⊢;rw[List.find?_cons,show (typeB==fB)=false by decide +kernel];show ((fsOf (bkG k.gs)).find? _ |>.map (·.2)).getD .none=_;rw[h1];rfl
 unfold packed;rw[h1];simp[isNameB]
def kpB (n:Nat) (k:Kp):List UInt8:=(itoaB n).data.toList++([32,60,60,47,84,121,112,101,47]++(k.ty.data.toList++(fldB ntB (fsOf k.gs)++(62::62::(stmB k.ty k.st++[59,10])))))
theorem stm_st (k:Kp):stmB k.ty k.st=strB (stOf k):=by
 unfold stmB stOf;split
 ·show _=126::((itoaB k.st.data.toList.length).data.toList++58::k.st.data.toList);rw[len_data]
 ·rfl
theorem kpB_obj (n:Nat) (k:Kp) (l:List UInt8):kpB n k++l=objB n (keysF k) (stOf k) (10::l):=by
 have e:=stm_st k;unfold kpB objB;rw[keysF_bytes,e];simp[List.append_assoc]
structure KpOk (Q:ByteArray->Nat->Prop) (k:Kp):Prop where
 ty:TyK k.ty
 rs:k.gs.map (·.1)=rulesOf k.ty
 ok:∀ g ∈ k.gs,∀ v,g.2=some v->FOk Q g.1 v
theorem fld_len:∀ (gs:List (Rule×Option Val)),∀ g ∈ gs,∀ v,g.2=some v->(valB ntB v).length<=(fldB ntB (fsOf gs)).length
 | [],g,h,_,_=>by simp at h
 | (r,none)::gs,g,h,v,e=>by
  rcases List.mem_cons.1 h with rfl|h
  ·cases e
  ·exact fld_len gs g h v e
 | (r,some u)::gs,g,h,v,e=>by
  have e2:fsOf ((r,some u)::gs)=(r.key,u)::fsOf gs:=rfl;rw[e2,fldB];simp only[List.length_cons,List.length_append]
  rcases List.mem_cons.1 h with rfl|h
  ·cases e;omega
  ·have:=fld_len gs g h v e;omega
theorem KpOk.back {Q:ByteArray->Nat->Prop}(hQ:∀ ty m,Q ty m->m<10000) {n:Nat}{k:Kp}(h:KpOk Q k) (hl:(kpB n k).length<=9000) :
  ∀ g ∈ k.gs,∀ v,g.2=some v->KeyR (valB ntB v) (bkV v)/\valB ntB (bkV v)=valB ntB v/\refsOf (bkV v)=refsOf v/\∀ Q',FOk Q' g.1 v->FOk Q' g.1 (bkV v):=by
 intro g hg v e;have h1:=fld_len k.gs g hg v e;unfold kpB at hl;simp only[List.length_cons,List.length_append] at hl;exact back_ok hQ (h.ok g hg v e) (by omega)
theorem mem_keys {gs:List (Rule×Option Val)}{e:ByteArray×List UInt8×Val}(h:e ∈ gs.filterMap (fun g=>g.2.map (fun v=>(g.1.key,valB ntB v,bkV v)))):∃ g ∈ gs,∃ v,g.2=some v/\e=(g.1.key,valB ntB v,bkV v):=by
 obtain⟨g,hg,he⟩:=List.mem_filterMap.1 h;cases hv:g.2 with
 | none=>rw[hv] at he;cases he
 | some v=>rw[hv] at he;exact⟨g,hg,v,hv,by simpa using he.symm⟩
theorem pair_keys:∀ (gs:List (Rule×Option Val)),(gs.map (·.1)).Nodup->(gs.filterMap (fun g=>g.2.map (fun v=>(g.1.key,valB ntB v,bkV v)))).Pairwise (fun a c=>(a.1==c.1)=false)
 | [],_=>List.Pairwise.nil
 | (r,none)::gs,h=>pair_keys gs (List.nodup_cons.1 (show (r::gs.map (·.1)).Nodup from h)).2
 | (r,some v)::gs,h=>by
  obtain⟨n1,n2⟩:=List.nodup_cons.1 (show (r::gs.map (·.1)).Nodup from h);have e1:List.filterMap (fun g:Rule×Option Val=>g.2.map (fun v=>(g.1.key,valB ntB v,bkV v))) ((r,some v)::gs)=(r.key,valB ntB v,bkV v)::gs.filterMap (fun g=>g.2.map (fun v=>(g.1.key,valB ntB v,bkV v))):=rfl;rw[e1];refine List.pairwise_cons.2 ⟨fun e he=>?_,pair_keys gs n2⟩;obtain⟨g,hg,u,_,rfl⟩:=mem_keys he;exact key_ne (fun e=>n1 (by rw[e];exact List.mem_map.2 ⟨g,hg,rfl⟩))
theorem rd_kept {E:Env}{Q:ByteArray->Nat->Prop}(hQ:∀ ty m,Q ty m->m<10000) {n:Nat}(hn:n<=30) {k:Kp}(h:KpOk Q k) (hl:(kpB n k).length<=9000) (l:List UInt8) :
  Rd E (objectM E n) (kpB n k++l) 0 (objK k (E.e-(kpB n k++l).length) (E.e-(10::l).length)) (10::l) 0:=by
 have hb:=h.back hQ hl;have hnd:(k.gs.map (·.1)).Nodup:=by rw[h.rs];exact h.ty.ok.2
 have hlen:(keyB (keysF k)).length<=9000:=by
  rw[keysF_bytes];unfold kpB at hl;simp only[List.length_cons,List.length_append] at hl ⊢;omega
 have hst:∀ s,stOf k=some s->s.length<10000:=by
  intro s e;have e2:=(stm_st k).symm;rw[e] at e2;unfold kpB at hl;rw[← e2] at hl;unfold strB at hl;simp only[List.length_cons,List.length_append] at hl;omega
 have w:=rd_object (E:=E) (l:=10::l) hn (F:=keysF k) (st:=stOf k) (fun e he=>by
  rcases List.mem_cons.1 he with rfl|he
  ·exact⟨show keyOk typeB from ⟨by decide,by decide,by decide⟩,by
    have:=fld_name h.ty.ok.1.1 h.ty.ok.1.2.1 h.ty.ok.1.2.2;rw[bstr_data] at this
    exact this.key⟩
  ·obtain⟨g,hg,v,hv,rfl⟩:=mem_keys he;exact⟨(key_ok g.1).1,(hb g hg v hv).1⟩) (by
  refine List.pairwise_cons.2 ⟨fun e he=>?_,pair_keys k.gs hnd⟩;obtain⟨g,hg,v,hv,rfl⟩:=mem_keys he
  exact (key_ok g.1).2.1) hlen hst
 rw[← kpB_obj] at w
 have e:(keysF k).map (fun e=>(e.1,e.2.2))=(typeB,.name k.ty)::fsOf (bkG k.gs):=by
  unfold keysF;rw[List.map_cons,keysF_read]
 rw[e] at w;exact w
end
end Go.Proofs.YtgffljllfenhkaaGreatDoor
