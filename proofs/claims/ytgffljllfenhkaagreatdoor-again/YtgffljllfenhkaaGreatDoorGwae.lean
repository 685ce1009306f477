import Derived.OwnWalkIn
import Derived.Test.YtgffljllfenhkaaGreatDoorGwad
namespace Go.Proofs.YtgffljllfenhkaaGreatDoor
section
open Go.RowKit
variable {w w':World}{P B:Nat}{E:Env}{s s':St}{S S':Nat->Prop}
def vC (k:Nat) (x:Nat) (t:ByteArray) (r:Nat) (sl m:Value):List Value:=[.int .i64 (k:Int),.float .f64 x,.string t,.int .i64 (r:Int),sl,m]
def eB:ByteArray:=⟨#[]⟩
mutual
def Rep (w:World) (S:Nat->Prop):Val->List Value->Prop
 | .none,cs=>cs=vC 0 0 eB 0 (.slice none 0 0) (.map none)
 | .null,cs=>cs=vC 1 0 eB 0 (.slice none 0 0) (.map none)
 | .tru,cs=>cs=vC 2 0 eB 0 (.slice none 0 0) (.map none)
 | .fls,cs=>cs=vC 3 0 eB 0 (.slice none 0 0) (.map none)
 | .num neg m k,cs=>cs=vC 4 (fb neg m k) eB 0 (.slice none 0 0) (.map none)
 | .str t,cs=>cs=vC 5 0 t 0 (.slice none 0 0) (.map none)
 | .name t,cs=>cs=vC 6 0 t 0 (.slice none 0 0) (.map none)
 | .ref n,cs=>cs=vC 7 0 eB n (.slice none 0 0) (.map none)
 | .arr l,cs=>∃ sl xs,cs=vC 8 0 eB 0 sl (.map none)/\w.ownsRow 0 120 6 sl l.length xs/\(∀ g,sl.ownBlock=some g->S g)/\RepL w S l xs
 | .dict l,cs=>∃ M n f,cs=vC 9 0 eB 0 (.slice none 0 0) (.map (some M))/\S M/\MapV w M n f/\(∀ a,(f a).isSome=l.any (fun e=>e.1==a))/\RepD w S f l
def RepL (w:World) (S:Nat->Prop):List Val->List Value->Prop
 | [],xs=>xs=[]
 | v::l,xs=>∃ cs rest,xs=cs++rest/\Rep w S v cs/\RepL w S l rest
def RepD (w:World) (S:Nat->Prop) (f:ByteArray->Option Value):List (ByteArray×Val)->Prop
 | []=>True
 | (a,v)::l=>(∃ cs:List Value,f a=some (.agg cs.toArray)/\Rep w S v cs)/\RepD w S f l
end
mutual
theorem Rep.len:∀ (v:Val) {cs:List Value},Rep w S v cs->cs.length=6
 | .none,_,h=>by unfold Rep at h;rw[h];rfl
 | .null,_,h=>by unfold Rep at h;rw[h];rfl
 | .tru,_,h=>by unfold Rep at h;rw[h];rfl
 | .fls,_,h=>by unfold Rep at h;rw[h];rfl
 | .num ..,_,h=>by unfold Rep at h;rw[h];rfl
 | .str _,_,h=>by unfold Rep at h;rw[h];rfl
 | .name _,_,h=>by unfold Rep at h;rw[h];rfl
 | .ref _,_,h=>by unfold Rep at h;rw[h];rfl
 | .arr _,_,h=>by unfold Rep at h;obtain⟨_,_,h,_⟩:=h;rw[h];rfl
 | .dict _,_,h=>by unfold Rep at h;obtain⟨_,_,_,h,_⟩:=h;rw[h];rfl
end
theorem ownsRow_of_block {sl:Value}{base n:Nat}{xs:List Value}(h:w.ownsRow base 120 6 sl n xs) (hb:∀ g,sl.ownBlock=some g->w'.heap[g]?=w.heap[g]?):w'.ownsRow base 120 6 sl n xs:=by
 refine⟨h.1,?_⟩
 rcases h.2 with hn|⟨g,cap,cur,rfl,h1,h2,rest⟩
 ·exact .inl hn
 ·exact .inr ⟨g,cap,cur,rfl,h1,(hb g rfl).trans h2,rest⟩
theorem ownsRow_base {sl:Value}{base n:Nat}{xs:List Value}(h:w.ownsRow base 120 6 sl n xs) (base':Nat) (hb:∀ g,sl.ownBlock=some g->base'<=g):w.ownsRow base' 120 6 sl n xs:=by
 refine⟨h.1,?_⟩
 rcases h.2 with hn|⟨g,cap,cur,rfl,h1,h2,rest⟩
 ·exact .inl hn
 ·exact .inr ⟨g,cap,cur,rfl,hb g rfl,h2,rest⟩
mutual
theorem Rep.kept (hS:∀ b,S b->S' b/\w'.heap[b]?=w.heap[b]?):∀ (v:Val) {cs:List Value},Rep w S v cs->Rep w' S' v cs
 | .none,_,h=>by unfold Rep at h ⊢;exact h
 | .null,_,h=>by unfold Rep at h ⊢;exact h
 | .tru,_,h=>by unfold Rep at h ⊢;exact h
 | .fls,_,h=>by unfold Rep at h ⊢;exact h
 | .num ..,_,h=>by unfold Rep at h ⊢;exact h
 | .str _,_,h=>by unfold Rep at h ⊢;exact h
 | .name _,_,h=>by unfold Rep at h ⊢;exact h
 | .ref _,_,h=>by unfold Rep at h ⊢;exact h
 | .arr l,_,h=>by
  unfold Rep at h ⊢;obtain⟨sl,xs,e,ho,hg,hl⟩:=h;exact⟨sl,xs,e,ownsRow_of_block ho (fun g hg'=>(hS g (hg g hg')).2),fun g hg'=>(hS g (hg g hg')).1,RepL.kept hS l hl⟩
 | .dict l,_,h=>by
  unfold Rep at h ⊢;obtain⟨M,n,f,e,hM,hm,hk,hd⟩:=h;exact⟨M,n,f,e,(hS M hM).1,hm.of_block (hS M hM).2,hk,RepD.kept hS l hd⟩
theorem RepL.kept (hS:∀ b,S b->S' b/\w'.heap[b]?=w.heap[b]?):∀ (l:List Val) {xs:List Value},RepL w S l xs->RepL w' S' l xs
 | [],_,h=>by unfold RepL at h ⊢;exact h
 | v::l,_,h=>by
  unfold RepL at h ⊢;obtain⟨cs,rest,e,hv,hl⟩:=h;exact⟨cs,rest,e,Rep.kept hS v hv,RepL.kept hS l hl⟩
theorem RepD.kept (hS:∀ b,S b->S' b/\w'.heap[b]?=w.heap[b]?) {f:ByteArray->Option Value}:∀ (l:List (ByteArray×Val)),RepD w S f l->RepD w' S' f l
 | [],h=>by unfold RepD at h ⊢;exact h
 | (a,v)::l,h=>by
  unfold RepD at h ⊢;obtain⟨⟨cs,e,hv⟩,hl⟩:=h;exact⟨⟨cs,e,Rep.kept hS v hv⟩,RepD.kept hS l hl⟩
end
theorem ownsRow_shape {sl:Value}{base n:Nat}{xs:List Value}(h:w.ownsRow base 120 6 sl n xs):∃ a c,sl=.slice a n c:=by
 rcases h.2 with⟨rfl,rfl⟩|⟨g,cap,cur,rfl,_⟩
 ·exact⟨_,_,rfl⟩
 ·exact⟨_,_,rfl⟩
theorem Rep.shape {v:Val}{cs:List Value}(h:Rep w S v cs):∃ (k x:Nat) (t:ByteArray) (r:Nat) (a:Option Addr) (n c:Nat) (m:Option Nat),cs=vC k x t r (.slice a n c) (.map m):=by
 cases v <;> unfold Rep at h
 case arr l=>
  obtain⟨sl,xs,e,ho,_⟩:=h;obtain⟨a,c,rfl⟩:=ownsRow_shape ho;exact⟨_,_,_,_,_,_,_,_,e⟩
 case dict l=>
  obtain⟨M,n,f,e,_⟩:=h;exact⟨_,_,_,_,_,_,_,_,e⟩
 all_goals exact⟨_,_,_,_,_,_,_,_,h⟩
theorem RepL.append {v:Val}{cs:List Value}(hv:Rep w S v cs):∀ (l:List Val) {xs:List Value},RepL w S l xs->RepL w S (l++[v]) (xs++cs)
 | [],_,h=>by
  unfold RepL at h;subst h;simp only[List.nil_append];unfold RepL;exact⟨cs,[],by simp,hv,by unfold RepL;rfl⟩
 | u::l,_,h=>by
  unfold RepL at h;obtain⟨cu,rest,e,hu,hl⟩:=h;rw[List.cons_append];unfold RepL;exact⟨cu,rest++cs,by rw[e,List.append_assoc],hu,RepL.append hv l hl⟩
theorem RepL.length:∀ (l:List Val) {xs:List Value},RepL w S l xs->xs.length=l.length*6
 | [],_,h=>by unfold RepL at h;subst h;rfl
 | v::l,_,h=>by
  unfold RepL at h;obtain⟨cs,rest,e,hv,hl⟩:=h;rw[e,List.length_append,Rep.len v hv,RepL.length l hl,List.length_cons];omega
def NewB (w w':World):Nat->Prop:=fun b=>w.heap.size<=b/\b<w'.heap.size
end
section
open Go.RowKit
attribute [local go_sem] Oper.semAt_some
variable {w w':World}{P B:Nat}{E:Env}{s s':St}
theorem Tryz.infoV:(Tryz.prog.info? 120).map (fun i=>(i.zero,i.size,i.bytes))=some (some zeroV,6,72):=by kernel_rfl
theorem Tryz.undV:Tryz.prog.underlying 117=some (.slice 120):=by kernel_rfl
theorem cell_six_new (w:World) (a b c d e f:Value) (t:TypeId):∀ j u,[a,b,c,d,e,f][j]?=some u->(w.alloc (.cells #[a,b,c,d,e,f] t)).cell? ((⟨w.heap.size,0,none⟩:Addr).add j)=some u:=by
 intro j u hj;have hb:(w.alloc (.cells #[a,b,c,d,e,f] t)).heap[w.heap.size]?=some (.cells #[a,b,c,d,e,f] t):=heap_alloc_new w _;have e:((⟨w.heap.size,0,none⟩:Addr).add j)=⟨w.heap.size,j,none⟩:=by simp[Addr.add];intro h;exact h.symm
 rw[e];simp only[World.cell?,hb];simpa using hj
def VQ (w:World):Val->Value->World->Prop:=fun x v w'=>∃ cs,v=.agg cs.toArray/\Rep w' (NewB w w') x cs
def ValC (G:World->Prop) (P B:Nat) (n:Nat):Prop:=∀ (w:World) (E:Env) (s:St),G w->E.tab=false->At w P B E s->s.o<=s.k->2*(E.e-s.k)+2<=n ->
 Calls Tryz.prog 130 #[.pointer (some ⟨P,0,none⟩)] w (Post P B E w (VQ w) (valueM E n s))
theorem elemsM_succ (n:Nat) (l:List Val):elemsM E (n+1) l s=((nextM E).then fun x=>if x==93 then Rdr.ret l else (valueM E n).then fun v=>elemsM E n (l++[v])) s:=by rw[elemsM]
def arrayM (E:Env) (n:Nat):Rdr (List Val):=enterM.then fun _=>(wordM E [91]).then fun _=>(elemsM E n []).then fun l=>(wordM E [93]).then fun _=>leaveM.then fun _=>Rdr.ret l
def arrEnd (E:Env) (l:List Val):Rdr (List Val):=(wordM E [93]).then fun _=>leaveM.then fun _=>Rdr.ret l
def LQ (w:World):List Val->Value->World->Prop:=fun l v w'=>∃ xs,w'.ownsRow 0 120 6 v l.length xs/\(∀ g,v.ownBlock=some g->NewB w w' g)/\RepL w' (NewB w w') l xs
theorem next_inv:∀ (n:Nat) {s s':St}{u:Unit},blanksM E n s=.ok u s'->s.k<=s'.k/\s'.o=s.o
 | 0,s,s',u,h=>by cases h
 | n+1,s,s',u,h=>by
  unfold blanksM at h;obtain⟨x,s1,hp,k1⟩:=then_inv h;obtain⟨_,hk,ho,_⟩:=peek_b hp;split at k1
  ·obtain⟨_,s2,ha,k2⟩:=then_inv k1;have e:=adv_inv ha;have:=next_inv n k2;rw[e] at this;simp only[] at this;omega
  ·obtain⟨_,e⟩:=ret_inv k1;rw[e];omega
theorem nextM_inv {x:Nat}(h:nextM E s=.ok x s'):s.k<=s'.k/\s'.o=s.o/\s'.k≠E.e/\x=bt E.f s'.k:=by
 unfold nextM at h;obtain⟨_,s1,hb,k1⟩:=then_inv h;have:=next_inv _ hb;obtain⟨e1,e2,e3,_⟩:=peek_inv k1;rw[e1];exact⟨this.1,this.2,e3,e2⟩
theorem word_o:∀ (l:List Nat) {s s':St}{u:Unit},wordM E l s=.ok u s'->s'.o=s.o/\s'.d=s.d/\s'.t=s.t
 | [],s,s',u,h=>by cases h;exact⟨rfl,rfl,rfl⟩
 | c::l,s,s',u,h=>by
  unfold wordM at h;obtain⟨x,s1,hp,k1⟩:=then_inv h;obtain⟨_,s2,hn,k2⟩:=then_inv k1;obtain⟨e3,_⟩:=need_inv hn;subst e3;obtain⟨_,s3,ha,k3⟩:=then_inv k2;have e4:=adv_inv ha;obtain⟨hb,hk,h1,h2,h3⟩:=peek_b hp;have:=word_o l k3;rw[e4] at this;simp only[] at this;rw[this.1,this.2.1,this.2.2,h1,h2,h3];exact⟨rfl,rfl,rfl⟩
end
section
open Go.RowKit
variable {E:Env}{α β:Type}
def Mo (m:Rdr α):Prop:=∀ s a s',m s=.ok a s'->s.k<=s'.k/\s'.o=s.o
def Mx (m:Rdr α):Prop:=∀ s a s',m s=.ok a s'->s.k<s'.k/\s'.o=s.o
theorem Mx.mo {m:Rdr α}(h:Mx m):Mo m:=fun s a s' e=>⟨Nat.le_of_lt (h s a s' e).1,(h s a s' e).2⟩
theorem Mo.then {m:Rdr α}{f:α->Rdr β}(h:Mo m) (k:∀ a,Mo (f a)):Mo (m.then f):=fun s b s' e=>by
 obtain⟨a,s1,h1,h2⟩:=then_inv e;have x:=h _ _ _ h1;have y:=k a _ _ _ h2;exact⟨Nat.le_trans x.1 y.1,y.2.trans x.2⟩
theorem Mx.then {m:Rdr α}{f:α->Rdr β}(h:Mx m) (k:∀ a,Mo (f a)):Mx (m.then f):=fun s b s' e=>by
 obtain⟨a,s1,h1,h2⟩:=then_inv e;have x:=h _ _ _ h1;have y:=k a _ _ _ h2;exact⟨Nat.lt_of_lt_of_le x.1 y.1,y.2.trans x.2⟩
theorem Mo.thenX {m:Rdr α}{f:α->Rdr β}(h:Mo m) (k:∀ a,Mx (f a)):Mx (m.then f):=fun s b s' e=>by
 obtain⟨a,s1,h1,h2⟩:=then_inv e;have x:=h _ _ _ h1;have y:=k a _ _ _ h2;exact⟨Nat.lt_of_le_of_lt x.1 y.1,y.2.trans x.2⟩
theorem Mo.ret (a:α):Mo (Rdr.ret a):=fun s b s' e=>by obtain⟨_,rfl⟩:=ret_inv e;exact⟨Nat.le_refl _,rfl⟩
theorem Mo.peek:Mo (peekM E):=fun s b s' e=>by obtain⟨_,h1,h2,_⟩:=peek_b e;exact⟨Nat.le_of_eq h1.symm,h2⟩
theorem Mo.need (c:Bool):Mo (needM E c):=fun s b s' e=>by obtain⟨rfl,_⟩:=need_inv e;exact⟨Nat.le_refl _,rfl⟩
theorem Mx.adv:Mx advM:=fun s b s' e=>by rw[adv_inv e];exact⟨Nat.lt_succ_self _,rfl⟩
theorem Mo.at:Mo atM:=fun s b s' e=>by obtain⟨_,rfl⟩:=at_inv e;exact⟨Nat.le_refl _,rfl⟩
theorem Mo.ite {c:Prop} [Decidable c] {m n:Rdr α}(h:Mo m) (k:Mo n):Mo (if c then m else n):=by split <;> assumption
theorem Mx.ite {c:Prop} [Decidable c] {m n:Rdr α}(h:Mx m) (k:Mx n):Mx (if c then m else n):=by split <;> assumption
theorem Mo.word (l:List Nat):Mo (wordM E l):=fun s b s' e=>⟨by rw[(word_inv l e).1];omega,(word_o l e).1⟩
theorem Mx.word (c:Nat) (l:List Nat):Mx (wordM E (c::l)):=fun s b s' e=>⟨by rw[(word_inv _ e).1];simp,(word_o _ e).1⟩
theorem Mo.someL (p:Nat->Bool):∀ n,Mo (someL E p n)
 | 0=>by unfold YtgffljllfenhkaaGreatDoor.someL;exact Mo.ret _
 | n+1=>by unfold YtgffljllfenhkaaGreatDoor.someL;exact Mo.peek.then fun x=>Mo.ite (Mx.adv.mo.then fun _=>Mo.someL p n) (Mo.ret _)
theorem Mo.some (p:Nat->Bool) (n:Nat):Mo (someM E p n):=by
 unfold someM;exact Mo.at.then fun _=>Mo.peek.then fun _=>(Mo.need _).then fun _=>(Mo.someL p n).then fun _=>Mo.at.then fun _=>Mo.ret _
theorem Mx.some (p:Nat->Bool) (n:Nat) (h:1<=n):Mx (someM E p n):=fun s b s' e=>⟨(some_inv h e).2.1,(Mo.some p n s b s' e).2⟩
theorem Mx.whole (n:Nat) (h:1<=n):Mx (wholeM E n):=by unfold wholeM;exact (Mx.some _ n h).then fun _=>Mo.ret _
theorem Mo.blanks:∀ n,Mo (blanksM E n)
 | 0=>by unfold blanksM;intro s a s' h;cases h
 | n+1=>by unfold blanksM;exact Mo.peek.then fun x=>Mo.ite (Mx.adv.mo.then fun _=>Mo.blanks n) (Mo.ret _)
theorem Mo.next:Mo (nextM E):=by unfold nextM;exact (Mo.blanks _).then fun _=>Mo.peek
theorem Mo.textL:∀ n,Mo (textL E n)
 | 0=>by unfold YtgffljllfenhkaaGreatDoor.textL;intro s a s' h;cases h
 | n+1=>by
  unfold YtgffljllfenhkaaGreatDoor.textL
  exact Mo.peek.then fun x=>Mo.ite (Mo.ret _) (Mo.peek.then fun _=>(Mo.need _).then fun _=>Mo.peek.then fun _=>
   (Mo.ite (Mx.adv.mo.then fun _=>Mo.peek.then fun _=>Mo.need _) (Mo.ret _)).then fun _=>Mx.adv.mo.then fun _=>Mo.textL n)
theorem Mx.text:Mx (textM E):=by
 unfold textM;exact (Mx.word _ _).then fun _=>Mo.at.then fun _=>(Mo.textL _).then fun _=>(Mo.word _).then fun _=>Mo.at.then fun _=>Mo.ret _
theorem Mx.name:Mx (nameM E):=by unfold nameM;exact (Mx.word _ _).then fun _=>Mo.some _ _
theorem Mx.num:Mx (numM E):=by
 unfold numM
 exact Mo.peek.thenX fun _=>(Mo.ite Mx.adv.mo (Mo.ret _)).thenX fun _=>(Mx.some _ _ (by decide)).then fun _=>Mo.peek.then fun _=>
  Mo.ite (Mx.adv.mo.then fun _=>(Mo.some _ _).then fun _=>Mo.ret _) (Mo.ret _)
theorem Mo.twice (c:Bool) (p:Nat):Mo (twiceM c p):=fun s b s' e=>by unfold twiceM at e;cases e;exact⟨Nat.le_refl _,rfl⟩
theorem Mx.inner {m:Rdr α}(h:Mx m):Mx (enterM.then fun _=>m.then fun a=>leaveM.then fun _=>Rdr.ret a):=fun s b s' e=>by
 obtain⟨_,s1,h1,k1⟩:=then_inv e;obtain⟨a,s2,h2,k2⟩:=then_inv k1;obtain⟨_,s3,h3,k3⟩:=then_inv k2;obtain⟨_,rfl⟩:=ret_inv k3;have x:=h _ _ _ h2;unfold enterM at h1;cases h1;unfold leaveM at h3;cases h3;simp only[] at x ⊢;omega
theorem then_assoc {γ:Type}(m:Rdr α) (f:α->Rdr β) (g:β->Rdr γ):(m.then f).then g=m.then fun a=>(f a).then g:=by
 funext s
 unfold Rdr.then;cases m s <;> rfl
theorem ret_then (a:α) (f:α->Rdr β):(Rdr.ret a).then f=f a:=rfl
theorem mx_array {n:Nat}(h:∀ l,Mo (elemsM E n l)):Mx (arrayM E n):=by
 have:arrayM E n=enterM.then fun _=>((wordM E [91]).then fun _=>(elemsM E n []).then fun l=>(wordM E [93]).then fun _=>Rdr.ret l).then fun a=>leaveM.then fun _=>Rdr.ret a:=by
  unfold arrayM;simp only[then_assoc,ret_then]
 rw[this];exact Mx.inner ((Mx.word _ _).then fun _=>(h _).then fun _=>(Mo.word _).then fun _=>Mo.ret _)
def dictM (E:Env) (n:Nat):Rdr (List (ByteArray×Val)):=enterM.then fun _=>(wordM E [60,60]).then fun _=>(keysM E n []).then fun l=>(wordM E [62,62]).then fun _=>leaveM.then fun _=>Rdr.ret l
theorem mx_dict {n:Nat}(h:∀ l,Mo (keysM E n l)):Mx (dictM E n):=by
 have:dictM E n=enterM.then fun _=>((wordM E [60,60]).then fun _=>(keysM E n []).then fun l=>(wordM E [62,62]).then fun _=>Rdr.ret l).then fun a=>leaveM.then fun _=>Rdr.ret a:=by
  unfold dictM;simp only[then_assoc,ret_then]
 rw[this];exact Mx.inner ((Mx.word _ _).then fun _=>(h _).then fun _=>(Mo.word _).then fun _=>Mo.ret _)
theorem valueM_succ (n:Nat):valueM E (n+1)=(nextM E).then fun x=>
  if x==110 then (wordM E [110,117,108,108]).then fun _=>Rdr.ret .null
  else if x==116 then (wordM E [116,114,117,101]).then fun _=>Rdr.ret .tru
  else if x==102 then (wordM E [102,97,108,115,101]).then fun _=>Rdr.ret .fls
  else if x==40 then (textM E).then fun t=>Rdr.ret (.str t)
  else if x==47 then (nameM E).then fun t=>Rdr.ret (.name t)
  else if x==64 then (wordM E [64]).then fun _=>(wholeM E 4).then fun n=>Rdr.ret (.ref n)
  else if x==91 then (arrayM E n).then fun l=>Rdr.ret (.arr l)
  else if x==60 then (dictM E n).then fun l=>Rdr.ret (.dict l)
  else (numM E).then fun y=>Rdr.ret (.num y.1 y.2.1 y.2.2):=by
 rw[valueM];unfold arrayM dictM;simp only[then_assoc,ret_then]
theorem keysM_succ (n:Nat) (l:List (ByteArray×Val)):keysM E (n+1) l=((nextM E).then fun x=>if x==62 then Rdr.ret l else
   atM.then fun p=>(nameM E).then fun a=>(twiceM (dget l a).isSome p).then fun _=>(valueM E n).then fun v=>keysM E n (dset l a v)):=by rw[keysM]
theorem elemsM_eq (n:Nat) (l:List Val):elemsM E (n+1) l=((nextM E).then fun x=>if x==93 then Rdr.ret l else (valueM E n).then fun v=>elemsM E n (l++[v])):=by rw[elemsM]
theorem val_mo:∀ n,Mx (valueM E n)/\(∀ l,Mo (elemsM E n l))/\(∀ l,Mo (keysM E n l))
 | 0=>⟨(by intro s a s' h;rw[valueM] at h;cases h),(by intro l s a s' h;rw[elemsM] at h;cases h),(by intro l s a s' h;rw[keysM] at h;cases h)⟩
 | n+1=>by
  obtain⟨hv,he,hk⟩:=val_mo n;refine⟨?_,fun l=>?_,fun l=>?_⟩
  ·rw[valueM_succ];refine Mo.next.thenX fun x=>?_
   repeat' refine Mx.ite ?_ ?_
   ·exact (Mx.word _ _).then fun _=>Mo.ret _
   ·exact (Mx.word _ _).then fun _=>Mo.ret _
   ·exact (Mx.word _ _).then fun _=>Mo.ret _
   ·exact Mx.text.then fun _=>Mo.ret _
   ·exact Mx.name.then fun _=>Mo.ret _
   ·exact (Mx.word _ _).then fun _=>(Mx.whole _ (by decide)).mo.then fun _=>Mo.ret _
   ·exact (mx_array he).then fun _=>Mo.ret _
   ·exact (mx_dict hk).then fun _=>Mo.ret _
   ·exact Mx.num.then fun _=>Mo.ret _
  ·rw[elemsM_eq];exact Mo.next.then fun _=>Mo.ite (Mo.ret _) (hv.mo.then fun _=>he _)
  ·rw[keysM_succ];exact Mo.next.then fun _=>Mo.ite (Mo.ret _) (Mo.at.then fun _=>Mx.name.mo.then fun _=>(Mo.twice _ _).then fun _=>hv.mo.then fun _=>hk _)
end
section
open Go.RowKit
attribute [local go_sem] Oper.semAt_some
variable {w w':World}{P B:Nat}{E:Env}{s s':St}
theorem At.leave (ht:E.tab=false) (h:At w P B E s) (ho:1<=s.o):At (w.setCell ⟨P,5,none⟩ (.int .i64 ((s.o:Int)-1))) P B E { s with o:=s.o-1 }:=by
 have:=h.setO ht (s.o-1)
 rwa [show ((s.o-1:Nat):Int)=(s.o:Int)-1 by omega] at this
theorem gTrans {a b c:World}{r:Option Nat}(h:a.grownBy b r) (k:b.grownBy c r):a.grownBy c r:=
 ⟨k.os.trans h.os,k.tape.trans h.tape,k.output.trans h.output,Nat.le_trans h.size k.size,fun i hi hr=>(k.block i (Nat.lt_of_lt_of_le hi h.size) hr).trans (h.block i hi hr)⟩
set_option maxHeartbeats 4000000 in
set_option maxRecDepth 100000 in
theorem elements_any {G:World->Prop}(hG:∀ w w',G w->Fz P B w w'->G w') (n:Nat) (IH:∀ m,m<n->ValC G P B m) (hw:G w) (ht:E.tab=false) (h:At w P B E s) (ho:s.o<=s.k) (hn:2*(E.e-s.k)+1<=n) :
  Calls Tryz.prog 149 #[.pointer (some ⟨P,0,none⟩)] w (Post P B E w (LQ w) (arrayM E n s)):=by
 obtain⟨i0,hi,hz0,hz1,hz2⟩:=info_parts Tryz.infoV;have hs9:=h.hs;have he9:=h.he;have hk9:=h.hk;have hPB:=h.lt;have hltP:=h.ltP
 go_enter Tryz.func149,Tryz.ntmps149
 go_wp2_with fail
 have q0:enterM s=.ok () { s with o:=s.o+1,d:=if 6<s.o+1/\s.d=0 then s.k else s.d }:=rfl;obtain⟨s0,hs0⟩:∃ s0:St,{ s with o:=s.o+1,d:=if 6<s.o+1/\s.d=0 then s.k else s.d }=s0:=⟨_,rfl⟩;have ek0:s0.k=s.k/\s0.o=s.o+1:=by rw[← hs0];exact⟨rfl,rfl⟩
 rw[hs0] at q0;clear hs0;refine (Post.okC (enter_any ht (by omega) h) q0).mono ?_;rintro e w0 ⟨v0,rfl,rfl,h0,F0⟩
 rcases q1:wordM E [91] s0 with⟨u1,s1⟩|y
 ·have HE0:Hid (arrayM E n s=((elemsM E n []).then (arrEnd E)) s1):=by show arrayM E n s=_;simp[arrayM,arrEnd,Rdr.then,q0,q1]
  have ek1:=(word_inv _ q1).1;have eo1:=(word_o _ q1).1;simp only[List.length_cons,List.length_nil] at ek1
  go_wp2_with fail
  refine (Post.okC (word_any ⟨#[91]⟩ (by decide) h0) (show wordM E (bl ⟨#[91]⟩) s0=_ from q1)).mono ?_;rintro e w1 ⟨v1,rfl,rfl,h1,F1⟩;have hk1:=h1.hk;have hb1:s1.o<=s1.k/\s1.o=s.o+1/\2*(E.e-s1.k)+3<=n:=by omega
  clear ek0 ek1 eo1 q0 q1;have F01:=F0.trans F1
  go_wp2_with fail
  go_loopw [3] (fun v wr=>∃ (m:Nat) (si:St) (l:List Val) (xs:List Value),m<=n/\2*(E.e-si.k)+3<=m/\si.o<=si.k/\si.o=s.o+1/\l.length<=si.k/\At wr P B E si/\Fz P B w wr /\
    wr.ownsRow w.heap.size 120 6 v l.length xs/\RepL wr (fun b=>NewB w wr b/\v.ownBlock≠some b) l xs/\Hid (arrayM E n s=((elemsM E m l).then (arrEnd E)) si))
   (fun _ wr=>E.e-kOf P wr)
  case atStart=>exact⟨n,s1,[],[],Nat.le_refl _,hb1.2.2,hb1.1,hb1.2.1,Nat.zero_le _,h1,F01,World.ownsRow_nil _ _ _ _,by unfold RepL;rfl,HE0⟩
  case round=>
   clear h1 HE0 F01 F0 F1 h0 hb1 hk1;obtain⟨m,si,l,xs,hmn,hfuel,hoi,hos,hll,hA,hF,hrow,hL,HE⟩:=hrel;have hki:=hA.hk;obtain⟨m',rfl⟩:∃ m',m=m'+1:=⟨m-1,by omega⟩;obtain⟨ao,cp,rfl⟩:=ownsRow_shape hrow
   rcases q2:nextM E si with⟨x2,s2⟩|y
   ·obtain⟨nk,no,nne,_⟩:=nextM_inv q2
    by_cases hx:x2=93
    ·have i2:((x2:Int)==93)=true:=beqI hx;have i2':((x2:Int) != 93)=false:=by rw[bne,i2];rfl
     have HE1:Hid (arrayM E n s=arrEnd E l s2):=(unh HE).trans (by simp[elemsM_succ,Rdr.then,q2,hx,Rdr.ret]);clear HE hx
     go_wp2_with fail
     refine (Post.okC (next_any hA) q2).mono ?_;rintro e w2 ⟨v2,rfl,rfl,h2,F2⟩
     rcases q3:wordM E [93] s2 with⟨u3,s3⟩|y
     ·have eo3:=(word_o _ q3).1;have HN:Hid (arrayM E n s=.ok l { s3 with o:=s3.o-1 }):=(unh HE1).trans (by simp[arrEnd,Rdr.then,q3,leaveM,Rdr.ret])
      go_wp2_with fail
      refine (Post.okC (word_any ⟨#[93]⟩ (by decide) h2) (show wordM E (bl ⟨#[93]⟩) s2=_ from q3)).mono ?_;rintro e w3 ⟨v3,rfl,rfl,h3,F3⟩;have d5:=h3.c5 ht;have f5:=h3.fr 5;have ho3:1<=s3.o/\s3.o<=100000:=by omega
      have h4:=h3.leave ht ho3.1;have F23:=F2.trans F3;have F4:Fz P B wr (w3.setCell ⟨P,5,none⟩ (.int .i64 ((s3.o:Int)-1))):=F23.setP _ _;clear eo3
      go_wp2_with fail
      go_ret
      have hsz:=F4.size
      have hbl:∀ b,NewB w wr b->NewB w (w3.setCell ⟨P,5,none⟩ (.int .i64 ((s3.o:Int)-1))) b/\(w3.setCell ⟨P,5,none⟩ (.int .i64 ((s3.o:Int)-1))).heap[b]?=wr.heap[b]?:=fun b hb=>
       ⟨⟨hb.1,Nat.lt_of_lt_of_le hb.2 hsz⟩,F4.block b hb.2 (by have:=hb.1;omega) (by have:=hb.1;omega)⟩
      have hown:∀ g,(Value.slice ao l.length cp).ownBlock=some g->NewB w wr g:=fun g hg=>World.ownsRow.lt hrow g hg
      refine Post.ok (unh HN) ⟨xs,?_,?_,?_⟩ h4 (hF.trans F4)
      ·exact ownsRow_base (ownsRow_of_block hrow (fun g hg=>(hbl g (hown g hg)).2)) 0 (fun _ _=>Nat.zero_le _)
      ·exact fun g hg=>(hbl g (hown g hg)).1
      ·exact RepL.kept (fun b hb=>hbl b hb.1) l hL
     ·have HN:Hid (arrayM E n s=.no y):=(unh HE1).trans (by simp[arrEnd,Rdr.then,q3])
      go_wp2_with fail
      refine (Post.noC (word_any ⟨#[93]⟩ (by decide) h2) (show wordM E (bl ⟨#[93]⟩) s2=_ from q3)).mono ?_;rintro e w3 ⟨rfl,F3⟩;exact⟨rfl,Post.no (unh HN) ((hF.trans F2).trans F3)⟩
    ·have i2:((x2:Int)==93)=false:=beqI' hx;have i2':((x2:Int) != 93)=true:=by rw[bne,i2];rfl
     rcases q3:valueM E m' s2 with⟨x3,s3⟩|y
     ·obtain⟨vk,vo⟩:=(val_mo m').1 _ _ _ q3;have HE1:Hid (arrayM E n s=((elemsM E m' (l++[x3])).then (arrEnd E)) s3):=(unh HE).trans (by simp[elemsM_succ,Rdr.then,q2,hx,q3]);clear HE hx
      go_wp2_with fail
      refine (Post.okC (next_any hA) q2).mono ?_;rintro e w2 ⟨v2,rfl,rfl,h2,F2⟩;have hk2:=h2.hk
      go_wp2_with fail
      refine (Post.okC (IH m' (by omega) w2 E s2 (hG _ _ hw (hF.trans F2)) ht h2 (by omega) (by omega)) q3).mono ?_;rintro e w3 ⟨v3,rfl,⟨cs,rfl,hRep⟩,h3,F3⟩;obtain⟨kk,xx,tt,rr,aa,nn,cc,mm,rfl⟩:=hRep.shape;have hk3:=h3.hk;have F23:=F2.trans F3
      have hrow3:w3.ownsRow w.heap.size 120 6 (.slice ao l.length cp) l.length xs:=ownsRow_of_block hrow (fun g hg=>by
       have:=World.ownsRow.lt hrow g hg
       exact F23.block g this.2 (by omega) (by omega))
      have hs3:w.heap.size<=w3.heap.size:=(hF.trans F23).size;have hl3:l.length<=9000:=by omega
      unfold vC
      go_wp2_with (at_builtin;refine wpList_append_own_at _ rfl _ _ 117 rfl w.heap.size 120 i0 zeroV 6 72 Tryz.undV hi hz0 hz1 hz2 rfl (by decide) _ _ _ rfl (World.ownsRow.alloc hrow3 _) ⟨w3.heap.size,0,none⟩ 1 1 [.int .i64 (kk:Int),.float .f64 xx,.string tt,.int .i64 (rr:Int),.slice aa nn cc,.map mm] rfl rfl (cell_six_new _ _ _ _ _ _ _ _) (by simp[Value.oneCell']) (by unfold maxLen;omega) (by omega) (by simp;omega) ?_;intro v4 w4 hown' hgrow _ hat)
      have hgg:=gTrans (World.grownBy_alloc w3 (.cells #[.int .i64 (kk:Int),.float .f64 xx,.string tt,.int .i64 (rr:Int),.slice aa nn cc,.map mm] 120) (Value.slice ao l.length cp).ownBlock) hgrow;have hown:∀ g,(Value.slice ao l.length cp).ownBlock=some g->NewB w wr g:=fun g hg=>World.ownsRow.lt hrow g hg
      have hF3:=hF.trans F23;have s23:=F23.size;have s2:=F2.size;have s3':=F3.size;have hne:∀ k,k<w.heap.size->some k≠(Value.slice ao l.length cp).ownBlock:=fun k hk e=>by have:=(hown k e.symm).1;omega
      have h4:At w4 P B E s3:=h3.of_blocks (fun k hk=>hgg.block k (by have:=h3.ltP;have:=h3.lt;omega) (hne k (by omega)));have hF4:Fz P B w w4:=⟨hgg.os.trans hF3.os,hgg.tape.trans hF3.tape,hgg.output.trans hF3.output,Nat.le_trans hF3.size hgg.size,fun k hk a b=>(hgg.block k (by omega) (hne k hk)).trans (hF3.block k hk a b)⟩
      have hv4:∀ b,v4.ownBlock=some b->(Value.slice ao l.length cp).ownBlock=some b\/w3.heap.size<b:=fun b hb=>by
       rcases hat with e|e
       ·exact .inl (e ▸ hb)
       ·rw[hb] at e;simp at e;exact .inr (by omega)
      have hz4:=hgg.size;refine⟨⟨m',s3,l++[x3],xs++_,by omega,by omega,by omega,by omega,by simp;omega,h4,hF4,by rw[List.length_append];exact hown',RepL.append (Rep.kept ?_ x3 hRep) l (RepL.kept ?_ l hL),HE1⟩,?_⟩
      ·intro b hb;have hnb:some b≠(Value.slice ao l.length cp).ownBlock:=fun e=>by have:=(hown b e.symm).2;have:=hb.1;omega
       refine⟨⟨⟨by have:=hb.1;have:=hF.size;omega,by have:=hb.2;omega⟩,fun e=>?_⟩,hgg.block b hb.2 hnb⟩
       rcases hv4 b e with e1|e1
       ·exact hnb e1.symm
       ·have:=hb.2;omega
      ·intro b hb;obtain⟨⟨hb1,hb2⟩,hb3⟩:=hb;refine⟨⟨⟨hb1,by omega⟩,fun e=>?_⟩,(hgg.block b (by omega) (fun e=>hb3 e.symm)).trans (F23.block b hb2 (by omega) (by omega))⟩
       rcases hv4 b e with e1|e1
       ·exact hb3 e1
       ·omega
      ·rw[hA.kOf,h4.kOf];omega
     ·have HN:Hid (arrayM E n s=.no y):=(unh HE).trans (by simp[elemsM_succ,Rdr.then,q2,hx,q3]);clear HE hx
      go_wp2_with fail
      refine (Post.okC (next_any hA) q2).mono ?_;rintro e w2 ⟨v2,rfl,rfl,h2,F2⟩;have hk2:=h2.hk
      go_wp2_with fail
      refine (Post.noC (IH m' (by omega) w2 E s2 (hG _ _ hw (hF.trans F2)) ht h2 (by omega) (by omega)) q3).mono ?_;rintro e w3 ⟨rfl,F3⟩;exact⟨rfl,Post.no (unh HN) ((hF.trans F2).trans F3)⟩
   ·have HN:Hid (arrayM E n s=.no y):=(unh HE).trans (by simp[elemsM_succ,Rdr.then,q2]);clear HE
    go_wp2_with fail
    refine (Post.noC (next_any hA) q2).mono ?_;rintro e w2 ⟨rfl,F2⟩;exact⟨rfl,Post.no (unh HN) (hF.trans F2)⟩
 ·have HN:Hid (arrayM E n s=.no y):=by show arrayM E n s=_;simp[arrayM,Rdr.then,q0,q1]
  go_wp2_with fail
  refine (Post.noC (word_any ⟨#[91]⟩ (by decide) h0) (show wordM E (bl ⟨#[91]⟩) s0=_ from q1)).mono ?_;rintro e w1 ⟨rfl,F1⟩;exact⟨rfl,Post.no (unh HN) (F0.trans F1)⟩
end
section
open Go.RowKit
attribute [local go_sem] Oper.semAt_some
variable {w w':World}{P B:Nat}{E:Env}{s s':St}{S:Nat->Prop}{f:ByteArray->Option Value}
theorem lawfulB:LawfulBEq ByteArray where
 eq_of_beq {a b} h:=by
  obtain⟨x⟩:=a;obtain⟨y⟩:=b;have h':(x==y)=true:=h;rw[eq_of_beq h']
 rfl {a}:=by
  obtain⟨x⟩:=a;show (x==x)=true;exact beq_self_eq_true _
theorem beqB {a b:ByteArray}(h:a=b):(a==b)=true:=by haveI:=lawfulB;rw[h];exact beq_self_eq_true _
theorem beqB' {a b:ByteArray}(h:¬ a=b):(a==b)=false:=by haveI:=lawfulB;exact beq_eq_false_iff_ne.2 h
theorem neB {a b:ByteArray}(h:(a==b)=false):¬ a=b:=by haveI:=lawfulB;exact beq_eq_false_iff_ne.1 h
theorem dget_some (a:ByteArray):∀ l:List (ByteArray×Val),(dget l a).isSome=l.any (fun e=>e.1==a)
 | []=>rfl
 | e::l=>by
  have ih:=dget_some a l;unfold dget at ih ⊢;rw[List.find?_cons,List.any_cons];cases h:e.1==a
  ·simpa using ih
  ·rfl
theorem any_dset (a b:ByteArray) (v:Val) (l:List (ByteArray×Val)):(dset l a v).any (fun e=>e.1==b)=(b==a||l.any (fun e=>e.1==b)):=by
 unfold dset
 by_cases h:l.any (fun e=>e.1==a)=true
 ·rw[if_pos h]
  have e1:(l.map fun e=>if e.1==a then (e.1,v) else e).any (fun e=>e.1==b)=l.any (fun e=>e.1==b):=by
   rw[List.any_map];congr 1
   funext e
   simp only[Function.comp];split <;> rfl
  rw[e1]
  by_cases hb:b=a
  ·rw[hb,h];simp
  ·rw[beqB' hb];simp
 ·rw[if_neg h,List.any_append];simp only[List.any_cons,List.any_nil,Bool.or_false]
  have:(a==b)=(b==a):=by
   by_cases hb:b=a
   ·rw[hb]
   ·rw[beqB' hb,beqB' (Ne.symm hb)]
  rw[this,Bool.or_comm]
theorem RepD.map {a:ByteArray}{v:Val}{cs:List Value}(hv:Rep w S v cs):∀ (l:List (ByteArray×Val)),RepD w S f l ->
  RepD w S (fun b=>if b=a then some (.agg cs.toArray) else f b) (l.map fun e=>if e.1==a then (e.1,v) else e)
 | [],_=>by simp only[List.map_nil];unfold RepD;trivial
 | (b,u)::l,h=>by
  unfold RepD at h;obtain⟨⟨cu,e,hu⟩,hl⟩:=h;rw[List.map_cons]
  by_cases hb:b=a
  ·rw[if_pos (beqB hb)];unfold RepD;exact⟨⟨cs,by simp[hb],hv⟩,RepD.map hv l hl⟩
  ·rw[if_neg (by simp[beqB' hb])];unfold RepD;exact⟨⟨cu,by simp[hb,e],hu⟩,RepD.map hv l hl⟩
theorem RepD.add {a:ByteArray}{v:Val}{cs:List Value}(hv:Rep w S v cs):∀ (l:List (ByteArray×Val)),l.any (fun e=>e.1==a)=false->RepD w S f l ->
  RepD w S (fun b=>if b=a then some (.agg cs.toArray) else f b) (l++[(a,v)])
 | [],_,_=>by simp only[List.nil_append];unfold RepD;exact⟨⟨cs,by simp,hv⟩,by unfold RepD;trivial⟩
 | (b,u)::l,hn,h=>by
  unfold RepD at h;obtain⟨⟨cu,e,hu⟩,hl⟩:=h;rw[List.any_cons,Bool.or_eq_false_iff] at hn;have hb:¬ b=a:=neB hn.1;rw[List.cons_append];unfold RepD;exact⟨⟨cu,by simp[hb,e],hu⟩,RepD.add hv l hn.2 hl⟩
theorem RepD.set {a:ByteArray}{v:Val}{cs:List Value}(hv:Rep w S v cs) (l:List (ByteArray×Val)) (h:RepD w S f l) :
  RepD w S (fun b=>if b=a then some (.agg cs.toArray) else f b) (dset l a v):=by
 unfold dset
 by_cases hc:l.any (fun e=>e.1==a)=true
 ·rw[if_pos hc];exact RepD.map hv l h
 ·rw[if_neg hc];exact RepD.add hv l (by simpa using hc) h
theorem RepD.get {a:ByteArray}:∀ (l:List (ByteArray×Val)),RepD w S f l->∀ x,dget l a=some x->∃ cs:List Value,f a=some (.agg cs.toArray)/\Rep w S x cs
 | [],_,x,hx=>by unfold dget at hx;simp at hx
 | (b,u)::l,h,x,hx=>by
  unfold RepD at h;obtain⟨⟨cu,e,hu⟩,hl⟩:=h;unfold dget at hx;rw[List.find?_cons] at hx
  by_cases hb:b=a
  ·rw[beqB hb] at hx;simp at hx;subst hx;exact⟨cu,by rw[← hb];exact e,hu⟩
  ·rw[beqB' hb] at hx;exact RepD.get l hl x hx
theorem nameM_inv {t:ByteArray}(h:nameM E s=.ok t s'):t.size<=8:=by
 unfold nameM at h;obtain⟨_,s1,_,h2⟩:=then_inv h;obtain⟨ht,_,hle,_⟩:=some_inv (by decide) h2;rw[ht,ByteArray.size_extract];omega
def dictEnd (E:Env) (l:List (ByteArray×Val)):Rdr (List (ByteArray×Val)):=(wordM E [62,62]).then fun _=>leaveM.then fun _=>Rdr.ret l
def DQ (w:World):List (ByteArray×Val)->Value->World->Prop:=fun l v w'=>∃ M n f,v=.map (some M)/\NewB w w' M/\MapV w' M n f/\(∀ a,(f a).isSome=l.any (fun e=>e.1==a))/\RepD w' (NewB w w') f l
end
end Go.Proofs.YtgffljllfenhkaaGreatDoor
