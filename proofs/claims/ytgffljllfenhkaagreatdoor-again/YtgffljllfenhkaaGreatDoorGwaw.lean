import Derived.BigQuiet
import Derived.Test.YtgffljllfenhkaaGreatDoorGwan
import Derived.Test.YtgffljllfenhkaaGreatDoorGwav
namespace Go.Proofs.YtgffljllfenhkaaGreatDoor
section
open Go.RowKit
attribute [local go_sem] Oper.semAt_some
variable {w w':World}{B D lo at_ root:Nat}{pl:List Nat}{slp slo:Value}{os:List Obj1}{xs:List Value}{S S':Nat->Prop}
def valOk (v:Val):Prop:=(elemsOf v).length<=9000/\(∀ e ∈ elemsOf v,isNum e=true->leafOk e)/\(isStr v=true->leafOk v)
theorem refTo_ok {ty:ByteArray}{v:Val}(ht:ty≠ByteArray.empty) (hos:os.length<=40) (h:refTo os ty v=true):leafOk v/\refOk v:=by
 cases v
 case ref n=>
  have hn:n<40:=by
   have h1:tnameAt os n=ty:=by haveI:=lawfulB;unfold refTo at h;exact eq_of_beq h
   rcases ho:os[n]? with _|o
   ·unfold tnameAt at h1;rw[ho] at h1;exact absurd h1.symm ht
   ·have:=(List.getElem?_eq_some_iff.1 ho).1;omega
  exact⟨by show n<=80000;omega,fun m e=>by cases e;exact hn⟩
 all_goals simp[refTo] at h
theorem right_ok {r:Rule}{v x:Val}{b b':Nat}(hos:os.length<=40) (hv:valOk v) (h:r.right os v b=.ok (x,true) b'):keptOk x/\refsOk x:=by
 cases r
 case kids=>
  simp only[Rule.right,kidsR] at h;split at h
  ·cases h
  ·simp only[Res.ok.injEq,Prod.mk.injEq] at h;obtain⟨⟨rfl,_⟩,_⟩:=h;have hm:∀ e ∈ (elemsOf v).filter (refTo os pageB),leafOk e/\refOk e:=fun e he=>refTo_ok (by decide +kernel) hos (List.mem_filter.1 he).2
   exact⟨⟨Nat.le_trans (List.length_filter_le _ _) hv.1,fun e he=>(hm e he).1⟩,fun e he=>(hm e he).2⟩
 case title=>
  simp only[Rule.right,Res.ok.injEq,Prod.mk.injEq] at h;obtain⟨⟨rfl,h2⟩,_⟩:=h;have:=hv.2.2 h2;cases v <;> first | (simp[isStr] at h2;done) | exact⟨this,fun m e=>by cases e⟩
 case box=>
  simp only[Rule.right,Res.ok.injEq,Prod.mk.injEq] at h;obtain⟨⟨rfl,h2⟩,_⟩:=h;rw[Bool.and_eq_true] at h2;cases v
  case arr l=>
   have hm:∀ e ∈ l,isNum e=true:=List.all_eq_true.1 h2.2;refine⟨⟨hv.1,fun e he=>hv.2.1 e he (hm e he)⟩,fun e he m em=>?_⟩;have:=hm e he;rw[em] at this;cases this
  all_goals (simp[elemsOf] at h2)
 case next=>
  simp only[Rule.right,refR] at h;split at h
  ·cases h
  ·simp only[Res.ok.injEq,Prod.mk.injEq] at h;obtain⟨⟨rfl,h2⟩,_⟩:=h;have:=refTo_ok (by decide +kernel) hos h2;cases v <;> first | (simp[refTo] at h2;done) | exact this
 case text=>
  simp only[Rule.right,refR] at h;split at h
  ·cases h
  ·simp only[Res.ok.injEq,Prod.mk.injEq] at h;obtain⟨⟨rfl,h2⟩,_⟩:=h;have:=refTo_ok (by decide +kernel) hos h2;cases v <;> first | (simp[refTo] at h2;done) | exact this
theorem Rep.nil {v:Val}{kk xx:Nat}{tt:ByteArray}{rr:Nat}{aa:Option Addr}{nn cc:Nat}{mm:Option Nat}(h:Rep w S v (vC kk xx tt rr (.slice aa nn cc) (.map mm))):aa=none->nn=0/\cc=0:=by
 intro ha;cases v <;> unfold Rep at h
 case arr l=>
  obtain⟨sl,xs,e,ho,_⟩:=h;obtain⟨_,_,_,_,e5,_⟩:=vC_m e
  rcases ho.2 with⟨h1,_⟩|⟨g,cap,cur,h1,_⟩
  ·rw[h1] at e5;simp only[Value.slice.injEq] at e5;exact⟨e5.2.1,e5.2.2⟩
  ·rw[h1,ha] at e5;simp at e5
 case dict l=>
  obtain⟨M,n,f,e,_⟩:=h;obtain⟨_,_,_,_,e5,_⟩:=vC_m e;simp only[Value.slice.injEq] at e5;exact⟨e5.2.1,e5.2.2⟩
 all_goals
  obtain⟨_,_,_,_,e5,_⟩:=vC_m h;simp only[Value.slice.injEq] at e5;exact⟨e5.2.1,e5.2.2⟩
theorem RightQ.same {v:Val}{ok:Bool}{kk xx:Nat}{tt:ByteArray}{rr:Nat}{aa:Option Addr}{nn cc:Nat}{mm:Option Nat}(hS:∀ b,S b->b<w.heap.size/\b≠B) (F:Fb B w w') (h:Rep w S v (vC kk xx tt rr (.slice aa nn cc) (.map mm))) :
  RightQ w S (v,ok) (.tuple #[.agg #[.int .i64 (kk:Int),.float .f64 xx,.string tt,.int .i64 (rr:Int),.slice aa nn cc,.map mm],.bool ok]) w':=
 ⟨kk,xx,tt,rr,aa,nn,cc,mm,rfl,RepK.kept (fun b hb=>⟨.inl hb,F.block b (hS b hb).1 (hS b hb).2⟩) v (Rep.toK h),Rep.nil h⟩
theorem title_r {b:Nat}(hB:Bud w B b) (v:Val) (hS:∀ b,S b->b<w.heap.size/\b≠B) {kk xx:Nat}{tt:ByteArray}{rr:Nat}{aa:Option Addr}{nn cc:Nat}{mm:Option Nat}(hR:Rep w S v (vC kk xx tt rr (.slice aa nn cc) (.map mm))) :
  Calls Tryz.prog 139 #[.agg #[.int .i64 (kk:Int),.float .f64 xx,.string tt,.int .i64 (rr:Int),.slice aa nn cc,.map mm]] w (PostB B w (RightQ w S) (Rule.right os .title v b)):=
 (title_any v hR).mono fun e w1 ⟨he,hb⟩=>by
  subst he;have hlt:=hB.lt;exact PostB.ok rfl (RightQ.same hS (Fb.of_below hb) hR) (hB.of_blocks (fun k hk=>hb.block k (by omega))) (Fb.of_below hb)
theorem box_r {b:Nat}(hB:Bud w B b) (v:Val) (hS:∀ b,S b->b<w.heap.size/\b≠B) {kk xx:Nat}{tt:ByteArray}{rr:Nat}{aa:Option Addr}{nn cc:Nat}{mm:Option Nat}(hR:Rep w S v (vC kk xx tt rr (.slice aa nn cc) (.map mm))) :
  Calls Tryz.prog 140 #[.agg #[.int .i64 (kk:Int),.float .f64 xx,.string tt,.int .i64 (rr:Int),.slice aa nn cc,.map mm]] w (PostB B w (RightQ w S) (Rule.right os .box v b)):=
 (box_any v (fun b hb=>(hS b hb).1) hR (Rep.elems hR)).mono fun e w1 ⟨he,hb⟩=>by
  subst he;have hlt:=hB.lt;exact PostB.ok rfl (RightQ.same hS (Fb.of_below hb) hR) (hB.of_blocks (fun k hk=>hb.block k (by omega))) (Fb.of_below hb)
theorem ref_r {b DV TV:Nat}{ty:ByteArray}(h:Doc w D B lo at_ pl root slp slo os xs) (hB:Bud w B b) (hlo:B+1<lo) (hDV:At1 w DV (.pointer (some ⟨D,0,none⟩)) 75) (hTV:At1 w TV (.string ty) 9) (hn:DV≠B/\TV≠B) (v:Val) (hS:∀ b,S b->b<w.heap.size/\b≠B) {kk xx:Nat}{tt:ByteArray}{rr:Nat}{aa:Option Addr}{nn cc:Nat}{mm:Option Nat}(hR:Rep w S v (vC kk xx tt rr (.slice aa nn cc) (.map mm))) :
  Calls Tryz.prog 161 #[.agg #[.int .i64 (kk:Int),.float .f64 xx,.string tt,.int .i64 (rr:Int),.slice aa nn cc,.map mm],.pointer (some ⟨DV,0,none⟩),.pointer (some ⟨TV,0,none⟩)] w (PostB B w (RightQ w S) (refR os ty v b)):=
 (refTo_any h hB hlo hDV hTV hn v hR).mono fun e w1 hp=>by
  rcases q:refR os ty v b with⟨⟨x,ok⟩,b'⟩|y
  ·rw[q] at hp;obtain⟨val,rfl,rfl,hB1,F1⟩:=hp
   have hx:x=v:=by
    unfold refR at q;split at q
    ·cases q
    ·simp only[Res.ok.injEq,Prod.mk.injEq] at q;exact q.1.1.symm
   subst hx;exact⟨_,rfl,RightQ.same hS F1 hR,hB1,F1⟩
  ·rw[q] at hp;exact hp
theorem Nm.apart {OL NV M base:Nat}{o:Value}{olds:List Nat}(h:Nm w OL NV M base o olds) {k:Nat}{cs:Array Value}{t:TypeId}(hk:w.heap[k]?=some (.cells cs t (0,0))) (ht:t≠3):o.ownBlock≠some k:=by
 intro e
 rcases h.row.2 with⟨h1,_⟩|⟨g,cap,cur,h1,_,h2,_⟩
 ·rw[h1] at e;simp[Value.ownBlock] at e
 ·rw[h1] at e;have:g=k:=by simpa[Value.ownBlock] using e
  subst this;rw[hk] at h2;simp at h2;exact ht h2.2
structure FldR (w:World) (lo:Nat) (S:Nat->Prop) (sl:Value) (acc:List (ByteArray×Val)) (ys:List Value):Prop where
 row:w.ownsRow lo 146 7 sl acc.length ys
 el:∀ i f,acc[i]?=some f->∃ k1 x1 t1 r1 a1 n1 c1 m1,(∀ j u,([.string f.1,.int .i64 ((k1:Nat):Int),.float .f64 x1,.string t1,.int .i64 ((r1:Nat):Int),.slice a1 n1 c1,.map m1]:List Value)[j]?=some u->ys[i*7+j]?=some u)/\RepK w S f.2 (vC k1 x1 t1 r1 (.slice a1 n1 c1) (.map m1))
theorem FldR.nil (w:World) (lo:Nat) (S:Nat->Prop):FldR w lo S (.slice none 0 0) [] []:=⟨World.ownsRow_nil _ _ _ _,by simp⟩
theorem FldR.own {lo:Nat}{sl:Value}{acc:List (ByteArray×Val)}{ys:List Value}(h:FldR w lo S sl acc ys) {k:Nat}(hk:sl.ownBlock=some k):lo<=k/\k<w.heap.size/\∃ cs,w.heap[k]?=some (.cells cs 146 (0,0)):=by
 rcases h.row.2 with⟨h1,_⟩|⟨g,cap,cur,h1,h3,h2,_⟩
 ·rw[h1] at hk;simp[Value.ownBlock] at hk
 ·rw[h1] at hk;have:g=k:=by simpa[Value.ownBlock] using hk
  subst this;exact⟨h3,(Array.getElem?_eq_some_iff.1 h2).1,_,h2⟩
theorem FldR.kept {lo:Nat}{sl:Value}{acc:List (ByteArray×Val)}{ys:List Value}(h:FldR w lo S sl acc ys) (hr:∀ k,sl.ownBlock=some k->w'.heap[k]?=w.heap[k]?) (hS:∀ b,S b->S' b/\w'.heap[b]?=w.heap[b]?):FldR w' lo S' sl acc ys:=by
 refine⟨?_,fun i f hf=>?_⟩
 ·refine⟨h.row.1,?_⟩
  rcases h.row.2 with hn|⟨g,cap,cur,rfl,h1,h2,rest⟩
  ·exact .inl hn
  ·exact .inr ⟨g,cap,cur,rfl,h1,(hr g rfl).trans h2,rest⟩
 ·obtain⟨k1,x1,t1,r1,a1,n1,c1,m1,h1,h2⟩:=h.el i f hf;exact⟨k1,x1,t1,r1,a1,n1,c1,m1,h1,RepK.kept hS f.2 h2⟩
theorem FldR.snoc {lo:Nat}{sl sl':Value}{acc:List (ByteArray×Val)}{ys:List Value}{key:ByteArray}{v:Val}{kk xx:Nat}{tt:ByteArray}{rr:Nat}{aa:Option Addr}{nn cc:Nat}{mm:Option Nat}(h:FldR w lo S sl acc ys) (hS:∀ b,S b->S' b/\w'.heap[b]?=w.heap[b]?) (hr:w'.ownsRow lo 146 7 sl' (acc.length+1) (ys++[.string key,.int .i64 (kk:Int),.float .f64 xx,.string tt,.int .i64 (rr:Int),.slice aa nn cc,.map mm])) (hv:RepK w' S' v (vC kk xx tt rr (.slice aa nn cc) (.map mm))) :
  FldR w' lo S' sl' (acc++[(key,v)]) (ys++[.string key,.int .i64 (kk:Int),.float .f64 xx,.string tt,.int .i64 (rr:Int),.slice aa nn cc,.map mm]):=by
 have hl:ys.length=acc.length*7:=h.row.1;refine⟨by rw[List.length_append];exact hr,fun i f hf=>?_⟩
 by_cases hi:i<acc.length
 ·rw[List.getElem?_append_left hi] at hf;obtain⟨k1,x1,t1,r1,a1,n1,c1,m1,h1,h2⟩:=h.el i f hf;refine⟨k1,x1,t1,r1,a1,n1,c1,m1,fun j u hj=>?_,RepK.kept hS f.2 h2⟩;have hj7:j<7:=(List.getElem?_eq_some_iff.1 hj).1;rw[List.getElem?_append_left (by omega)];exact h1 j u hj
 ·have hil:=(List.getElem?_eq_some_iff.1 hf).1;rw[List.length_append] at hil;have:i=acc.length:=by simp at hil;omega
  subst this;have:(key,v)=f:=by simpa using hf
  subst this;refine⟨kk,xx,tt,rr,aa,nn,cc,mm,fun j u hj=>?_,hv⟩;rw[List.getElem?_append_right (by omega),hl,Nat.add_sub_cancel_left];exact hj
end
section
open Go.RowKit
attribute [local go_sem] Oper.semAt_some
variable {w w':World}{X:Nat}
def isDig (c:UInt8):Bool:=decide (48<=c.toNat/\c.toNat<=57)
def digV:List UInt8->Nat->Nat
 | [],n=>n
 | c::l,n=>digV l (10*n+(c.toNat-48))
theorem digV_app:∀ (a b:List UInt8) (n:Nat),digV (a++b) n=digV b (digV a n)
 | [],_,_=>rfl
 | c::a,b,n=>by rw[List.cons_append,digV,digV,digV_app a b]
theorem digV_lt:∀ (l:List UInt8) (n k:Nat),(∀ c ∈ l,isDig c=true)->n<10^k->digV l n<10^(k+l.length)
 | [],n,k,_,h=>by simpa[digV] using h
 | c::l,n,k,hd,h=>by
  rw[digV];have hc:=of_decide_eq_true (hd c (by simp));have:=digV_lt l (10*n+(c.toNat-48)) (k+1) (fun d h=>hd d (by simp[h])) (by rw[Nat.pow_succ];omega);rw[List.length_cons,show k+(l.length+1)=k+1+l.length by omega];exact this
end
section
open Go.RowKit
attribute [local go_sem] Oper.semAt_some
variable {w w':World}{X:Nat}
def textOk:List UInt8->Bool
 | []=>true
 | [c]=>c != 40&&c != 41&&c != 92
 | c::d::l=>if c==92 then (d==40||d==41||d==92)&&textOk l else c != 40&&c != 41&&textOk (d::l)
theorem textOk_cons {c:UInt8}{l:List UInt8}(h:textOk (c::l)=true):c≠41/\c≠40/\((c=92/\∃ d l',l=d::l'/\textOk l'=true)\/(c≠92/\textOk l=true)):=by
 cases l with
 | nil=>
  simp only[textOk,Bool.and_eq_true,bne_iff_ne,ne_eq] at h;exact⟨h.1.2,h.1.1,.inr ⟨h.2,rfl⟩⟩
 | cons d l=>
  simp only[textOk] at h
  by_cases hc:c=92
  ·rw[if_pos (by simp[hc]),Bool.and_eq_true] at h;exact⟨by rw[hc];decide,by rw[hc];decide,.inl ⟨hc,d,l,rfl,h.2⟩⟩
  ·rw[if_neg (by simp[hc])] at h;simp only[Bool.and_eq_true,bne_iff_ne,ne_eq] at h;exact⟨h.1.2,h.1.1,.inr ⟨hc,h.2⟩⟩
end
section
variable {E:Env}
def Kb (E:Env) {α:Type}(m:Rdr α):Prop:=∀ s b s',m s=.ok b s'->s.k<=E.e->s'.k<=E.e
def Kl (E:Env) {α:Type}(m:Rdr α):Prop:=∀ s b s',m s=.ok b s'->s.k<E.e->s'.k<=E.e
section
variable {α β:Type}{m:Rdr α}{f:α->Rdr β}
theorem Kb.kl (h:Kb E m):Kl E m:=fun s b s' e hk=>h s b s' e (by omega)
theorem Kb.then (h:Kb E m) (g:∀ a,Kb E (f a)):Kb E (m.then f):=fun s b s' e hk=>by
 obtain⟨a,s1,h1,h2⟩:=then_inv e;exact g a s1 b s' h2 (h s a s1 h1 hk)
theorem Kb.ret (a:α):Kb E (Rdr.ret a):=fun s b s' e hk=>by obtain⟨_,rfl⟩:=ret_inv e;exact hk
theorem Kb.need (c:Bool):Kb E (needM E c):=fun s b s' e hk=>by obtain⟨rfl,_⟩:=need_inv e;exact hk
theorem Kb.at:Kb E atM:=fun s b s' e hk=>by obtain⟨_,rfl⟩:=at_inv e;exact hk
theorem Kb.peek {f:Nat->Rdr β}(g:∀ a,Kl E (f a)):Kb E ((peekM E).then f):=fun s b s' e hk=>by
 obtain⟨a,s1,h1,h2⟩:=then_inv e;obtain⟨rfl,_,h3,_⟩:=peek_inv h1;exact g a _ b s' h2 (by show s.k<E.e;omega)
theorem Kl.need {c:Bool}{f:Unit->Rdr β}(g:∀ a,Kl E (f a)):Kl E ((needM E c).then f):=fun s b s' e hk=>by
 obtain⟨a,s1,h1,h2⟩:=then_inv e;obtain⟨rfl,_⟩:=need_inv h1;exact g a _ b s' h2 hk
theorem Kl.adv {f:Unit->Rdr β}(g:∀ a,Kb E (f a)):Kl E (advM.then f):=fun s b s' e hk=>by
 obtain⟨a,s1,h1,h2⟩:=then_inv e;rw[adv_inv h1] at h2;exact g a _ b s' h2 (by show s.k+1<=E.e;omega)
theorem Kb.ite {c:Bool}{m1 m2:Rdr α}(h1:Kb E m1) (h2:Kb E m2):Kb E (if c=true then m1 else m2):=by cases c <;> simpa
theorem Kl.ite {c:Bool}{m1 m2:Rdr α}(h1:Kl E m1) (h2:Kl E m2):Kl E (if c=true then m1 else m2):=by cases c <;> simpa
end
theorem Kb.word:∀ l,Kb E (wordM E l)
 | []=>by unfold wordM;exact Kb.ret _
 | c::l=>by unfold wordM;exact Kb.peek fun x=>Kl.need fun _=>Kl.adv fun _=>Kb.word l
theorem Kb.someL (p:Nat->Bool):∀ n,Kb E (YtgffljllfenhkaaGreatDoor.someL E p n)
 | 0=>by unfold YtgffljllfenhkaaGreatDoor.someL;exact Kb.ret _
 | n+1=>by unfold YtgffljllfenhkaaGreatDoor.someL;exact Kb.peek fun x=>Kl.ite (Kl.adv fun _=>Kb.someL p n) (Kb.ret _).kl
theorem Kb.some (p:Nat->Bool) (n:Nat):Kb E (someM E p n):=by
 unfold someM;exact Kb.at.then fun _=>Kb.peek fun x=>Kl.need fun _=>((Kb.someL p n).then fun _=>Kb.at.then fun _=>Kb.ret _).kl
theorem Kb.blanks:∀ n,Kb E (blanksM E n)
 | 0=>by intro s b s' e;cases e
 | n+1=>by unfold blanksM;exact Kb.peek fun x=>Kl.ite (Kl.adv fun _=>Kb.blanks n) (Kb.ret _).kl
theorem Kb.next:Kb E (nextM E):=by
 unfold nextM;refine (Kb.blanks _).then fun _=>?_
 intro s b s' e hk;obtain⟨rfl,_⟩:=peek_inv e;exact hk
theorem Kb.textL:∀ n,Kb E (YtgffljllfenhkaaGreatDoor.textL E n)
 | 0=>by intro s b s' e;cases e
 | n+1=>by
  unfold YtgffljllfenhkaaGreatDoor.textL;refine Kb.peek fun x=>Kl.ite (Kb.ret _).kl (Kb.kl (Kb.peek fun x=>Kl.need fun _=>Kb.kl (Kb.peek fun x=>?_)))
  cases hx:x==92
  ·intro s b s' e hk;obtain⟨a,s1,h1,h2⟩:=then_inv e;simp only[Bool.false_eq_true,if_false] at h1;obtain⟨_,rfl⟩:=ret_inv h1;exact Kl.adv (fun _=>Kb.textL n) _ b s' h2 hk
  ·intro s b s' e hk;obtain⟨a,s1,h1,h2⟩:=then_inv e;simp only[if_true] at h1;obtain⟨a2,s2,h3,h4⟩:=then_inv h1;rw[adv_inv h3] at h4;obtain⟨x3,s3,h5,h6⟩:=then_inv h4;obtain⟨rfl,_,h7,_⟩:=peek_inv h5;obtain⟨rfl,_⟩:=need_inv h6;have h7':s.k+1≠E.e:=h7;exact Kl.adv (fun _=>Kb.textL n) _ b s' h2 (by show s.k+1<E.e;omega)
theorem Kb.text:Kb E (textM E):=by
 unfold textM;exact (Kb.word _).then fun _=>Kb.at.then fun _=>(Kb.textL _).then fun _=>(Kb.word _).then fun _=>Kb.at.then fun _=>Kb.ret _
theorem Kb.name:Kb E (nameM E):=by unfold nameM;exact (Kb.word _).then fun _=>Kb.some _ _
theorem Kb.whole (n:Nat):Kb E (wholeM E n):=by unfold wholeM;exact (Kb.some _ _).then fun _=>Kb.ret _
theorem Kb.num:Kb E (numM E):=by
 unfold numM;refine Kb.peek fun x=>?_
 have hrest:Kb E ((someM E digP 6).then fun ti=>(peekM E).then fun y=>if y==46 then advM.then fun _=>(someM E digP 3).then fun tf=>Rdr.ret (x==45,vI (ti++tf) 0 (ti.size+tf.size),tf.size) else Rdr.ret (x==45,vI ti 0 ti.size,0)):=
  (Kb.some _ _).then fun _=>Kb.peek fun y=>Kl.ite (Kl.adv fun _=>(Kb.some _ _).then fun _=>Kb.ret _) (Kb.ret _).kl
 intro s b s' e hk;obtain⟨a,s1,h1,h2⟩:=then_inv e;cases hx:x==45
 ·rw[hx] at h1;simp only[Bool.false_eq_true,if_false] at h1;obtain⟨_,rfl⟩:=ret_inv h1;exact hrest _ b s' h2 (by omega)
 ·rw[hx] at h1;simp only[if_true] at h1;rw[adv_inv h1] at h2;exact hrest _ b s' h2 (by show s.k+1<=E.e;omega)
def txOk (v:Val):Prop:=∀ t,v=.str t->textOk t.data.toList=true
def VX (v:Val):Prop:=valOk v/\txOk v
def VO:Val->Prop
 | .num neg m k=>leafOk (.num neg m k)
 | .str t=>leafOk (.str t)/\textOk t.data.toList=true
 | .arr l=>l.length<=9000/\∀ e ∈ l,isNum e=true->leafOk e
 | .dict l=>∀ e ∈ l,VX e.2
 | _=>True
theorem VO.num {v:Val}(h:VO v) (hn:isNum v=true):leafOk v:=by
 cases v <;> first | exact h | (simp[isNum] at hn)
theorem VO.ok {v:Val}(h:VO v):valOk v:=by
 cases v
 case arr l=>exact⟨h.1,h.2,by simp[isStr]⟩
 case str t=>exact⟨by simp[elemsOf],by simp[elemsOf],fun _=>h.1⟩
 all_goals exact⟨by simp[elemsOf],by simp[elemsOf],by simp[isStr]⟩
theorem VO.tx {v:Val}(h:VO v):txOk v:=by
 intro t e;subst e;exact h.2
theorem VO.x {v:Val}(h:VO v):VX v:=⟨h.ok,h.tx⟩
theorem some_digs {most:Nat}{t:ByteArray}{s s':St}(hm:1<=most) (h:someM E digP most s=.ok t s'):t.size<=most/\∀ j,j<t.size->digP (bt t j)=true:=by
 obtain⟨ht,a,b,c⟩:=some_inv hm h;have hz:t.size<=s'.k-s.k:=by rw[ht,ByteArray.size_extract];omega
 refine⟨by omega,fun j hj=>?_⟩;rw[ht,bt_extract _ _ _ _ (by omega)];exact (c _ (by omega) (by omega)).1
theorem num_ok {y:Bool×Nat×Nat}{s s':St}(h:numM E s=.ok y s'):y.2.1<10^6*10^y.2.2/\y.2.2<=3:=by
 unfold numM at h;obtain⟨x,s1,_,h⟩:=then_inv h;obtain⟨_,s2,_,h⟩:=then_inv h;obtain⟨ti,s3,hi,h⟩:=then_inv h;obtain⟨z,s4,_,h⟩:=then_inv h;obtain⟨hi1,hi2⟩:=some_digs (by decide) hi;split at h
 ·obtain⟨_,s5,_,h⟩:=then_inv h;obtain⟨tf,s6,hf,h⟩:=then_inv h;obtain⟨rfl,_⟩:=ret_inv h;obtain⟨hf1,hf2⟩:=some_digs (by decide) hf;refine⟨?_,hf1⟩
  have:=vI_le (ti++tf) 0 (ti.size+tf.size) (fun j hj=>by
   rw[Nat.zero_add,bt_append];split
   ·exact hi2 j (by assumption)
   ·exact hf2 _ (by omega))
  refine Nat.lt_of_lt_of_le this ?_;rw[← Nat.pow_add];exact Nat.pow_le_pow_right (by decide) (by show ti.size+tf.size<=6+tf.size;omega)
 ·obtain⟨rfl,_⟩:=ret_inv h;refine⟨?_,Nat.zero_le _⟩;have:=vI_le ti 0 ti.size (fun j hj=>by rw[Nat.zero_add];exact hi2 j hj);refine Nat.lt_of_lt_of_le this ?_;show 10^ti.size<=10^6*10^0;rw[← Nat.pow_add];exact Nat.pow_le_pow_right (by decide) (by omega)
theorem text_ok {t:ByteArray}{s s':St}(h:textM E s=.ok t s'):t.size<=E.f.size:=by
 unfold textM at h;obtain⟨_,s1,_,h⟩:=then_inv h;obtain⟨i,s2,_,h⟩:=then_inv h;obtain⟨_,s3,_,h⟩:=then_inv h;obtain⟨_,s4,_,h⟩:=then_inv h;obtain⟨j,s5,_,h⟩:=then_inv h;obtain⟨rfl,_⟩:=ret_inv h;rw[ByteArray.size_extract];omega
theorem ext_cons {f:ByteArray}{i j:Nat}(hij:i<j) (hj:j<=f.size):∃ c:UInt8,c.toNat=bt f i/\(f.extract i j).data.toList=c::(f.extract (i+1) j).data.toList:=by
 have hs:i<f.data.size:=Nat.lt_of_lt_of_le hij hj;refine⟨f.data[i],?_,?_⟩
 ·unfold bt;rw[List.getD_eq_getElem?_getD,Array.getElem?_toList,Array.getElem?_eq_getElem hs];rfl
 ·rw[ByteArray.data_extract,ByteArray.data_extract,Array.toList_extract,Array.toList_extract];simp only[List.extract_eq_take_drop];have hl:i<f.data.toList.length:=by simpa using hs
  rw[List.drop_eq_getElem_cons hl,show j-i=(j-(i+1))+1 by omega,List.take_succ_cons];simp
theorem textOk_lets {c:UInt8}{l:List UInt8}(h1:c≠40) (h2:c≠41) (h3:c≠92) (h:textOk l=true):textOk (c::l)=true:=by
 cases l with
 | nil=>simp[textOk,h1,h2,h3]
 | cons d l=>simp[textOk,h1,h2,h3,h]
theorem textOk_esc {d:UInt8}{l:List UInt8}(hd:escP d.toNat=true) (h:textOk l=true):textOk (92::d::l)=true:=by
 have h1:d=40\/d=41\/d=92:=by
  unfold escP at hd;simp only[Bool.or_eq_true,beq_iff_eq] at hd
  rcases hd with e|e|e
  ·exact .inl (UInt8.toNat_inj.1 e)
  ·exact .inr (.inl (UInt8.toNat_inj.1 e))
  ·exact .inr (.inr (UInt8.toNat_inj.1 e))
 rcases h1 with rfl|rfl|rfl <;> simpa[textOk] using h
theorem textOk_more {d:UInt8}{l:List UInt8}(h:textOk (92::d::l)=true):escP d.toNat=true:=by
 simp only[textOk] at h;rw[if_pos (by decide),Bool.and_eq_true] at h;have h1:=h.1;simp only[Bool.or_eq_true,beq_iff_eq] at h1
 rcases h1 with (rfl|rfl) | rfl <;> decide
theorem textL_tx (hef:E.e<=E.f.size):∀ (n:Nat) {s s':St}{u:Unit},textL E n s=.ok u s'->s.k<=E.e->s.k<=s'.k/\s'.k<=E.e/\textOk (E.f.extract s.k s'.k).data.toList=true
 | 0,_,_,_,h,_=>by cases h
 | n+1,s,s',u,h,hk=>by
  unfold textL at h;obtain⟨x,s1,h1,h⟩:=then_inv h;obtain⟨rfl,hx,hne,_⟩:=peek_inv h1;split at h
  ·obtain⟨_,rfl⟩:=ret_inv h;refine⟨Nat.le_refl _,hk,?_⟩;show textOk (E.f.extract s.k s.k).data.toList=true;rw[ByteArray.data_extract,Array.toList_extract];simp[textOk]
  ·rename_i h41;obtain⟨x2,s2,h2,h⟩:=then_inv h;obtain⟨rfl,hx2,_,_⟩:=peek_inv h2;obtain⟨_,s3,h3,h⟩:=then_inv h;obtain⟨rfl,h40⟩:=need_inv h3;obtain⟨x4,s4,h4,h⟩:=then_inv h;obtain⟨rfl,hx4,_,_⟩:=peek_inv h4;obtain⟨_,s5,h5,h⟩:=then_inv h;have e41:bt E.f s.k≠41:=fun e=>h41 (by rw[hx,e];rfl)
   have e40:bt E.f s.k≠40:=fun e=>by
    have:x2=40:=by rw[hx2];exact e
    rw[this] at h40;exact absurd h40 (by decide)
   have hlt:s.k<E.e:=by omega
   split at h5
   ·rename_i h92;obtain⟨_,s6,h6,h5⟩:=then_inv h5;rw[adv_inv h6] at h5;obtain⟨x7,s7,h7,h5⟩:=then_inv h5;obtain⟨rfl,hx7,hne7,_⟩:=peek_inv h7;obtain⟨rfl,hesc⟩:=need_inv h5;obtain⟨_,s8,h8,h⟩:=then_inv h;rw[adv_inv h8] at h;have hne7':s.k+1≠E.e:=hne7;obtain⟨g1,g2,g3⟩:=textL_tx hef n h (by show s.k+1+1<=E.e;omega);have g1':s.k+1+1<=s'.k:=g1;refine⟨by omega,g2,?_⟩;obtain⟨c,hc,e1⟩:=ext_cons (f:=E.f) (i:=s.k) (j:=s'.k) (by omega) (by omega);obtain⟨d,hd,e2⟩:=ext_cons (f:=E.f) (i:=s.k+1) (j:=s'.k) (by omega) (by omega);rw[e1,e2]
    have hc92:c=92:=by
     have h9:x4=92:=by simpa using h92
     have h10:c.toNat=92:=by rw[hc];rw[← h9,hx4]
     exact UInt8.toNat_inj.1 h10
    rw[hc92];exact textOk_esc (by rw[hd];rw[hx7] at hesc;exact hesc) g3
   ·rename_i h92;obtain⟨_,rfl⟩:=ret_inv h5;obtain⟨_,s8,h8,h⟩:=then_inv h;rw[adv_inv h8] at h;obtain⟨g1,g2,g3⟩:=textL_tx hef n h (by show s.k+1<=E.e;omega);have g1':s.k+1<=s'.k:=g1;refine⟨by omega,g2,?_⟩;obtain⟨c,hc,e1⟩:=ext_cons (f:=E.f) (i:=s.k) (j:=s'.k) (by omega) (by omega);rw[e1];have hcn:∀ (d:UInt8),bt E.f s.k≠d.toNat->c≠d:=fun d hd e=>hd (by rw[← hc,e])
    refine textOk_lets (hcn 40 e40) (hcn 41 e41) (hcn 92 (fun e=>h92 ?_)) g3;have:x4=92:=by rw[hx4];exact e
    rw[this];rfl
theorem text_tx (hef:E.e<=E.f.size) {t:ByteArray}{s s':St}(h:textM E s=.ok t s') (hk:s.k<=E.e):textOk t.data.toList=true:=by
 unfold textM at h;obtain⟨_,s1,h1,h⟩:=then_inv h;have k1:=Kb.word _ _ _ _ h1 hk;obtain⟨i,s2,h2,h⟩:=then_inv h;obtain⟨rfl,rfl⟩:=at_inv h2
 obtain⟨_,s3,h3,h⟩:=then_inv h;obtain⟨g1,g2,g3⟩:=textL_tx hef _ h3 k1;obtain⟨_,s4,h4,h⟩:=then_inv h;have k4:=(word_inv _ h4).1;obtain⟨j,s5,h5,h⟩:=then_inv h;obtain⟨rfl,rfl⟩:=at_inv h5
 obtain⟨rfl,_⟩:=ret_inv h;have:s5.k-1=s3.k:=by rw[k4];rfl
 rw[this];exact g3
theorem dset_ok {l:List (ByteArray×Val)}{a:ByteArray}{v:Val}(h:∀ e ∈ l,VX e.2) (hv:VX v):∀ e ∈ dset l a v,VX e.2:=by
 intro e he;unfold dset at he;split at he
 ·obtain⟨e',he',rfl⟩:=List.mem_map.1 he;split
  ·exact hv
  ·exact h e' he'
 ·rcases List.mem_append.1 he with h1|h1
  ·exact h e h1
  ·have:e=(a,v):=by simpa using h1
   rw[this];exact hv
theorem dget_ok {l:List (ByteArray×Val)}(h:∀ e ∈ l,VX e.2) (a:ByteArray):VX ((dget l a).getD .none):=by
 have hn:VX .none:=⟨⟨by simp[elemsOf],by simp[elemsOf],by simp[isStr]⟩,fun t e=>by cases e⟩;unfold dget
 rcases hq:l.find? (fun e=>e.1==a) with _|e
 ·rw[hq];exact hn
 ·rw[hq];exact h e (List.mem_of_find?_eq_some hq)
theorem vget_tx {v:Val}(h:VO v) (a:ByteArray):txOk (vget v a):=by
 cases v
 case dict l=>exact (dget_ok h a).2
 all_goals exact fun t e=>by cases e
theorem vget_ok {v:Val}(h:VO v) (a:ByteArray):valOk (vget v a):=by
 cases v
 case dict l=>exact (dget_ok h a).1
 all_goals exact⟨by simp[vget,elemsOf],by simp[vget,elemsOf],by simp[vget,isStr]⟩
theorem read_ok (he:E.e<=9000) (hf:E.f.size<=9000) (hef:E.e<=E.f.size):∀ n,(∀ s v s',valueM E n s=.ok v s'->s.k<=E.e->s'.k<=E.e/\VO v) /\
  (∀ l s l' s',elemsM E n l s=.ok l' s'->s.k<=E.e->l.length<=s.k->(∀ e ∈ l,isNum e=true->leafOk e)->s'.k<=E.e/\l'.length<=s'.k/\∀ e ∈ l',isNum e=true->leafOk e) /\
  (∀ l s l' s',keysM E n l s=.ok l' s'->s.k<=E.e->(∀ e ∈ l,VX e.2)->s'.k<=E.e/\∀ e ∈ l',VX e.2)
 | 0=>⟨(by intro s v s' h;rw[valueM] at h;cases h),(by intro l s l' s' h;rw[elemsM] at h;cases h),(by intro l s l' s' h;rw[keysM] at h;cases h)⟩
 | n+1=>by
  obtain⟨ihv,ihe,ihk⟩:=read_ok he hf hef n;refine⟨fun s v s' h hk=>?_,fun l s l' s' h hk hl hL=>?_,fun l s l' s' h hk hL=>?_⟩
  ·rw[valueM] at h;obtain⟨x,s1,h1,h⟩:=then_inv h;have hk1:=Kb.next s x s1 h1 hk
   split at h
   ·exact⟨((Kb.word _).then fun _=>Kb.ret _) _ _ _ h hk1,by obtain⟨_,_,_,h⟩:=then_inv h;rw[(ret_inv h).1];trivial⟩
   split at h
   ·exact⟨((Kb.word _).then fun _=>Kb.ret _) _ _ _ h hk1,by obtain⟨_,_,_,h⟩:=then_inv h;rw[(ret_inv h).1];trivial⟩
   split at h
   ·exact⟨((Kb.word _).then fun _=>Kb.ret _) _ _ _ h hk1,by obtain⟨_,_,_,h⟩:=then_inv h;rw[(ret_inv h).1];trivial⟩
   split at h
   ·exact⟨(Kb.text.then fun _=>Kb.ret _) _ _ _ h hk1,by
     obtain⟨t,_,ht,h⟩:=then_inv h;rw[(ret_inv h).1];have:=text_ok ht
     exact⟨by show t.size<=90000;omega,text_tx hef ht hk1⟩⟩
   split at h
   ·exact⟨(Kb.name.then fun _=>Kb.ret _) _ _ _ h hk1,by obtain⟨_,_,_,h⟩:=then_inv h;rw[(ret_inv h).1];trivial⟩
   split at h
   ·exact⟨((Kb.word _).then fun _=>(Kb.whole _).then fun _=>Kb.ret _) _ _ _ h hk1,by obtain⟨_,_,_,h⟩:=then_inv h;obtain⟨_,_,_,h⟩:=then_inv h;rw[(ret_inv h).1];trivial⟩
   split at h
   ·obtain⟨_,s2,h2,h⟩:=then_inv h;have e2:s2.k=s1.k:=by unfold enterM at h2;cases h2;rfl
    obtain⟨_,s3,h3,h⟩:=then_inv h;have hk3:=Kb.word _ _ _ _ h3 (by omega);obtain⟨l,s4,h4,h⟩:=then_inv h;obtain⟨hk4,hl4,hL4⟩:=ihe [] s3 l s4 h4 hk3 (Nat.zero_le _) (by simp);obtain⟨_,s5,h5,h⟩:=then_inv h;have hk5:=Kb.word _ _ _ _ h5 hk4;obtain⟨_,s6,h6,h⟩:=then_inv h;have e6:s6.k=s5.k:=by unfold leaveM at h6;cases h6;rfl
    obtain⟨rfl,rfl⟩:=ret_inv h;exact⟨by omega,by omega,hL4⟩
   split at h
   ·obtain⟨_,s2,h2,h⟩:=then_inv h;have e2:s2.k=s1.k:=by unfold enterM at h2;cases h2;rfl
    obtain⟨_,s3,h3,h⟩:=then_inv h;have hk3:=Kb.word _ _ _ _ h3 (by omega);obtain⟨l,s4,h4,h⟩:=then_inv h;obtain⟨hk4,hL4⟩:=ihk [] s3 l s4 h4 hk3 (by simp);obtain⟨_,s5,h5,h⟩:=then_inv h;have hk5:=Kb.word _ _ _ _ h5 hk4;obtain⟨_,s6,h6,h⟩:=then_inv h;have e6:s6.k=s5.k:=by unfold leaveM at h6;cases h6;rfl
    obtain⟨rfl,rfl⟩:=ret_inv h;exact⟨by omega,hL4⟩
   ·exact⟨(Kb.num.then fun _=>Kb.ret _) _ _ _ h hk1,by
     obtain⟨y,_,hy,h⟩:=then_inv h;rw[(ret_inv h).1]
     exact num_ok hy⟩
  ·rw[elemsM] at h;obtain⟨x,s1,h1,h⟩:=then_inv h;have hk1:=Kb.next s x s1 h1 hk
   have hm1:=(nextM_inv h1).1;split at h
   ·obtain⟨rfl,rfl⟩:=ret_inv h;exact⟨hk1,by omega,hL⟩
   ·obtain⟨v,s2,h2,h⟩:=then_inv h;obtain⟨hk2,hv⟩:=ihv _ _ _ h2 hk1;have hm2:=((val_mo n).1 _ _ _ h2).1;refine ihe _ _ _ _ h hk2 (by rw[List.length_append];simp;omega) (fun e he' hn=>?_)
    rcases List.mem_append.1 he' with h5|h5
    ·exact hL e h5 hn
    ·have:e=v:=by simpa using h5
     rw[this] at hn ⊢;exact hv.num hn
  ·rw[keysM] at h;obtain⟨x,s1,h1,h⟩:=then_inv h;have hk1:=Kb.next s x s1 h1 hk
   split at h
   ·obtain⟨rfl,rfl⟩:=ret_inv h;exact⟨hk1,hL⟩
   ·obtain⟨p,s2,h2,g2⟩:=then_inv h;have e2:=(at_inv h2).2;obtain⟨a,s3,h3,g3⟩:=then_inv g2;have hk3:=Kb.name _ _ _ h3 (by rw[e2];exact hk1);obtain⟨_,s4,h4,g4⟩:=then_inv g3;have e4:s4.k=s3.k:=by unfold twiceM at h4;cases h4;rfl
    obtain⟨v,s5,h5,g5⟩:=then_inv g4;obtain⟨hk5,hv⟩:=ihv _ _ _ h5 (by omega);exact ihk _ _ _ _ g5 hk5 (dset_ok hL hv.x)
theorem object_ok (he:E.e<=9000) (hf:E.f.size<=9000) (hef:E.e<=E.f.size) {num:Nat}{o:Obj1}{s s':St}(h:objectM E num s=.ok o s') (hk:s.k<=E.e):VO o.v:=by
 unfold objectM at h;obtain⟨_,s1,h1,k1⟩:=then_inv h;have e1:=(at_inv h1).2;obtain⟨_,s2,h2,k2⟩:=then_inv k1;have q2:=Kb.word _ _ _ _ h2 (by rw[e1];exact hk);obtain⟨_,s3,h3,k3⟩:=then_inv k2;have e3:s3.k=s2.k:=by rw[(peek_inv h3).1]
 obtain⟨_,s4,h4,k4⟩:=then_inv k3;have e4:=(need_inv h4).1;obtain⟨v,s5,h5,k5⟩:=then_inv k4;have hv:=((read_ok he hf hef 18010).1 _ _ _ h5 (by rw[e4,e3];exact q2)).2;obtain⟨y,s6,_,k6⟩:=then_inv k5;obtain⟨hs,s7,_,k7⟩:=then_inv k6;obtain⟨_,s8,_,k8⟩:=then_inv k7;obtain⟨_,s9,_,k9⟩:=then_inv k8;obtain⟨_,s10,_,k10⟩:=then_inv k9;obtain⟨e,_⟩:=ret_inv k10;rw[e];exact hv
theorem objR_ok {f:ByteArray}{at_ place num b b':Nat}{o:Obj1}(hf:f.size<=9000) (ha:at_<=f.size) (h:objR f at_ place num b=.ok o b'):VO o.v:=by
 unfold objR at h;split at h
 ·cases h;trivial
 ·split at h
  ·cases h
  ·rename_i hp
   rcases hq:objectM (objEnv f at_) num ⟨b,place,0,0,0⟩ with⟨o',s1⟩|y
   ·rw[hq] at h;simp only[objFin] at h;split at h
    ·cases h
    ·split at h
     ·cases h
     ·cases h;exact object_ok (E:=objEnv f at_) (by show at_<=9000;omega) hf ha hq (by show place<=at_;omega)
   ·rw[hq] at h;cases h
theorem objsR_ok {f:ByteArray}{at_:Nat}(hf:f.size<=9000) (ha:at_<=f.size):∀ (ps:List Nat) {num b b':Nat}{l:List Obj1},objsR f at_ ps num b=.ok l b'->l.length=ps.length/\∀ o ∈ l,VO o.v/\o.stream.size<=9000
 | [],_,_,_,_,h=>by simp only[objsR,Res.ok.injEq] at h;rw[← h.1];simp
 | p::ps,num,b,b',l,h=>by
  rcases hq:objR f at_ p num b with⟨o,b1⟩|y
  ·rw[objsR_cons_ok hq] at h
   rcases hq2:objsR f at_ ps (num+1) b1 with⟨l',b2⟩|y
   ·rw[hq2] at h;simp only[Res.ok.injEq] at h;obtain⟨h1,h2⟩:=objsR_ok hf ha ps hq2;rw[← h.1];refine⟨by simp[h1],fun o' ho'=>?_⟩
    rcases List.mem_cons.1 ho' with rfl|h3
    ·exact⟨objR_ok hf ha hq,Nat.le_trans (objR_inv hq) hf⟩
    ·exact h2 o' h3
   ·rw[hq2] at h;cases h
  ·rw[objsR_cons_no hq] at h;cases h
theorem unpS_v {U:ByteArray->Nat->Nat->Res ByteArray}(hU:∀ s n b r b',U s n b=.ok r b'->r.size<=9000) {o o':Obj1}{k b b':Nat}(h:unpS U o k b=.ok o' b'):o'.v=o.v/\(o.stream.size<=9000->o'.stream.size<=9000):=by
 unfold unpS at h;split at h
 ·rcases hq:U o.stream k b with⟨t,b1⟩|y
  ·rw[hq] at h;cases h;exact⟨rfl,fun _=>hU _ _ _ _ _ hq⟩
  ·rw[hq] at h;cases h
 ·cases h;exact⟨rfl,id⟩
theorem unpL_v {U:ByteArray->Nat->Nat->Res ByteArray}(hU:∀ s n b r b',U s n b=.ok r b'->r.size<=9000):∀ (l:List Obj1) {k b b':Nat}{l':List Obj1},unpL U l k b=.ok l' b'->l'.length=l.length/\((∀ o ∈ l,VO o.v/\o.stream.size<=9000)->∀ o ∈ l',VO o.v/\o.stream.size<=9000)
 | [],_,_,_,_,h=>by simp only[unpL,Res.ok.injEq] at h;rw[← h.1];simp
 | o::l,k,b,b',l',h=>by
  simp only[unpL] at h
  rcases hq:unpS U o k b with⟨o2,b1⟩|y
  ·rw[hq] at h;simp only at h
   rcases hq2:unpL U l (k+1) b1 with⟨l2,b2⟩|y
   ·rw[hq2] at h;simp only[Res.ok.injEq] at h;obtain⟨h1,h2⟩:=unpL_v hU l hq2;rw[← h.1];refine⟨by simp[h1],fun hv o' ho'=>?_⟩
    rcases List.mem_cons.1 ho' with rfl|h3
    ·have hv1:=hv o (by simp);have hs1:=unpS_v hU hq;exact⟨by rw[hs1.1];exact hv1.1,hs1.2 hv1.2⟩
    ·exact h2 (fun u hu=>hv u (by simp[hu])) o' h3
   ·rw[hq2] at h;cases h
  ·rw[hq] at h;cases h
theorem docR_ok {U:ByteArray->Nat->Nat->Res ByteArray}(hU:∀ s n b r b',U s n b=.ok r b'->r.size<=9000) {f:ByteArray}{b b' at_ root:Nat}{pl:List Nat}{os:List Obj1}(h:docR U f b=.ok (at_,pl,root,os) b'):os.length<=31/\root<os.length/\tnameAt os root=rootB/\∀ o ∈ os,VO o.v/\o.stream.size<=9000:=by
 unfold docR at h;split at h
 ·cases h
 split at h
 ·cases h
 rename_i hf _
 rcases hq:tabR f b with⟨⟨a,l,r⟩,b1⟩|y
 ·rw[hq] at h;simp only at h;obtain⟨t1,t2,t3,_,t5,t6⟩:=tabR_inv hq
  rcases hq2:objsR f a l 1 b1 with⟨l2,b2⟩|y
  ·rw[hq2] at h;simp only at h;obtain⟨o1,o2⟩:=objsR_ok (by omega) t1 l hq2
   rcases hq3:overR ({}::l2) b2 with⟨_,b3⟩|y
   ·rw[hq3] at h;simp only at h
    rcases hq4:unpL U ({}::l2) 0 b3 with⟨os',b4⟩|y
    ·rw[hq4] at h;simp only at h;obtain⟨u1,u2⟩:=unpL_v hU _ hq4;split at h
     ·rename_i ht;simp only[Res.ok.injEq,Prod.mk.injEq] at h;obtain⟨⟨rfl,rfl,rfl,rfl⟩,_⟩:=h;rw[List.length_cons] at u1;refine⟨by omega,by omega,by haveI:=lawfulB;exact eq_of_beq ht,u2 (fun o ho=>?_)⟩
      rcases List.mem_cons.1 ho with rfl|h3
      ·exact⟨trivial,Nat.zero_le _⟩
      ·exact o2 o h3
     ·cases h
    ·rw[hq4] at h;cases h
   ·rw[hq3] at h;cases h
  ·rw[hq2] at h;cases h
 ·rw[hq] at h;cases h
end
end Go.Proofs.YtgffljllfenhkaaGreatDoor
