import Derived.Test.YtgffljllfenhkaaGreatDoorGwaa
import Derived.Test.YtgffljllfenhkaaGreatDoorGwal
import Derived.Test.YtgffljllfenhkaaGreatDoorGwax
import Derived.Test.YtgffljllfenhkaaGreatDoorGwbm
namespace Go.Proofs.YtgffljllfenhkaaGreatDoor
section
open Go.RowKit
set_option maxHeartbeats 1000000 in
theorem check_w {w:World}{f s:ByteArray}{e p:Int}
  (GR:∀ W:World,Calls Tryz.prog 20 #[] W fun e w'=>e=.returned (.agg #[.int .i64 100000000,.int .i64 9000])/\Below W.heap.size W w')
  (RI:∀ W,Below w.heap.size w W->Calls Tryz.prog 12 #[.string f,.agg #[.int .i64 100000000,.int .i64 9000]] W fun r w'=>r=.returned (.tuple #[.string s,.int .i64 e,.int .i64 p])/\Below W.heap.size W w') :
  Calls Tryz.prog 9 #[.string f] w fun r w'=>r=.returned (.tuple #[.int .i64 e,.int .i64 p])/\Below w.heap.size w w':=by
 go_enter Tryz.func9,Tryz.ntmps9
 go_wp2_with fail
 refine (GR w).mono ?_;rintro r w1 ⟨rfl,hB1⟩;have R1:=RI w1 hB1;clear GR RI
 go_wp2_with fail
 refine R1.mono ?_;rintro r w2 ⟨rfl,hB2⟩;clear R1
 go_wp2_with fail
 first | refine bodyPost_ret (results_tmp2 rfl _ _ _) rfl ?_ | go_ret
 exact⟨rfl,hB1.trans (hB2.mono hB1.size)⟩
set_option maxHeartbeats 1000000 in
theorem clean_w {w:World}{s:ByteArray}{p:Int}
  (GR:∀ W:World,Calls Tryz.prog 20 #[] W fun e w'=>e=.returned (.agg #[.int .i64 100000000,.int .i64 9000])/\Below W.heap.size W w')
  (RI:∀ W,Below w.heap.size w W->Calls Tryz.prog 12 #[.string s,.agg #[.int .i64 100000000,.int .i64 9000]] W fun r w'=>r=.returned (.tuple #[.string s,.int .i64 0,.int .i64 p])/\Below W.heap.size W w') :
  Calls Tryz.prog 16 #[.string s] w fun r w'=>r=.returned (.bool true)/\Below w.heap.size w w':=by
 go_enter Tryz.func16,Tryz.ntmps16
 go_wp2_with fail
 refine (GR w).mono ?_;rintro r w1 ⟨rfl,hB1⟩;have R1:=RI w1 hB1;clear GR RI
 go_wp2_with fail
 refine R1.mono ?_;rintro r w2 ⟨rfl,hB2⟩;clear R1
 go_wp2_with fail
 go_ret
 exact⟨rfl,hB1.trans (hB2.mono hB1.size)⟩
set_option maxHeartbeats 1000000 in
theorem again_no {w:World}{f:ByteArray}{e p q:Int}(he:¬ e=0) (h12:¬ e=12) (h13:¬ e=13)
  (AL:Calls Tryz.prog 17 #[] w fun e w'=>e=.returned (.bool true)/\Below w.heap.size w w')
  (MO:∀ W,Below w.heap.size w W->Calls Tryz.prog 18 #[.string f] W fun r w'=>r=.returned (.tuple #[.string ⟨#[]⟩,.int .i64 e,.int .i64 p])/\Below W.heap.size W w')
  (CK:∀ W,Below w.heap.size w W->Calls Tryz.prog 9 #[.string f] W fun r w'=>r=.returned (.tuple #[.int .i64 e,.int .i64 q])/\Below W.heap.size W w')
  (NM:∀ (W:World) (n:Int),Calls Tryz.prog 11 #[.int .i64 n] W fun e w'=>e=.returned (.int .i64 n)/\W=w') :
  Calls Tryz.prog 6 #[.string f] w fun r w'=>r=.returned (.bool true)/\Below w.heap.size w w':=by
 go_enter Tryz.func6,Tryz.ntmps6
 go_wp2_with fail
 refine AL.mono ?_;rintro r w1 ⟨rfl,hB1⟩;have M1:=MO w1 hB1;clear AL MO
 go_wp2_with fail
 refine M1.mono ?_;rintro r w2 ⟨rfl,hB2'⟩;have hB2:=hB1.trans (hB2'.mono hB1.size);have C1:=CK w2 hB2;clear M1 CK
 go_wp2_with fail
 refine C1.mono ?_;rintro r w3 ⟨rfl,hB3'⟩;have hB3:=hB2.trans (hB3'.mono hB2.size);clear C1
 go_wp2_with (go_at_call 11;refine (NM _ _).mono ?_;rintro e w5 ⟨rfl,rfl⟩)
 have hx:(e != 12&&e != 13)=true:=by simp[h12,h13]
 go_ret
 refine⟨?_,hB3⟩;show Ending.returned (.bool (e != 12&&e != 13))=_;rw[hx]
set_option maxHeartbeats 1000000 in
theorem again_yes {w:World}{f s:ByteArray}{p p2 q:Int}
  (AL:Calls Tryz.prog 17 #[] w fun e w'=>e=.returned (.bool true)/\Below w.heap.size w w')
  (MO:∀ W,Below w.heap.size w W->Calls Tryz.prog 18 #[.string f] W fun r w'=>r=.returned (.tuple #[.string s,.int .i64 0,.int .i64 p])/\Below W.heap.size W w')
  (MS:∀ W,Below w.heap.size w W->Calls Tryz.prog 18 #[.string s] W fun r w'=>r=.returned (.tuple #[.string s,.int .i64 0,.int .i64 p2])/\Below W.heap.size W w')
  (CL:∀ W,Below w.heap.size w W->Calls Tryz.prog 16 #[.string s] W fun r w'=>r=.returned (.bool true)/\Below W.heap.size W w')
  (CK:∀ W,Below w.heap.size w W->Calls Tryz.prog 9 #[.string s] W fun r w'=>r=.returned (.tuple #[.int .i64 0,.int .i64 q])/\Below W.heap.size W w')
  (NM:∀ (W:World) (n:Int),Calls Tryz.prog 11 #[.int .i64 n] W fun e w'=>e=.returned (.int .i64 n)/\W=w') :
  Calls Tryz.prog 6 #[.string f] w fun r w'=>r=.returned (.bool true)/\Below w.heap.size w w':=by
 go_enter Tryz.func6,Tryz.ntmps6
 go_wp2_with fail
 refine AL.mono ?_;rintro r w1 ⟨rfl,hB1⟩;have M1:=MO w1 hB1;clear AL MO
 go_wp2_with fail
 refine M1.mono ?_;rintro r w2 ⟨rfl,hB2'⟩;have hB2:=hB1.trans (hB2'.mono hB1.size);have M2:=MS w2 hB2;clear M1 MS
 go_wp2_with fail
 refine M2.mono ?_;rintro r w3 ⟨rfl,hB3'⟩;have hB3:=hB2.trans (hB3'.mono hB2.size);have C1:=CL w3 hB3;clear M2 CL
 go_wp2_with fail
 refine C1.mono ?_;rintro r w4 ⟨rfl,hB4'⟩;have hB4:=hB3.trans (hB4'.mono hB3.size);have C2:=CK w4 hB4;clear C1 CK
 go_wp2_with fail
 refine C2.mono ?_;rintro r w5 ⟨rfl,hB5'⟩;have hB5:=hB4.trans (hB5'.mono hB4.size);clear C2
 go_wp2_with (go_at_call 11;refine (NM _ _).mono ?_;rintro e w5 ⟨rfl,rfl⟩)
 all_goals first | (exfalso;omega) | (go_ret;exact⟨rfl,hB5⟩)
end
section
def Zs (k:Nat) {α:Type}(m:Rdr α) (Q:α->Nat->Prop):Prop:=∀ s,s.k=k->(∀ y,m s=.no y->y.1≠0)/\∀ a s',m s=.ok a s'->Q a s'.k
section
variable {α β:Type}{m:Rdr α}{f:α->Rdr β}{k e:Nat}{E:Env}{Q Q':α->Nat->Prop}{R:β->Nat->Prop}
theorem Zs.then (h:Zs k m Q) (g:∀ a k',Q a k'->Zs k' (f a) R):Zs k (m.then f) R:=fun s hs=>by
 obtain⟨h1,h2⟩:=h s hs
 rcases hm:m s with⟨a,s1⟩|y
 ·rw[Rdr.then_ok hm];exact g a s1.k (h2 a s1 hm) s1 rfl
 ·rw[Rdr.then_no hm];exact⟨fun y' e=>by cases e;exact h1 y hm,fun a s' e=>by cases e⟩
theorem Zs.mono (h:Zs k m Q) (g:∀ a k',Q a k'->Q' a k'):Zs k m Q':=fun s hs=>⟨(h s hs).1,fun a s' e=>g a _ ((h s hs).2 a s' e)⟩
theorem Zs.with (h:Zs k m Q) (g:∀ s a s',s.k=k->m s=.ok a s'->Q a s'.k->Q' a s'.k):Zs k m Q':=fun s hs=>⟨(h s hs).1,fun a s' e=>g s a s' hs e ((h s hs).2 a s' e)⟩
theorem Zs.ret {a:α}(h:Q a k):Zs k (Rdr.ret a) Q:=fun s hs=>⟨fun y e=>(by cases e),fun a' s' e=>by cases e;rw[hs];exact h⟩
theorem Zs.ite {c:Prop} [Decidable c] {m1 m2:Rdr α}(h1:c->Zs k m1 Q) (h2:¬ c->Zs k m2 Q):Zs k (if c then m1 else m2) Q:=by
 by_cases hc:c
 ·rw[if_pos hc];exact h1 hc
 ·rw[if_neg hc];exact h2 hc
theorem Zs.no {y:Why}(h:y.1≠0):Zs k (fun _=>.no y:Rdr α) Q:=fun s hs=>⟨fun y' e=>by cases e;exact h,fun a s' e=>by cases e⟩
end
variable {E:Env}{V:Ux}{k:Nat}
theorem why_nz (p:Nat):(E.why p).1≠0:=by unfold Env.why;split <;> exact Nat.succ_ne_zero _
theorem Zs.peek (hk:k<=E.e):Zs k (peekM E) (fun _ k'=>k'=k/\k<E.e):=fun s hs=>by
 unfold peekM
 by_cases h1:s.b<1
 ·rw[if_pos h1];exact⟨fun y e=>by cases e;decide,fun a s' e=>by cases e⟩
 ·rw[if_neg h1]
  by_cases h2:s.k=E.e
  ·rw[if_pos h2];exact⟨fun y e=>by cases e;exact why_nz _,fun a s' e=>by cases e⟩
  ·rw[if_neg h2];exact⟨fun y e=>(by cases e),fun a s' e=>by cases e;exact⟨hs,by omega⟩⟩
theorem Zs.need (c:Bool):Zs k (needM E c) (fun _ k'=>k'=k):=fun s hs=>by
 unfold needM;cases c
 ·exact⟨fun y e=>by cases e;exact why_nz _,fun a s' e=>by cases e⟩
 ·exact⟨fun y e=>(by cases e),fun a s' e=>by cases e;exact hs⟩
theorem Zs.adv:Zs k advM (fun _ k'=>k'=k+1):=fun s hs=>⟨fun y e=>(by cases e),fun a s' e=>by cases e;exact congrArg (·+1) hs⟩
theorem Zs.at:Zs k atM (fun _ k'=>k'=k):=fun s hs=>⟨fun y e=>(by cases e),fun a s' e=>by cases e;exact hs⟩
theorem Zs.enter:Zs k enterM (fun _ k'=>k'=k):=fun s hs=>⟨fun y e=>(by cases e),fun a s' e=>by cases e;exact hs⟩
theorem Zs.leave:Zs k leaveM (fun _ k'=>k'=k):=fun s hs=>⟨fun y e=>(by cases e),fun a s' e=>by cases e;exact hs⟩
theorem Zs.twice (c:Bool) (p:Nat):Zs k (twiceM c p) (fun _ k'=>k'=k):=fun s hs=>⟨fun y e=>(by cases e),fun a s' e=>by cases e;exact hs⟩
theorem Zs.word:∀ (l:List Nat) {k:Nat},k<=E.e->Zs k (wordM E l) (fun _ k'=>k'=k+l.length/\k'<=E.e)
 | [],k,hk=>by unfold wordM;exact Zs.ret ⟨rfl,hk⟩
 | c::l,k,hk=>by
  unfold wordM;refine (Zs.peek hk).then fun x k1 ⟨e1,h1⟩=>(Zs.need _).then fun _ k2 e2=>Zs.adv.then fun _ k3 e3=>?_
  refine (Zs.word l (by omega)).mono fun _ k' ⟨a,b⟩=>⟨?_,b⟩
  rw[List.length_cons];omega
theorem Zs.someL (p:Nat->Bool):∀ (n:Nat) {k:Nat},k<=E.e->Zs k (YtgffljllfenhkaaGreatDoor.someL E p n) (fun _ k'=>k<=k'/\k'<=E.e)
 | 0,k,hk=>by unfold YtgffljllfenhkaaGreatDoor.someL;exact Zs.ret ⟨Nat.le_refl _,hk⟩
 | n+1,k,hk=>by
  unfold YtgffljllfenhkaaGreatDoor.someL;refine (Zs.peek hk).then fun x k1 ⟨e1,h1⟩=>Zs.ite (fun _=>Zs.adv.then fun _ k2 e2=>(Zs.someL p n (by omega)).mono fun _ k' ⟨a,b⟩=>⟨by omega,b⟩) (fun _=>Zs.ret ⟨by omega,by omega⟩)
theorem Zs.some (p:Nat->Bool) (n:Nat) (hk:k<=E.e):Zs k (someM E p n) (fun _ k'=>k<=k'/\k'<=E.e):=by
 unfold someM;exact Zs.at.then fun _ k1 e1=>(Zs.peek (by omega)).then fun _ k2 ⟨e2,_⟩=>(Zs.need _).then fun _ k3 e3=>(Zs.someL p n (by omega)).then fun _ k4 ⟨a,b⟩=>Zs.at.then fun _ k5 e5=>Zs.ret ⟨by omega,by omega⟩
theorem Zs.blanks:∀ (n:Nat) {k:Nat},k<=E.e->E.e<k+n->Zs k (blanksM E n) (fun _ k'=>k<=k'/\k'<=E.e)
 | 0,k,hk,hn=>by omega
 | n+1,k,hk,hn=>by
  unfold blanksM;exact (Zs.peek hk).then fun x k1 ⟨e1,h1⟩=>Zs.ite (fun _=>Zs.adv.then fun _ k2 e2=>(Zs.blanks n (by omega) (by omega)).mono fun _ k' ⟨a,b⟩=>⟨by omega,b⟩) (fun _=>Zs.ret ⟨by omega,by omega⟩)
theorem Zs.next (he:E.e<=9000) (hk:k<=E.e):Zs k (nextM E) (fun _ k'=>k<=k'/\k'<=E.e):=by
 unfold nextM;exact (Zs.blanks 9001 hk (by omega)).then fun _ k1 ⟨a,b⟩=>(Zs.peek b).mono fun _ k2 ⟨c,d⟩=>⟨by omega,by omega⟩
theorem Zs.textL:∀ (n:Nat) {k:Nat},k<=E.e->E.e<k+n->Zs k (YtgffljllfenhkaaGreatDoor.textL E n) (fun _ k'=>k<=k'/\k'<=E.e)
 | 0,k,hk,hn=>by omega
 | n+1,k,hk,hn=>by
  unfold YtgffljllfenhkaaGreatDoor.textL;refine (Zs.peek hk).then fun x k1 ⟨e1,h1⟩=>Zs.ite (fun _=>Zs.ret ⟨by omega,by omega⟩) (fun _=>?_)
  refine (Zs.peek (by omega)).then fun x k2 ⟨e2,h2⟩=>(Zs.need _).then fun _ k3 e3=>(Zs.peek (by omega)).then fun x k4 ⟨e4,h4⟩=>?_
  refine Zs.then (Q:=fun _ k'=>k<=k'/\k'<E.e) (Zs.ite (fun _=>Zs.adv.then fun _ k5 e5=>(Zs.peek (by omega)).then fun x k6 ⟨e6,h6⟩=>(Zs.need _).mono fun _ k7 e7=>⟨by omega,by omega⟩) (fun _=>Zs.ret ⟨by omega,by omega⟩)) fun _ k5 ⟨a5,b5⟩=>Zs.adv.then fun _ k6 e6=>?_
  exact (Zs.textL n (by omega) (by omega)).mono fun _ k' ⟨a,b⟩=>⟨by omega,b⟩
theorem Zs.text (he:E.e<=9000) (hk:k<=E.e):Zs k (textM E) (fun _ k'=>k'<=E.e):=by
 unfold textM;exact (Zs.word _ hk).then fun _ k1 ⟨_,b1⟩=>Zs.at.then fun _ k2 e2=>(Zs.textL 9001 (by omega) (by omega)).then fun _ k3 ⟨_,b3⟩=>(Zs.word _ b3).then fun _ k4 ⟨_,b4⟩=>Zs.at.then fun _ k5 e5=>Zs.ret (by omega)
theorem Zs.name (hk:k<=E.e):Zs k (nameM E) (fun _ k'=>k<k'/\k'<=E.e):=by
 unfold nameM;exact (Zs.word _ hk).then fun _ k1 ⟨a1,b1⟩=>(Zs.some _ _ b1).mono fun _ k2 ⟨a2,b2⟩=>⟨by simp at a1;omega,b2⟩
theorem Zs.whole (n:Nat) (hk:k<=E.e):Zs k (wholeM E n) (fun _ k'=>k'<=E.e):=by
 unfold wholeM;exact (Zs.some _ _ hk).then fun _ k1 ⟨a1,b1⟩=>Zs.ret b1
theorem Zs.num (hk:k<=E.e):Zs k (numM E) (fun _ k'=>k'<=E.e):=by
 unfold numM;refine (Zs.peek hk).then fun x k1 ⟨e1,h1⟩=>Zs.then (Q:=fun _ k'=>k'<=E.e) (Zs.ite (fun _=>Zs.adv.mono fun _ k2 e2=>by omega) (fun _=>Zs.ret (by omega))) fun _ k2 b2=>?_
 exact (Zs.some _ _ b2).then fun ti k3 ⟨_,b3⟩=>(Zs.peek b3).then fun y k4 ⟨e4,h4⟩=>Zs.ite (fun _=>Zs.adv.then fun _ k5 e5=>(Zs.some _ _ (by omega)).then fun _ k6 ⟨_,b6⟩=>Zs.ret b6) (fun _=>Zs.ret (by omega))
theorem Zs.count (hk:k<=E.e):Zs k (countM E) (fun _ k'=>k'<=E.e):=by
 unfold countM;exact (Zs.peek hk).then fun x k1 ⟨e1,h1⟩=>Zs.ite (fun _=>Zs.whole _ (by omega)) (fun _=>Zs.whole _ (by omega))
theorem Zs.bytes (n:Nat) (hk:k<=E.e):Zs k (bytesM E n) (fun _ k'=>k'<=E.e):=fun s hs=>by
 unfold bytesM
 by_cases h:E.e-s.k<n
 ·rw[if_pos h];exact⟨fun y e=>by cases e;exact why_nz _,fun a s' e=>by cases e⟩
 ·rw[if_neg h];exact⟨fun y e=>(by cases e),fun a s' e=>by cases e;show s.k+n<=E.e;omega⟩
theorem Zs.line (w:List Nat) (a b:Nat) (hk:k<=E.e):Zs k (lineM E w a b) (fun _ k'=>k'<=E.e):=by
 unfold lineM;exact (Zs.word _ hk).then fun _ k1 ⟨_,b1⟩=>(Zs.count b1).then fun n k2 b2=>(Zs.need _).then fun _ k3 e3=>(Zs.word _ (by omega)).then fun _ k4 ⟨_,b4⟩=>Zs.ret b4
theorem Zs.places:∀ (n:Nat) {k:Nat},k<=E.e->Zs k (placesM E n) (fun _ k'=>k'<=E.e)
 | 0,k,hk=>by unfold placesM;exact Zs.ret hk
 | n+1,k,hk=>by unfold placesM;exact (Zs.line _ _ _ hk).then fun p k1 b1=>(Zs.places n b1).then fun l k2 b2=>Zs.ret b2
theorem Zs.table (a:Nat) (hk:k<=E.e):Zs k (tableM E a) (fun _ k'=>k'<=E.e):=by
 unfold tableM;refine (Zs.line _ _ _ hk).then fun n k1 b1=>(Zs.places n b1).then fun l k2 b2=>(Zs.line _ _ _ b2).then fun r k3 b3=>(Zs.line _ _ _ b3).then fun _ k4 b4=>(Zs.word _ b4).then fun _ k5 ⟨_,b5⟩=>?_
 intro s hs;exact (Zs.need (E:=E) (k:=k5) (s.k==E.e)).then (f:=fun _=>Rdr.ret (l,r)) (R:=fun _ k'=>k'<=E.e) (fun _ k6 e6=>Zs.ret (by omega)) s hs
theorem Zs.value (he:E.e<=9000):∀ (n:Nat),(∀ {k:Nat},k<=E.e->2*(E.e-k)+1<=n->Zs k (valueM E n) (fun _ k'=>k<k'/\k'<=E.e)) /\
  (∀ (l:List Val) {k:Nat},k<=E.e->2*(E.e-k)+2<=n->Zs k (elemsM E n l) (fun _ k'=>k'<=E.e))/\(∀ (l:List (ByteArray×Val)) {k:Nat},k<=E.e->2*(E.e-k)+2<=n->Zs k (keysM E n l) (fun _ k'=>k'<=E.e))
 | 0=>⟨fun _ h=>by omega,fun _ _ _ h=>by omega,fun _ _ _ h=>by omega⟩
 | n+1=>by
  obtain⟨hv,hE,hK⟩:=Zs.value he n;refine⟨fun {k} hk hn=>?_,fun l k hk hn=>?_,fun l k hk hn=>?_⟩
  ·refine Zs.with (Q:=fun _ k'=>k'<=E.e) ?_ (fun s a s' hs e h=>⟨by have:=((val_mo (n+1)).1 _ _ _ e).1;omega,h⟩)
   rw[valueM];refine (Zs.next he hk).then fun x k1 ⟨a1,b1⟩=>?_
   refine Zs.ite (fun _=>(Zs.word _ b1).then fun _ k2 ⟨_,b2⟩=>Zs.ret b2) (fun _=>?_);refine Zs.ite (fun _=>(Zs.word _ b1).then fun _ k2 ⟨_,b2⟩=>Zs.ret b2) (fun _=>?_);refine Zs.ite (fun _=>(Zs.word _ b1).then fun _ k2 ⟨_,b2⟩=>Zs.ret b2) (fun _=>?_);refine Zs.ite (fun _=>(Zs.text he b1).then fun _ k2 b2=>Zs.ret b2) (fun _=>?_);refine Zs.ite (fun _=>(Zs.name b1).then fun _ k2 ⟨_,b2⟩=>Zs.ret b2) (fun _=>?_);refine Zs.ite (fun _=>(Zs.word _ b1).then fun _ k2 ⟨_,b2⟩=>(Zs.whole _ b2).then fun _ k3 b3=>Zs.ret b3) (fun _=>?_);refine Zs.ite (fun _=>Zs.enter.then fun _ k2 e2=>(Zs.word _ (by omega)).then fun _ k3 ⟨e3,b3⟩=>(hE [] b3 (by simp at e3;omega)).then fun l k4 b4=>(Zs.word _ b4).then fun _ k5 ⟨_,b5⟩=>Zs.leave.then fun _ k6 e6=>Zs.ret (by omega)) (fun _=>?_);refine Zs.ite (fun _=>Zs.enter.then fun _ k2 e2=>(Zs.word _ (by omega)).then fun _ k3 ⟨e3,b3⟩=>(hK [] b3 (by simp at e3;omega)).then fun l k4 b4=>(Zs.word _ b4).then fun _ k5 ⟨_,b5⟩=>Zs.leave.then fun _ k6 e6=>Zs.ret (by omega)) (fun _=>?_);exact (Zs.num b1).then fun _ k2 b2=>Zs.ret b2
  ·rw[elemsM];exact (Zs.next he hk).then fun x k1 ⟨a1,b1⟩=>Zs.ite (fun _=>Zs.ret b1) (fun _=>(hv b1 (by omega)).then fun v k2 ⟨a2,b2⟩=>hE _ b2 (by omega))
  ·rw[keysM];exact (Zs.next he hk).then fun x k1 ⟨a1,b1⟩=>Zs.ite (fun _=>Zs.ret b1) (fun _=>Zs.at.then fun p k2 e2=>(Zs.name (by omega)).then fun a k3 ⟨a3,b3⟩=>(Zs.twice _ _).then fun _ k4 e4=>(hv (by omega) (by omega)).then fun v k5 ⟨a5,b5⟩=>hK _ b5 (by omega))
theorem Zs.stream (he:E.e<=9000) (hk:k<=E.e):Zs k (streamM E) (fun _ k'=>k'<=E.e):=by
 unfold streamM;exact (Zs.word _ hk).then fun _ k1 ⟨_,b1⟩=>(Zs.next he b1).then fun _ k2 ⟨_,b2⟩=>(Zs.count b2).then fun n k3 b3=>(Zs.word _ b3).then fun _ k4 ⟨_,b4⟩=>Zs.bytes n b4
theorem Zs.object (he:E.e<=9000) (num:Nat) (hk:k<=E.e):Zs k (objectM E num) (fun _ k'=>k'<=E.e):=by
 unfold objectM;refine Zs.at.then fun p k1 e1=>(Zs.word _ (by omega)).then fun _ k2 ⟨_,b2⟩=>(Zs.peek b2).then fun x k3 ⟨e3,_⟩=>(Zs.need _).then fun _ k4 e4=>((Zs.value he 18010).1 (by omega) (by omega)).then fun v k5 ⟨_,b5⟩=>?_
 refine (Zs.next he b5).then fun y k6 ⟨_,b6⟩=>Zs.then (Q:=fun _ k'=>k'<=E.e) (Zs.ite (fun _=>(Zs.need _).then fun _ k7 e7=>(Zs.stream he (by omega)).then fun t k8 b8=>Zs.ret b8) (fun _=>Zs.ret b6)) fun hs k7 b7=>?_
 exact (Zs.next he b7).then fun _ k8 ⟨_,b8⟩=>(Zs.word _ b8).then fun _ k9 ⟨_,b9⟩=>Zs.at.then fun q k10 e10=>Zs.ret (by omega)
theorem Zs.numX (n:Nat):Zs k (YtgffljllfenhkaaGreatDoor.numX V n) (fun _ k'=>k'=k+n/\k'<=8*V.s.size):=fun s hs=>by
 unfold YtgffljllfenhkaaGreatDoor.numX
 by_cases h:n<=s.b/\s.k+n<=8*V.s.size
 ·rw[if_pos h];exact⟨fun y e=>(by cases e),fun a s' e=>by cases e;rw[St.bits_k];exact⟨by omega,h.2⟩⟩
 ·rw[if_neg h]
  by_cases h2:s.b<=8*V.s.size-s.k
  ·rw[if_pos h2];exact⟨fun y e=>by cases e;decide,fun a s' e=>by cases e⟩
  ·rw[if_neg h2];exact⟨fun y e=>by cases e;exact Nat.succ_ne_zero 8,fun a s' e=>by cases e⟩
theorem Zs.bitX:Zs k (YtgffljllfenhkaaGreatDoor.bitX V) (fun _ k'=>k'=k+1/\k'<=8*V.s.size):=fun s hs=>by
 unfold YtgffljllfenhkaaGreatDoor.bitX
 by_cases h:s.b<1
 ·rw[if_pos h];exact⟨fun y e=>by cases e;decide,fun a s' e=>by cases e⟩
 ·rw[if_neg h]
  by_cases h2:8*V.s.size<=s.k
  ·rw[if_pos h2];exact⟨fun y e=>by cases e;exact Nat.succ_ne_zero 8,fun a s' e=>by cases e⟩
  ·rw[if_neg h2];exact⟨fun y e=>(by cases e),fun a s' e=>by cases e;rw[St.bits_k];exact⟨by omega,by omega⟩⟩
theorem Zs.decX (l:List Nat):∀ (r above:Nat) {k:Nat},Zs k (YtgffljllfenhkaaGreatDoor.decX V l r above) (fun _ k'=>k<k'/\k'<=8*V.s.size)
 | 0,above,k=>by unfold YtgffljllfenhkaaGreatDoor.decX;exact Zs.no (Nat.succ_ne_zero 8)
 | r+1,above,k=>by
  unfold YtgffljllfenhkaaGreatDoor.decX;exact Zs.bitX.then fun x k1 ⟨e1,b1⟩=>Zs.ite (fun _=>Zs.ret ⟨by omega,b1⟩) (fun _=>(Zs.decX l r _).mono fun _ k2 ⟨a2,b2⟩=>⟨by omega,b2⟩)
theorem Zs.signX (l:List Nat):Zs k (YtgffljllfenhkaaGreatDoor.signX V l) (fun _ k'=>k<k'/\k'<=8*V.s.size):=Zs.decX l 15 0
theorem Zs.chargeX (n:Nat):Zs k (YtgffljllfenhkaaGreatDoor.chargeX n) (fun _ k'=>k'=k):=fun s hs=>by
 unfold YtgffljllfenhkaaGreatDoor.chargeX chargeM
 by_cases h:s.b<n
 ·rw[if_pos h];exact⟨fun y e=>by cases e;decide,fun a s' e=>by cases e⟩
 ·rw[if_neg h];exact⟨fun y e=>(by cases e),fun a s' e=>by cases e;exact hs⟩
theorem Zs.demandX (c:Bool):Zs k (YtgffljllfenhkaaGreatDoor.demandX V c) (fun _ k'=>k'=k):=fun s hs=>by
 unfold YtgffljllfenhkaaGreatDoor.demandX;cases c
 ·exact⟨fun y e=>by cases e;exact Nat.succ_ne_zero 8,fun a s' e=>by cases e⟩
 ·exact⟨fun y e=>(by cases e),fun a s' e=>by cases e;exact hs⟩
theorem Zs.putX (out:List UInt8) (c:UInt8):Zs k (YtgffljllfenhkaaGreatDoor.putX V out c) (fun _ k'=>k'=k):=fun s hs=>by
 unfold YtgffljllfenhkaaGreatDoor.putX
 by_cases h:s.b<1
 ·rw[if_pos h];exact⟨fun y e=>by cases e;decide,fun a s' e=>by cases e⟩
 ·rw[if_neg h]
  by_cases h2:out.length<2000
  ·rw[if_pos h2];exact⟨fun y e=>(by cases e),fun a s' e=>by cases e;exact hs⟩
  ·rw[if_neg h2];exact⟨fun y e=>by cases e;exact Nat.succ_ne_zero 8,fun a s' e=>by cases e⟩
theorem Zs.copyNX (back:Nat):∀ (n:Nat) (out:List UInt8) {k:Nat},Zs k (YtgffljllfenhkaaGreatDoor.copyNX V back n out) (fun _ k'=>k'=k)
 | 0,out,k=>by unfold YtgffljllfenhkaaGreatDoor.copyNX;exact Zs.ret rfl
 | n+1,out,k=>by unfold YtgffljllfenhkaaGreatDoor.copyNX;exact (Zs.putX _ _).then fun o k1 e1=>(Zs.copyNX back n o).mono fun _ k2 e2=>by omega
theorem Zs.storeNX:∀ (n:Nat) (out:List UInt8) {k:Nat},k<=8*V.s.size->Zs k (YtgffljllfenhkaaGreatDoor.storeNX V n out) (fun _ k'=>k<=k'/\k'<=8*V.s.size)
 | 0,out,k,hk=>by unfold YtgffljllfenhkaaGreatDoor.storeNX;exact Zs.ret ⟨Nat.le_refl _,hk⟩
 | n+1,out,k,hk=>by unfold YtgffljllfenhkaaGreatDoor.storeNX;exact (Zs.numX 8).then fun x k1 ⟨e1,b1⟩=>(Zs.putX _ _).then fun o k2 e2=>(Zs.storeNX n o (by omega)).mono fun _ k3 ⟨a3,b3⟩=>⟨by omega,b3⟩
theorem Zs.storedX (out:List UInt8):Zs k (YtgffljllfenhkaaGreatDoor.storedX V out) (fun _ k'=>k<=k'/\k'<=8*V.s.size):=by
 unfold YtgffljllfenhkaaGreatDoor.storedX;refine Zs.then (Q:=fun _ k'=>k<=k'/\k'<=8*V.s.size) (fun s hs=>(Zs.numX (V:=V) (k:=k) ((8-s.k%8)%8)).mono (Q':=fun _ k'=>k<=k'/\k'<=8*V.s.size) (fun _ k1 h1=>⟨by omega,h1.2⟩) s hs) fun _ k1 ⟨a1,b1⟩=>?_
 exact (Zs.numX 16).then fun n k2 ⟨e2,b2⟩=>(Zs.numX 16).then fun m k3 ⟨e3,b3⟩=>(Zs.demandX _).then fun _ k4 e4=>(Zs.storeNX n out (by omega)).mono fun _ k5 ⟨a5,b5⟩=>⟨by omega,b5⟩
theorem Zs.blkX (l dl:List Nat):∀ (f:Nat) (out:List UInt8) {k:Nat},k<=8*V.s.size->8*V.s.size<k+f->Zs k (YtgffljllfenhkaaGreatDoor.blkX V l dl f out) (fun _ k'=>k<=k'/\k'<=8*V.s.size)
 | 0,out,k,h0,hk=>by omega
 | f+1,out,k,h0,hk=>by
  unfold YtgffljllfenhkaaGreatDoor.blkX;refine (Zs.signX l).then fun g k1 ⟨a1,b1⟩=>Zs.ite (fun _=>(Zs.putX _ _).then fun o k2 e2=>(Zs.blkX l dl f o (by omega) (by omega)).mono fun _ k3 ⟨a3,b3⟩=>⟨by omega,b3⟩) (fun _=>Zs.ite (fun _=>Zs.ret ⟨by omega,b1⟩) (fun _=>?_))
  unfold YtgffljllfenhkaaGreatDoor.copyLX YtgffljllfenhkaaGreatDoor.distX YtgffljllfenhkaaGreatDoor.copyBX;refine Zs.then (Q:=fun _ k'=>k1<=k'/\k'<=8*V.s.size) ((Zs.demandX _).then fun _ k2 e2=>(Zs.numX _).then fun x k3 ⟨e3,b3⟩=>Zs.ret ⟨by omega,b3⟩) fun n k2 ⟨a2,b2⟩=>?_
  refine (Zs.signX dl).then fun d k3 ⟨a3,b3⟩=>?_
  refine Zs.then (Q:=fun _ k'=>k3<=k'/\k'<=8*V.s.size) ((Zs.demandX _).then fun _ k2 e2=>(Zs.numX _).then fun x k3 ⟨e3,b3⟩=>Zs.ret ⟨by omega,b3⟩) fun back k4 ⟨a4,b4⟩=>?_
  refine Zs.then (Q:=fun _ k'=>k'=k4) ((Zs.demandX _).then fun _ k5 e5=>(Zs.copyNX _ _ _).mono fun _ k6 e6=>by omega) fun o k5 e5=>?_
  exact (Zs.blkX l dl f o (by omega) (by omega)).mono fun _ k6 ⟨a6,b6⟩=>⟨by omega,b6⟩
theorem Zs.readX (cl:List Nat) (many:Nat):∀ (f:Nat) (l:List Nat) {k:Nat},k<=8*V.s.size->many-l.length<f->Zs k (YtgffljllfenhkaaGreatDoor.readX V cl many f l) (fun _ k'=>k<=k'/\k'<=8*V.s.size)
 | 0,l,k,h0,hk=>by omega
 | f+1,l,k,h0,hk=>by
  unfold YtgffljllfenhkaaGreatDoor.readX;refine Zs.ite (fun hl=>?_) (fun _=>(Zs.demandX _).then fun _ k1 e1=>Zs.ret ⟨by omega,by omega⟩);refine (Zs.signX cl).then fun g k1 ⟨a1,b1⟩=>?_
  refine Zs.ite (fun _=>(Zs.demandX _).then fun _ k2 e2=>(Zs.numX _).then fun n k3 ⟨e3,b3⟩=>(Zs.readX cl many f _ b3 ?_).mono fun _ k4 ⟨a4,b4⟩=>⟨by omega,b4⟩) (fun _=>?_)
  ·rw[List.length_append,List.length_replicate];omega
  refine Zs.ite (fun _=>(Zs.numX _).then fun n k3 ⟨e3,b3⟩=>(Zs.readX cl many f _ b3 ?_).mono fun _ k4 ⟨a4,b4⟩=>⟨by omega,b4⟩) (fun _=>?_)
  ·rw[List.length_append,List.length_replicate];omega
  refine Zs.ite (fun _=>(Zs.numX _).then fun n k3 ⟨e3,b3⟩=>(Zs.readX cl many f _ b3 ?_).mono fun _ k4 ⟨a4,b4⟩=>⟨by omega,b4⟩) (fun _=>?_)
  ·rw[List.length_append,List.length_replicate];omega
  refine (Zs.readX cl many f _ b1 ?_).mono fun _ k4 ⟨a4,b4⟩=>⟨by omega,b4⟩
  rw[List.length_append,List.length_singleton];omega
theorem Zs.clensX:∀ (n i:Nat) (l:List Nat) {k:Nat},k<=8*V.s.size->Zs k (YtgffljllfenhkaaGreatDoor.clensX V n i l) (fun _ k'=>k<=k'/\k'<=8*V.s.size)
 | 0,i,l,k,hk=>by unfold YtgffljllfenhkaaGreatDoor.clensX;exact Zs.ret ⟨Nat.le_refl _,hk⟩
 | n+1,i,l,k,hk=>by unfold YtgffljllfenhkaaGreatDoor.clensX;exact (Zs.numX 3).then fun x k1 ⟨e1,b1⟩=>(Zs.clensX n _ _ b1).mono fun _ k2 ⟨a2,b2⟩=>⟨by omega,b2⟩
theorem Zs.ownX:Zs k (YtgffljllfenhkaaGreatDoor.ownX V) (fun _ k'=>k<=k'/\k'<=8*V.s.size):=by
 unfold YtgffljllfenhkaaGreatDoor.ownX YtgffljllfenhkaaGreatDoor.codeLX;refine (Zs.numX 5).then fun a k1 ⟨e1,b1⟩=>(Zs.numX 5).then fun b k2 ⟨e2,b2⟩=>(Zs.numX 4).then fun n k3 ⟨e3,b3⟩=>(Zs.demandX _).then fun _ k4 e4=>?_
 refine Zs.then (Q:=fun _ k'=>k4<=k'/\k'<=8*V.s.size) ((Zs.clensX _ _ _ (by omega)).then fun l k5 ⟨a5,b5⟩=>(Zs.chargeX _).then fun _ k6 e6=>(Zs.demandX _).then fun _ k7 e7=>Zs.ret ⟨by omega,by omega⟩) fun cl k5 ⟨a5,b5⟩=>?_
 refine (Zs.readX cl _ _ [] b5 (by simp)).then fun all k6 ⟨a6,b6⟩=>(Zs.chargeX _).then fun _ k7 e7=>(Zs.chargeX _).then fun _ k8 e8=>(Zs.demandX _).then fun _ k9 e9=>(Zs.demandX _).then fun _ k10 e10=>(Zs.demandX _).then fun _ k11 e11=>Zs.ret ⟨by omega,by omega⟩
theorem Zs.blockX (hs:V.s.size<=9000) (out:List UInt8):Zs k (YtgffljllfenhkaaGreatDoor.blockX V out) (fun _ k'=>k<=k'/\k'<=8*V.s.size):=by
 unfold YtgffljllfenhkaaGreatDoor.blockX YtgffljllfenhkaaGreatDoor.signsX YtgffljllfenhkaaGreatDoor.fixX;refine (Zs.numX 2).then fun c k1 ⟨e1,b1⟩=>Zs.ite (fun _=>(Zs.storedX out).mono fun _ k2 ⟨a2,b2⟩=>⟨by omega,b2⟩) (fun _=>Zs.ite (fun _=>?_) (fun _=>Zs.ite (fun _=>?_) (fun _=>Zs.no (Nat.succ_ne_zero 8))))
 ·refine Zs.then (Q:=fun _ k'=>k'=k1) ((Zs.chargeX _).then fun _ k2 e2=>(Zs.chargeX _).then fun _ k3 e3=>Zs.ret (by omega)) fun c k2 e2=>?_
  exact (Zs.blkX _ _ 80000 out (by omega) (by omega)).mono fun _ k3 ⟨a3,b3⟩=>⟨by omega,b3⟩
 ·exact Zs.ownX.then fun c k2 ⟨a2,b2⟩=>(Zs.blkX _ _ 80000 out (by omega) (by omega)).mono fun _ k3 ⟨a3,b3⟩=>⟨by omega,b3⟩
theorem Zs.blocksX (hs:V.s.size<=9000):∀ (f:Nat) (out:List UInt8) {k:Nat},k<=8*V.s.size->8*V.s.size<k+f->Zs k (YtgffljllfenhkaaGreatDoor.blocksX V f out) (fun _ k'=>k<=k'/\k'<=8*V.s.size)
 | 0,out,k,h0,hk=>by omega
 | f+1,out,k,h0,hk=>by
  unfold YtgffljllfenhkaaGreatDoor.blocksX;exact (Zs.numX 1).then fun last k1 ⟨e1,b1⟩=>(Zs.blockX hs out).then fun o k2 ⟨a2,b2⟩=>Zs.ite (fun _=>Zs.ret ⟨by omega,b2⟩) (fun _=>(Zs.blocksX hs f o b2 (by omega)).mono fun _ k3 ⟨a3,b3⟩=>⟨by omega,b3⟩)
theorem unpackU_nz {s:ByteArray}(hs:s.size<=9000) {n b:Nat}{y:Why}(h:unpackU s n b=.no y):y.1≠0:=by
 have hZ:Zs 0 (unpackX ⟨s,n,0⟩) (fun _ _=>True):=by
  unfold unpackX;exact (Zs.blocksX (V:=⟨s,n,0⟩) hs 80000 [] (Nat.zero_le _) (by show 8*s.size<0+80000;omega)).then fun out k1 _=>fun t ht=>(Zs.demandX (V:=⟨s,n,0⟩) (k:=k1) (decide ((t.k+7)/8=s.size))).then (f:=fun _=>Rdr.ret out) (R:=fun _ _=>True) (fun _ k2 _=>Zs.ret trivial) t ht
 unfold unpackU at h
 rcases hq:unpackX ⟨s,n,0⟩ ⟨b,0,0,0,0⟩ with⟨out,t⟩|y'
 ·rw[hq] at h;cases h
 ·rw[hq] at h;cases h;exact (hZ _ rfl).1 _ hq
theorem tabR_nz {f:ByteArray}{b:Nat}{y:Why}(h:tabR f b=.no y):y.1≠0:=by
 unfold tabR at h;split at h
 ·cases h;exact Nat.succ_ne_zero _
 ·split at h
  ·cases h;exact Nat.succ_ne_zero _
  ·have hx:=xrefAt_le f
   rcases hq:Rdr.then (tableM (tabEnv f) (xrefAt f).toNat) (fun x=>Rdr.ret ((xrefAt f).toNat,x.1,x.2)) ⟨b-f.size,(xrefAt f).toNat,0,0,0⟩ with⟨a,s1⟩|y'
   ·rw[hq] at h;cases h
   ·rw[hq] at h;cases h;exact (((Zs.table (E:=tabEnv f) _ (by show (xrefAt f).toNat<=f.size;omega)).then (R:=fun _ _=>True) fun x k1 _=>Zs.ret trivial) _ rfl).1 _ hq
theorem objR_nz {f:ByteArray}{at_ place num b:Nat}(hf:f.size<=9000) (ha:at_<=f.size) {y:Why}(h:objR f at_ place num b=.no y):y.1≠0:=by
 unfold objR at h;split at h
 ·cases h
 ·split at h
  ·cases h;exact Nat.succ_ne_zero _
  ·rename_i hp
   rcases hq:objectM (objEnv f at_) num ⟨b,place,0,0,0⟩ with⟨o',s1⟩|y'
   ·rw[hq] at h;simp only[objFin] at h;split at h
    ·cases h;exact Nat.succ_ne_zero _
    ·split at h
     ·cases h;exact Nat.succ_ne_zero _
     ·cases h
   ·rw[hq] at h;simp only[objFin] at h;cases h;exact ((Zs.object (E:=objEnv f at_) (by show at_<=9000;omega) num (by show place<=at_;omega)) _ rfl).1 _ hq
theorem objsR_nz {f:ByteArray}{at_:Nat}(hf:f.size<=9000) (ha:at_<=f.size):∀ (ps:List Nat) {num b:Nat}{y:Why},objsR f at_ ps num b=.no y->y.1≠0
 | [],_,_,_,h=>by simp only[objsR] at h;cases h
 | p::ps,num,b,y,h=>by
  rcases hq:objR f at_ p num b with⟨o,b1⟩|y'
  ·rw[objsR_cons_ok hq] at h
   rcases hq2:objsR f at_ ps (num+1) b1 with⟨l',b2⟩|y'
   ·rw[hq2] at h;cases h
   ·rw[hq2] at h;cases h;exact objsR_nz hf ha ps hq2
  ·rw[objsR_cons_no hq] at h;cases h;exact objR_nz hf ha hq
theorem unpL_nz:∀ (l:List Obj1) {k b:Nat}{y:Why},(∀ o ∈ l,o.stream.size<=9000)->unpL unpackU l k b=.no y->y.1≠0
 | [],_,_,_,_,h=>by simp only[unpL] at h;cases h
 | o::l,k,b,y,ho,h=>by
  simp only[unpL] at h
  rcases hq:unpS unpackU o k b with⟨o2,b1⟩|y'
  ·rw[hq] at h;simp only at h
   rcases hq2:unpL unpackU l (k+1) b1 with⟨l2,b2⟩|y'
   ·rw[hq2] at h;cases h
   ·rw[hq2] at h;cases h;exact unpL_nz l (fun u hu=>ho u (by simp[hu])) hq2
  ·rw[hq] at h;cases h;unfold unpS at hq;split at hq
   ·rcases hq3:unpackU o.stream k b with⟨t,b1⟩|y'
    ·rw[hq3] at hq;cases hq
    ·rw[hq3] at hq;cases hq;exact unpackU_nz (ho o (by simp)) hq3
   ·cases hq
end
end Go.Proofs.YtgffljllfenhkaaGreatDoor
