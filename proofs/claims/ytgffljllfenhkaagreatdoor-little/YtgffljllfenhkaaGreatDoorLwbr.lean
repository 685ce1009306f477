import Derived.Test.YtgffljllfenhkaaGreatDoorLwbq
section
namespace Go.Proofs.YtgffljllfenhkaaGreatDoor
def Zf (F:Nat→Nat) (c k:Nat) {α:Type} (m:Rdr α) (Q:α→Nat→Prop) (c1:α→Nat):Prop:=∀ s,s.k=k→F k+c≤s.b→(∀ y,m s=.no y→(y.1≠12∧y.1≠13))∧∀ a s',m s=.ok a s'→Q a s'.k∧F s'.k+c1 a+s.b≤s'.b+F k+c
section
variable {F:Nat→Nat} {α β:Type} {m:Rdr α} {f:α→Rdr β} {k c:Nat} {Q Q':α→Nat→Prop} {R:β→Nat→Prop} {c1 c1':α→Nat} {c2:β→Nat}
theorem Zf.then (h:Zf F c k m Q c1) (g:∀ a k',Q a k'→Zf F (c1 a) k' (f a) R c2):Zf F c k (m.then f) R c2:=fun s hs hb=>by
 obtain ⟨h1,h2⟩:=h s hs hb
 rcases hm:m s with ⟨a,s1⟩ | y
 ·rw [Rdr.then_ok hm]
  obtain ⟨h3,h4⟩:=h2 a s1 hm
  obtain ⟨g1,g2⟩:=g a s1.k h3 s1 rfl (by omega)
  exact ⟨g1,fun b s' e=>⟨(g2 b s' e).1,by have:=(g2 b s' e).2;omega⟩⟩
 ·rw [Rdr.then_no hm]
  exact ⟨fun y' e=>by cases e;exact h1 y hm,fun a s' e=>by cases e⟩
theorem Zf.less (h:Zf F c k m Q c1) (g:∀ a k',Q a k'→Q' a k'∧c1' a≤c1 a):Zf F c k m Q' c1':=fun s hs hb=>by
 obtain ⟨h1,h2⟩:=h s hs hb
 exact ⟨h1,fun a s' e=>⟨(g a _ (h2 a s' e).1).1,by have:=(h2 a s' e).2;have:=(g a _ (h2 a s' e).1).2;omega⟩⟩
theorem Zf.ret {a:α} (h:Q a k) (hc:c1 a≤c):Zf F c k (Rdr.ret a) Q c1:=fun s hs hb=>⟨fun y e=>(by cases e),fun a' s' e=>by cases e;rw [hs];exact ⟨h,by omega⟩⟩
theorem Zf.ite {d:Prop} [Decidable d] {m1 m2:Rdr α} (h1:d→Zf F c k m1 Q c1) (h2:¬ d→Zf F c k m2 Q c1):Zf F c k (if d then m1 else m2) Q c1:=by
 by_cases hd:d
 ·rw [if_pos hd];exact h1 hd
 ·rw [if_neg hd];exact h2 hd
theorem Zf.no {y:Why} (h:(y.1≠12∧y.1≠13)):Zf F c k (fun _=>.no y:Rdr α) Q c1:=fun s hs hb=>⟨fun y' e=>by cases e;exact h,fun a s' e=>by cases e⟩
theorem Zf.same (h:∀ s,(∀ y,m s=.no y→(y.1≠12∧y.1≠13))∧∀ a s',m s=.ok a s'→s'.k=s.k∧s'.b=s.b):Zf F c k m (fun _ k'=>k'=k) (fun _=>c):=fun s hs hb=>
 ⟨(h s).1,fun a s' e=>by obtain ⟨h1,h2⟩:=(h s).2 a s' e;rw [h1,hs,h2];exact ⟨rfl,by show F k+c+s.b≤s.b+F k+c;omega⟩⟩
end
variable {E:Env} {k c:Nat}
def Fcr (E:Env) (k:Nat):Nat:=40 * (E.e - k)
theorem why_12 (p:Nat):((E.why p).1≠12∧(E.why p).1≠13):=by unfold Env.why;split <;> simp
theorem Zf.peek (hk:k≤E.e):Zf (Fcr E) (c+1) k (peekM E) (fun x k'=>k'=k∧k < E.e∧x=bt E.f k) (fun _=>c):=fun s hs hb=>by
 unfold peekM
 rw [if_neg (show ¬ s.b < 1 by omega)]
 by_cases h2:s.k=E.e
 ·rw [if_pos h2];exact ⟨fun y e=>by cases e;exact why_12 _,fun a s' e=>by cases e⟩
 ·rw [if_neg h2]
  exact ⟨fun y e=>(by cases e),fun a s' e=>by cases e;exact ⟨⟨hs,by omega,by rw [hs]⟩,by show Fcr E s.k+c+s.b≤s.b - 1+Fcr E k+(c+1);rw [hs];omega⟩⟩
theorem Zf.need (d:Bool):Zf (Fcr E) c k (needM E d) (fun _ k'=>k'=k∧d=true) (fun _=>c):=fun s hs hb=>by
 unfold needM
 cases d
 ·exact ⟨fun y e=>by cases e;exact why_12 _,fun a s' e=>by cases e⟩
 ·exact ⟨fun y e=>(by cases e),fun a s' e=>by cases e;rw [hs];exact ⟨⟨rfl,rfl⟩,by show Fcr E k+c+s.b≤s.b+Fcr E k+c;omega⟩⟩
theorem Zf.adv (hk:k < E.e):Zf (Fcr E) c k advM (fun _ k'=>k'=k+1) (fun _=>c+40):=fun s hs hb=>
 ⟨fun y e=>(by cases e),fun a s' e=>by cases e;exact ⟨congrArg (·+1) hs,by show Fcr E (s.k+1)+(c+40)+s.b≤s.b+Fcr E k+c;unfold Fcr;omega⟩⟩
theorem Zf.at:Zf (Fcr E) c k atM (fun _ k'=>k'=k) (fun _=>c):=Zf.same fun s=>⟨fun y e=>(by cases e),fun a s' e=>by cases e;exact ⟨rfl,rfl⟩⟩
theorem Zf.enter:Zf (Fcr E) c k enterM (fun _ k'=>k'=k) (fun _=>c):=Zf.same fun s=>⟨fun y e=>(by cases e),fun a s' e=>by cases e;exact ⟨rfl,rfl⟩⟩
theorem Zf.leave:Zf (Fcr E) c k leaveM (fun _ k'=>k'=k) (fun _=>c):=Zf.same fun s=>⟨fun y e=>(by cases e),fun a s' e=>by cases e;exact ⟨rfl,rfl⟩⟩
theorem Zf.twice (d:Bool) (p:Nat):Zf (Fcr E) c k (twiceM d p) (fun _ k'=>k'=k) (fun _=>c):=Zf.same fun s=>⟨fun y e=>(by cases e),fun a s' e=>by cases e;exact ⟨rfl,rfl⟩⟩
theorem Zf.word:∀ (x:Nat) (l:List Nat) {k c:Nat},k≤E.e→Zf (Fcr E) (c+1) k (wordM E (x::l)) (fun _ k'=>k < k'∧k'≤E.e) (fun _=>c+40)
 | x,[],k,c,hk=>by
  unfold wordM
  exact (Zf.peek hk).then fun _ k1 ⟨e1,h1,_⟩=>(Zf.need _).then fun _ k2 ⟨e2,_⟩=>(Zf.adv (by omega)).then fun _ k3 e3=>by unfold wordM;exact Zf.ret ⟨by omega,by omega⟩ (Nat.le_refl _)
 | x,y::l,k,c,hk=>by
  rw [wordM]
  exact (Zf.peek hk).then fun _ k1 ⟨e1,h1,_⟩=>(Zf.need _).then fun _ k2 ⟨e2,_⟩=>(Zf.adv (by omega)).then fun _ k3 e3=>(Zf.word y l (c:=c+39) (by omega)).less fun _ k4 ⟨a4,b4⟩=>⟨⟨by omega,b4⟩,by omega⟩
theorem Zf.wordA:∀ (l:List Nat) {k c:Nat},k≤E.e→Zf (Fcr E) (c+1) k (wordM E l) (fun _ k'=>k≤k'∧k'≤E.e) (fun _=>c+1)
 | [],k,c,hk=>by unfold wordM;exact Zf.ret ⟨Nat.le_refl _,hk⟩ (Nat.le_refl _)
 | x::l,k,c,hk=>(Zf.word x l hk).less fun _ k1 ⟨a1,b1⟩=>⟨⟨by omega,b1⟩,by omega⟩
theorem Zf.someL (p:Nat→Bool):∀ (n:Nat) {k c:Nat},k≤E.e→Zf (Fcr E) (c+1) k (Go.Proofs.YtgffljllfenhkaaGreatDoor.someL E p n) (fun _ k'=>k≤k'∧k'≤E.e) (fun _=>c)
 | 0,k,c,hk=>by unfold Go.Proofs.YtgffljllfenhkaaGreatDoor.someL;exact Zf.ret ⟨Nat.le_refl _,hk⟩ (by omega)
 | n+1,k,c,hk=>by
  unfold Go.Proofs.YtgffljllfenhkaaGreatDoor.someL
  exact (Zf.peek hk).then fun x k1 ⟨e1,h1,_⟩=>Zf.ite (fun _=>(Zf.adv (by omega)).then fun _ k2 e2=>(Zf.someL p n (c:=c+39) (by omega)).less fun _ k3 ⟨a3,b3⟩=>⟨⟨by omega,b3⟩,by omega⟩) (fun _=>Zf.ret ⟨by omega,by omega⟩ (Nat.le_refl _))
theorem Zf.some (p:Nat→Bool) (n:Nat) (hk:k≤E.e):Zf (Fcr E) (c+2) k (someM E p (n+1)) (fun _ k'=>k < k'∧k'≤E.e) (fun _=>c+39):=by
 unfold someM
 refine Zf.at.then fun _ k1 e1=>(Zf.peek (c:=c+1) (by omega)).then fun x k2 ⟨e2,h2,x2⟩=>(Zf.need _).then fun _ k3 ⟨e3,p3⟩=>?_
 refine Zf.then (Q:=fun _ k'=>k < k'∧k'≤E.e) (c1:=fun _=>c+39) ?_ (fun _ k4 ⟨a4,b4⟩=>Zf.at.then fun _ k5 e5=>Zf.ret ⟨by omega,by omega⟩ (Nat.le_refl _))
 unfold Go.Proofs.YtgffljllfenhkaaGreatDoor.someL
 refine (Zf.peek (by omega)).then fun x' k4 ⟨e4,h4,x4⟩=>?_
 have hp:p x'=true:=by rw [x4,show k3=k1 by omega,← x2];exact p3
 rw [if_pos hp]
 exact (Zf.adv (by omega)).then fun _ k5 e5=>(Zf.someL p n (c:=c+39) (by omega)).less fun _ k6 ⟨a6,b6⟩=>⟨⟨by omega,b6⟩,Nat.le_refl _⟩
theorem Zf.whole (n:Nat) (hk:k≤E.e):Zf (Fcr E) (c+2) k (wholeM E (n+1)) (fun _ k'=>k < k'∧k'≤E.e) (fun _=>c+39):=by
 unfold wholeM
 exact (Zf.some _ n hk).then fun _ k1 h1=>Zf.ret h1 (Nat.le_refl _)
theorem Zf.count (hk:k≤E.e):Zf (Fcr E) (c+3) k (countM E) (fun _ k'=>k < k'∧k'≤E.e) (fun _=>c+39):=by
 unfold countM
 exact (Zf.peek (c:=c+2) hk).then fun x k1 ⟨e1,h1,_⟩=>Zf.ite (fun _=>(Zf.whole 0 (by omega)).less fun _ k2 ⟨a,b⟩=>⟨⟨by omega,b⟩,Nat.le_refl _⟩) (fun _=>(Zf.whole 3 (by omega)).less fun _ k2 ⟨a,b⟩=>⟨⟨by omega,b⟩,Nat.le_refl _⟩)
theorem Zf.bytes (n:Nat) (hk:k≤E.e):Zf (Fcr E) c k (bytesM E n) (fun _ k'=>k≤k'∧k'≤E.e) (fun _=>c):=fun s hs hb=>by
 unfold bytesM
 by_cases h:E.e - s.k < n
 ·rw [if_pos h];exact ⟨fun y e=>by cases e;exact why_12 _,fun a s' e=>by cases e⟩
 ·rw [if_neg h];exact ⟨fun y e=>(by cases e),fun a s' e=>by cases e;exact ⟨⟨by show k≤s.k+n;omega,by show s.k+n≤E.e;omega⟩,by show Fcr E (s.k+n)+c+s.b≤s.b+Fcr E k+c;unfold Fcr;omega⟩⟩
theorem Zf.line (w:List Nat) (a b:Nat) (hk:k≤E.e):Zf (Fcr E) (c+4) k (lineM E w a b) (fun _ k'=>k≤k'∧k'≤E.e) (fun _=>c+40):=by
 unfold lineM
 exact (Zf.wordA w (c:=c+3) hk).then fun _ k1 ⟨a1,b1⟩=>(Zf.count (c:=c+1) b1).then fun n k2 ⟨a2,b2⟩=>(Zf.need _).then fun _ k3 ⟨e3,_⟩=>(Zf.word 10 [] (c:=c+39) (by omega)).then fun _ k4 ⟨a4,b4⟩=>Zf.ret ⟨by omega,b4⟩ (by omega)
theorem Zf.places:∀ (n:Nat) {k c:Nat},k≤E.e→Zf (Fcr E) (c+4) k (placesM E n) (fun _ k'=>k≤k'∧k'≤E.e) (fun _=>c+4)
 | 0,k,c,hk=>by unfold placesM;exact Zf.ret ⟨Nat.le_refl _,hk⟩ (Nat.le_refl _)
 | n+1,k,c,hk=>by unfold placesM;exact (Zf.line _ _ _ hk).then fun p k1 ⟨a1,b1⟩=>(Zf.places n (c:=c+36) b1).then fun l k2 ⟨a2,b2⟩=>Zf.ret ⟨by omega,b2⟩ (by omega)
theorem Zf.table (a:Nat) (hk:k≤E.e):Zf (Fcr E) 4 k (tableM E a) (fun _ _=>True) (fun _=>0):=by
 unfold tableM
 refine (Zf.line (c:=0) _ _ _ hk).then fun n k1 ⟨_,b1⟩=>(Zf.places n (c:=36) b1).then fun l k2 ⟨_,b2⟩=>(Zf.line (c:=36) _ _ _ b2).then fun r k3 ⟨_,b3⟩=>(Zf.line (c:=72) _ _ _ b3).then fun _ k4 ⟨_,b4⟩=>(Zf.word _ _ (c:=111) b4).then fun _ k5 ⟨_,b5⟩=>?_
 intro s hs hb
 exact (Zf.need (E:=E) (k:=k5) (s.k == E.e)).then (f:=fun _=>Rdr.ret (l,r)) (R:=fun _ _=>True) (c2:=fun _=>0) (fun _ k6 e6=>Zf.ret trivial (Nat.zero_le _)) s hs hb
theorem Zf.blanks:∀ (n:Nat) {k c:Nat},k≤E.e→Zf (Fcr E) (c+1) k (blanksM E n) (fun _ k'=>k≤k'∧k'≤E.e) (fun _=>c)
 | 0,k,c,hk=>by unfold blanksM;exact Zf.no (by decide)
 | n+1,k,c,hk=>by
  unfold blanksM
  exact (Zf.peek hk).then fun x k1 ⟨e1,h1,_⟩=>Zf.ite (fun _=>(Zf.adv (by omega)).then fun _ k2 e2=>(Zf.blanks n (c:=c+39) (by omega)).less fun _ k3 ⟨a3,b3⟩=>⟨⟨by omega,b3⟩,by omega⟩) (fun _=>Zf.ret ⟨by omega,by omega⟩ (Nat.le_refl _))
theorem Zf.next (hk:k≤E.e):Zf (Fcr E) (c+2) k (nextM E) (fun _ k'=>k≤k'∧k'≤E.e) (fun _=>c):=by
 unfold nextM
 exact (Zf.blanks 9001 (c:=c+1) hk).then fun _ k1 ⟨a1,b1⟩=>(Zf.peek b1).less fun _ k2 ⟨e2,h2,_⟩=>⟨⟨by omega,by omega⟩,Nat.le_refl _⟩
theorem Zf.textL:∀ (n:Nat) {k c:Nat},k≤E.e→Zf (Fcr E) (c+4) k (Go.Proofs.YtgffljllfenhkaaGreatDoor.textL E n) (fun _ k'=>k≤k'∧k'≤E.e) (fun _=>c)
 | 0,k,c,hk=>by unfold Go.Proofs.YtgffljllfenhkaaGreatDoor.textL;exact Zf.no (by decide)
 | n+1,k,c,hk=>by
  unfold Go.Proofs.YtgffljllfenhkaaGreatDoor.textL
  refine (Zf.peek (c:=c+3) hk).then fun x k1 ⟨e1,h1,_⟩=>Zf.ite (fun _=>Zf.ret ⟨by omega,by omega⟩ (by omega)) (fun _=>?_)
  refine (Zf.peek (c:=c+2) (by omega)).then fun x k2 ⟨e2,h2,_⟩=>(Zf.need _).then fun _ k3 ⟨e3,_⟩=>(Zf.peek (c:=c+1) (by omega)).then fun x k4 ⟨e4,h4,_⟩=>?_
  refine Zf.then (Q:=fun _ k'=>k≤k'∧k' < E.e) (c1:=fun _=>c+1) (Zf.ite (fun _=>(Zf.adv (by omega)).then fun _ k5 e5=>(Zf.peek (c:=c+40) (by omega)).then fun x k6 ⟨e6,h6,_⟩=>(Zf.need _).less fun _ k7 ⟨e7,_⟩=>⟨⟨by omega,by omega⟩,by omega⟩) (fun _=>Zf.ret ⟨by omega,by omega⟩ (Nat.le_refl _))) fun _ k5 ⟨a5,b5⟩=>(Zf.adv b5).then fun _ k6 e6=>?_
  exact (Zf.textL n (c:=c+37) (by omega)).less fun _ k7 ⟨a7,b7⟩=>⟨⟨by omega,b7⟩,by omega⟩
theorem Zf.text (hk:k≤E.e):Zf (Fcr E) (c+5) k (textM E) (fun _ k'=>k < k'∧k'≤E.e) (fun _=>c+40):=by
 unfold textM
 exact (Zf.word _ _ (c:=c+4) hk).then fun _ k1 ⟨a1,b1⟩=>Zf.at.then fun _ k2 e2=>(Zf.textL 9001 (c:=c+40) (by omega)).then fun _ k3 ⟨a3,b3⟩=>(Zf.word _ _ (c:=c+39) b3).then fun _ k4 ⟨a4,b4⟩=>Zf.at.then fun _ k5 e5=>Zf.ret ⟨by omega,by omega⟩ (by omega)
theorem Zf.name (hk:k≤E.e):Zf (Fcr E) (c+1) k (nameM E) (fun _ k'=>k < k'∧k'≤E.e) (fun _=>c+40):=by
 unfold nameM
 exact (Zf.word _ _ hk).then fun _ k1 ⟨a1,b1⟩=>(Zf.some _ 7 (c:=c+38) b1).less fun _ k2 ⟨a2,b2⟩=>⟨⟨by omega,b2⟩,by omega⟩
theorem Zf.num (hk:k≤E.e):Zf (Fcr E) (c+4) k (numM E) (fun _ k'=>k < k'∧k'≤E.e) (fun _=>c+39):=by
 unfold numM
 refine (Zf.peek (c:=c+3) hk).then fun x k1 ⟨e1,h1,_⟩=>Zf.then (Q:=fun _ k'=>k≤k'∧k'≤E.e) (c1:=fun _=>c+3) (Zf.ite (fun _=>(Zf.adv (by omega)).less fun _ k2 e2=>⟨⟨by omega,by omega⟩,by omega⟩) (fun _=>Zf.ret ⟨by omega,by omega⟩ (Nat.le_refl _))) fun _ k2 ⟨a2,b2⟩=>?_
 exact (Zf.some _ 5 (c:=c+1) b2).then fun ti k3 ⟨a3,b3⟩=>(Zf.peek (c:=c+39) b3).then fun y k4 ⟨e4,h4,_⟩=>Zf.ite (fun _=>(Zf.adv (by omega)).then fun _ k5 e5=>(Zf.some _ 2 (c:=c+77) (by omega)).then fun _ k6 ⟨a6,b6⟩=>Zf.ret ⟨by omega,b6⟩ (by omega)) (fun _=>Zf.ret ⟨by omega,by omega⟩ (Nat.le_refl _))
theorem Zf.value:∀ (n:Nat),(∀ {k c:Nat},k≤E.e→Zf (Fcr E) (c+10) k (valueM E n) (fun _ k'=>k≤k'∧k'≤E.e) (fun _=>c+20)) ∧
  (∀ (l:List Val) {k c:Nat},k≤E.e→Zf (Fcr E) (c+12) k (elemsM E n l) (fun _ k'=>k≤k'∧k'≤E.e) (fun _=>c+5))∧(∀ (l:List (ByteArray×Val)) {k c:Nat},k≤E.e→Zf (Fcr E) (c+12) k (keysM E n l) (fun _ k'=>k≤k'∧k'≤E.e) (fun _=>c+5))
 | 0=>⟨fun _=>by rw [valueM];exact Zf.no (by decide),fun _ _ _ _=>by rw [elemsM];exact Zf.no (by decide),fun _ _ _ _=>by rw [keysM];exact Zf.no (by decide)⟩
 | n+1=>by
  obtain ⟨hv,hE,hK⟩:=Zf.value n
  refine ⟨fun {k c} hk=>?_,fun l k c hk=>?_,fun l k c hk=>?_⟩
  ·rw [valueM]
   refine (Zf.next (c:=c+8) hk).then fun x k1 ⟨a1,b1⟩=>?_
   refine Zf.ite (fun _=>(Zf.word _ _ (c:=c+7) b1).then fun _ k2 ⟨a2,b2⟩=>Zf.ret ⟨by omega,b2⟩ (by omega)) (fun _=>?_)
   refine Zf.ite (fun _=>(Zf.word _ _ (c:=c+7) b1).then fun _ k2 ⟨a2,b2⟩=>Zf.ret ⟨by omega,b2⟩ (by omega)) (fun _=>?_)
   refine Zf.ite (fun _=>(Zf.word _ _ (c:=c+7) b1).then fun _ k2 ⟨a2,b2⟩=>Zf.ret ⟨by omega,b2⟩ (by omega)) (fun _=>?_)
   refine Zf.ite (fun _=>(Zf.text (c:=c+3) b1).then fun _ k2 ⟨a2,b2⟩=>Zf.ret ⟨by omega,b2⟩ (by omega)) (fun _=>?_)
   refine Zf.ite (fun _=>(Zf.name (c:=c+7) b1).then fun _ k2 ⟨a2,b2⟩=>Zf.ret ⟨by omega,b2⟩ (by omega)) (fun _=>?_)
   refine Zf.ite (fun _=>(Zf.word _ _ (c:=c+7) b1).then fun _ k2 ⟨a2,b2⟩=>(Zf.whole 3 (c:=c+45) b2).then fun _ k3 ⟨a3,b3⟩=>Zf.ret ⟨by omega,b3⟩ (by omega)) (fun _=>?_)
   refine Zf.ite (fun _=>Zf.enter.then fun _ k2 e2=>(Zf.word _ _ (c:=c+7) (by omega)).then fun _ k3 ⟨a3,b3⟩=>(hE [] (c:=c+35) b3).then fun l k4 ⟨a4,b4⟩=>(Zf.word _ _ (c:=c+39) b4).then fun _ k5 ⟨a5,b5⟩=>Zf.leave.then fun _ k6 e6=>Zf.ret ⟨by omega,by omega⟩ (by omega)) (fun _=>?_)
   refine Zf.ite (fun _=>Zf.enter.then fun _ k2 e2=>(Zf.word _ _ (c:=c+7) (by omega)).then fun _ k3 ⟨a3,b3⟩=>(hK [] (c:=c+35) b3).then fun l k4 ⟨a4,b4⟩=>(Zf.word _ _ (c:=c+39) b4).then fun _ k5 ⟨a5,b5⟩=>Zf.leave.then fun _ k6 e6=>Zf.ret ⟨by omega,by omega⟩ (by omega)) (fun _=>?_)
   exact (Zf.num (c:=c+4) b1).then fun _ k2 ⟨a2,b2⟩=>Zf.ret ⟨by omega,b2⟩ (by omega)
  ·rw [elemsM]
   exact (Zf.next (c:=c+10) hk).then fun x k1 ⟨a1,b1⟩=>Zf.ite (fun _=>Zf.ret ⟨a1,b1⟩ (by omega)) (fun _=>(hv (c:=c) b1).then fun v k2 ⟨a2,b2⟩=>(hE _ (c:=c+8) b2).less fun _ k3 ⟨a3,b3⟩=>⟨⟨by omega,b3⟩,by omega⟩)
  ·rw [keysM]
   exact (Zf.next (c:=c+10) hk).then fun x k1 ⟨a1,b1⟩=>Zf.ite (fun _=>Zf.ret ⟨a1,b1⟩ (by omega)) (fun _=>Zf.at.then fun p k2 e2=>(Zf.name (c:=c+9) (by omega)).then fun a k3 ⟨a3,b3⟩=>(Zf.twice _ _).then fun _ k4 e4=>(hv (c:=c+39) (by omega)).then fun v k5 ⟨a5,b5⟩=>(hK _ (c:=c+47) b5).less fun _ k6 ⟨a6,b6⟩=>⟨⟨by omega,b6⟩,by omega⟩)
theorem Zf.stream (hk:k≤E.e):Zf (Fcr E) (c+10) k (streamM E) (fun _ k'=>k≤k'∧k'≤E.e) (fun _=>c):=by
 unfold streamM
 exact (Zf.word _ _ (c:=c+9) hk).then fun _ k1 ⟨a1,b1⟩=>(Zf.next (c:=c+47) b1).then fun _ k2 ⟨a2,b2⟩=>(Zf.count (c:=c+44) b2).then fun n k3 ⟨a3,b3⟩=>(Zf.word _ _ (c:=c+82) b3).then fun _ k4 ⟨a4,b4⟩=>(Zf.bytes n b4).less fun _ k5 ⟨a5,b5⟩=>⟨⟨by omega,b5⟩,by omega⟩
theorem Zf.object (num:Nat) (hk:k≤E.e):Zf (Fcr E) 20 k (objectM E num) (fun _ _=>True) (fun _=>0):=by
 unfold objectM
 refine Zf.at.then fun p k1 e1=>(Zf.wordA _ (c:=19) (by omega)).then fun _ k2 ⟨_,b2⟩=>(Zf.peek (c:=19) b2).then fun x k3 ⟨e3,_,_⟩=>(Zf.need _).then fun _ k4 ⟨e4,_⟩=>((Zf.value 18010).1 (c:=9) (by omega)).then fun v k5 ⟨_,b5⟩=>?_
 refine (Zf.next (c:=27) b5).then fun y k6 ⟨_,b6⟩=>Zf.then (Q:=fun _ k'=>k'≤E.e) (c1:=fun _=>17) (Zf.ite (fun _=>(Zf.need _).then fun _ k7 ⟨e7,_⟩=>(Zf.stream (c:=17) (by omega)).then fun t k8 ⟨_,b8⟩=>Zf.ret b8 (Nat.le_refl _)) (fun _=>Zf.ret b6 (by omega))) fun hs k7 b7=>?_
 exact (Zf.next (c:=15) b7).then fun _ k8 ⟨_,b8⟩=>(Zf.word _ _ (c:=14) b8).then fun _ k9 ⟨_,b9⟩=>Zf.at.then fun q k10 e10=>Zf.ret trivial (Nat.zero_le _)
end Go.Proofs.YtgffljllfenhkaaGreatDoor
end
section
namespace Go.Proofs.YtgffljllfenhkaaGreatDoor
variable {V:Ux} {k c:Nat}
def Fcx (V:Ux) (k:Nat):Nat:=35 * (8 * V.s.size - k)
theorem Zf.numX (n:Nat):Zf (Fcx V) (c+1) k (Go.Proofs.YtgffljllfenhkaaGreatDoor.numX V n) (fun _ k'=>k'=k+n∧k'≤8 * V.s.size) (fun _=>c+1+34 * n):=fun s hs hb=>by
 unfold Go.Proofs.YtgffljllfenhkaaGreatDoor.numX
 by_cases h:n≤s.b∧s.k+n≤8 * V.s.size
 ·rw [if_pos h]
  refine ⟨fun y e=>(by cases e),fun a s' e=>?_⟩
  cases e
  rw [St.bits_k,St.bits_b]
  refine ⟨⟨by omega,h.2⟩,?_⟩
  show Fcx V (s.k+n)+(c+1+34 * n)+s.b≤s.b - n+Fcx V k+(c+1)
  unfold Fcx at hb ⊢
  omega
 ·rw [if_neg h]
  unfold Fcx at hb
  rw [if_neg (by omega)]
  exact ⟨fun y e=>by cases e;simp,fun a s' e=>by cases e⟩
theorem Zf.bitX:Zf (Fcx V) (c+1) k (Go.Proofs.YtgffljllfenhkaaGreatDoor.bitX V) (fun _ k'=>k'=k+1∧k'≤8 * V.s.size) (fun _=>c+35):=fun s hs hb=>by
 unfold Go.Proofs.YtgffljllfenhkaaGreatDoor.bitX
 rw [if_neg (show ¬ s.b < 1 by omega)]
 by_cases h2:8 * V.s.size≤s.k
 ·rw [if_pos h2];exact ⟨fun y e=>by cases e;simp,fun a s' e=>by cases e⟩
 ·rw [if_neg h2]
  refine ⟨fun y e=>(by cases e),fun a s' e=>?_⟩
  cases e
  rw [St.bits_k,St.bits_b]
  refine ⟨⟨by omega,by omega⟩,?_⟩
  show Fcx V (s.k+1)+(c+35)+s.b≤s.b - 1+Fcx V k+(c+1)
  unfold Fcx at hb ⊢
  omega
theorem Zf.decX (l:List Nat):∀ (r above:Nat) {k c:Nat},Zf (Fcx V) (c+1) k (Go.Proofs.YtgffljllfenhkaaGreatDoor.decX V l r above) (fun _ k'=>k < k'∧k'≤8 * V.s.size) (fun _=>c+35)
 | 0,above,k,c=>by unfold Go.Proofs.YtgffljllfenhkaaGreatDoor.decX;exact Zf.no (by simp)
 | r+1,above,k,c=>by
  unfold Go.Proofs.YtgffljllfenhkaaGreatDoor.decX
  exact Zf.bitX.then fun x k1 ⟨e1,b1⟩=>Zf.ite (fun _=>Zf.ret ⟨by omega,b1⟩ (Nat.le_refl _)) (fun _=>(Zf.decX l r _ (c:=c+34)).less fun _ k2 ⟨a2,b2⟩=>⟨⟨by omega,b2⟩,by omega⟩)
theorem Zf.signX (l:List Nat):Zf (Fcx V) (c+1) k (Go.Proofs.YtgffljllfenhkaaGreatDoor.signX V l) (fun _ k'=>k < k'∧k'≤8 * V.s.size) (fun _=>c+1+34):=(Zf.decX l 15 0).less fun _ _ h=>⟨h,by omega⟩
theorem Zf.skip (l:List Nat) (r above g:Nat) (h0:cnt (15 - r) l=0) (h:∀ {above k c:Nat},Zf (Fcx V) (c+1) k (Go.Proofs.YtgffljllfenhkaaGreatDoor.decX V l r above) (fun _ k'=>k < k'∧k'≤8 * V.s.size) (fun _=>c+1+g)):Zf (Fcx V) (c+1) k (Go.Proofs.YtgffljllfenhkaaGreatDoor.decX V l (r+1) above) (fun _ k'=>k < k'∧k'≤8 * V.s.size) (fun _=>c+1+(g+34)):=by
 unfold Go.Proofs.YtgffljllfenhkaaGreatDoor.decX
 rw [h0]
 exact Zf.bitX.then fun x k1 ⟨e1,b1⟩=>Zf.ite (fun hx=>absurd hx (Nat.not_lt_zero _)) (fun _=>(h (c:=c+34)).less fun _ k2 ⟨a2,b2⟩=>⟨⟨by omega,b2⟩,by omega⟩)
theorem Zf.signF:Zf (Fcx V) (c+1) k (Go.Proofs.YtgffljllfenhkaaGreatDoor.signX V fixL) (fun _ k'=>k < k'∧k'≤8 * V.s.size) (fun _=>c+1+238):=by
 have h7:∀ {above k c:Nat},Zf (Fcx V) (c+1) k (Go.Proofs.YtgffljllfenhkaaGreatDoor.decX V fixL 9 above) (fun _ k'=>k < k'∧k'≤8 * V.s.size) (fun _=>c+1+34):=fun {above k c}=>(Zf.decX fixL 9 above).less fun _ _ h=>⟨h,by omega⟩
 have h6:=fun {above k c:Nat}=>Zf.skip (V:=V) (k:=k) (c:=c) fixL 9 above 34 (by decide +kernel) h7
 have h5:=fun {above k c:Nat}=>Zf.skip (V:=V) (k:=k) (c:=c) fixL 10 above 68 (by decide +kernel) h6
 have h4:=fun {above k c:Nat}=>Zf.skip (V:=V) (k:=k) (c:=c) fixL 11 above 102 (by decide +kernel) h5
 have h3:=fun {above k c:Nat}=>Zf.skip (V:=V) (k:=k) (c:=c) fixL 12 above 136 (by decide +kernel) h4
 have h2:=fun {above k c:Nat}=>Zf.skip (V:=V) (k:=k) (c:=c) fixL 13 above 170 (by decide +kernel) h3
 exact Zf.skip fixL 14 0 204 (by decide +kernel) h2
theorem Zf.chargeX (n:Nat):Zf (Fcx V) (c+n) k (Go.Proofs.YtgffljllfenhkaaGreatDoor.chargeX n) (fun _ k'=>k'=k) (fun _=>c):=fun s hs hb=>by
 unfold Go.Proofs.YtgffljllfenhkaaGreatDoor.chargeX chargeM
 rw [if_neg (show ¬ s.b < n by omega)]
 exact ⟨fun y e=>(by cases e),fun a s' e=>by cases e;exact ⟨hs,by show Fcx V s.k+c+s.b≤s.b - n+Fcx V k+(c+n);rw [hs];omega⟩⟩
theorem Zf.demandX (d:Bool):Zf (Fcx V) c k (Go.Proofs.YtgffljllfenhkaaGreatDoor.demandX V d) (fun _ k'=>k'=k∧d=true) (fun _=>c):=fun s hs hb=>by
 unfold Go.Proofs.YtgffljllfenhkaaGreatDoor.demandX
 cases d
 ·exact ⟨fun y e=>by cases e;simp,fun a s' e=>by cases e⟩
 ·exact ⟨fun y e=>(by cases e),fun a s' e=>by cases e;rw [hs];exact ⟨⟨rfl,rfl⟩,by show Fcx V k+c+s.b≤s.b+Fcx V k+c;omega⟩⟩
def rm (out:List UInt8):Nat:=2000 - out.length
theorem Zf.putX (out:List UInt8) (x:UInt8):Zf (Fcx V) (c+1+rm out) k (Go.Proofs.YtgffljllfenhkaaGreatDoor.putX V out x) (fun _ k'=>k'=k) (fun o=>c+1+rm o):=fun s hs hb=>by
 unfold Go.Proofs.YtgffljllfenhkaaGreatDoor.putX
 rw [if_neg (show ¬ s.b < 1 by omega)]
 by_cases h2:out.length < 2000
 ·rw [if_pos h2]
  refine ⟨fun y e=>(by cases e),fun a s' e=>?_⟩
  cases e
  refine ⟨hs,?_⟩
  show Fcx V s.k+(c+1+rm (out++[x]))+s.b≤s.b - 1+Fcx V k+(c+1+rm out)
  have:rm (out++[x])+1=rm out:=by unfold rm;rw [List.length_append,List.length_singleton];omega
  rw [hs];omega
 ·rw [if_neg h2];exact ⟨fun y e=>by cases e;simp,fun a s' e=>by cases e⟩
theorem Zf.copyNX (back:Nat):∀ (n:Nat) (out:List UInt8) {k c:Nat},Zf (Fcx V) (c+1+rm out) k (Go.Proofs.YtgffljllfenhkaaGreatDoor.copyNX V back n out) (fun _ k'=>k'=k) (fun o=>c+1+rm o)
 | 0,out,k,c=>by unfold Go.Proofs.YtgffljllfenhkaaGreatDoor.copyNX;exact Zf.ret rfl (Nat.le_refl _)
 | n+1,out,k,c=>by unfold Go.Proofs.YtgffljllfenhkaaGreatDoor.copyNX;exact (Zf.putX _ _).then fun o k1 e1=>(Zf.copyNX back n o).less fun _ k2 e2=>⟨by omega,Nat.le_refl _⟩
theorem Zf.more {α:Type} {F:Nat→Nat} {m:Rdr α} {Q:α→Nat→Prop} {c1:α→Nat} (h:Zf F c k m Q c1) (d:Nat):Zf F (c+d) k m Q (fun a=>c1 a+d):=fun s hs hb=>by
 obtain ⟨h1,h2⟩:=h s hs (by omega)
 exact ⟨h1,fun a s' e=>⟨(h2 a s' e).1,by have:=(h2 a s' e).2;show F s'.k+(c1 a+d)+s.b≤s'.b+F k+(c+d);omega⟩⟩
theorem Zf.eq {α:Type} {F:Nat→Nat} {m:Rdr α} {Q Q':α→Nat→Prop} {c1 c1':α→Nat} {c':Nat} (h:Zf F c k m Q c1) (e:c'=c) (g:∀ a k',Q a k'→Q' a k'∧c1' a≤c1 a):Zf F c' k m Q' c1':=by subst e;exact h.less g
theorem Zf.storeNX:∀ (n:Nat) (out:List UInt8) {k c:Nat},k≤8 * V.s.size→Zf (Fcx V) (c+1+rm out) k (Go.Proofs.YtgffljllfenhkaaGreatDoor.storeNX V n out) (fun _ k'=>k≤k'∧k'≤8 * V.s.size) (fun o=>c+1+rm o)
 | 0,out,k,c,hk=>by unfold Go.Proofs.YtgffljllfenhkaaGreatDoor.storeNX;exact Zf.ret ⟨Nat.le_refl _,hk⟩ (Nat.le_refl _)
 | n+1,out,k,c,hk=>by
  unfold Go.Proofs.YtgffljllfenhkaaGreatDoor.storeNX
  refine Zf.then (Q:=fun _ k'=>k≤k'∧k'≤8 * V.s.size) (c1:=fun _=>c+1+rm out) ((Zf.numX (c:=c+rm out) 8).eq (by omega) fun _ k1 ⟨e1,b1⟩=>⟨⟨by omega,b1⟩,by omega⟩) fun x k1 ⟨a1,b1⟩=>?_
  exact (Zf.putX _ _).then fun o k2 e2=>(Zf.storeNX n o (by omega)).less fun _ k3 ⟨a3,b3⟩=>⟨⟨by omega,b3⟩,Nat.le_refl _⟩
theorem Zf.storedX (out:List UInt8):Zf (Fcx V) (c+1+rm out) k (Go.Proofs.YtgffljllfenhkaaGreatDoor.storedX V out) (fun _ k'=>k≤k'∧k'≤8 * V.s.size) (fun o=>c+1+rm o):=by
 unfold Go.Proofs.YtgffljllfenhkaaGreatDoor.storedX
 refine Zf.then (Q:=fun _ k'=>k≤k'∧k'≤8 * V.s.size) (c1:=fun _=>c+1+rm out) (fun s hs hb=>(Zf.numX (V:=V) (k:=k) (c:=c+rm out) ((8 - s.k % 8) % 8)).eq (c':=c+1+rm out) (Q':=fun _ k'=>k≤k'∧k'≤8 * V.s.size) (c1':=fun _=>c+1+rm out) (by omega) (fun _ k1 h1=>⟨⟨by omega,h1.2⟩,by omega⟩) s hs hb) fun _ k1 ⟨a1,b1⟩=>?_
 refine Zf.then (Q:=fun _ k'=>k≤k'∧k'≤8 * V.s.size) (c1:=fun _=>c+1+rm out) ((Zf.numX (c:=c+rm out) 16).eq (by omega) fun _ k2 ⟨e2,b2⟩=>⟨⟨by omega,b2⟩,by omega⟩) fun n k2 ⟨a2,b2⟩=>?_
 refine Zf.then (Q:=fun _ k'=>k≤k'∧k'≤8 * V.s.size) (c1:=fun _=>c+1+rm out) ((Zf.numX (c:=c+rm out) 16).eq (by omega) fun _ k2 ⟨e2,b2⟩=>⟨⟨by omega,b2⟩,by omega⟩) fun m k3 ⟨a3,b3⟩=>?_
 exact (Zf.demandX _).then fun _ k4 ⟨e4,_⟩=>(Zf.storeNX n out (by omega)).less fun _ k5 ⟨a5,b5⟩=>⟨⟨by omega,b5⟩,Nat.le_refl _⟩
theorem Zf.blkX (l dl:List Nat) (g:Nat) (hg:∀ {k c:Nat},Zf (Fcx V) (c+1) k (Go.Proofs.YtgffljllfenhkaaGreatDoor.signX V l) (fun _ k'=>k < k'∧k'≤8 * V.s.size) (fun _=>c+1+g)):∀ (f:Nat) (out:List UInt8) {k c:Nat},Zf (Fcx V) (c+1+rm out) k (Go.Proofs.YtgffljllfenhkaaGreatDoor.blkX V l dl f out) (fun _ k'=>k≤k'∧k'≤8 * V.s.size) (fun o=>c+1+rm o+g)
 | 0,out,k,c=>by unfold Go.Proofs.YtgffljllfenhkaaGreatDoor.blkX;exact Zf.no (by simp)
 | f+1,out,k,c=>by
  unfold Go.Proofs.YtgffljllfenhkaaGreatDoor.blkX copyLX distX copyBX
  refine Zf.then (Q:=fun _ k'=>k < k'∧k'≤8 * V.s.size) (c1:=fun _=>c+g+1+rm out) ((hg (c:=c+rm out)).eq (by omega) fun _ k1 h1=>⟨h1,by omega⟩) fun x k1 ⟨a1,b1⟩=>?_
  refine Zf.ite (fun _=>(Zf.putX _ _).then fun o k2 e2=>(Zf.blkX l dl g hg f o).less fun _ k3 ⟨a3,b3⟩=>⟨⟨by omega,b3⟩,by omega⟩) (fun _=>Zf.ite (fun _=>Zf.ret ⟨by omega,b1⟩ (by omega)) (fun _=>?_))
  refine Zf.then (Q:=fun _ k'=>k1≤k'∧k'≤8 * V.s.size) (c1:=fun _=>c+g+1+rm out) ((Zf.demandX _).then fun _ k2 ⟨e2,_⟩=>Zf.then (Q:=fun _ k'=>k1≤k'∧k'≤8 * V.s.size) (c1:=fun _=>c+g+1+rm out) ((Zf.numX (c:=c+g+rm out) _).eq (by omega) fun _ k3 ⟨e3,b3⟩=>⟨⟨by omega,b3⟩,by omega⟩) fun x k3 h3=>Zf.ret h3 (Nat.le_refl _)) fun n k2 ⟨a2,b2⟩=>?_
  refine Zf.then (Q:=fun _ k'=>k2 < k'∧k'≤8 * V.s.size) (c1:=fun _=>c+g+1+rm out) ((Zf.signX (c:=c+g+rm out) dl).eq (by omega) fun _ k3 h3=>⟨h3,by omega⟩) fun d k3 ⟨a3,b3⟩=>?_
  refine Zf.then (Q:=fun _ k'=>k3≤k'∧k'≤8 * V.s.size) (c1:=fun _=>c+g+1+rm out) ((Zf.demandX _).then fun _ k2 ⟨e2,_⟩=>Zf.then (Q:=fun _ k'=>k3≤k'∧k'≤8 * V.s.size) (c1:=fun _=>c+g+1+rm out) ((Zf.numX (c:=c+g+rm out) _).eq (by omega) fun _ k3 ⟨e3,b3⟩=>⟨⟨by omega,b3⟩,by omega⟩) fun x k3 h3=>Zf.ret h3 (Nat.le_refl _)) fun back k4 ⟨a4,b4⟩=>?_
  refine Zf.then (Q:=fun _ k'=>k'=k4) (c1:=fun o=>c+g+1+rm o) ((Zf.demandX _).then fun _ k5 ⟨e5,_⟩=>(Zf.copyNX _ _ _).less fun _ k6 e6=>⟨by omega,Nat.le_refl _⟩) fun o k5 e5=>?_
  exact (Zf.blkX l dl g hg f o).less fun _ k6 ⟨a6,b6⟩=>⟨⟨by omega,b6⟩,by omega⟩
theorem Zf.readX (cl:List Nat) (many:Nat):∀ (f:Nat) (l:List Nat) {k c:Nat},k≤8 * V.s.size→Zf (Fcx V) (c+1) k (Go.Proofs.YtgffljllfenhkaaGreatDoor.readX V cl many f l) (fun _ k'=>k≤k'∧k'≤8 * V.s.size) (fun _=>c+1)
 | 0,l,k,c,hk=>by unfold Go.Proofs.YtgffljllfenhkaaGreatDoor.readX;exact Zf.no (by simp)
 | f+1,l,k,c,hk=>by
  unfold Go.Proofs.YtgffljllfenhkaaGreatDoor.readX
  refine Zf.ite (fun hl=>?_) (fun _=>(Zf.demandX _).then fun _ k1 ⟨e1,_⟩=>Zf.ret ⟨by omega,by omega⟩ (Nat.le_refl _))
  refine (Zf.signX cl).then fun g k1 ⟨a1,b1⟩=>?_
  refine Zf.ite (fun _=>(Zf.demandX _).then fun _ k2 ⟨e2,_⟩=>(Zf.numX (c:=c+34) _).eq (by omega) (fun _ _ h=>⟨h,Nat.le_refl _⟩) |>.then fun n k3 ⟨e3,b3⟩=>(Zf.readX cl many f _ (c:=c+34+34 * 2) b3).eq (by omega) fun _ k4 ⟨a4,b4⟩=>⟨⟨by omega,b4⟩,by omega⟩) (fun _=>?_)
  refine Zf.ite (fun _=>(Zf.numX (c:=c+34) _).eq (by omega) (fun _ _ h=>⟨h,Nat.le_refl _⟩) |>.then fun n k3 ⟨e3,b3⟩=>(Zf.readX cl many f _ (c:=c+34+34 * 3) b3).eq (by omega) fun _ k4 ⟨a4,b4⟩=>⟨⟨by omega,b4⟩,by omega⟩) (fun _=>?_)
  refine Zf.ite (fun _=>(Zf.numX (c:=c+34) _).eq (by omega) (fun _ _ h=>⟨h,Nat.le_refl _⟩) |>.then fun n k3 ⟨e3,b3⟩=>(Zf.readX cl many f _ (c:=c+34+34 * 7) b3).eq (by omega) fun _ k4 ⟨a4,b4⟩=>⟨⟨by omega,b4⟩,by omega⟩) (fun _=>?_)
  exact (Zf.readX cl many f _ (c:=c+34) b1).eq (by omega) fun _ k4 ⟨a4,b4⟩=>⟨⟨by omega,b4⟩,by omega⟩
theorem Zf.clensX:∀ (n i:Nat) (l:List Nat) {k c:Nat},k≤8 * V.s.size→Zf (Fcx V) (c+1) k (Go.Proofs.YtgffljllfenhkaaGreatDoor.clensX V n i l) (fun _ k'=>k≤k'∧k'≤8 * V.s.size) (fun _=>c+1)
 | 0,i,l,k,c,hk=>by unfold Go.Proofs.YtgffljllfenhkaaGreatDoor.clensX;exact Zf.ret ⟨Nat.le_refl _,hk⟩ (Nat.le_refl _)
 | n+1,i,l,k,c,hk=>by
  unfold Go.Proofs.YtgffljllfenhkaaGreatDoor.clensX
  exact (Zf.numX 3).then fun x k1 ⟨e1,b1⟩=>(Zf.clensX n _ _ (c:=c+34 * 3) b1).eq (by omega) fun _ k2 ⟨a2,b2⟩=>⟨⟨by omega,b2⟩,by omega⟩
theorem Zf.ownX:Zf (Fcx V) (c+1) k (Go.Proofs.YtgffljllfenhkaaGreatDoor.ownX V) (fun _ k'=>k≤k'∧k'≤8 * V.s.size) (fun _=>c+1):=by
 unfold Go.Proofs.YtgffljllfenhkaaGreatDoor.ownX codeLX
 refine (Zf.numX 5).then fun a k1 ⟨e1,b1⟩=>Zf.then (Q:=fun _ k'=>k'=k1+5∧k'≤8 * V.s.size) (c1:=fun _=>c+341) ((Zf.numX (c:=c+170) 5).eq (by omega) fun _ _ h=>⟨h,by omega⟩) fun b k2 ⟨e2,b2⟩=>?_
 refine Zf.then (Q:=fun _ k'=>k'=k2+4∧k'≤8 * V.s.size) (c1:=fun _=>c+477) ((Zf.numX (c:=c+340) 4).eq (by omega) fun _ _ h=>⟨h,by omega⟩) fun n k3 ⟨e3,b3⟩=>(Zf.demandX _).then fun _ k4 ⟨e4,d4⟩=>?_
 have hab:a≤29∧b≤29:=by simpa using d4
 refine Zf.then (Q:=fun _ k'=>k4≤k'∧k'≤8 * V.s.size) (c1:=fun _=>c+458) ((Zf.clensX _ _ _ (c:=c+476) (by omega)).then fun l k5 ⟨a5,b5⟩=>Zf.then (Q:=fun _ k'=>k'=k5) (c1:=fun _=>c+458) ((Zf.chargeX (c:=c+458) 19).eq (by omega) fun _ _ h=>⟨h,Nat.le_refl _⟩) fun _ k6 e6=>(Zf.demandX _).then fun _ k7 ⟨e7,_⟩=>Zf.ret ⟨by omega,by omega⟩ (Nat.le_refl _)) fun cl k5 ⟨a5,b5⟩=>?_
 refine (Zf.readX cl _ _ [] (c:=c+457) b5).then fun all k6 ⟨a6,b6⟩=>?_
 refine Zf.then (Q:=fun _ k'=>k'=k6) (c1:=fun _=>c+458 - (257+a)) ((Zf.chargeX (c:=c+458 - (257+a)) (257+a)).eq (by omega) fun _ _ h=>⟨h,Nat.le_refl _⟩) fun _ k7 e7=>?_
 refine Zf.then (Q:=fun _ k'=>k'=k7) (c1:=fun _=>c+458 - (257+a) - (1+b)) ((Zf.chargeX (c:=c+458 - (257+a) - (1+b)) (1+b)).eq (by omega) fun _ _ h=>⟨h,Nat.le_refl _⟩) fun _ k8 e8=>?_
 exact (Zf.demandX _).then fun _ k9 ⟨e9,_⟩=>(Zf.demandX _).then fun _ k10 ⟨e10,_⟩=>(Zf.demandX _).then fun _ k11 ⟨e11,_⟩=>Zf.ret ⟨by omega,by omega⟩ (by omega)
theorem Zf.blockX (out:List UInt8):Zf (Fcx V) (c+320+1+rm out) k (Go.Proofs.YtgffljllfenhkaaGreatDoor.blockX V out) (fun _ k'=>k≤k'∧k'≤8 * V.s.size) (fun o=>c+306+1+rm o):=by
 unfold Go.Proofs.YtgffljllfenhkaaGreatDoor.blockX signsX fixX
 refine Zf.then (Q:=fun _ k'=>k'=k+2∧k'≤8 * V.s.size) (c1:=fun _=>c+388+1+rm out) ((Zf.numX (c:=c+320+rm out) 2).eq (by omega) fun _ _ h=>⟨h,by omega⟩) fun t k1 ⟨e1,b1⟩=>?_
 refine Zf.ite (fun _=>(Zf.storedX out).less fun _ k2 ⟨a2,b2⟩=>⟨⟨by omega,b2⟩,by omega⟩) (fun _=>Zf.ite (fun _=>?_) (fun _=>Zf.ite (fun _=>?_) (fun _=>Zf.no (by simp))))
 ·refine Zf.then (Q:=fun x k'=>k'=k1∧x=(fixL,fixD)) (c1:=fun _=>c+68+1+rm out) (Zf.then (Q:=fun _ k'=>k'=k1) (c1:=fun _=>c+100+1+rm out) ((Zf.chargeX (c:=c+100+1+rm out) 288).eq (by omega) fun _ _ h=>⟨h,Nat.le_refl _⟩) fun _ k2 e2=>Zf.then (Q:=fun _ k'=>k'=k1) (c1:=fun _=>c+68+1+rm out) ((Zf.chargeX (c:=c+68+1+rm out) 32).eq (by omega) fun _ _ h=>⟨by omega,Nat.le_refl _⟩) fun _ k3 e3=>Zf.ret ⟨by omega,rfl⟩ (Nat.le_refl _)) fun x k2 ⟨e2,hx⟩=>?_
  subst hx
  exact (Zf.blkX fixL fixD 238 Zf.signF 80000 out).less fun _ k3 ⟨a3,b3⟩=>⟨⟨by omega,b3⟩,by omega⟩
 ·refine Zf.then (Q:=fun _ k'=>k≤k'∧k'≤8 * V.s.size) (c1:=fun _=>c+388+1+rm out) ((Zf.ownX (c:=c+388+rm out)).eq (by omega) fun _ k2 ⟨a2,b2⟩=>⟨⟨by omega,b2⟩,by omega⟩) fun x k2 ⟨a2,b2⟩=>?_
  exact (Zf.blkX _ _ 34 (Zf.signX _) 80000 out).less fun _ k3 ⟨a3,b3⟩=>⟨⟨by omega,b3⟩,by omega⟩
theorem Zf.blocksX:∀ (f:Nat) (out:List UInt8) {k c:Nat},Zf (Fcx V) (c+300+1+rm out) k (Go.Proofs.YtgffljllfenhkaaGreatDoor.blocksX V f out) (fun _ _=>True) (fun _=>0)
 | 0,out,k,c=>by unfold Go.Proofs.YtgffljllfenhkaaGreatDoor.blocksX;exact Zf.no (by simp)
 | f+1,out,k,c=>by
  unfold Go.Proofs.YtgffljllfenhkaaGreatDoor.blocksX
  refine Zf.then (Q:=fun _ k'=>k'=k+1∧k'≤8 * V.s.size) (c1:=fun _=>c+14+320+1+rm out) ((Zf.numX (c:=c+300+rm out) 1).eq (by omega) fun _ _ h=>⟨h,by omega⟩) fun last k1 ⟨e1,b1⟩=>?_
  exact (Zf.blockX out).then fun o k2 ⟨a2,b2⟩=>Zf.ite (fun _=>Zf.ret trivial (Nat.zero_le _)) (fun _=>(Zf.blocksX f o (c:=c+20)).eq (by omega) fun _ _ h=>⟨h,Nat.le_refl _⟩)
theorem unpackU_cost {s:ByteArray} (hs:s.size≤9000) (n b:Nat) (hb:2522301≤b):(∀ y,unpackU s n b=.no y→(y.1≠12∧y.1≠13))∧∀ r b',unpackU s n b=.ok r b'→b≤b'+2522301:=by
 have hZ:Zf (Fcx ⟨s,n,0⟩) 2301 0 (unpackX ⟨s,n,0⟩) (fun _ _=>True) (fun _=>0):=by
  unfold unpackX
  refine Zf.then ((Zf.blocksX (V:=⟨s,n,0⟩) 80000 [] (c:=0)).eq (by unfold rm;rfl) fun _ _ h=>⟨h,Nat.le_refl _⟩) fun out k1 _=>?_
  intro t ht htb
  exact (Zf.demandX (V:=⟨s,n,0⟩) (k:=k1) (decide ((t.k+7) / 8=s.size))).then (f:=fun _=>Rdr.ret out) (R:=fun _ _=>True) (c2:=fun _=>0) (fun _ k2 _=>Zf.ret trivial (Nat.zero_le _)) t ht htb
 have hF:Fcx ⟨s,n,0⟩ 0≤2520000:=by show 35 * (8 * s.size - 0)≤2520000;omega
 obtain ⟨z1,z2⟩:=hZ ⟨b,0,0,0,0⟩ rfl (by show Fcx ⟨s,n,0⟩ 0+2301≤b;omega)
 unfold unpackU
 rcases hq:unpackX ⟨s,n,0⟩ ⟨b,0,0,0,0⟩ with ⟨out,t⟩ | y'
 ·refine ⟨fun y e=>(by cases e),fun r b' e=>?_⟩
  cases e
  have h3:Fcx ⟨s,n,0⟩ t.k+0+b≤t.b+Fcx ⟨s,n,0⟩ 0+2301:=(z2 _ _ hq).2
  omega
 ·exact ⟨fun y e=>by cases e;exact z1 _ hq,fun r b' e=>by cases e⟩
end Go.Proofs.YtgffljllfenhkaaGreatDoor
end
