import Derived.Test.YtgffljllfenhkaaGreatDoorGwbm
import Derived.Test.YtgffljllfenhkaaGreatDoorGwbr
namespace Go.Proofs.YtgffljllfenhkaaGreatDoor
section
def Nz {α:Type}(r:Res α):Prop:=∀ y,r=.no y->y.1≠0
theorem Nz.ok {α:Type}(a:α) (b:Nat):Nz (Res.ok a b):=fun y e=>by cases e
theorem Nz.mk {α:Type}{y:Why}(h:y.1≠0):Nz (Res.no y:Res α):=fun y' e=>by cases e;exact h
theorem Nz.of {α β:Type}{r:Res α}{y:Why}(h:Nz r) (e:r=.no y):Nz (Res.no y:Res β):=Nz.mk (h y e)
theorem putR_nz:∀ (ts:List ByteArray) (out:List UInt8) (b:Nat),Nz (putR ts out b)
 | [],out,b=>by unfold putR;exact Nz.ok _ _
 | t::ts,out,b=>by
  unfold putR;split
  ·exact Nz.mk (by decide)
  ·split
   ·exact Nz.mk (by decide)
   ·exact putR_nz ts _ _
theorem elemsW_nz (nt:Bool->Nat->Nat->ByteArray):∀ (l:List Val) (i:Nat) (out:List UInt8) (b:Nat),Nz (elemsW nt i l out b)
 | [],i,out,b=>by unfold elemsW;exact Nz.ok _ _
 | v::l,i,out,b=>by
  unfold elemsW
  have h0:Nz (if 0<i then putR [spB] out b else .ok out b):=by
   by_cases hc:0<i
   ·rw[if_pos hc];exact putR_nz _ _ _
   ·rw[if_neg hc];exact Nz.ok _ _
  rcases h1:(if 0<i then putR [spB] out b else .ok out b) with⟨o1,b1⟩|y
  ·show Nz (match putR ((leafT nt v).getD []) o1 b1 with
    | .no y=>.no y
    | .ok o2 b2=>elemsW nt (i+1) l o2 b2)
   rcases h2:putR ((leafT nt v).getD []) o1 b1 with⟨o2,b2⟩|y
   ·exact elemsW_nz nt l _ _ _
   ·exact (putR_nz _ _ _).of h2
  ·exact h0.of h1
theorem valW_nz (nt:Bool->Nat->Nat->ByteArray) (v:Val) (out:List UInt8) (b:Nat):Nz (valW nt v out b):=by
 cases v
 case arr l=>
  show Nz (arrW nt l out b);unfold arrW
  rcases h1:putR [⟨#[91]⟩] out b with⟨o1,b1⟩|y
  ·show Nz (match elemsW nt 0 l o1 b1 with
    | .no y=>.no y
    | .ok o2 b2=>putR [⟨#[93]⟩] o2 b2)
   rcases h2:elemsW nt 0 l o1 b1 with⟨o2,b2⟩|y
   ·exact putR_nz _ _ _
   ·exact (elemsW_nz nt l 0 _ _).of h2
  ·exact (putR_nz _ _ _).of h1
 all_goals exact putR_nz _ _ _
theorem fieldsW_nz (nt:Bool->Nat->Nat->ByteArray):∀ (l:List (ByteArray×Val)) (out:List UInt8) (b:Nat),Nz (fieldsW nt l out b)
 | [],out,b=>by unfold fieldsW;exact Nz.ok _ _
 | (k,v)::l,out,b=>by
  unfold fieldsW
  rcases h1:putR [⟨#[47]⟩,k] out b with⟨o1,b1⟩|y
  ·show Nz (match valW nt v o1 b1 with
    | .no y=>.no y
    | .ok o2 b2=>fieldsW nt l o2 b2)
   rcases h2:valW nt v o1 b1 with⟨o2,b2⟩|y
   ·exact fieldsW_nz nt l _ _
   ·exact (valW_nz nt v _ _).of h2
  ·exact (putR_nz _ _ _).of h1
theorem objW_nz (nt:Bool->Nat->Nat->ByteArray) (n:Nat) (ty:ByteArray) (l:List (ByteArray×Val)) (st:ByteArray) (out:List UInt8) (b:Nat):Nz (objW nt n ty l st out b):=by
 unfold objW
 rcases h1:putR [itoaB n,⟨#[32,60,60,47,84,121,112,101,47]⟩,ty] out b with⟨o1,b1⟩|y
 ·simp only
  rcases h2:fieldsW nt l o1 b1 with⟨o2,b2⟩|y
  ·simp only
   rcases h3:putR [⟨#[62,62]⟩] o2 b2 with⟨o3,b3⟩|y
   ·simp only
    have h0:Nz (if ty=textB then putR [⟨#[126]⟩,itoaB st.size,⟨#[58]⟩,st] o3 b3 else .ok o3 b3):=by
     by_cases hc:ty=textB
     ·rw[if_pos hc];exact putR_nz _ _ _
     ·rw[if_neg hc];exact Nz.ok _ _
    rcases h4:(if ty=textB then putR [⟨#[126]⟩,itoaB st.size,⟨#[58]⟩,st] o3 b3 else .ok o3 b3) with⟨o4,b4⟩|y
    ·exact putR_nz _ _ _
    ·exact h0.of h4
   ·exact (putR_nz _ _ _).of h3
  ·exact (fieldsW_nz nt l _ _).of h2
 ·exact (putR_nz _ _ _).of h1
theorem rowsW_nz:∀ (l:List Nat) (out:List UInt8) (b:Nat),Nz (rowsW l out b)
 | [],out,b=>by unfold rowsW;exact Nz.ok _ _
 | p::ps,out,b=>by
  unfold rowsW
  rcases h1:putR [itoaB p,⟨#[10]⟩] out b with⟨o1,b1⟩|y
  ·exact rowsW_nz ps _ _
  ·exact (putR_nz _ _ _).of h1
theorem tabW_nz (l:List Nat) (out:List UInt8) (b:Nat):Nz (tabW l out b):=by
 unfold tabW
 rcases h1:putR [⟨#[120,114,101,102,32]⟩,itoaB l.length,⟨#[10]⟩] out b with⟨o1,b1⟩|y
 ·simp only
  rcases h2:rowsW l o1 b1 with⟨o2,b2⟩|y
  ·exact putR_nz _ _ _
  ·exact (rowsW_nz l _ _).of h2
 ·exact (putR_nz _ _ _).of h1
theorem numR_nz (olds:List Nat) (old b:Nat):Nz (numR olds old b):=by
 unfold numR;split
 ·exact Nz.mk (by decide)
 ·rcases idx olds old with _|i <;> exact Nz.ok _ _
theorem renLeaf_nz (olds:List Nat) (v:Val) (b:Nat):Nz (renLeaf olds v b):=by
 cases v
 case ref n=>
  unfold renLeaf;simp only
  rcases h1:numR olds n b with⟨⟨m,o'⟩,b1⟩|y
  ·exact Nz.ok _ _
  ·exact (numR_nz _ _ _).of h1
 all_goals exact Nz.ok _ _
theorem renL_nz:∀ (l acc:List Val) (olds:List Nat) (b:Nat),Nz (renL l acc olds b)
 | [],acc,olds,b=>by unfold renL;exact Nz.ok _ _
 | v::l,acc,olds,b=>by
  unfold renL
  rcases h1:renLeaf olds v b with⟨⟨v',o'⟩,b1⟩|y
  ·exact renL_nz l _ _ _
  ·exact (renLeaf_nz _ _ _).of h1
theorem renV_nz (olds:List Nat) (v:Val) (b:Nat):Nz (renV olds v b):=by
 cases v
 case arr l=>
  unfold renV;simp only
  rcases h1:renL l [] olds b with⟨⟨l',o'⟩,b1⟩|y
  ·exact Nz.ok _ _
  ·exact (renL_nz _ _ _ _).of h1
 all_goals (unfold renV;exact renLeaf_nz olds _ b)
theorem right_nz (os:List Obj1) (r:Rule) (v:Val) (b:Nat):Nz (r.right os v b):=by
 cases r
 case kids=>show Nz (kidsR os v b);unfold kidsR;split;exact Nz.mk (by decide);exact Nz.ok _ _
 case next=>show Nz (refR os pageB v b);unfold refR;split;exact Nz.mk (by decide);exact Nz.ok _ _
 case text=>show Nz (refR os textB v b);unfold refR;split;exact Nz.mk (by decide);exact Nz.ok _ _
 all_goals exact Nz.ok _ _
theorem keepL_nz (os:List Obj1) (o:Obj1):∀ (rs:List Rule) (acc:List (ByteArray×Val)) (olds:List Nat) (b:Nat),Nz (keepL os o rs acc olds b)
 | [],acc,olds,b=>by unfold keepL;exact Nz.ok _ _
 | r::rs,acc,olds,b=>by
  unfold keepL
  rcases h1:r.right os (vget o.v r.key) b with⟨⟨v,c⟩,b1⟩|y
  ·cases c
   ·exact keepL_nz os o rs _ _ _
   ·simp only
    rcases h2:renV olds v b1 with⟨⟨v',o'⟩,b2⟩|y
    ·exact keepL_nz os o rs _ _ _
    ·exact (renV_nz _ _ _).of h2
  ·exact (right_nz _ _ _ _).of h1
theorem reachW_nz (nt:Bool->Nat->Nat->ByteArray) {os:List Obj1}(hos:os.length<=31) (hV:∀ o ∈ os,VO o.v/\o.stream.size<=9000):∀ (f i:Nat) (olds places:List Nat) (out:List UInt8) (b:Nat),OldsLt os.length olds->i<=olds.length->40<=f+i->Nz (reachW nt os f i olds places out b)
 | 0,i,olds,places,out,b,ho,hi,hf=>by have:=ho.len;omega
 | f+1,i,olds,places,out,b,ho,hi,hf=>by
  rw[reachW]
  rcases hn:olds[i]? with _|n
  ·exact Nz.ok _ _
  ·simp only;have hil:=(List.getElem?_eq_some_iff.1 hn).1;have hnl:=ho.2 n (List.mem_of_getElem? hn);rw[List.getElem?_eq_getElem hnl];simp only
   rcases hk:keepL os os[n] (rulesOf (tname os[n])) [] olds b with⟨⟨fs,olds'⟩,b1⟩|y
   ·simp only
    rcases hw:objW nt (i+1) (tname os[n]) fs os[n].stream out b1 with⟨o2,b2⟩|y
    ·simp only;have hok':OldsLt os.length olds':=(keepL_lt (by omega) (fun r=>vget_ok (hV _ (List.getElem_mem hnl)).1 r.key) _ [] hk ho (by simp)).1;obtain⟨ext,hext,_⟩:=keepL_x _ _ hk;exact reachW_nz nt hos hV f (i+1) olds' _ o2 b2 hok' (by rw[hext,List.length_append];omega) (by omega)
    ·exact (objW_nz _ _ _ _ _ _ _).of hw
   ·exact (keepL_nz _ _ _ _ _ _).of hk
theorem writeR_nz (nt:Bool->Nat->Nat->ByteArray) {os:List Obj1}(hos:os.length<=31) (hV:∀ o ∈ os,VO o.v/\o.stream.size<=9000) {root:Nat}(hr:root<os.length) (b:Nat):Nz (writeR nt os root b):=by
 unfold writeR
 rcases h1:putR [headB] [] b with⟨o1,b1⟩|y
 ·simp only
  have hone:OldsLt os.length [root]:=⟨by simp,fun n hn=>by
   have:n=root:=by simpa using hn
   omega⟩
  rcases h2:reachW nt os 40 0 [root] [] o1 b1 with⟨⟨pl,o2⟩,b2⟩|y
  ·exact tabW_nz _ _ _
  ·exact (reachW_nz nt hos hV 40 0 [root] [] o1 b1 hone (Nat.zero_le _) (by omega)).of h2
 ·exact (putR_nz _ _ _).of h1
theorem overI_nz (o:Obj1) (num:Nat):∀ (l:List Obj1) (b:Nat),Nz (overI o num l b)
 | [],b=>by unfold overI;exact Nz.ok _ _
 | u::l,b=>by
  unfold overI;split
  ·exact Nz.mk (by decide)
  ·split
   ·exact Nz.mk (Nat.succ_ne_zero 7)
   ·exact overI_nz o num l _
theorem overO_nz (os:List Obj1):∀ (m b:Nat),Nz (overO os m b)
 | 0,b=>by unfold overO;exact Nz.ok _ _
 | m+1,b=>by
  unfold overO
  rcases os[os.length-(m+1)]? with _|o
  ·exact Nz.ok _ _
  ·simp only
   rcases h1:overI o (os.length-(m+1)) (os.take (os.length-(m+1))) b with⟨_,b1⟩|y
   ·exact overO_nz os m _
   ·exact (overI_nz _ _ _ _).of h1
theorem docR_nz (f:ByteArray) (b:Nat):Nz (docR unpackU f b):=by
 unfold docR;split
 ·exact Nz.mk (by decide)
 ·split
  ·exact Nz.mk (by decide)
  ·rename_i hf _
   rcases hq:tabR f b with⟨⟨a,l,r⟩,b1⟩|y
   ·simp only;obtain⟨t1,t2,t3,_,t5,t6⟩:=tabR_inv hq
    rcases hq2:objsR f a l 1 b1 with⟨l2,b2⟩|y
    ·simp only;obtain⟨o1,o2⟩:=objsR_ok (by omega) t1 l hq2
     rcases hq3:overR ({}::l2) b2 with⟨_,b3⟩|y
     ·simp only
      rcases hq4:unpL unpackU ({}::l2) 0 b3 with⟨os',b4⟩|y
      ·simp only;split
       ·exact Nz.ok _ _
       ·exact Nz.mk (by decide)
      ·refine Nz.mk (unpL_nz _ (fun o ho=>?_) hq4)
       rcases List.mem_cons.1 ho with rfl|h3
       ·exact Nat.zero_le _
       ·exact (o2 o h3).2
     ·exact (overO_nz _ _ _).of hq3
    ·exact Nz.mk (objsR_nz (by omega) t1 l hq2)
   ·exact Nz.mk (tabR_nz hq)
theorem rinseR_nz (f:ByteArray) (st ou:Int):Nz (rinseR unpackU ntB f st ou):=by
 unfold rinseR;split
 ·rcases hq:docR unpackU f st.toNat with⟨⟨at_,pl,root,os⟩,b⟩|y
  ·simp only;obtain⟨d1,d2,_,d4⟩:=docR_ok unpackU_small hq
   rcases hq2:writeR ntB os root b with⟨t,b'⟩|y
   ·simp only;split
    ·exact Nz.mk (by decide)
    ·exact Nz.ok _ _
   ·exact (writeR_nz ntB d1 d4 d2 b).of hq2
  ·exact (docR_nz f _).of hq
 ·exact Nz.mk (by decide)
end
section
def Zf (F:Nat->Nat) (c k:Nat) {α:Type}(m:Rdr α) (Q:α->Nat->Prop) (c1:α->Nat):Prop:=∀ s,s.k=k->F k+c<=s.b->(∀ y,m s=.no y->(y.1≠12/\y.1≠13))/\∀ a s',m s=.ok a s'->Q a s'.k/\F s'.k+c1 a+s.b<=s'.b+F k+c
section
variable {F:Nat->Nat}{α β:Type}{m:Rdr α}{f:α->Rdr β}{k c:Nat}{Q Q':α->Nat->Prop}{R:β->Nat->Prop}{c1 c1':α->Nat}{c2:β->Nat}
theorem Zf.then (h:Zf F c k m Q c1) (g:∀ a k',Q a k'->Zf F (c1 a) k' (f a) R c2):Zf F c k (m.then f) R c2:=fun s hs hb=>by
 obtain⟨h1,h2⟩:=h s hs hb
 rcases hm:m s with⟨a,s1⟩|y
 ·rw[Rdr.then_ok hm];obtain⟨h3,h4⟩:=h2 a s1 hm;obtain⟨g1,g2⟩:=g a s1.k h3 s1 rfl (by omega);exact⟨g1,fun b s' e=>⟨(g2 b s' e).1,by have:=(g2 b s' e).2;omega⟩⟩
 ·rw[Rdr.then_no hm];exact⟨fun y' e=>by cases e;exact h1 y hm,fun a s' e=>by cases e⟩
theorem Zf.less (h:Zf F c k m Q c1) (g:∀ a k',Q a k'->Q' a k'/\c1' a<=c1 a):Zf F c k m Q' c1':=fun s hs hb=>by
 obtain⟨h1,h2⟩:=h s hs hb;exact⟨h1,fun a s' e=>⟨(g a _ (h2 a s' e).1).1,by have:=(h2 a s' e).2;have:=(g a _ (h2 a s' e).1).2;omega⟩⟩
theorem Zf.ret {a:α}(h:Q a k) (hc:c1 a<=c):Zf F c k (Rdr.ret a) Q c1:=fun s hs hb=>⟨fun y e=>(by cases e),fun a' s' e=>by cases e;rw[hs];exact⟨h,by omega⟩⟩
theorem Zf.ite {d:Prop} [Decidable d] {m1 m2:Rdr α}(h1:d->Zf F c k m1 Q c1) (h2:¬ d->Zf F c k m2 Q c1):Zf F c k (if d then m1 else m2) Q c1:=by
 by_cases hd:d
 ·rw[if_pos hd];exact h1 hd
 ·rw[if_neg hd];exact h2 hd
theorem Zf.no {y:Why}(h:(y.1≠12/\y.1≠13)):Zf F c k (fun _=>.no y:Rdr α) Q c1:=fun s hs hb=>⟨fun y' e=>by cases e;exact h,fun a s' e=>by cases e⟩
theorem Zf.same (h:∀ s,(∀ y,m s=.no y->(y.1≠12/\y.1≠13))/\∀ a s',m s=.ok a s'->s'.k=s.k/\s'.b=s.b):Zf F c k m (fun _ k'=>k'=k) (fun _=>c):=fun s hs hb=>
 ⟨(h s).1,fun a s' e=>by obtain⟨h1,h2⟩:=(h s).2 a s' e;rw[h1,hs,h2];exact⟨rfl,by show F k+c+s.b<=s.b+F k+c;omega⟩⟩
end
variable {E:Env}{k c:Nat}
def Fcr (E:Env) (k:Nat):Nat:=40*(E.e-k)
theorem why_12 (p:Nat):((E.why p).1≠12/\(E.why p).1≠13):=by unfold Env.why;split <;> simp
theorem Zf.peek (hk:k<=E.e):Zf (Fcr E) (c+1) k (peekM E) (fun x k'=>k'=k/\k<E.e/\x=bt E.f k) (fun _=>c):=fun s hs hb=>by
 unfold peekM;rw[if_neg (show ¬ s.b<1 by omega)]
 by_cases h2:s.k=E.e
 ·rw[if_pos h2];exact⟨fun y e=>by cases e;exact why_12 _,fun a s' e=>by cases e⟩
 ·rw[if_neg h2];exact⟨fun y e=>(by cases e),fun a s' e=>by cases e;exact⟨⟨hs,by omega,by rw[hs]⟩,by show Fcr E s.k+c+s.b<=s.b-1+Fcr E k+(c+1);rw[hs];omega⟩⟩
theorem Zf.need (d:Bool):Zf (Fcr E) c k (needM E d) (fun _ k'=>k'=k/\d=true) (fun _=>c):=fun s hs hb=>by
 unfold needM;cases d
 ·exact⟨fun y e=>by cases e;exact why_12 _,fun a s' e=>by cases e⟩
 ·exact⟨fun y e=>(by cases e),fun a s' e=>by cases e;rw[hs];exact⟨⟨rfl,rfl⟩,by show Fcr E k+c+s.b<=s.b+Fcr E k+c;omega⟩⟩
theorem Zf.adv (hk:k<E.e):Zf (Fcr E) c k advM (fun _ k'=>k'=k+1) (fun _=>c+40):=fun s hs hb=>
 ⟨fun y e=>(by cases e),fun a s' e=>by cases e;exact⟨congrArg (·+1) hs,by show Fcr E (s.k+1)+(c+40)+s.b<=s.b+Fcr E k+c;unfold Fcr;omega⟩⟩
theorem Zf.at:Zf (Fcr E) c k atM (fun _ k'=>k'=k) (fun _=>c):=Zf.same fun s=>⟨fun y e=>(by cases e),fun a s' e=>by cases e;exact⟨rfl,rfl⟩⟩
theorem Zf.enter:Zf (Fcr E) c k enterM (fun _ k'=>k'=k) (fun _=>c):=Zf.same fun s=>⟨fun y e=>(by cases e),fun a s' e=>by cases e;exact⟨rfl,rfl⟩⟩
theorem Zf.leave:Zf (Fcr E) c k leaveM (fun _ k'=>k'=k) (fun _=>c):=Zf.same fun s=>⟨fun y e=>(by cases e),fun a s' e=>by cases e;exact⟨rfl,rfl⟩⟩
theorem Zf.twice (d:Bool) (p:Nat):Zf (Fcr E) c k (twiceM d p) (fun _ k'=>k'=k) (fun _=>c):=Zf.same fun s=>⟨fun y e=>(by cases e),fun a s' e=>by cases e;exact⟨rfl,rfl⟩⟩
theorem Zf.word:∀ (x:Nat) (l:List Nat) {k c:Nat},k<=E.e->Zf (Fcr E) (c+1) k (wordM E (x::l)) (fun _ k'=>k<k'/\k'<=E.e) (fun _=>c+40)
 | x,[],k,c,hk=>by
  unfold wordM;exact (Zf.peek hk).then fun _ k1 ⟨e1,h1,_⟩=>(Zf.need _).then fun _ k2 ⟨e2,_⟩=>(Zf.adv (by omega)).then fun _ k3 e3=>by unfold wordM;exact Zf.ret ⟨by omega,by omega⟩ (Nat.le_refl _)
 | x,y::l,k,c,hk=>by
  rw[wordM];exact (Zf.peek hk).then fun _ k1 ⟨e1,h1,_⟩=>(Zf.need _).then fun _ k2 ⟨e2,_⟩=>(Zf.adv (by omega)).then fun _ k3 e3=>(Zf.word y l (c:=c+39) (by omega)).less fun _ k4 ⟨a4,b4⟩=>⟨⟨by omega,b4⟩,by omega⟩
theorem Zf.wordA:∀ (l:List Nat) {k c:Nat},k<=E.e->Zf (Fcr E) (c+1) k (wordM E l) (fun _ k'=>k<=k'/\k'<=E.e) (fun _=>c+1)
 | [],k,c,hk=>by unfold wordM;exact Zf.ret ⟨Nat.le_refl _,hk⟩ (Nat.le_refl _)
 | x::l,k,c,hk=>(Zf.word x l hk).less fun _ k1 ⟨a1,b1⟩=>⟨⟨by omega,b1⟩,by omega⟩
theorem Zf.someL (p:Nat->Bool):∀ (n:Nat) {k c:Nat},k<=E.e->Zf (Fcr E) (c+1) k (YtgffljllfenhkaaGreatDoor.someL E p n) (fun _ k'=>k<=k'/\k'<=E.e) (fun _=>c)
 | 0,k,c,hk=>by unfold YtgffljllfenhkaaGreatDoor.someL;exact Zf.ret ⟨Nat.le_refl _,hk⟩ (by omega)
 | n+1,k,c,hk=>by
  unfold YtgffljllfenhkaaGreatDoor.someL;exact (Zf.peek hk).then fun x k1 ⟨e1,h1,_⟩=>Zf.ite (fun _=>(Zf.adv (by omega)).then fun _ k2 e2=>(Zf.someL p n (c:=c+39) (by omega)).less fun _ k3 ⟨a3,b3⟩=>⟨⟨by omega,b3⟩,by omega⟩) (fun _=>Zf.ret ⟨by omega,by omega⟩ (Nat.le_refl _))
theorem Zf.some (p:Nat->Bool) (n:Nat) (hk:k<=E.e):Zf (Fcr E) (c+2) k (someM E p (n+1)) (fun _ k'=>k<k'/\k'<=E.e) (fun _=>c+39):=by
 unfold someM;refine Zf.at.then fun _ k1 e1=>(Zf.peek (c:=c+1) (by omega)).then fun x k2 ⟨e2,h2,x2⟩=>(Zf.need _).then fun _ k3 ⟨e3,p3⟩=>?_
 refine Zf.then (Q:=fun _ k'=>k<k'/\k'<=E.e) (c1:=fun _=>c+39) ?_ (fun _ k4 ⟨a4,b4⟩=>Zf.at.then fun _ k5 e5=>Zf.ret ⟨by omega,by omega⟩ (Nat.le_refl _));unfold YtgffljllfenhkaaGreatDoor.someL;refine (Zf.peek (by omega)).then fun x' k4 ⟨e4,h4,x4⟩=>?_
 have hp:p x'=true:=by rw[x4,show k3=k1 by omega,← x2];exact p3
 rw[if_pos hp];exact (Zf.adv (by omega)).then fun _ k5 e5=>(Zf.someL p n (c:=c+39) (by omega)).less fun _ k6 ⟨a6,b6⟩=>⟨⟨by omega,b6⟩,Nat.le_refl _⟩
theorem Zf.whole (n:Nat) (hk:k<=E.e):Zf (Fcr E) (c+2) k (wholeM E (n+1)) (fun _ k'=>k<k'/\k'<=E.e) (fun _=>c+39):=by
 unfold wholeM;exact (Zf.some _ n hk).then fun _ k1 h1=>Zf.ret h1 (Nat.le_refl _)
theorem Zf.count (hk:k<=E.e):Zf (Fcr E) (c+3) k (countM E) (fun _ k'=>k<k'/\k'<=E.e) (fun _=>c+39):=by
 unfold countM;exact (Zf.peek (c:=c+2) hk).then fun x k1 ⟨e1,h1,_⟩=>Zf.ite (fun _=>(Zf.whole 0 (by omega)).less fun _ k2 ⟨a,b⟩=>⟨⟨by omega,b⟩,Nat.le_refl _⟩) (fun _=>(Zf.whole 3 (by omega)).less fun _ k2 ⟨a,b⟩=>⟨⟨by omega,b⟩,Nat.le_refl _⟩)
theorem Zf.bytes (n:Nat) (hk:k<=E.e):Zf (Fcr E) c k (bytesM E n) (fun _ k'=>k<=k'/\k'<=E.e) (fun _=>c):=fun s hs hb=>by
 unfold bytesM
 by_cases h:E.e-s.k<n
 ·rw[if_pos h];exact⟨fun y e=>by cases e;exact why_12 _,fun a s' e=>by cases e⟩
 ·rw[if_neg h];exact⟨fun y e=>(by cases e),fun a s' e=>by cases e;exact⟨⟨by show k<=s.k+n;omega,by show s.k+n<=E.e;omega⟩,by show Fcr E (s.k+n)+c+s.b<=s.b+Fcr E k+c;unfold Fcr;omega⟩⟩
theorem Zf.line (w:List Nat) (a b:Nat) (hk:k<=E.e):Zf (Fcr E) (c+4) k (lineM E w a b) (fun _ k'=>k<=k'/\k'<=E.e) (fun _=>c+40):=by
 unfold lineM;exact (Zf.wordA w (c:=c+3) hk).then fun _ k1 ⟨a1,b1⟩=>(Zf.count (c:=c+1) b1).then fun n k2 ⟨a2,b2⟩=>(Zf.need _).then fun _ k3 ⟨e3,_⟩=>(Zf.word 10 [] (c:=c+39) (by omega)).then fun _ k4 ⟨a4,b4⟩=>Zf.ret ⟨by omega,b4⟩ (by omega)
theorem Zf.places:∀ (n:Nat) {k c:Nat},k<=E.e->Zf (Fcr E) (c+4) k (placesM E n) (fun _ k'=>k<=k'/\k'<=E.e) (fun _=>c+4)
 | 0,k,c,hk=>by unfold placesM;exact Zf.ret ⟨Nat.le_refl _,hk⟩ (Nat.le_refl _)
 | n+1,k,c,hk=>by unfold placesM;exact (Zf.line _ _ _ hk).then fun p k1 ⟨a1,b1⟩=>(Zf.places n (c:=c+36) b1).then fun l k2 ⟨a2,b2⟩=>Zf.ret ⟨by omega,b2⟩ (by omega)
theorem Zf.table (a:Nat) (hk:k<=E.e):Zf (Fcr E) 4 k (tableM E a) (fun _ _=>True) (fun _=>0):=by
 unfold tableM;refine (Zf.line (c:=0) _ _ _ hk).then fun n k1 ⟨_,b1⟩=>(Zf.places n (c:=36) b1).then fun l k2 ⟨_,b2⟩=>(Zf.line (c:=36) _ _ _ b2).then fun r k3 ⟨_,b3⟩=>(Zf.line (c:=72) _ _ _ b3).then fun _ k4 ⟨_,b4⟩=>(Zf.word _ _ (c:=111) b4).then fun _ k5 ⟨_,b5⟩=>?_
 intro s hs hb;exact (Zf.need (E:=E) (k:=k5) (s.k==E.e)).then (f:=fun _=>Rdr.ret (l,r)) (R:=fun _ _=>True) (c2:=fun _=>0) (fun _ k6 e6=>Zf.ret trivial (Nat.zero_le _)) s hs hb
theorem Zf.blanks:∀ (n:Nat) {k c:Nat},k<=E.e->Zf (Fcr E) (c+1) k (blanksM E n) (fun _ k'=>k<=k'/\k'<=E.e) (fun _=>c)
 | 0,k,c,hk=>by unfold blanksM;exact Zf.no (by decide)
 | n+1,k,c,hk=>by
  unfold blanksM;exact (Zf.peek hk).then fun x k1 ⟨e1,h1,_⟩=>Zf.ite (fun _=>(Zf.adv (by omega)).then fun _ k2 e2=>(Zf.blanks n (c:=c+39) (by omega)).less fun _ k3 ⟨a3,b3⟩=>⟨⟨by omega,b3⟩,by omega⟩) (fun _=>Zf.ret ⟨by omega,by omega⟩ (Nat.le_refl _))
theorem Zf.next (hk:k<=E.e):Zf (Fcr E) (c+2) k (nextM E) (fun _ k'=>k<=k'/\k'<=E.e) (fun _=>c):=by
 unfold nextM;exact (Zf.blanks 9001 (c:=c+1) hk).then fun _ k1 ⟨a1,b1⟩=>(Zf.peek b1).less fun _ k2 ⟨e2,h2,_⟩=>⟨⟨by omega,by omega⟩,Nat.le_refl _⟩
theorem Zf.textL:∀ (n:Nat) {k c:Nat},k<=E.e->Zf (Fcr E) (c+4) k (YtgffljllfenhkaaGreatDoor.textL E n) (fun _ k'=>k<=k'/\k'<=E.e) (fun _=>c)
 | 0,k,c,hk=>by unfold YtgffljllfenhkaaGreatDoor.textL;exact Zf.no (by decide)
 | n+1,k,c,hk=>by
  unfold YtgffljllfenhkaaGreatDoor.textL;refine (Zf.peek (c:=c+3) hk).then fun x k1 ⟨e1,h1,_⟩=>Zf.ite (fun _=>Zf.ret ⟨by omega,by omega⟩ (by omega)) (fun _=>?_)
  refine (Zf.peek (c:=c+2) (by omega)).then fun x k2 ⟨e2,h2,_⟩=>(Zf.need _).then fun _ k3 ⟨e3,_⟩=>(Zf.peek (c:=c+1) (by omega)).then fun x k4 ⟨e4,h4,_⟩=>?_
  refine Zf.then (Q:=fun _ k'=>k<=k'/\k'<E.e) (c1:=fun _=>c+1) (Zf.ite (fun _=>(Zf.adv (by omega)).then fun _ k5 e5=>(Zf.peek (c:=c+40) (by omega)).then fun x k6 ⟨e6,h6,_⟩=>(Zf.need _).less fun _ k7 ⟨e7,_⟩=>⟨⟨by omega,by omega⟩,by omega⟩) (fun _=>Zf.ret ⟨by omega,by omega⟩ (Nat.le_refl _))) fun _ k5 ⟨a5,b5⟩=>(Zf.adv b5).then fun _ k6 e6=>?_
  exact (Zf.textL n (c:=c+37) (by omega)).less fun _ k7 ⟨a7,b7⟩=>⟨⟨by omega,b7⟩,by omega⟩
theorem Zf.text (hk:k<=E.e):Zf (Fcr E) (c+5) k (textM E) (fun _ k'=>k<k'/\k'<=E.e) (fun _=>c+40):=by
 unfold textM;exact (Zf.word _ _ (c:=c+4) hk).then fun _ k1 ⟨a1,b1⟩=>Zf.at.then fun _ k2 e2=>(Zf.textL 9001 (c:=c+40) (by omega)).then fun _ k3 ⟨a3,b3⟩=>(Zf.word _ _ (c:=c+39) b3).then fun _ k4 ⟨a4,b4⟩=>Zf.at.then fun _ k5 e5=>Zf.ret ⟨by omega,by omega⟩ (by omega)
theorem Zf.name (hk:k<=E.e):Zf (Fcr E) (c+1) k (nameM E) (fun _ k'=>k<k'/\k'<=E.e) (fun _=>c+40):=by
 unfold nameM;exact (Zf.word _ _ hk).then fun _ k1 ⟨a1,b1⟩=>(Zf.some _ 7 (c:=c+38) b1).less fun _ k2 ⟨a2,b2⟩=>⟨⟨by omega,b2⟩,by omega⟩
theorem Zf.num (hk:k<=E.e):Zf (Fcr E) (c+4) k (numM E) (fun _ k'=>k<k'/\k'<=E.e) (fun _=>c+39):=by
 unfold numM;refine (Zf.peek (c:=c+3) hk).then fun x k1 ⟨e1,h1,_⟩=>Zf.then (Q:=fun _ k'=>k<=k'/\k'<=E.e) (c1:=fun _=>c+3) (Zf.ite (fun _=>(Zf.adv (by omega)).less fun _ k2 e2=>⟨⟨by omega,by omega⟩,by omega⟩) (fun _=>Zf.ret ⟨by omega,by omega⟩ (Nat.le_refl _))) fun _ k2 ⟨a2,b2⟩=>?_
 exact (Zf.some _ 5 (c:=c+1) b2).then fun ti k3 ⟨a3,b3⟩=>(Zf.peek (c:=c+39) b3).then fun y k4 ⟨e4,h4,_⟩=>Zf.ite (fun _=>(Zf.adv (by omega)).then fun _ k5 e5=>(Zf.some _ 2 (c:=c+77) (by omega)).then fun _ k6 ⟨a6,b6⟩=>Zf.ret ⟨by omega,b6⟩ (by omega)) (fun _=>Zf.ret ⟨by omega,by omega⟩ (Nat.le_refl _))
theorem Zf.value:∀ (n:Nat),(∀ {k c:Nat},k<=E.e->Zf (Fcr E) (c+10) k (valueM E n) (fun _ k'=>k<=k'/\k'<=E.e) (fun _=>c+20)) /\
  (∀ (l:List Val) {k c:Nat},k<=E.e->Zf (Fcr E) (c+12) k (elemsM E n l) (fun _ k'=>k<=k'/\k'<=E.e) (fun _=>c+5))/\(∀ (l:List (ByteArray×Val)) {k c:Nat},k<=E.e->Zf (Fcr E) (c+12) k (keysM E n l) (fun _ k'=>k<=k'/\k'<=E.e) (fun _=>c+5))
 | 0=>⟨fun _=>by rw[valueM];exact Zf.no (by decide),fun _ _ _ _=>by rw[elemsM];exact Zf.no (by decide),fun _ _ _ _=>by rw[keysM];exact Zf.no (by decide)⟩
 | n+1=>by
  obtain⟨hv,hE,hK⟩:=Zf.value n;refine⟨fun {k c} hk=>?_,fun l k c hk=>?_,fun l k c hk=>?_⟩
  ·rw[valueM];refine (Zf.next (c:=c+8) hk).then fun x k1 ⟨a1,b1⟩=>?_
   refine Zf.ite (fun _=>(Zf.word _ _ (c:=c+7) b1).then fun _ k2 ⟨a2,b2⟩=>Zf.ret ⟨by omega,b2⟩ (by omega)) (fun _=>?_);refine Zf.ite (fun _=>(Zf.word _ _ (c:=c+7) b1).then fun _ k2 ⟨a2,b2⟩=>Zf.ret ⟨by omega,b2⟩ (by omega)) (fun _=>?_);refine Zf.ite (fun _=>(Zf.word _ _ (c:=c+7) b1).then fun _ k2 ⟨a2,b2⟩=>Zf.ret ⟨by omega,b2⟩ (by omega)) (fun _=>?_);refine Zf.ite (fun _=>(Zf.text (c:=c+3) b1).then fun _ k2 ⟨a2,b2⟩=>Zf.ret ⟨by omega,b2⟩ (by omega)) (fun _=>?_);refine Zf.ite (fun _=>(Zf.name (c:=c+7) b1).then fun _ k2 ⟨a2,b2⟩=>Zf.ret ⟨by omega,b2⟩ (by omega)) (fun _=>?_);refine Zf.ite (fun _=>(Zf.word _ _ (c:=c+7) b1).then fun _ k2 ⟨a2,b2⟩=>(Zf.whole 3 (c:=c+45) b2).then fun _ k3 ⟨a3,b3⟩=>Zf.ret ⟨by omega,b3⟩ (by omega)) (fun _=>?_);refine Zf.ite (fun _=>Zf.enter.then fun _ k2 e2=>(Zf.word _ _ (c:=c+7) (by omega)).then fun _ k3 ⟨a3,b3⟩=>(hE [] (c:=c+35) b3).then fun l k4 ⟨a4,b4⟩=>(Zf.word _ _ (c:=c+39) b4).then fun _ k5 ⟨a5,b5⟩=>Zf.leave.then fun _ k6 e6=>Zf.ret ⟨by omega,by omega⟩ (by omega)) (fun _=>?_);refine Zf.ite (fun _=>Zf.enter.then fun _ k2 e2=>(Zf.word _ _ (c:=c+7) (by omega)).then fun _ k3 ⟨a3,b3⟩=>(hK [] (c:=c+35) b3).then fun l k4 ⟨a4,b4⟩=>(Zf.word _ _ (c:=c+39) b4).then fun _ k5 ⟨a5,b5⟩=>Zf.leave.then fun _ k6 e6=>Zf.ret ⟨by omega,by omega⟩ (by omega)) (fun _=>?_);exact (Zf.num (c:=c+4) b1).then fun _ k2 ⟨a2,b2⟩=>Zf.ret ⟨by omega,b2⟩ (by omega)
  ·rw[elemsM];exact (Zf.next (c:=c+10) hk).then fun x k1 ⟨a1,b1⟩=>Zf.ite (fun _=>Zf.ret ⟨a1,b1⟩ (by omega)) (fun _=>(hv (c:=c) b1).then fun v k2 ⟨a2,b2⟩=>(hE _ (c:=c+8) b2).less fun _ k3 ⟨a3,b3⟩=>⟨⟨by omega,b3⟩,by omega⟩)
  ·rw[keysM];exact (Zf.next (c:=c+10) hk).then fun x k1 ⟨a1,b1⟩=>Zf.ite (fun _=>Zf.ret ⟨a1,b1⟩ (by omega)) (fun _=>Zf.at.then fun p k2 e2=>(Zf.name (c:=c+9) (by omega)).then fun a k3 ⟨a3,b3⟩=>(Zf.twice _ _).then fun _ k4 e4=>(hv (c:=c+39) (by omega)).then fun v k5 ⟨a5,b5⟩=>(hK _ (c:=c+47) b5).less fun _ k6 ⟨a6,b6⟩=>⟨⟨by omega,b6⟩,by omega⟩)
theorem Zf.stream (hk:k<=E.e):Zf (Fcr E) (c+10) k (streamM E) (fun _ k'=>k<=k'/\k'<=E.e) (fun _=>c):=by
 unfold streamM;exact (Zf.word _ _ (c:=c+9) hk).then fun _ k1 ⟨a1,b1⟩=>(Zf.next (c:=c+47) b1).then fun _ k2 ⟨a2,b2⟩=>(Zf.count (c:=c+44) b2).then fun n k3 ⟨a3,b3⟩=>(Zf.word _ _ (c:=c+82) b3).then fun _ k4 ⟨a4,b4⟩=>(Zf.bytes n b4).less fun _ k5 ⟨a5,b5⟩=>⟨⟨by omega,b5⟩,by omega⟩
theorem Zf.object (num:Nat) (hk:k<=E.e):Zf (Fcr E) 20 k (objectM E num) (fun _ _=>True) (fun _=>0):=by
 unfold objectM;refine Zf.at.then fun p k1 e1=>(Zf.wordA _ (c:=19) (by omega)).then fun _ k2 ⟨_,b2⟩=>(Zf.peek (c:=19) b2).then fun x k3 ⟨e3,_,_⟩=>(Zf.need _).then fun _ k4 ⟨e4,_⟩=>((Zf.value 18010).1 (c:=9) (by omega)).then fun v k5 ⟨_,b5⟩=>?_
 refine (Zf.next (c:=27) b5).then fun y k6 ⟨_,b6⟩=>Zf.then (Q:=fun _ k'=>k'<=E.e) (c1:=fun _=>17) (Zf.ite (fun _=>(Zf.need _).then fun _ k7 ⟨e7,_⟩=>(Zf.stream (c:=17) (by omega)).then fun t k8 ⟨_,b8⟩=>Zf.ret b8 (Nat.le_refl _)) (fun _=>Zf.ret b6 (by omega))) fun hs k7 b7=>?_
 exact (Zf.next (c:=15) b7).then fun _ k8 ⟨_,b8⟩=>(Zf.word _ _ (c:=14) b8).then fun _ k9 ⟨_,b9⟩=>Zf.at.then fun q k10 e10=>Zf.ret trivial (Nat.zero_le _)
end
end Go.Proofs.YtgffljllfenhkaaGreatDoor
