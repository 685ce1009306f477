import Derived.Test.YtgffljllfenhkaaGreatDoorGwbs
namespace Go.Proofs.YtgffljllfenhkaaGreatDoor
section
variable {V:Ux}{k c:Nat}
def Fcx (V:Ux) (k:Nat):Nat:=35*(8*V.s.size-k)
theorem Zf.numX (n:Nat):Zf (Fcx V) (c+1) k (YtgffljllfenhkaaGreatDoor.numX V n) (fun _ k'=>k'=k+n/\k'<=8*V.s.size) (fun _=>c+1+34*n):=fun s hs hb=>by
 unfold YtgffljllfenhkaaGreatDoor.numX
 by_cases h:n<=s.b/\s.k+n<=8*V.s.size
 ·rw[if_pos h];refine⟨fun y e=>(by cases e),fun a s' e=>?_⟩;cases e;rw[St.bits_k,St.bits_b];refine⟨⟨by omega,h.2⟩,?_⟩;show Fcx V (s.k+n)+(c+1+34*n)+s.b<=s.b-n+Fcx V k+(c+1);unfold Fcx at hb ⊢;omega
 ·rw[if_neg h];unfold Fcx at hb;rw[if_neg (by omega)];exact⟨fun y e=>by cases e;simp,fun a s' e=>by cases e⟩
theorem Zf.bitX:Zf (Fcx V) (c+1) k (YtgffljllfenhkaaGreatDoor.bitX V) (fun _ k'=>k'=k+1/\k'<=8*V.s.size) (fun _=>c+35):=fun s hs hb=>by
 unfold YtgffljllfenhkaaGreatDoor.bitX;rw[if_neg (show ¬ s.b<1 by omega)]
 by_cases h2:8*V.s.size<=s.k
 ·rw[if_pos h2];exact⟨fun y e=>by cases e;simp,fun a s' e=>by cases e⟩
 ·rw[if_neg h2];refine⟨fun y e=>(by cases e),fun a s' e=>?_⟩;cases e;rw[St.bits_k,St.bits_b];refine⟨⟨by omega,by omega⟩,?_⟩;show Fcx V (s.k+1)+(c+35)+s.b<=s.b-1+Fcx V k+(c+1);unfold Fcx at hb ⊢;omega
theorem Zf.decX (l:List Nat):∀ (r above:Nat) {k c:Nat},Zf (Fcx V) (c+1) k (YtgffljllfenhkaaGreatDoor.decX V l r above) (fun _ k'=>k<k'/\k'<=8*V.s.size) (fun _=>c+35)
 | 0,above,k,c=>by unfold YtgffljllfenhkaaGreatDoor.decX;exact Zf.no (by simp)
 | r+1,above,k,c=>by
  unfold YtgffljllfenhkaaGreatDoor.decX;exact Zf.bitX.then fun x k1 ⟨e1,b1⟩=>Zf.ite (fun _=>Zf.ret ⟨by omega,b1⟩ (Nat.le_refl _)) (fun _=>(Zf.decX l r _ (c:=c+34)).less fun _ k2 ⟨a2,b2⟩=>⟨⟨by omega,b2⟩,by omega⟩)
theorem Zf.signX (l:List Nat):Zf (Fcx V) (c+1) k (YtgffljllfenhkaaGreatDoor.signX V l) (fun _ k'=>k<k'/\k'<=8*V.s.size) (fun _=>c+1+34):=(Zf.decX l 15 0).less fun _ _ h=>⟨h,by omega⟩
theorem Zf.skip (l:List Nat) (r above g:Nat) (h0:cnt (15-r) l=0) (h:∀ {above k c:Nat},Zf (Fcx V) (c+1) k (YtgffljllfenhkaaGreatDoor.decX V l r above) (fun _ k'=>k<k'/\k'<=8*V.s.size) (fun _=>c+1+g)):Zf (Fcx V) (c+1) k (YtgffljllfenhkaaGreatDoor.decX V l (r+1) above) (fun _ k'=>k<k'/\k'<=8*V.s.size) (fun _=>c+1+(g+34)):=by
 unfold YtgffljllfenhkaaGreatDoor.decX;rw[h0];exact Zf.bitX.then fun x k1 ⟨e1,b1⟩=>Zf.ite (fun hx=>absurd hx (Nat.not_lt_zero _)) (fun _=>(h (c:=c+34)).less fun _ k2 ⟨a2,b2⟩=>⟨⟨by omega,b2⟩,by omega⟩)
theorem Zf.signF:Zf (Fcx V) (c+1) k (YtgffljllfenhkaaGreatDoor.signX V fixL) (fun _ k'=>k<k'/\k'<=8*V.s.size) (fun _=>c+1+238):=by
 have h7:∀ {above k c:Nat},Zf (Fcx V) (c+1) k (YtgffljllfenhkaaGreatDoor.decX V fixL 9 above) (fun _ k'=>k<k'/\k'<=8*V.s.size) (fun _=>c+1+34):=fun {above k c}=>(Zf.decX fixL 9 above).less fun _ _ h=>⟨h,by omega⟩
 have h6:=fun {above k c:Nat}=>Zf.skip (V:=V) (k:=k) (c:=c) fixL 9 above 34 (by decide +kernel) h7
 have h5:=fun {above k c:Nat}=>Zf.skip (V:=V) (k:=k) (c:=c) fixL 10 above 68 (by decide +kernel) h6
 have h4:=fun {above k c:Nat}=>Zf.skip (V:=V) (k:=k) (c:=c) fixL 11 above 102 (by decide +kernel) h5
 have h3:=fun {above k c:Nat}=>Zf.skip (V:=V) (k:=k) (c:=c) fixL 12 above 136 (by decide +kernel) h4
 have h2:=fun {above k c:Nat}=>Zf.skip (V:=V) (k:=k) (c:=c) fixL 13 above 170 (by decide +kernel) h3
 exact Zf.skip fixL 14 0 204 (by decide +kernel) h2
theorem Zf.chargeX (n:Nat):Zf (Fcx V) (c+n) k (YtgffljllfenhkaaGreatDoor.chargeX n) (fun _ k'=>k'=k) (fun _=>c):=fun s hs hb=>by
 unfold YtgffljllfenhkaaGreatDoor.chargeX chargeM;rw[if_neg (show ¬ s.b<n by omega)];exact⟨fun y e=>(by cases e),fun a s' e=>by cases e;exact⟨hs,by show Fcx V s.k+c+s.b<=s.b-n+Fcx V k+(c+n);rw[hs];omega⟩⟩
theorem Zf.demandX (d:Bool):Zf (Fcx V) c k (YtgffljllfenhkaaGreatDoor.demandX V d) (fun _ k'=>k'=k/\d=true) (fun _=>c):=fun s hs hb=>by
 unfold YtgffljllfenhkaaGreatDoor.demandX;cases d
 ·exact⟨fun y e=>by cases e;simp,fun a s' e=>by cases e⟩
 ·exact⟨fun y e=>(by cases e),fun a s' e=>by cases e;rw[hs];exact⟨⟨rfl,rfl⟩,by show Fcx V k+c+s.b<=s.b+Fcx V k+c;omega⟩⟩
def rm (out:List UInt8):Nat:=2000-out.length
theorem Zf.putX (out:List UInt8) (x:UInt8):Zf (Fcx V) (c+1+rm out) k (YtgffljllfenhkaaGreatDoor.putX V out x) (fun _ k'=>k'=k) (fun o=>c+1+rm o):=fun s hs hb=>by
 unfold YtgffljllfenhkaaGreatDoor.putX;rw[if_neg (show ¬ s.b<1 by omega)]
 by_cases h2:out.length<2000
 ·rw[if_pos h2];refine⟨fun y e=>(by cases e),fun a s' e=>?_⟩;cases e;refine⟨hs,?_⟩;show Fcx V s.k+(c+1+rm (out++[x]))+s.b<=s.b-1+Fcx V k+(c+1+rm out);have:rm (out++[x])+1=rm out:=by unfold rm;rw[List.length_append,List.length_singleton];omega
  rw[hs];omega
 ·rw[if_neg h2];exact⟨fun y e=>by cases e;simp,fun a s' e=>by cases e⟩
theorem Zf.copyNX (back:Nat):∀ (n:Nat) (out:List UInt8) {k c:Nat},Zf (Fcx V) (c+1+rm out) k (YtgffljllfenhkaaGreatDoor.copyNX V back n out) (fun _ k'=>k'=k) (fun o=>c+1+rm o)
 | 0,out,k,c=>by unfold YtgffljllfenhkaaGreatDoor.copyNX;exact Zf.ret rfl (Nat.le_refl _)
 | n+1,out,k,c=>by unfold YtgffljllfenhkaaGreatDoor.copyNX;exact (Zf.putX _ _).then fun o k1 e1=>(Zf.copyNX back n o).less fun _ k2 e2=>⟨by omega,Nat.le_refl _⟩
theorem Zf.more {α:Type}{F:Nat->Nat}{m:Rdr α}{Q:α->Nat->Prop}{c1:α->Nat}(h:Zf F c k m Q c1) (d:Nat):Zf F (c+d) k m Q (fun a=>c1 a+d):=fun s hs hb=>by
 obtain⟨h1,h2⟩:=h s hs (by omega);exact⟨h1,fun a s' e=>⟨(h2 a s' e).1,by have:=(h2 a s' e).2;show F s'.k+(c1 a+d)+s.b<=s'.b+F k+(c+d);omega⟩⟩
theorem Zf.eq {α:Type}{F:Nat->Nat}{m:Rdr α}{Q Q':α->Nat->Prop}{c1 c1':α->Nat}{c':Nat}(h:Zf F c k m Q c1) (e:c'=c) (g:∀ a k',Q a k'->Q' a k'/\c1' a<=c1 a):Zf F c' k m Q' c1':=by subst e;exact h.less g
theorem Zf.storeNX:∀ (n:Nat) (out:List UInt8) {k c:Nat},k<=8*V.s.size->Zf (Fcx V) (c+1+rm out) k (YtgffljllfenhkaaGreatDoor.storeNX V n out) (fun _ k'=>k<=k'/\k'<=8*V.s.size) (fun o=>c+1+rm o)
 | 0,out,k,c,hk=>by unfold YtgffljllfenhkaaGreatDoor.storeNX;exact Zf.ret ⟨Nat.le_refl _,hk⟩ (Nat.le_refl _)
 | n+1,out,k,c,hk=>by
  unfold YtgffljllfenhkaaGreatDoor.storeNX;refine Zf.then (Q:=fun _ k'=>k<=k'/\k'<=8*V.s.size) (c1:=fun _=>c+1+rm out) ((Zf.numX (c:=c+rm out) 8).eq (by omega) fun _ k1 ⟨e1,b1⟩=>⟨⟨by omega,b1⟩,by omega⟩) fun x k1 ⟨a1,b1⟩=>?_
  exact (Zf.putX _ _).then fun o k2 e2=>(Zf.storeNX n o (by omega)).less fun _ k3 ⟨a3,b3⟩=>⟨⟨by omega,b3⟩,Nat.le_refl _⟩
theorem Zf.storedX (out:List UInt8):Zf (Fcx V) (c+1+rm out) k (YtgffljllfenhkaaGreatDoor.storedX V out) (fun _ k'=>k<=k'/\k'<=8*V.s.size) (fun o=>c+1+rm o):=by
 unfold YtgffljllfenhkaaGreatDoor.storedX;refine Zf.then (Q:=fun _ k'=>k<=k'/\k'<=8*V.s.size) (c1:=fun _=>c+1+rm out) (fun s hs hb=>(Zf.numX (V:=V) (k:=k) (c:=c+rm out) ((8-s.k%8)%8)).eq (c':=c+1+rm out) (Q':=fun _ k'=>k<=k'/\k'<=8*V.s.size) (c1':=fun _=>c+1+rm out) (by omega) (fun _ k1 h1=>⟨⟨by omega,h1.2⟩,by omega⟩) s hs hb) fun _ k1 ⟨a1,b1⟩=>?_
 refine Zf.then (Q:=fun _ k'=>k<=k'/\k'<=8*V.s.size) (c1:=fun _=>c+1+rm out) ((Zf.numX (c:=c+rm out) 16).eq (by omega) fun _ k2 ⟨e2,b2⟩=>⟨⟨by omega,b2⟩,by omega⟩) fun n k2 ⟨a2,b2⟩=>?_
 refine Zf.then (Q:=fun _ k'=>k<=k'/\k'<=8*V.s.size) (c1:=fun _=>c+1+rm out) ((Zf.numX (c:=c+rm out) 16).eq (by omega) fun _ k2 ⟨e2,b2⟩=>⟨⟨by omega,b2⟩,by omega⟩) fun m k3 ⟨a3,b3⟩=>?_
 exact (Zf.demandX _).then fun _ k4 ⟨e4,_⟩=>(Zf.storeNX n out (by omega)).less fun _ k5 ⟨a5,b5⟩=>⟨⟨by omega,b5⟩,Nat.le_refl _⟩
theorem Zf.blkX (l dl:List Nat) (g:Nat) (hg:∀ {k c:Nat},Zf (Fcx V) (c+1) k (YtgffljllfenhkaaGreatDoor.signX V l) (fun _ k'=>k<k'/\k'<=8*V.s.size) (fun _=>c+1+g)):∀ (f:Nat) (out:List UInt8) {k c:Nat},Zf (Fcx V) (c+1+rm out) k (YtgffljllfenhkaaGreatDoor.blkX V l dl f out) (fun _ k'=>k<=k'/\k'<=8*V.s.size) (fun o=>c+1+rm o+g)
 | 0,out,k,c=>by unfold YtgffljllfenhkaaGreatDoor.blkX;exact Zf.no (by simp)
 | f+1,out,k,c=>by
  unfold YtgffljllfenhkaaGreatDoor.blkX copyLX distX copyBX;refine Zf.then (Q:=fun _ k'=>k<k'/\k'<=8*V.s.size) (c1:=fun _=>c+g+1+rm out) ((hg (c:=c+rm out)).eq (by omega) fun _ k1 h1=>⟨h1,by omega⟩) fun x k1 ⟨a1,b1⟩=>?_
  refine Zf.ite (fun _=>(Zf.putX _ _).then fun o k2 e2=>(Zf.blkX l dl g hg f o).less fun _ k3 ⟨a3,b3⟩=>⟨⟨by omega,b3⟩,by omega⟩) (fun _=>Zf.ite (fun _=>Zf.ret ⟨by omega,b1⟩ (by omega)) (fun _=>?_));refine Zf.then (Q:=fun _ k'=>k1<=k'/\k'<=8*V.s.size) (c1:=fun _=>c+g+1+rm out) ((Zf.demandX _).then fun _ k2 ⟨e2,_⟩=>Zf.then (Q:=fun _ k'=>k1<=k'/\k'<=8*V.s.size) (c1:=fun _=>c+g+1+rm out) ((Zf.numX (c:=c+g+rm out) _).eq (by omega) fun _ k3 ⟨e3,b3⟩=>⟨⟨by omega,b3⟩,by omega⟩) fun x k3 h3=>Zf.ret h3 (Nat.le_refl _)) fun n k2 ⟨a2,b2⟩=>?_
  refine Zf.then (Q:=fun _ k'=>k2<k'/\k'<=8*V.s.size) (c1:=fun _=>c+g+1+rm out) ((Zf.signX (c:=c+g+rm out) dl).eq (by omega) fun _ k3 h3=>⟨h3,by omega⟩) fun d k3 ⟨a3,b3⟩=>?_
  refine Zf.then (Q:=fun _ k'=>k3<=k'/\k'<=8*V.s.size) (c1:=fun _=>c+g+1+rm out) ((Zf.demandX _).then fun _ k2 ⟨e2,_⟩=>Zf.then (Q:=fun _ k'=>k3<=k'/\k'<=8*V.s.size) (c1:=fun _=>c+g+1+rm out) ((Zf.numX (c:=c+g+rm out) _).eq (by omega) fun _ k3 ⟨e3,b3⟩=>⟨⟨by omega,b3⟩,by omega⟩) fun x k3 h3=>Zf.ret h3 (Nat.le_refl _)) fun back k4 ⟨a4,b4⟩=>?_
  refine Zf.then (Q:=fun _ k'=>k'=k4) (c1:=fun o=>c+g+1+rm o) ((Zf.demandX _).then fun _ k5 ⟨e5,_⟩=>(Zf.copyNX _ _ _).less fun _ k6 e6=>⟨by omega,Nat.le_refl _⟩) fun o k5 e5=>?_
  exact (Zf.blkX l dl g hg f o).less fun _ k6 ⟨a6,b6⟩=>⟨⟨by omega,b6⟩,by omega⟩
theorem Zf.readX (cl:List Nat) (many:Nat):∀ (f:Nat) (l:List Nat) {k c:Nat},k<=8*V.s.size->Zf (Fcx V) (c+1) k (YtgffljllfenhkaaGreatDoor.readX V cl many f l) (fun _ k'=>k<=k'/\k'<=8*V.s.size) (fun _=>c+1)
 | 0,l,k,c,hk=>by unfold YtgffljllfenhkaaGreatDoor.readX;exact Zf.no (by simp)
 | f+1,l,k,c,hk=>by
  unfold YtgffljllfenhkaaGreatDoor.readX;refine Zf.ite (fun hl=>?_) (fun _=>(Zf.demandX _).then fun _ k1 ⟨e1,_⟩=>Zf.ret ⟨by omega,by omega⟩ (Nat.le_refl _));refine (Zf.signX cl).then fun g k1 ⟨a1,b1⟩=>?_
  refine Zf.ite (fun _=>(Zf.demandX _).then fun _ k2 ⟨e2,_⟩=>(Zf.numX (c:=c+34) _).eq (by omega) (fun _ _ h=>⟨h,Nat.le_refl _⟩) |>.then fun n k3 ⟨e3,b3⟩=>(Zf.readX cl many f _ (c:=c+34+34*2) b3).eq (by omega) fun _ k4 ⟨a4,b4⟩=>⟨⟨by omega,b4⟩,by omega⟩) (fun _=>?_);refine Zf.ite (fun _=>(Zf.numX (c:=c+34) _).eq (by omega) (fun _ _ h=>⟨h,Nat.le_refl _⟩) |>.then fun n k3 ⟨e3,b3⟩=>(Zf.readX cl many f _ (c:=c+34+34*3) b3).eq (by omega) fun _ k4 ⟨a4,b4⟩=>⟨⟨by omega,b4⟩,by omega⟩) (fun _=>?_);refine Zf.ite (fun _=>(Zf.numX (c:=c+34) _).eq (by omega) (fun _ _ h=>⟨h,Nat.le_refl _⟩) |>.then fun n k3 ⟨e3,b3⟩=>(Zf.readX cl many f _ (c:=c+34+34*7) b3).eq (by omega) fun _ k4 ⟨a4,b4⟩=>⟨⟨by omega,b4⟩,by omega⟩) (fun _=>?_);exact (Zf.readX cl many f _ (c:=c+34) b1).eq (by omega) fun _ k4 ⟨a4,b4⟩=>⟨⟨by omega,b4⟩,by omega⟩
theorem Zf.clensX:∀ (n i:Nat) (l:List Nat) {k c:Nat},k<=8*V.s.size->Zf (Fcx V) (c+1) k (YtgffljllfenhkaaGreatDoor.clensX V n i l) (fun _ k'=>k<=k'/\k'<=8*V.s.size) (fun _=>c+1)
 | 0,i,l,k,c,hk=>by unfold YtgffljllfenhkaaGreatDoor.clensX;exact Zf.ret ⟨Nat.le_refl _,hk⟩ (Nat.le_refl _)
 | n+1,i,l,k,c,hk=>by
  unfold YtgffljllfenhkaaGreatDoor.clensX;exact (Zf.numX 3).then fun x k1 ⟨e1,b1⟩=>(Zf.clensX n _ _ (c:=c+34*3) b1).eq (by omega) fun _ k2 ⟨a2,b2⟩=>⟨⟨by omega,b2⟩,by omega⟩
theorem Zf.ownX:Zf (Fcx V) (c+1) k (YtgffljllfenhkaaGreatDoor.ownX V) (fun _ k'=>k<=k'/\k'<=8*V.s.size) (fun _=>c+1):=by
 unfold YtgffljllfenhkaaGreatDoor.ownX codeLX;refine (Zf.numX 5).then fun a k1 ⟨e1,b1⟩=>Zf.then (Q:=fun _ k'=>k'=k1+5/\k'<=8*V.s.size) (c1:=fun _=>c+341) ((Zf.numX (c:=c+170) 5).eq (by omega) fun _ _ h=>⟨h,by omega⟩) fun b k2 ⟨e2,b2⟩=>?_
 refine Zf.then (Q:=fun _ k'=>k'=k2+4/\k'<=8*V.s.size) (c1:=fun _=>c+477) ((Zf.numX (c:=c+340) 4).eq (by omega) fun _ _ h=>⟨h,by omega⟩) fun n k3 ⟨e3,b3⟩=>(Zf.demandX _).then fun _ k4 ⟨e4,d4⟩=>?_
 have hab:a<=29/\b<=29:=by simpa using d4
 refine Zf.then (Q:=fun _ k'=>k4<=k'/\k'<=8*V.s.size) (c1:=fun _=>c+458) ((Zf.clensX _ _ _ (c:=c+476) (by omega)).then fun l k5 ⟨a5,b5⟩=>Zf.then (Q:=fun _ k'=>k'=k5) (c1:=fun _=>c+458) ((Zf.chargeX (c:=c+458) 19).eq (by omega) fun _ _ h=>⟨h,Nat.le_refl _⟩) fun _ k6 e6=>(Zf.demandX _).then fun _ k7 ⟨e7,_⟩=>Zf.ret ⟨by omega,by omega⟩ (Nat.le_refl _)) fun cl k5 ⟨a5,b5⟩=>?_
 refine (Zf.readX cl _ _ [] (c:=c+457) b5).then fun all k6 ⟨a6,b6⟩=>?_
 refine Zf.then (Q:=fun _ k'=>k'=k6) (c1:=fun _=>c+458-(257+a)) ((Zf.chargeX (c:=c+458-(257+a)) (257+a)).eq (by omega) fun _ _ h=>⟨h,Nat.le_refl _⟩) fun _ k7 e7=>?_
 refine Zf.then (Q:=fun _ k'=>k'=k7) (c1:=fun _=>c+458-(257+a)-(1+b)) ((Zf.chargeX (c:=c+458-(257+a)-(1+b)) (1+b)).eq (by omega) fun _ _ h=>⟨h,Nat.le_refl _⟩) fun _ k8 e8=>?_
 exact (Zf.demandX _).then fun _ k9 ⟨e9,_⟩=>(Zf.demandX _).then fun _ k10 ⟨e10,_⟩=>(Zf.demandX _).then fun _ k11 ⟨e11,_⟩=>Zf.ret ⟨by omega,by omega⟩ (by omega)
theorem Zf.blockX (out:List UInt8):Zf (Fcx V) (c+320+1+rm out) k (YtgffljllfenhkaaGreatDoor.blockX V out) (fun _ k'=>k<=k'/\k'<=8*V.s.size) (fun o=>c+306+1+rm o):=by
 unfold YtgffljllfenhkaaGreatDoor.blockX signsX fixX;refine Zf.then (Q:=fun _ k'=>k'=k+2/\k'<=8*V.s.size) (c1:=fun _=>c+388+1+rm out) ((Zf.numX (c:=c+320+rm out) 2).eq (by omega) fun _ _ h=>⟨h,by omega⟩) fun t k1 ⟨e1,b1⟩=>?_
 refine Zf.ite (fun _=>(Zf.storedX out).less fun _ k2 ⟨a2,b2⟩=>⟨⟨by omega,b2⟩,by omega⟩) (fun _=>Zf.ite (fun _=>?_) (fun _=>Zf.ite (fun _=>?_) (fun _=>Zf.no (by simp))))
 ·refine Zf.then (Q:=fun x k'=>k'=k1/\x=(fixL,fixD)) (c1:=fun _=>c+68+1+rm out) (Zf.then (Q:=fun _ k'=>k'=k1) (c1:=fun _=>c+100+1+rm out) ((Zf.chargeX (c:=c+100+1+rm out) 288).eq (by omega) fun _ _ h=>⟨h,Nat.le_refl _⟩) fun _ k2 e2=>Zf.then (Q:=fun _ k'=>k'=k1) (c1:=fun _=>c+68+1+rm out) ((Zf.chargeX (c:=c+68+1+rm out) 32).eq (by omega) fun _ _ h=>⟨by omega,Nat.le_refl _⟩) fun _ k3 e3=>Zf.ret ⟨by omega,rfl⟩ (Nat.le_refl _)) fun x k2 ⟨e2,hx⟩=>?_
  subst hx;exact (Zf.blkX fixL fixD 238 Zf.signF 80000 out).less fun _ k3 ⟨a3,b3⟩=>⟨⟨by omega,b3⟩,by omega⟩
 ·refine Zf.then (Q:=fun _ k'=>k<=k'/\k'<=8*V.s.size) (c1:=fun _=>c+388+1+rm out) ((Zf.ownX (c:=c+388+rm out)).eq (by omega) fun _ k2 ⟨a2,b2⟩=>⟨⟨by omega,b2⟩,by omega⟩) fun x k2 ⟨a2,b2⟩=>?_
  exact (Zf.blkX _ _ 34 (Zf.signX _) 80000 out).less fun _ k3 ⟨a3,b3⟩=>⟨⟨by omega,b3⟩,by omega⟩
theorem Zf.blocksX:∀ (f:Nat) (out:List UInt8) {k c:Nat},Zf (Fcx V) (c+300+1+rm out) k (YtgffljllfenhkaaGreatDoor.blocksX V f out) (fun _ _=>True) (fun _=>0)
 | 0,out,k,c=>by unfold YtgffljllfenhkaaGreatDoor.blocksX;exact Zf.no (by simp)
 | f+1,out,k,c=>by
  unfold YtgffljllfenhkaaGreatDoor.blocksX;refine Zf.then (Q:=fun _ k'=>k'=k+1/\k'<=8*V.s.size) (c1:=fun _=>c+14+320+1+rm out) ((Zf.numX (c:=c+300+rm out) 1).eq (by omega) fun _ _ h=>⟨h,by omega⟩) fun last k1 ⟨e1,b1⟩=>?_
  exact (Zf.blockX out).then fun o k2 ⟨a2,b2⟩=>Zf.ite (fun _=>Zf.ret trivial (Nat.zero_le _)) (fun _=>(Zf.blocksX f o (c:=c+20)).eq (by omega) fun _ _ h=>⟨h,Nat.le_refl _⟩)
theorem unpackU_cost {s:ByteArray}(hs:s.size<=9000) (n b:Nat) (hb:2522301<=b):(∀ y,unpackU s n b=.no y->(y.1≠12/\y.1≠13))/\∀ r b',unpackU s n b=.ok r b'->b<=b'+2522301:=by
 have hZ:Zf (Fcx ⟨s,n,0⟩) 2301 0 (unpackX ⟨s,n,0⟩) (fun _ _=>True) (fun _=>0):=by
  unfold unpackX;refine Zf.then ((Zf.blocksX (V:=⟨s,n,0⟩) 80000 [] (c:=0)).eq (by unfold rm;rfl) fun _ _ h=>⟨h,Nat.le_refl _⟩) fun out k1 _=>?_
  intro t ht htb;exact (Zf.demandX (V:=⟨s,n,0⟩) (k:=k1) (decide ((t.k+7)/8=s.size))).then (f:=fun _=>Rdr.ret out) (R:=fun _ _=>True) (c2:=fun _=>0) (fun _ k2 _=>Zf.ret trivial (Nat.zero_le _)) t ht htb
 have hF:Fcx ⟨s,n,0⟩ 0<=2520000:=by show 35*(8*s.size-0)<=2520000;omega
 obtain⟨z1,z2⟩:=hZ ⟨b,0,0,0,0⟩ rfl (by show Fcx ⟨s,n,0⟩ 0+2301<=b;omega);unfold unpackU
 rcases hq:unpackX ⟨s,n,0⟩ ⟨b,0,0,0,0⟩ with⟨out,t⟩|y'
 ·refine⟨fun y e=>(by cases e),fun r b' e=>?_⟩;cases e;have h3:Fcx ⟨s,n,0⟩ t.k+0+b<=t.b+Fcx ⟨s,n,0⟩ 0+2301:=(z2 _ _ hq).2;omega
 ·exact⟨fun y e=>by cases e;exact z1 _ hq,fun r b' e=>by cases e⟩
end
section
def Cs {α:Type}(c:Nat) (f:Nat->Res α):Prop:=∀ b,c<=b->(∀ y,f b=.no y->(y.1≠12/\y.1≠13))/\∀ a b',f b=.ok a b'->b<=b'+c
theorem Cs.ret {α:Type}(a:α) (c:Nat):Cs c (fun b=>Res.ok a b):=fun b _=>⟨fun y e=>(by cases e),fun a' b' e=>by cases e;omega⟩
theorem Cs.no {α:Type}{y:Why}(h:(y.1≠12/\y.1≠13)) (c:Nat):Cs c (fun _=>Res.no y:Nat->Res α):=fun b _=>⟨fun y e=>by cases e;exact h,fun a' b' e=>by cases e⟩
theorem Cs.le {α:Type}{f:Nat->Res α}{c c':Nat}(h:Cs c f) (hc:c<=c'):Cs c' f:=fun b hb=>by
 obtain⟨h1,h2⟩:=h b (by omega);exact⟨h1,fun a b' e=>by have:=h2 a b' e;omega⟩
theorem Cs.of {α β:Type}{F:Nat->Res β}{f:Nat->Res α}{g:α->Nat->Res β}{c1 c2 c:Nat}(hf:Cs c1 f) (hg:∀ a b b',f b=.ok a b'->Cs c2 (g a)) (hc:c1+c2<=c) (hok:∀ b a b',f b=.ok a b'->F b=g a b') (hno:∀ b y,f b=.no y->F b=.no y):Cs c F:=fun b hb=>by
 obtain⟨h1,h2⟩:=hf b (by omega)
 rcases hq:f b with⟨a,b'⟩|y
 ·rw[hok b a b' hq];have h3:=h2 a b' hq;obtain⟨g1,g2⟩:=hg a b b' hq b' (by omega);exact⟨g1,fun a2 b2 e=>by have:=g2 a2 b2 e;omega⟩
 ·rw[hno b y hq];exact⟨fun y' e=>by cases e;exact h1 y hq,fun a b' e=>by cases e⟩
theorem Cs.ite {α:Type}{d:Prop} [Decidable d] {f g:Nat->Res α}{c:Nat}(h1:d->Cs c f) (h2:¬ d->Cs c g):Cs c (fun b=>if d then f b else g b):=by
 by_cases hd:d
 ·simp only[if_pos hd];exact h1 hd
 ·simp only[if_neg hd];exact h2 hd
theorem Cs.pay {α:Type}{g:Nat->Res α}{c:Nat}(n:Nat) (h:Cs c g):Cs (n+c) (fun b=>if b<n then .no (12,0) else g (b-n)):=fun b hb=>by
 have hn:¬ b<n:=by omega
 simp only[if_neg hn];obtain⟨h1,h2⟩:=h (b-n) (by omega);exact⟨h1,fun a b' e=>by have:=h2 a b' e;omega⟩
theorem Cs.rdr {α:Type}{F:Nat->Nat}{m:Rdr α}{k c:Nat}{Q:α->Nat->Prop}{c1:α->Nat}(h:Zf F c k m Q c1):Cs (F k+c) (fun b=>Out.res (m ⟨b,k,0,0,0⟩)):=fun b hb=>by
 obtain⟨h1,h2⟩:=h ⟨b,k,0,0,0⟩ rfl hb
 rcases hq:m ⟨b,k,0,0,0⟩ with⟨a1,s1⟩|y
 ·refine⟨fun y e=>?_,fun a b' e=>?_⟩
  ·simp only[hq] at e;cases e
  ·simp only[hq] at e;cases e;have h3:F s1.k+c1 a1+b<=s1.b+F k+c:=(h2 _ _ hq).2;omega
 ·refine⟨fun y' e=>?_,fun a b' e=>?_⟩
  ·simp only[hq] at e;cases e;exact h1 _ hq
  ·simp only[hq] at e;cases e
theorem Cs.tab {f:ByteArray}(hf:f.size<=9000):Cs 369004 (tabR f):=by
 have hx:=xrefAt_le f
 have h0:Cs 360004 (fun b=>Out.res (Rdr.then (tableM (tabEnv f) (xrefAt f).toNat) (fun x=>Rdr.ret ((xrefAt f).toNat,x.1,x.2)) ⟨b,(xrefAt f).toNat,0,0,0⟩)):=by
  refine (Cs.rdr ((Zf.table (E:=tabEnv f) (k:=(xrefAt f).toNat) (xrefAt f).toNat (by show (xrefAt f).toNat<=f.size;omega)).then (R:=fun _ _=>True) (c2:=fun _=>0) fun x k1 _=>Zf.ret trivial (Nat.zero_le _))).le ?_;show 40*(f.size-(xrefAt f).toNat)+4<=360004;omega
 unfold tabR;exact (Cs.pay (g:=fun b=>if xrefAt f<0 then .no (4,0) else Out.res (Rdr.then (tableM (tabEnv f) (xrefAt f).toNat) (fun x=>Rdr.ret ((xrefAt f).toNat,x.1,x.2)) ⟨b,(xrefAt f).toNat,0,0,0⟩)) f.size (Cs.ite (fun _=>Cs.no (by decide) _) (fun _=>h0))).le (by omega)
theorem Cs.obj {f:ByteArray}{at_:Nat}(hf:f.size<=9000) (ha:at_<=f.size) (place num:Nat):Cs 360020 (objR f at_ place num):=by
 unfold objR;refine Cs.ite (fun _=>Cs.ret _ _) (fun _=>Cs.ite (fun _=>Cs.no (by simp) _) (fun hp=>fun b hb=>?_));obtain⟨h1,h2⟩:=Zf.object (E:=objEnv f at_) (k:=place) num (by show place<=at_;omega) ⟨b,place,0,0,0⟩ rfl (by show 40*(at_-place)+20<=b;omega)
 rcases hq:objectM (objEnv f at_) num ⟨b,place,0,0,0⟩ with⟨a1,s1⟩|y
 ·simp only[objFin];have h3:40*(at_-s1.k)+0+b<=s1.b+40*(at_-place)+20:=(h2 _ _ hq).2
  by_cases c1:0<s1.d
  ·rw[if_pos c1];exact⟨fun y e=>by cases e;simp,fun a b' e=>by cases e⟩
  ·rw[if_neg c1]
   by_cases c2:0<s1.t
   ·rw[if_pos c2];exact⟨fun y e=>by cases e;simp,fun a b' e=>by cases e⟩
   ·rw[if_neg c2];exact⟨fun y e=>(by cases e),fun a b' e=>by cases e;omega⟩
 ·exact⟨fun y' e=>by cases e;exact h1 _ hq,fun a b' e=>by cases e⟩
theorem Cs.objs {f:ByteArray}{at_:Nat}(hf:f.size<=9000) (ha:at_<=f.size):∀ (ps:List Nat) (num:Nat),Cs (ps.length*360020) (objsR f at_ ps num)
 | [],num=>fun b hb=>by simp only[objsR];exact Cs.ret _ _ b hb
 | p::ps,num=>by
  refine Cs.of (f:=objR f at_ p num) (g:=fun o b'=>match objsR f at_ ps (num+1) b' with
   | .no y=>.no y
   | .ok l b''=>.ok (o::l) b'') (c2:=ps.length*360020) (Cs.obj hf ha p num) (fun o _ _ _=>?_) (by rw[List.length_cons];omega) (fun b a b' h=>by rw[objsR_cons_ok h];rfl) (fun b y h=>by rw[objsR_cons_no h])
  exact Cs.of (f:=objsR f at_ ps (num+1)) (g:=fun l b=>.ok (o::l) b) (c2:=0) (Cs.objs hf ha ps (num+1)) (fun l _ _ _=>Cs.ret _ _) (by omega) (fun b a b' h=>by rw[h]) (fun b y h=>by rw[h])
theorem Cs.overI (o:Obj1) (num:Nat):∀ (l:List Obj1),Cs l.length (YtgffljllfenhkaaGreatDoor.overI o num l)
 | []=>fun b hb=>by simp only[YtgffljllfenhkaaGreatDoor.overI];exact Cs.ret _ _ b hb
 | u::l=>by
  intro b hb;simp only[YtgffljllfenhkaaGreatDoor.overI];refine (Cs.pay (g:=fun b=>if o.place<u.fin/\u.place<o.fin then .no (8,num) else YtgffljllfenhkaaGreatDoor.overI o num l b) 1 (Cs.ite (fun _=>Cs.no (by simp) _) (fun _=>Cs.overI o num l))).le (c':=(u::l).length) ?_ b hb;rw[List.length_cons];omega
theorem Cs.overO (os:List Obj1) (ho:os.length<=31):∀ (m:Nat),Cs (m*31) (YtgffljllfenhkaaGreatDoor.overO os m)
 | 0=>fun b hb=>by simp only[YtgffljllfenhkaaGreatDoor.overO];exact Cs.ret _ _ b hb
 | m+1=>by
  intro b hb;simp only[YtgffljllfenhkaaGreatDoor.overO]
  rcases os[os.length-(m+1)]? with _|o
  ·exact Cs.ret _ _ b hb
  ·refine Cs.of (F:=fun b=>match (YtgffljllfenhkaaGreatDoor.overI o (os.length-(m+1)) (os.take (os.length-(m+1))) b) with
    | .no y=>.no y
    | .ok _ b'=>YtgffljllfenhkaaGreatDoor.overO os m b') (f:=YtgffljllfenhkaaGreatDoor.overI o (os.length-(m+1)) (os.take (os.length-(m+1)))) (g:=fun _ b=>YtgffljllfenhkaaGreatDoor.overO os m b) (c1:=31) (c2:=m*31) (c:=(m+1)*31) ((Cs.overI _ _ _).le (by rw[List.length_take];omega)) (fun _ _ _ _=>Cs.overO os ho m) (by omega) (fun b a b' h=>by simp only[h]) (fun b y h=>by simp only[h]) b hb
theorem Cs.unpL:∀ (l:List Obj1) (k:Nat),(∀ o ∈ l,o.stream.size<=9000)->Cs (l.length*2522301) (YtgffljllfenhkaaGreatDoor.unpL unpackU l k)
 | [],k,_=>fun b hb=>by simp only[YtgffljllfenhkaaGreatDoor.unpL];exact Cs.ret _ _ b hb
 | o::l,k,ho=>by
  have h1:Cs 2522301 (YtgffljllfenhkaaGreatDoor.unpS unpackU o k):=by
   unfold YtgffljllfenhkaaGreatDoor.unpS;refine Cs.ite (fun _=>?_) (fun _=>Cs.ret _ _);exact Cs.of (f:=unpackU o.stream k) (g:=fun t b=>.ok { o with stream:=t } b) (c1:=2522301) (c2:=0) (fun b hb=>unpackU_cost (ho o (by simp)) k b hb) (fun _ _ _ _=>Cs.ret _ _) (by omega) (fun b a b' h=>by simp only[h]) (fun b y h=>by simp only[h])
  refine Cs.of (f:=YtgffljllfenhkaaGreatDoor.unpS unpackU o k) (g:=fun o' b'=>match YtgffljllfenhkaaGreatDoor.unpL unpackU l (k+1) b' with
   | .no y=>.no y
   | .ok l' b''=>.ok (o'::l') b'') (c2:=l.length*2522301) h1 (fun o' _ _ _=>?_) (by rw[List.length_cons];omega) (fun b a b' h=>by simp only[YtgffljllfenhkaaGreatDoor.unpL,h] <;> rfl) (fun b y h=>by simp only[YtgffljllfenhkaaGreatDoor.unpL,h])
  exact Cs.of (f:=YtgffljllfenhkaaGreatDoor.unpL unpackU l (k+1)) (g:=fun l' b=>.ok (o'::l') b) (c2:=0) (Cs.unpL l (k+1) (fun u hu=>ho u (by simp[hu]))) (fun _ _ _ _=>Cs.ret _ _) (by omega) (fun b a b' h=>by simp only[h]) (fun b y h=>by simp only[h])
theorem Cs.doc (f:ByteArray):Cs 89361896 (docR unpackU f):=by
 unfold docR;refine Cs.ite (fun _=>Cs.no (by decide) _) (fun hf=>Cs.ite (fun _=>Cs.no (by decide) _) (fun _=>?_))
 refine Cs.of (f:=tabR f) (g:=fun x b1=>match objsR f x.1 x.2.1 1 b1 with
  | .no y=>.no y
  | .ok l b2=>match overR ({}::l) b2 with
   | .no y=>.no y
   | .ok _ b3=>match YtgffljllfenhkaaGreatDoor.unpL unpackU ({}::l) 0 b3 with
    | .no y=>.no y
    | .ok os b4=>if tnameAt os x.2.2==rootB then .ok (x.1,x.2.1,x.2.2,os) b4 else .no (10,0)) (c2:=88992892) (Cs.tab (by omega)) (fun x b b' hx=>?_) (by omega) (fun b a b' h=>by simp only[h] <;> rfl) (fun b y h=>by simp only[h])
 obtain⟨t1,t2,t3,_,t5,t6⟩:=tabR_inv (at_:=x.1) (l:=x.2.1) (root:=x.2.2) hx
 refine Cs.of (f:=objsR f x.1 x.2.1 1) (g:=fun l b2=>match overR ({}::l) b2 with
   | .no y=>.no y
   | .ok _ b3=>match YtgffljllfenhkaaGreatDoor.unpL unpackU ({}::l) 0 b3 with
    | .no y=>.no y
    | .ok os b4=>if tnameAt os x.2.2==rootB then .ok (x.1,x.2.1,x.2.2,os) b4 else .no (10,0)) (c1:=30*360020) (c2:=78192292) ((Cs.objs (by omega) t1 _ _).le (Nat.mul_le_mul_right _ t3)) (fun l b b' hl=>?_) (by omega) (fun b a b' h=>by simp only[h] <;> rfl) (fun b y h=>by simp only[h])
 obtain⟨o1,o2⟩:=objsR_ok (by omega) t1 _ hl;have hlen:(({}:Obj1)::l).length<=31:=by rw[List.length_cons];omega
 refine Cs.of (f:=overR ({}::l)) (g:=fun _ b3=>match YtgffljllfenhkaaGreatDoor.unpL unpackU ({}::l) 0 b3 with
    | .no y=>.no y
    | .ok os b4=>if tnameAt os x.2.2==rootB then .ok (x.1,x.2.1,x.2.2,os) b4 else .no (10,0)) (c1:=31*31) (c2:=78191331) (by unfold overR;exact (Cs.overO _ hlen _).le (Nat.mul_le_mul_right _ hlen)) (fun _ _ _ _=>?_) (by omega) (fun b a b' h=>by simp only[h]) (fun b y h=>by simp only[h])
 refine Cs.of (f:=YtgffljllfenhkaaGreatDoor.unpL unpackU ({}::l) 0) (g:=fun os b4=>if tnameAt os x.2.2==rootB then .ok (x.1,x.2.1,x.2.2,os) b4 else .no (10,0)) (c1:=31*2522301) (c2:=0) ((Cs.unpL _ _ (fun o ho=>?_)).le (Nat.mul_le_mul_right _ hlen)) (fun os _ _ _=>Cs.ite (fun _=>Cs.ret _ _) (fun _=>Cs.no (by decide) _)) (by omega) (fun b a b' h=>by simp only[h]) (fun b y h=>by simp only[h])
 rcases List.mem_cons.1 ho with rfl|h3
 ·exact Nat.zero_le _
 ·exact (o2 o h3).2
end
end Go.Proofs.YtgffljllfenhkaaGreatDoor
