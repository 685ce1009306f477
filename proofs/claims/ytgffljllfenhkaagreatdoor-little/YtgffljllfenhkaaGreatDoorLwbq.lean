import Derived.Test.YtgffljllfenhkaaGreatDoorLway
import Derived.Test.YtgffljllfenhkaaGreatDoorLwbo
import Derived.Test.YtgffljllfenhkaaGreatDoorLwbp
section
namespace Go.Proofs.YtgffljllfenhkaaGreatDoor
def St.up (s:St) (d:Nat):St:={ s with b:=s.b+d }
theorem St.up_k (s:St) (d:Nat):(s.up d).k=s.k:=rfl
theorem St.up_b (s:St) (d:Nat):(s.up d).b=s.b+d:=rfl
def Sh {α:Type} (m:Rdr α):Prop:=∀ s d,(∀ a s',m s=.ok a s'→m (s.up d)=.ok a (s'.up d))∧∀ y,m s=.no y→y.1≠12→m (s.up d)=.no y
section
variable {α β:Type} {m:Rdr α} {f:α→Rdr β}
theorem Sh.then (h:Sh m) (g:∀ a,Sh (f a)):Sh (m.then f):=fun s d=>by
 obtain ⟨h1,h2⟩:=h s d
 rcases hm:m s with ⟨a,s1⟩ | y
 ·rw [Rdr.then_ok hm,Rdr.then_ok (h1 a s1 hm)]
  exact g a s1 d
 ·rw [Rdr.then_no hm]
  exact ⟨fun a s' e=>(by cases e),fun y' e hy=>by cases e;exact Rdr.then_no (h2 y hm hy)⟩
theorem Sh.ret (a:α):Sh (Rdr.ret a):=fun s d=>⟨fun a' s' e=>by cases e;rfl,fun y e=>by cases e⟩
theorem Sh.ite {c:Prop} [Decidable c] {m1 m2:Rdr α} (h1:Sh m1) (h2:Sh m2):Sh (if c then m1 else m2):=by
 by_cases hc:c
 ·rw [if_pos hc];exact h1
 ·rw [if_neg hc];exact h2
theorem Sh.no (y:Why):Sh (fun _=>.no y:Rdr α):=fun s d=>⟨fun a s' e=>(by cases e),fun y' e _=>by cases e;rfl⟩
theorem Sh.at {g:Nat→Rdr α} (h:∀ k,Sh (g k)):Sh (fun s=>g s.k s):=fun s d=>h s.k s d
end
variable {E:Env} {V:Ux}
theorem Sh.charge (n:Nat):Sh (chargeM n):=fun s d=>by
 unfold chargeM
 by_cases h:s.b < n
 ·rw [if_pos h]
  exact ⟨fun a s' e=>(by cases e),fun y e hy=>by cases e;exact absurd rfl hy⟩
 ·rw [if_neg h,if_neg (by rw [St.up_b];omega)]
  refine ⟨fun a s' e=>?_,fun y e=>by cases e⟩
  cases e
  have:s.b+d - n=s.b - n+d:=by omega
  simp only [St.up,this]
theorem Sh.peek:Sh (peekM E):=fun s d=>by
 unfold peekM
 by_cases h:s.b < 1
 ·rw [if_pos h]
  exact ⟨fun a s' e=>(by cases e),fun y e hy=>by cases e;exact absurd rfl hy⟩
 ·have h':¬ (s.up d).b < 1:=by rw [St.up_b];omega
  rw [if_neg h,if_neg h',St.up_k]
  by_cases h2:s.k=E.e
  ·rw [if_pos h2,if_pos h2];exact ⟨fun a s' e=>(by cases e),fun y e _=>by cases e;rfl⟩
  ·rw [if_neg h2,if_neg h2]
   refine ⟨fun a s' e=>?_,fun y e=>by cases e⟩
   cases e
   have:s.b+d - 1=s.b - 1+d:=by omega
   simp only [St.up,this]
theorem Sh.need (c:Bool):Sh (needM E c):=fun s d=>by
 unfold needM
 cases c
 ·exact ⟨fun a s' e=>(by cases e),fun y e _=>by cases e;rfl⟩
 ·exact ⟨fun a s' e=>by cases e;rfl,fun y e=>by cases e⟩
theorem Sh.adv:Sh advM:=fun s d=>⟨fun a s' e=>by cases e;rfl,fun y e=>by cases e⟩
theorem Sh.here:Sh atM:=fun s d=>⟨fun a s' e=>by cases e;rfl,fun y e=>by cases e⟩
theorem Sh.enter:Sh enterM:=fun s d=>⟨fun a s' e=>by cases e;rfl,fun y e=>by cases e⟩
theorem Sh.leave:Sh leaveM:=fun s d=>⟨fun a s' e=>by cases e;rfl,fun y e=>by cases e⟩
theorem Sh.twice (c:Bool) (p:Nat):Sh (twiceM c p):=fun s d=>⟨fun a s' e=>by cases e;rfl,fun y e=>by cases e⟩
theorem Sh.word:∀ l,Sh (wordM E l)
 | []=>by unfold wordM;exact Sh.ret _
 | c::l=>by unfold wordM;exact Sh.peek.then fun x=>(Sh.need _).then fun _=>Sh.adv.then fun _=>Sh.word l
theorem Sh.someL (p:Nat→Bool):∀ n,Sh (Go.Proofs.YtgffljllfenhkaaGreatDoor.someL E p n)
 | 0=>by unfold Go.Proofs.YtgffljllfenhkaaGreatDoor.someL;exact Sh.ret _
 | n+1=>by unfold Go.Proofs.YtgffljllfenhkaaGreatDoor.someL;exact Sh.peek.then fun x=>Sh.ite (Sh.adv.then fun _=>Sh.someL p n) (Sh.ret _)
theorem Sh.some (p:Nat→Bool) (n:Nat):Sh (someM E p n):=by
 unfold someM
 exact Sh.here.then fun _=>Sh.peek.then fun x=>(Sh.need _).then fun _=>(Sh.someL p n).then fun _=>Sh.here.then fun _=>Sh.ret _
theorem Sh.whole (n:Nat):Sh (wholeM E n):=by unfold wholeM;exact (Sh.some _ _).then fun _=>Sh.ret _
theorem Sh.count:Sh (countM E):=by unfold countM;exact Sh.peek.then fun x=>Sh.ite (Sh.whole _) (Sh.whole _)
theorem Sh.bytes (n:Nat):Sh (bytesM E n):=fun s d=>by
 unfold bytesM
 rw [St.up_k]
 by_cases h:E.e - s.k < n
 ·rw [if_pos h,if_pos h];exact ⟨fun a s' e=>(by cases e),fun y e _=>by cases e;rfl⟩
 ·rw [if_neg h,if_neg h];exact ⟨fun a s' e=>by cases e;rfl,fun y e=>by cases e⟩
theorem Sh.line (w:List Nat) (a b:Nat):Sh (lineM E w a b):=by
 unfold lineM
 exact (Sh.word _).then fun _=>Sh.count.then fun n=>(Sh.need _).then fun _=>(Sh.word _).then fun _=>Sh.ret _
theorem Sh.places:∀ n,Sh (placesM E n)
 | 0=>by unfold placesM;exact Sh.ret _
 | n+1=>by unfold placesM;exact (Sh.line _ _ _).then fun p=>(Sh.places n).then fun l=>Sh.ret _
theorem Sh.table (a:Nat):Sh (tableM E a):=by
 unfold tableM
 exact (Sh.line _ _ _).then fun n=>(Sh.places n).then fun l=>(Sh.line _ _ _).then fun r=>(Sh.line _ _ _).then fun _=>(Sh.word _).then fun _=>Sh.at (g:=fun k=>(needM E (k == E.e)).then fun _=>Rdr.ret (l,r)) fun k=>(Sh.need _).then fun _=>Sh.ret _
theorem Sh.blanks:∀ n,Sh (blanksM E n)
 | 0=>by unfold blanksM;exact Sh.no _
 | n+1=>by unfold blanksM;exact Sh.peek.then fun x=>Sh.ite (Sh.adv.then fun _=>Sh.blanks n) (Sh.ret _)
theorem Sh.next:Sh (nextM E):=by unfold nextM;exact (Sh.blanks _).then fun _=>Sh.peek
theorem Sh.textL:∀ n,Sh (Go.Proofs.YtgffljllfenhkaaGreatDoor.textL E n)
 | 0=>by unfold Go.Proofs.YtgffljllfenhkaaGreatDoor.textL;exact Sh.no _
 | n+1=>by
  unfold Go.Proofs.YtgffljllfenhkaaGreatDoor.textL
  exact Sh.peek.then fun x=>Sh.ite (Sh.ret _) (Sh.peek.then fun x=>(Sh.need _).then fun _=>Sh.peek.then fun x=>(Sh.ite (Sh.adv.then fun _=>Sh.peek.then fun x=>Sh.need _) (Sh.ret _)).then fun _=>Sh.adv.then fun _=>Sh.textL n)
theorem Sh.text:Sh (textM E):=by
 unfold textM
 exact (Sh.word _).then fun _=>Sh.here.then fun _=>(Sh.textL _).then fun _=>(Sh.word _).then fun _=>Sh.here.then fun _=>Sh.ret _
theorem Sh.name:Sh (nameM E):=by unfold nameM;exact (Sh.word _).then fun _=>Sh.some _ _
theorem Sh.num:Sh (numM E):=by
 unfold numM
 exact Sh.peek.then fun x=>(Sh.ite Sh.adv (Sh.ret _)).then fun _=>(Sh.some _ _).then fun ti=>Sh.peek.then fun y=>Sh.ite (Sh.adv.then fun _=>(Sh.some _ _).then fun tf=>Sh.ret _) (Sh.ret _)
theorem Sh.value:∀ n,Sh (valueM E n)∧(∀ l,Sh (elemsM E n l))∧(∀ l,Sh (keysM E n l))
 | 0=>⟨by rw [valueM];exact Sh.no _,fun l=>by rw [elemsM];exact Sh.no _,fun l=>by rw [keysM];exact Sh.no _⟩
 | n+1=>by
  obtain ⟨hv,hE,hK⟩:=Sh.value n
  refine ⟨?_,fun l=>?_,fun l=>?_⟩
  ·rw [valueM]
   refine Sh.next.then fun x=>Sh.ite ((Sh.word _).then fun _=>Sh.ret _) (Sh.ite ((Sh.word _).then fun _=>Sh.ret _) (Sh.ite ((Sh.word _).then fun _=>Sh.ret _) (Sh.ite (Sh.text.then fun _=>Sh.ret _) (Sh.ite (Sh.name.then fun _=>Sh.ret _) ?_))))
   refine Sh.ite ((Sh.word _).then fun _=>(Sh.whole _).then fun _=>Sh.ret _) (Sh.ite ?_ (Sh.ite ?_ (Sh.num.then fun _=>Sh.ret _)))
   ·exact Sh.enter.then fun _=>(Sh.word _).then fun _=>(hE _).then fun _=>(Sh.word _).then fun _=>Sh.leave.then fun _=>Sh.ret _
   ·exact Sh.enter.then fun _=>(Sh.word _).then fun _=>(hK _).then fun _=>(Sh.word _).then fun _=>Sh.leave.then fun _=>Sh.ret _
  ·rw [elemsM]
   exact Sh.next.then fun x=>Sh.ite (Sh.ret _) (hv.then fun v=>hE _)
  ·rw [keysM]
   exact Sh.next.then fun x=>Sh.ite (Sh.ret _) (Sh.here.then fun p=>Sh.name.then fun a=>(Sh.twice _ _).then fun _=>hv.then fun v=>hK _)
theorem Sh.stream:Sh (streamM E):=by
 unfold streamM
 exact (Sh.word _).then fun _=>Sh.next.then fun _=>Sh.count.then fun n=>(Sh.word _).then fun _=>Sh.bytes n
theorem Sh.object (num:Nat):Sh (objectM E num):=by
 unfold objectM
 exact Sh.here.then fun p=>(Sh.word _).then fun _=>Sh.peek.then fun x=>(Sh.need _).then fun _=>(Sh.value _).1.then fun v=>Sh.next.then fun y=>(Sh.ite ((Sh.need _).then fun _=>Sh.stream.then fun t=>Sh.ret _) (Sh.ret _)).then fun hs=>
  Sh.next.then fun _=>(Sh.word _).then fun _=>Sh.here.then fun q=>Sh.ret _
theorem bits_up (t:St) (n d:Nat) (h:n≤t.b):(t.up d).bits n=(t.bits n).up d:=by
 have:t.b+d - n=t.b - n+d:=by omega
 simp only [St.up,St.bits,this]
theorem Sh.numX (n:Nat):Sh (Go.Proofs.YtgffljllfenhkaaGreatDoor.numX V n):=fun s d=>by
 unfold Go.Proofs.YtgffljllfenhkaaGreatDoor.numX
 rw [St.up_k,St.up_b]
 by_cases h:n≤s.b∧s.k+n≤8 * V.s.size
 ·rw [if_pos h,if_pos (by omega)]
  exact ⟨fun a s' e=>by cases e;rw [bits_up _ _ _ h.1],fun y e=>by cases e⟩
 ·rw [if_neg h]
  by_cases h2:s.b≤8 * V.s.size - s.k
  ·rw [if_pos h2];exact ⟨fun a s' e=>(by cases e),fun y e hy=>by cases e;exact absurd rfl hy⟩
  ·rw [if_neg h2,if_neg (by omega),if_neg (by omega)];exact ⟨fun a s' e=>(by cases e),fun y e _=>by cases e;rfl⟩
theorem Sh.bitX:Sh (Go.Proofs.YtgffljllfenhkaaGreatDoor.bitX V):=fun s d=>by
 unfold Go.Proofs.YtgffljllfenhkaaGreatDoor.bitX
 rw [St.up_k,St.up_b]
 by_cases h:s.b < 1
 ·rw [if_pos h];exact ⟨fun a s' e=>(by cases e),fun y e hy=>by cases e;exact absurd rfl hy⟩
 ·have h':¬ s.b+d < 1:=by omega
  rw [if_neg h,if_neg h']
  by_cases h2:8 * V.s.size≤s.k
  ·rw [if_pos h2,if_pos h2];exact ⟨fun a s' e=>(by cases e),fun y e _=>by cases e;rfl⟩
  ·rw [if_neg h2,if_neg h2];exact ⟨fun a s' e=>by cases e;rw [bits_up _ _ _ (by omega)],fun y e=>by cases e⟩
theorem Sh.decX (l:List Nat):∀ (r above:Nat),Sh (Go.Proofs.YtgffljllfenhkaaGreatDoor.decX V l r above)
 | 0,above=>by unfold Go.Proofs.YtgffljllfenhkaaGreatDoor.decX;exact Sh.no _
 | r+1,above=>by unfold Go.Proofs.YtgffljllfenhkaaGreatDoor.decX;exact Sh.bitX.then fun x=>Sh.ite (Sh.ret _) (Sh.decX l r _)
theorem Sh.signX (l:List Nat):Sh (Go.Proofs.YtgffljllfenhkaaGreatDoor.signX V l):=Sh.decX l 15 0
theorem Sh.demandX (c:Bool):Sh (Go.Proofs.YtgffljllfenhkaaGreatDoor.demandX V c):=fun s d=>by
 unfold Go.Proofs.YtgffljllfenhkaaGreatDoor.demandX
 cases c
 ·exact ⟨fun a s' e=>(by cases e),fun y e _=>by cases e;rfl⟩
 ·exact ⟨fun a s' e=>by cases e;rfl,fun y e=>by cases e⟩
theorem Sh.putX (out:List UInt8) (c:UInt8):Sh (Go.Proofs.YtgffljllfenhkaaGreatDoor.putX V out c):=fun s d=>by
 unfold Go.Proofs.YtgffljllfenhkaaGreatDoor.putX
 rw [St.up_b]
 by_cases h:s.b < 1
 ·rw [if_pos h];exact ⟨fun a s' e=>(by cases e),fun y e hy=>by cases e;exact absurd rfl hy⟩
 ·have h':¬ s.b+d < 1:=by omega
  rw [if_neg h,if_neg h']
  by_cases h2:out.length < 2000
  ·rw [if_pos h2,if_pos h2]
   refine ⟨fun a s' e=>?_,fun y e=>by cases e⟩
   cases e
   have:s.b+d - 1=s.b - 1+d:=by omega
   simp only [St.up,this]
  ·rw [if_neg h2,if_neg h2];exact ⟨fun a s' e=>(by cases e),fun y e _=>by cases e;rfl⟩
theorem Sh.copyNX (back:Nat):∀ (n:Nat) (out:List UInt8),Sh (Go.Proofs.YtgffljllfenhkaaGreatDoor.copyNX V back n out)
 | 0,out=>by unfold Go.Proofs.YtgffljllfenhkaaGreatDoor.copyNX;exact Sh.ret _
 | n+1,out=>by unfold Go.Proofs.YtgffljllfenhkaaGreatDoor.copyNX;exact (Sh.putX _ _).then fun o=>Sh.copyNX back n o
theorem Sh.storeNX:∀ (n:Nat) (out:List UInt8),Sh (Go.Proofs.YtgffljllfenhkaaGreatDoor.storeNX V n out)
 | 0,out=>by unfold Go.Proofs.YtgffljllfenhkaaGreatDoor.storeNX;exact Sh.ret _
 | n+1,out=>by unfold Go.Proofs.YtgffljllfenhkaaGreatDoor.storeNX;exact (Sh.numX 8).then fun x=>(Sh.putX _ _).then fun o=>Sh.storeNX n o
theorem Sh.storedX (out:List UInt8):Sh (Go.Proofs.YtgffljllfenhkaaGreatDoor.storedX V out):=by
 unfold Go.Proofs.YtgffljllfenhkaaGreatDoor.storedX skipX
 exact (Sh.at (g:=fun k=>Go.Proofs.YtgffljllfenhkaaGreatDoor.numX V ((8 - k % 8) % 8)) fun k=>Sh.numX _).then fun _=>(Sh.numX 16).then fun n=>(Sh.numX 16).then fun m=>(Sh.demandX _).then fun _=>Sh.storeNX n out
theorem Sh.blkX (l dl:List Nat):∀ (f:Nat) (out:List UInt8),Sh (Go.Proofs.YtgffljllfenhkaaGreatDoor.blkX V l dl f out)
 | 0,out=>by unfold Go.Proofs.YtgffljllfenhkaaGreatDoor.blkX;exact Sh.no _
 | f+1,out=>by
  unfold Go.Proofs.YtgffljllfenhkaaGreatDoor.blkX copyLX distX copyBX
  exact (Sh.signX l).then fun g=>Sh.ite ((Sh.putX _ _).then fun o=>Sh.blkX l dl f o) (Sh.ite (Sh.ret _) (((Sh.demandX _).then fun _=>(Sh.numX _).then fun x=>Sh.ret _).then fun n=>(Sh.signX dl).then fun d=>
   ((Sh.demandX _).then fun _=>(Sh.numX _).then fun x=>Sh.ret _).then fun back=>((Sh.demandX _).then fun _=>Sh.copyNX _ _ _).then fun o=>Sh.blkX l dl f o))
theorem Sh.readX (cl:List Nat) (many:Nat):∀ (f:Nat) (l:List Nat),Sh (Go.Proofs.YtgffljllfenhkaaGreatDoor.readX V cl many f l)
 | 0,l=>by unfold Go.Proofs.YtgffljllfenhkaaGreatDoor.readX;exact Sh.no _
 | f+1,l=>by
  unfold Go.Proofs.YtgffljllfenhkaaGreatDoor.readX
  exact Sh.ite ((Sh.signX cl).then fun g=>Sh.ite ((Sh.demandX _).then fun _=>(Sh.numX _).then fun n=>Sh.readX cl many f _) (Sh.ite ((Sh.numX _).then fun n=>Sh.readX cl many f _) (Sh.ite ((Sh.numX _).then fun n=>Sh.readX cl many f _) (Sh.readX cl many f _))))
   ((Sh.demandX _).then fun _=>Sh.ret _)
theorem Sh.clensX:∀ (n i:Nat) (l:List Nat),Sh (Go.Proofs.YtgffljllfenhkaaGreatDoor.clensX V n i l)
 | 0,i,l=>by unfold Go.Proofs.YtgffljllfenhkaaGreatDoor.clensX;exact Sh.ret _
 | n+1,i,l=>by unfold Go.Proofs.YtgffljllfenhkaaGreatDoor.clensX;exact (Sh.numX 3).then fun x=>Sh.clensX n _ _
theorem Sh.chargeX (n:Nat):Sh (Go.Proofs.YtgffljllfenhkaaGreatDoor.chargeX n):=Sh.charge n
theorem Sh.ownX:Sh (Go.Proofs.YtgffljllfenhkaaGreatDoor.ownX V):=by
 unfold Go.Proofs.YtgffljllfenhkaaGreatDoor.ownX codeLX
 exact (Sh.numX 5).then fun a=>(Sh.numX 5).then fun b=>(Sh.numX 4).then fun n=>(Sh.demandX _).then fun _=>((Sh.clensX _ _ _).then fun l=>(Sh.chargeX _).then fun _=>(Sh.demandX _).then fun _=>Sh.ret _).then fun cl=>
  (Sh.readX cl _ _ []).then fun all=>(Sh.chargeX _).then fun _=>(Sh.chargeX _).then fun _=>(Sh.demandX _).then fun _=>(Sh.demandX _).then fun _=>(Sh.demandX _).then fun _=>Sh.ret _
theorem Sh.blockX (out:List UInt8):Sh (Go.Proofs.YtgffljllfenhkaaGreatDoor.blockX V out):=by
 unfold Go.Proofs.YtgffljllfenhkaaGreatDoor.blockX signsX fixX
 exact (Sh.numX 2).then fun k=>Sh.ite (Sh.storedX out) (Sh.ite (((Sh.chargeX _).then fun _=>(Sh.chargeX _).then fun _=>Sh.ret _).then fun c=>Sh.blkX _ _ _ _) (Sh.ite (Sh.ownX.then fun c=>Sh.blkX _ _ _ _) (Sh.no _)))
theorem Sh.blocksX:∀ (f:Nat) (out:List UInt8),Sh (Go.Proofs.YtgffljllfenhkaaGreatDoor.blocksX V f out)
 | 0,out=>by unfold Go.Proofs.YtgffljllfenhkaaGreatDoor.blocksX;exact Sh.no _
 | f+1,out=>by unfold Go.Proofs.YtgffljllfenhkaaGreatDoor.blocksX;exact (Sh.numX 1).then fun last=>(Sh.blockX out).then fun o=>Sh.ite (Sh.ret _) (Sh.blocksX f o)
theorem Sh.unpackX:Sh (Go.Proofs.YtgffljllfenhkaaGreatDoor.unpackX V):=by
 unfold Go.Proofs.YtgffljllfenhkaaGreatDoor.unpackX
 exact (Sh.blocksX 80000 []).then fun out=>Sh.at (g:=fun k=>(Go.Proofs.YtgffljllfenhkaaGreatDoor.demandX V (decide ((k+7) / 8=V.s.size))).then fun _=>Rdr.ret out) fun k=>(Sh.demandX _).then fun _=>Sh.ret _
end Go.Proofs.YtgffljllfenhkaaGreatDoor
end
section
namespace Go.Proofs.YtgffljllfenhkaaGreatDoor
def ShR {α:Type} (f:Nat→Res α):Prop:=∀ b d,(∀ a b',f b=.ok a b'→f (b+d)=.ok a (b'+d))∧∀ y,f b=.no y→y.1≠12→f (b+d)=.no y
theorem ShR.ret {α:Type} (a:α):ShR (fun b=>Res.ok a b):=fun b d=>⟨fun a' b' e=>by cases e;rfl,fun y e=>by cases e⟩
theorem ShR.no {α:Type} (y:Why):ShR (fun _=>Res.no y:Nat→Res α):=fun b d=>⟨fun a' b' e=>(by cases e),fun y e _=>by cases e;rfl⟩
theorem ShR.of {α β:Type} {F:Nat→Res β} {f:Nat→Res α} {g:α→Nat→Res β} (hf:ShR f) (hg:∀ a,ShR (g a)) (hok:∀ b a b',f b=.ok a b'→F b=g a b') (hno:∀ b y,f b=.no y→F b=.no y):ShR F:=fun b d=>by
 obtain ⟨h1,h2⟩:=hf b d
 rcases hq:f b with ⟨a,b'⟩ | y
 ·rw [hok b a b' hq,hok (b+d) a (b'+d) (h1 a b' hq)]
  exact hg a b' d
 ·rw [hno b y hq]
  exact ⟨fun a b' e=>(by cases e),fun y' e hy=>by cases e;exact hno _ _ (h2 y hq hy)⟩
theorem ShR.ite {α:Type} {c:Prop} [Decidable c] {f g:Nat→Res α} (h1:ShR f) (h2:ShR g):ShR (fun b=>if c then f b else g b):=by
 by_cases hc:c
 ·simp only [if_pos hc];exact h1
 ·simp only [if_neg hc];exact h2
theorem ShR.pay {α:Type} {g:Nat→Res α} (n:Nat) (h:ShR g):ShR (fun b=>if b < n then .no (12,0) else g (b - n)):=fun b d=>by
 by_cases hc:b < n
 ·simp only [if_pos hc]
  exact ⟨fun a b' e=>(by cases e),fun y e hy=>by cases e;exact absurd rfl hy⟩
 ·have hc':¬ b+d < n:=by omega
  have e:b+d - n=b - n+d:=by omega
  simp only [if_neg hc,if_neg hc',e]
  exact h (b - n) d
theorem ShR.rdr {α:Type} {m:Rdr α} (h:Sh m) (k:Nat):ShR (fun b=>Out.res (m ⟨b,k,0,0,0⟩)):=fun b d=>by
 obtain ⟨h1,h2⟩:=h ⟨b,k,0,0,0⟩ d
 refine ⟨fun a b' e=>?_,fun y e hy=>?_⟩
 ·rcases hq:m ⟨b,k,0,0,0⟩ with ⟨a1,s1⟩ | y
  ·have e2:Out.res (m ⟨b,k,0,0,0⟩)=.ok a b':=e
   rw [hq] at e2
   cases e2
   show Out.res (m (St.up ⟨b,k,0,0,0⟩ d))=_
   rw [h1 _ _ hq];rfl
  ·have e2:Out.res (m ⟨b,k,0,0,0⟩)=.ok a b':=e
   rw [hq] at e2;cases e2
 ·rcases hq:m ⟨b,k,0,0,0⟩ with ⟨a1,s1⟩ | y'
  ·have e2:Out.res (m ⟨b,k,0,0,0⟩)=.no y:=e
   rw [hq] at e2;cases e2
  ·have e2:Out.res (m ⟨b,k,0,0,0⟩)=.no y:=e
   rw [hq] at e2
   cases e2
   show Out.res (m (St.up ⟨b,k,0,0,0⟩ d))=_
   rw [h2 _ hq hy];rfl
theorem ShR.tab (f:ByteArray):ShR (tabR f):=by
 unfold tabR
 exact ShR.pay (g:=fun b=>if xrefAt f < 0 then .no (4,0) else Out.res (Rdr.then (tableM (tabEnv f) (xrefAt f).toNat) (fun x=>Rdr.ret ((xrefAt f).toNat,x.1,x.2)) ⟨b,(xrefAt f).toNat,0,0,0⟩)) f.size (ShR.ite (ShR.no _) (ShR.rdr ((Sh.table _).then fun x=>Sh.ret _) _))
theorem ShR.obj (f:ByteArray) (at_ place num:Nat):ShR (objR f at_ place num):=by
 unfold objR
 refine ShR.ite (ShR.ret _) (ShR.ite (ShR.no _) (fun b d=>?_))
 obtain ⟨h1,h2⟩:=Sh.object (E:=objEnv f at_) num ⟨b,place,0,0,0⟩ d
 have e1:(⟨b+d,place,0,0,0⟩:St)=St.up ⟨b,place,0,0,0⟩ d:=rfl
 rw [e1]
 rcases hq:objectM (objEnv f at_) num ⟨b,place,0,0,0⟩ with ⟨a1,s1⟩ | y
 ·rw [h1 _ _ hq]
  simp only [objFin]
  by_cases c1:0 < s1.d
  ·rw [if_pos c1,if_pos (show 0 < (s1.up d).d from c1)];exact ⟨fun a b' e=>(by cases e),fun y e _=>by cases e;rfl⟩
  ·rw [if_neg c1,if_neg (show ¬ 0 < (s1.up d).d from c1)]
   by_cases c2:0 < s1.t
   ·rw [if_pos c2,if_pos (show 0 < (s1.up d).t from c2)];exact ⟨fun a b' e=>(by cases e),fun y e _=>by cases e;rfl⟩
   ·rw [if_neg c2,if_neg (show ¬ 0 < (s1.up d).t from c2)];exact ⟨fun a b' e=>by cases e;rfl,fun y e=>by cases e⟩
 ·exact ⟨fun a b' e=>(by cases e),fun y' e hy=>by cases e;rw [h2 _ hq hy];rfl⟩
theorem ShR.objs (f:ByteArray) (at_:Nat):∀ (ps:List Nat) (num:Nat),ShR (objsR f at_ ps num)
 | [],num=>fun b d=>by simp only [objsR];exact ShR.ret _ b d
 | p::ps,num=>by
  refine ShR.of (f:=objR f at_ p num) (g:=fun o b'=>match objsR f at_ ps (num+1) b' with
   | .no y=>.no y
   | .ok l b''=>.ok (o::l) b'') (ShR.obj _ _ _ _) (fun o=>?_) (fun b a b' h=>by rw [objsR_cons_ok h];rfl) (fun b y h=>by rw [objsR_cons_no h])
  exact ShR.of (f:=objsR f at_ ps (num+1)) (g:=fun l b=>.ok (o::l) b) (ShR.objs f at_ ps (num+1)) (fun l=>ShR.ret _) (fun b a b' h=>by rw [h]) (fun b y h=>by rw [h])
theorem ShR.overI (o:Obj1) (num:Nat):∀ (l:List Obj1),ShR (Go.Proofs.YtgffljllfenhkaaGreatDoor.overI o num l)
 | []=>fun b d=>by simp only [Go.Proofs.YtgffljllfenhkaaGreatDoor.overI];exact ShR.ret _ b d
 | u::l=>by
  intro b d
  simp only [Go.Proofs.YtgffljllfenhkaaGreatDoor.overI]
  refine ShR.pay (g:=fun b=>if o.place < u.fin∧u.place < o.fin then .no (8,num) else Go.Proofs.YtgffljllfenhkaaGreatDoor.overI o num l b) 1 (ShR.ite (ShR.no _) (ShR.overI o num l)) b d
theorem ShR.overO (os:List Obj1):∀ (m:Nat),ShR (Go.Proofs.YtgffljllfenhkaaGreatDoor.overO os m)
 | 0=>fun b d=>by simp only [Go.Proofs.YtgffljllfenhkaaGreatDoor.overO];exact ShR.ret _ b d
 | m+1=>by
  intro b d
  simp only [Go.Proofs.YtgffljllfenhkaaGreatDoor.overO]
  rcases os[os.length - (m+1)]? with _ | o
  ·exact ShR.ret _ b d
  ·refine ShR.of (F:=fun b=>match (Go.Proofs.YtgffljllfenhkaaGreatDoor.overI o (os.length - (m+1)) (os.take (os.length - (m+1))) b) with
    | .no y=>.no y
    | .ok _ b'=>Go.Proofs.YtgffljllfenhkaaGreatDoor.overO os m b') (f:=Go.Proofs.YtgffljllfenhkaaGreatDoor.overI o (os.length - (m+1)) (os.take (os.length - (m+1)))) (g:=fun _ b=>Go.Proofs.YtgffljllfenhkaaGreatDoor.overO os m b) (ShR.overI _ _ _) (fun _=>ShR.overO os m) (fun b a b' h=>by simp only [h]) (fun b y h=>by simp only [h]) b d
theorem ShR.unpack (s:ByteArray) (n:Nat):ShR (unpackU s n):=by
 refine ShR.of (f:=fun b=>Out.res (unpackX ⟨s,n,0⟩ ⟨b,0,0,0,0⟩)) (g:=fun out b=>.ok (⟨out.toArray⟩:ByteArray) b) (ShR.rdr Sh.unpackX 0) (fun _=>ShR.ret _) (fun b a b' h=>?_) (fun b y h=>?_)
 ·unfold unpackU
  rcases hq:unpackX ⟨s,n,0⟩ ⟨b,0,0,0,0⟩ with ⟨o,t⟩ | y
  ·rw [hq] at h;cases h;rfl
  ·rw [hq] at h;cases h
 ·unfold unpackU
  rcases hq:unpackX ⟨s,n,0⟩ ⟨b,0,0,0,0⟩ with ⟨o,t⟩ | y
  ·rw [hq] at h;cases h
  ·rw [hq] at h;cases h;rfl
theorem ShR.unpS (o:Obj1) (k:Nat):ShR (Go.Proofs.YtgffljllfenhkaaGreatDoor.unpS unpackU o k):=by
 unfold Go.Proofs.YtgffljllfenhkaaGreatDoor.unpS
 refine ShR.ite ?_ (ShR.ret _)
 exact ShR.of (f:=unpackU o.stream k) (g:=fun t b=>.ok { o with stream:=t } b) (ShR.unpack _ _) (fun _=>ShR.ret _) (fun b a b' h=>by simp only [h]) (fun b y h=>by simp only [h])
theorem ShR.unpL:∀ (l:List Obj1) (k:Nat),ShR (Go.Proofs.YtgffljllfenhkaaGreatDoor.unpL unpackU l k)
 | [],k=>fun b d=>by simp only [Go.Proofs.YtgffljllfenhkaaGreatDoor.unpL];exact ShR.ret _ b d
 | o::l,k=>by
  refine ShR.of (f:=Go.Proofs.YtgffljllfenhkaaGreatDoor.unpS unpackU o k) (g:=fun o' b'=>match Go.Proofs.YtgffljllfenhkaaGreatDoor.unpL unpackU l (k+1) b' with
   | .no y=>.no y
   | .ok l' b''=>.ok (o'::l') b'') (ShR.unpS _ _) (fun o'=>?_) (fun b a b' h=>by simp only [Go.Proofs.YtgffljllfenhkaaGreatDoor.unpL,h] <;> rfl) (fun b y h=>by simp only [Go.Proofs.YtgffljllfenhkaaGreatDoor.unpL,h])
  exact ShR.of (f:=Go.Proofs.YtgffljllfenhkaaGreatDoor.unpL unpackU l (k+1)) (g:=fun l' b=>.ok (o'::l') b) (ShR.unpL l (k+1)) (fun _=>ShR.ret _) (fun b a b' h=>by simp only [h]) (fun b y h=>by simp only [h])
theorem ShR.doc (f:ByteArray):ShR (docR unpackU f):=by
 unfold docR
 refine ShR.ite (ShR.no _) (ShR.ite (ShR.no _) ?_)
 refine ShR.of (f:=tabR f) (g:=fun x b1=>match objsR f x.1 x.2.1 1 b1 with
  | .no y=>.no y
  | .ok l b2=>match overR ({}::l) b2 with
   | .no y=>.no y
   | .ok _ b3=>match Go.Proofs.YtgffljllfenhkaaGreatDoor.unpL unpackU ({}::l) 0 b3 with
    | .no y=>.no y
    | .ok os b4=>if tnameAt os x.2.2 == rootB then .ok (x.1,x.2.1,x.2.2,os) b4 else .no (10,0)) (ShR.tab f) (fun x=>?_) (fun b a b' h=>by simp only [h] <;> rfl) (fun b y h=>by simp only [h])
 refine ShR.of (f:=objsR f x.1 x.2.1 1) (g:=fun l b2=>match overR ({}::l) b2 with
   | .no y=>.no y
   | .ok _ b3=>match Go.Proofs.YtgffljllfenhkaaGreatDoor.unpL unpackU ({}::l) 0 b3 with
    | .no y=>.no y
    | .ok os b4=>if tnameAt os x.2.2 == rootB then .ok (x.1,x.2.1,x.2.2,os) b4 else .no (10,0)) (ShR.objs _ _ _ _) (fun l=>?_) (fun b a b' h=>by simp only [h]) (fun b y h=>by simp only [h])
 refine ShR.of (f:=overR ({}::l)) (g:=fun _ b3=>match Go.Proofs.YtgffljllfenhkaaGreatDoor.unpL unpackU ({}::l) 0 b3 with
    | .no y=>.no y
    | .ok os b4=>if tnameAt os x.2.2 == rootB then .ok (x.1,x.2.1,x.2.2,os) b4 else .no (10,0)) (by unfold overR;exact ShR.overO _ _) (fun _=>?_) (fun b a b' h=>by simp only [h]) (fun b y h=>by simp only [h])
 exact ShR.of (f:=Go.Proofs.YtgffljllfenhkaaGreatDoor.unpL unpackU ({}::l) 0) (g:=fun os b4=>if tnameAt os x.2.2 == rootB then .ok (x.1,x.2.1,x.2.2,os) b4 else .no (10,0)) (ShR.unpL _ _) (fun os=>ShR.ite (ShR.ret _) (ShR.no _)) (fun b a b' h=>by simp only [h]) (fun b y h=>by simp only [h])
theorem ShR.put:∀ (ts:List ByteArray) (out:List UInt8),ShR (putR ts out)
 | [],out=>fun b d=>by simp only [putR];exact ShR.ret _ b d
 | t::ts,out=>by
  intro b d
  simp only [putR]
  exact ShR.pay (g:=fun b=>if 9000 - out.length < t.size then .no (11,0) else putR ts (out++t.data.toList) b) t.size (ShR.ite (ShR.no _) (ShR.put ts _)) b d
theorem ShR.elemsW (nt:Bool→Nat→Nat→ByteArray):∀ (l:List Val) (i:Nat) (out:List UInt8),ShR (Go.Proofs.YtgffljllfenhkaaGreatDoor.elemsW nt i l out)
 | [],i,out=>fun b d=>by simp only [Go.Proofs.YtgffljllfenhkaaGreatDoor.elemsW];exact ShR.ret _ b d
 | v::l,i,out=>by
  have h0:ShR (fun b=>if 0 < i then putR [spB] out b else .ok out b):=ShR.ite (ShR.put _ _) (ShR.ret _)
  refine ShR.of (g:=fun o1 b1=>match putR ((leafT nt v).getD []) o1 b1 with
   | .no y=>.no y
   | .ok o2 b2=>Go.Proofs.YtgffljllfenhkaaGreatDoor.elemsW nt (i+1) l o2 b2) h0 (fun o1=>?_) (fun b a b' h=>by simp only [Go.Proofs.YtgffljllfenhkaaGreatDoor.elemsW,h] <;> rfl) (fun b y h=>by simp only [Go.Proofs.YtgffljllfenhkaaGreatDoor.elemsW,h])
  exact ShR.of (f:=putR ((leafT nt v).getD []) o1) (g:=fun o2 b2=>Go.Proofs.YtgffljllfenhkaaGreatDoor.elemsW nt (i+1) l o2 b2) (ShR.put _ _) (fun o2=>ShR.elemsW nt l (i+1) o2) (fun b a b' h=>by simp only [h]) (fun b y h=>by simp only [h])
theorem ShR.valW (nt:Bool→Nat→Nat→ByteArray) (v:Val) (out:List UInt8):ShR (Go.Proofs.YtgffljllfenhkaaGreatDoor.valW nt v out):=by
 cases v
 case arr l=>
  show ShR (arrW nt l out)
  unfold arrW
  refine ShR.of (f:=putR [⟨#[91]⟩] out) (g:=fun o1 b1=>match Go.Proofs.YtgffljllfenhkaaGreatDoor.elemsW nt 0 l o1 b1 with
   | .no y=>.no y
   | .ok o2 b2=>putR [⟨#[93]⟩] o2 b2) (ShR.put _ _) (fun o1=>?_) (fun b a b' h=>by simp only [h] <;> rfl) (fun b y h=>by simp only [h])
  exact ShR.of (f:=Go.Proofs.YtgffljllfenhkaaGreatDoor.elemsW nt 0 l o1) (g:=fun o2 b2=>putR [⟨#[93]⟩] o2 b2) (ShR.elemsW nt l 0 o1) (fun o2=>ShR.put _ _) (fun b a b' h=>by simp only [h]) (fun b y h=>by simp only [h])
 all_goals exact ShR.put _ _
theorem ShR.fieldsW (nt:Bool→Nat→Nat→ByteArray):∀ (l:List (ByteArray×Val)) (out:List UInt8),ShR (Go.Proofs.YtgffljllfenhkaaGreatDoor.fieldsW nt l out)
 | [],out=>fun b d=>by simp only [Go.Proofs.YtgffljllfenhkaaGreatDoor.fieldsW];exact ShR.ret _ b d
 | (k,v)::l,out=>by
  refine ShR.of (f:=putR [⟨#[47]⟩,k] out) (g:=fun o1 b1=>match Go.Proofs.YtgffljllfenhkaaGreatDoor.valW nt v o1 b1 with
   | .no y=>.no y
   | .ok o2 b2=>Go.Proofs.YtgffljllfenhkaaGreatDoor.fieldsW nt l o2 b2) (ShR.put _ _) (fun o1=>?_) (fun b a b' h=>by simp only [Go.Proofs.YtgffljllfenhkaaGreatDoor.fieldsW,h] <;> rfl) (fun b y h=>by simp only [Go.Proofs.YtgffljllfenhkaaGreatDoor.fieldsW,h])
  exact ShR.of (f:=Go.Proofs.YtgffljllfenhkaaGreatDoor.valW nt v o1) (g:=fun o2 b2=>Go.Proofs.YtgffljllfenhkaaGreatDoor.fieldsW nt l o2 b2) (ShR.valW nt v o1) (fun o2=>ShR.fieldsW nt l o2) (fun b a b' h=>by simp only [h]) (fun b y h=>by simp only [h])
theorem ShR.objW (nt:Bool→Nat→Nat→ByteArray) (n:Nat) (ty:ByteArray) (l:List (ByteArray×Val)) (st:ByteArray) (out:List UInt8):ShR (Go.Proofs.YtgffljllfenhkaaGreatDoor.objW nt n ty l st out):=by
 unfold Go.Proofs.YtgffljllfenhkaaGreatDoor.objW
 refine ShR.of (f:=putR [itoaB n,⟨#[32,60,60,47,84,121,112,101,47]⟩,ty] out) (g:=fun o1 b1=>match Go.Proofs.YtgffljllfenhkaaGreatDoor.fieldsW nt l o1 b1 with
  | .no y=>.no y
  | .ok o2 b2=>match putR [⟨#[62,62]⟩] o2 b2 with
   | .no y=>.no y
   | .ok o3 b3=>match (if ty=textB then putR [⟨#[126]⟩,itoaB st.size,⟨#[58]⟩,st] o3 b3 else .ok o3 b3) with
    | .no y=>.no y
    | .ok o4 b4=>putR [⟨#[59,10]⟩] o4 b4) (ShR.put _ _) (fun o1=>?_) (fun b a b' h=>by simp only [h] <;> rfl) (fun b y h=>by simp only [h])
 refine ShR.of (f:=Go.Proofs.YtgffljllfenhkaaGreatDoor.fieldsW nt l o1) (g:=fun o2 b2=>match putR [⟨#[62,62]⟩] o2 b2 with
   | .no y=>.no y
   | .ok o3 b3=>match (if ty=textB then putR [⟨#[126]⟩,itoaB st.size,⟨#[58]⟩,st] o3 b3 else .ok o3 b3) with
    | .no y=>.no y
    | .ok o4 b4=>putR [⟨#[59,10]⟩] o4 b4) (ShR.fieldsW nt l o1) (fun o2=>?_) (fun b a b' h=>by simp only [h] <;> rfl) (fun b y h=>by simp only [h])
 refine ShR.of (f:=putR [⟨#[62,62]⟩] o2) (g:=fun o3 b3=>match (if ty=textB then putR [⟨#[126]⟩,itoaB st.size,⟨#[58]⟩,st] o3 b3 else .ok o3 b3) with
    | .no y=>.no y
    | .ok o4 b4=>putR [⟨#[59,10]⟩] o4 b4) (ShR.put _ _) (fun o3=>?_) (fun b a b' h=>by simp only [h] <;> rfl) (fun b y h=>by simp only [h])
 have h0:ShR (fun b3=>if ty=textB then putR [⟨#[126]⟩,itoaB st.size,⟨#[58]⟩,st] o3 b3 else .ok o3 b3):=ShR.ite (ShR.put _ _) (ShR.ret _)
 exact ShR.of (g:=fun o4 b4=>putR [⟨#[59,10]⟩] o4 b4) h0 (fun o4=>ShR.put _ _) (fun b a b' h=>by simp only [h]) (fun b y h=>by simp only [h])
theorem ShR.rowsW:∀ (l:List Nat) (out:List UInt8),ShR (Go.Proofs.YtgffljllfenhkaaGreatDoor.rowsW l out)
 | [],out=>fun b d=>by simp only [Go.Proofs.YtgffljllfenhkaaGreatDoor.rowsW];exact ShR.ret _ b d
 | p::ps,out=>ShR.of (f:=putR [itoaB p,⟨#[10]⟩] out) (g:=fun o1 b1=>Go.Proofs.YtgffljllfenhkaaGreatDoor.rowsW ps o1 b1) (ShR.put _ _) (fun o1=>ShR.rowsW ps o1) (fun b a b' h=>by simp only [Go.Proofs.YtgffljllfenhkaaGreatDoor.rowsW,h]) (fun b y h=>by simp only [Go.Proofs.YtgffljllfenhkaaGreatDoor.rowsW,h])
theorem ShR.tabW (l:List Nat) (out:List UInt8):ShR (Go.Proofs.YtgffljllfenhkaaGreatDoor.tabW l out):=by
 unfold Go.Proofs.YtgffljllfenhkaaGreatDoor.tabW
 refine ShR.of (f:=putR [⟨#[120,114,101,102,32]⟩,itoaB l.length,⟨#[10]⟩] out) (g:=fun o1 b1=>match Go.Proofs.YtgffljllfenhkaaGreatDoor.rowsW l o1 b1 with
  | .no y=>.no y
  | .ok o2 b2=>putR [⟨#[114,111,111,116,32,49,10,97,116,32]⟩,itoaB out.length,⟨#[10,101,110,100,10]⟩] o2 b2) (ShR.put _ _) (fun o1=>?_) (fun b a b' h=>by simp only [h] <;> rfl) (fun b y h=>by simp only [h])
 exact ShR.of (f:=Go.Proofs.YtgffljllfenhkaaGreatDoor.rowsW l o1) (g:=fun o2 b2=>putR [⟨#[114,111,111,116,32,49,10,97,116,32]⟩,itoaB out.length,⟨#[10,101,110,100,10]⟩] o2 b2) (ShR.rowsW l o1) (fun o2=>ShR.put _ _) (fun b a b' h=>by simp only [h]) (fun b y h=>by simp only [h])
theorem ShR.numR (olds:List Nat) (old:Nat):ShR (Go.Proofs.YtgffljllfenhkaaGreatDoor.numR olds old):=by
 unfold Go.Proofs.YtgffljllfenhkaaGreatDoor.numR
 exact ShR.pay (g:=fun b=>match idx olds old with
  | some i=>.ok (i+1,olds) b
  | none=>.ok (olds.length+1,olds++[old]) b) 1 (by rcases idx olds old with _ | i <;> exact ShR.ret _)
theorem ShR.renLeaf (olds:List Nat) (v:Val):ShR (Go.Proofs.YtgffljllfenhkaaGreatDoor.renLeaf olds v):=by
 cases v
 case ref n=>exact ShR.of (f:=Go.Proofs.YtgffljllfenhkaaGreatDoor.numR olds n) (g:=fun p b=>.ok (.ref p.1,p.2) b) (ShR.numR olds n) (fun p=>ShR.ret _) (fun b a b' h=>by unfold Go.Proofs.YtgffljllfenhkaaGreatDoor.renLeaf;simp only [h]) (fun b y h=>by unfold Go.Proofs.YtgffljllfenhkaaGreatDoor.renLeaf;simp only [h])
 all_goals exact ShR.ret _
theorem ShR.renL:∀ (l acc:List Val) (olds:List Nat),ShR (Go.Proofs.YtgffljllfenhkaaGreatDoor.renL l acc olds)
 | [],acc,olds=>fun b d=>by simp only [Go.Proofs.YtgffljllfenhkaaGreatDoor.renL];exact ShR.ret _ b d
 | v::l,acc,olds=>ShR.of (f:=Go.Proofs.YtgffljllfenhkaaGreatDoor.renLeaf olds v) (g:=fun p b=>Go.Proofs.YtgffljllfenhkaaGreatDoor.renL l (acc++[p.1]) p.2 b) (ShR.renLeaf olds v) (fun p=>ShR.renL l _ _) (fun b a b' h=>by simp only [Go.Proofs.YtgffljllfenhkaaGreatDoor.renL,h]) (fun b y h=>by simp only [Go.Proofs.YtgffljllfenhkaaGreatDoor.renL,h])
theorem ShR.renV (olds:List Nat) (v:Val):ShR (Go.Proofs.YtgffljllfenhkaaGreatDoor.renV olds v):=by
 cases v
 case arr l=>exact ShR.of (f:=Go.Proofs.YtgffljllfenhkaaGreatDoor.renL l [] olds) (g:=fun p b=>.ok (.arr p.1,p.2) b) (ShR.renL l [] olds) (fun p=>ShR.ret _) (fun b a b' h=>by unfold Go.Proofs.YtgffljllfenhkaaGreatDoor.renV;simp only [h]) (fun b y h=>by unfold Go.Proofs.YtgffljllfenhkaaGreatDoor.renV;simp only [h])
 all_goals (unfold Go.Proofs.YtgffljllfenhkaaGreatDoor.renV;exact ShR.renLeaf olds _)
theorem ShR.right (os:List Obj1) (r:Rule) (v:Val):ShR (r.right os v):=by
 cases r
 case kids=>exact ShR.pay (g:=fun b=>.ok (Val.arr ((elemsOf v).filter (refTo os pageB)),isArr v) b) (elemsOf v).length (ShR.ret _)
 case next=>exact ShR.pay (g:=fun b=>.ok (v,refTo os pageB v) b) 1 (ShR.ret _)
 case text=>exact ShR.pay (g:=fun b=>.ok (v,refTo os textB v) b) 1 (ShR.ret _)
 all_goals exact ShR.ret _
theorem ShR.keepL (os:List Obj1) (o:Obj1):∀ (rs:List Rule) (acc:List (ByteArray×Val)) (olds:List Nat),ShR (Go.Proofs.YtgffljllfenhkaaGreatDoor.keepL os o rs acc olds)
 | [],acc,olds=>fun b d=>by simp only [Go.Proofs.YtgffljllfenhkaaGreatDoor.keepL];exact ShR.ret _ b d
 | r::rs,acc,olds=>by
  refine ShR.of (f:=r.right os (vget o.v r.key)) (g:=fun p b1=>if p.2=true then (match Go.Proofs.YtgffljllfenhkaaGreatDoor.renV olds p.1 b1 with
   | .no y=>.no y
   | .ok (v',o') b2=>Go.Proofs.YtgffljllfenhkaaGreatDoor.keepL os o rs (acc++[(r.key,v')]) o' b2) else Go.Proofs.YtgffljllfenhkaaGreatDoor.keepL os o rs acc olds b1) (ShR.right _ _ _) (fun p=>ShR.ite ?_ (ShR.keepL os o rs _ _)) (fun b a b' h=>?_) (fun b y h=>by simp only [Go.Proofs.YtgffljllfenhkaaGreatDoor.keepL,h])
  ·exact ShR.of (f:=Go.Proofs.YtgffljllfenhkaaGreatDoor.renV olds p.1) (g:=fun q b2=>Go.Proofs.YtgffljllfenhkaaGreatDoor.keepL os o rs (acc++[(r.key,q.1)]) q.2 b2) (ShR.renV _ _) (fun q=>ShR.keepL os o rs _ _) (fun b a b' h=>by simp only [h]) (fun b y h=>by simp only [h])
  ·obtain ⟨v,c⟩:=a
   cases c
   ·simp only [Go.Proofs.YtgffljllfenhkaaGreatDoor.keepL,h,Bool.false_eq_true,if_false]
   ·simp only [Go.Proofs.YtgffljllfenhkaaGreatDoor.keepL,h,if_true]
    rfl
theorem ShR.reachW (nt:Bool→Nat→Nat→ByteArray) (os:List Obj1):∀ (f i:Nat) (olds places:List Nat) (out:List UInt8),ShR (Go.Proofs.YtgffljllfenhkaaGreatDoor.reachW nt os f i olds places out)
 | 0,i,olds,places,out=>fun b d=>by simp only [Go.Proofs.YtgffljllfenhkaaGreatDoor.reachW];exact ShR.no _ b d
 | f+1,i,olds,places,out=>by
  intro b d
  simp only [Go.Proofs.YtgffljllfenhkaaGreatDoor.reachW]
  rcases olds[i]? with _ | n
  ·exact ShR.ret _ b d
  ·simp only
   rcases os[n]? with _ | o
   ·exact ShR.no _ b d
   ·simp only
    refine ShR.of (F:=fun b=>match Go.Proofs.YtgffljllfenhkaaGreatDoor.keepL os o (rulesOf (tname o)) [] olds b with
     | .no y=>.no y
     | .ok (fs,olds') b1=>match Go.Proofs.YtgffljllfenhkaaGreatDoor.objW nt (i+1) (tname o) fs o.stream out b1 with
      | .no y=>.no y
      | .ok out' b2=>Go.Proofs.YtgffljllfenhkaaGreatDoor.reachW nt os f (i+1) olds' (places++[out.length]) out' b2) (f:=Go.Proofs.YtgffljllfenhkaaGreatDoor.keepL os o (rulesOf (tname o)) [] olds) (g:=fun p b1=>match Go.Proofs.YtgffljllfenhkaaGreatDoor.objW nt (i+1) (tname o) p.1 o.stream out b1 with
      | .no y=>.no y
      | .ok out' b2=>Go.Proofs.YtgffljllfenhkaaGreatDoor.reachW nt os f (i+1) p.2 (places++[out.length]) out' b2) (ShR.keepL _ _ _ _ _) (fun p=>?_) (fun b a b' h=>by simp only [h] <;> rfl) (fun b y h=>by simp only [h]) b d
    exact ShR.of (f:=Go.Proofs.YtgffljllfenhkaaGreatDoor.objW nt (i+1) (tname o) p.1 o.stream out) (g:=fun out' b2=>Go.Proofs.YtgffljllfenhkaaGreatDoor.reachW nt os f (i+1) p.2 (places++[out.length]) out' b2) (ShR.objW _ _ _ _ _ _) (fun out'=>ShR.reachW nt os f _ _ _ _) (fun b a b' h=>by simp only [h]) (fun b y h=>by simp only [h])
theorem ShR.write (nt:Bool→Nat→Nat→ByteArray) (os:List Obj1) (root:Nat):ShR (writeR nt os root):=by
 unfold writeR
 refine ShR.of (f:=putR [headB] []) (g:=fun out b1=>match Go.Proofs.YtgffljllfenhkaaGreatDoor.reachW nt os 40 0 [root] [] out b1 with
  | .no y=>.no y
  | .ok (pl,out') b2=>Go.Proofs.YtgffljllfenhkaaGreatDoor.tabW pl out' b2) (ShR.put _ _) (fun out=>?_) (fun b a b' h=>by simp only [h] <;> rfl) (fun b y h=>by simp only [h])
 exact ShR.of (f:=Go.Proofs.YtgffljllfenhkaaGreatDoor.reachW nt os 40 0 [root] [] out) (g:=fun p b2=>Go.Proofs.YtgffljllfenhkaaGreatDoor.tabW p.1 p.2 b2) (ShR.reachW _ _ _ _ _ _ _) (fun p=>ShR.tabW _ _) (fun b a b' h=>by simp only [h]) (fun b y h=>by simp only [h])
theorem rinse_more (f:ByteArray) (st ou st' ou':Int) (h1:0≤st) (h2:st≤st') (h3:st'≤100000000) (h4:0≤ou) (h5:ou≤ou') (h6:ou'≤9000) :
  (∀ t b,rinseR unpackU ntB f st ou=.ok t b→∃ b',rinseR unpackU ntB f st' ou'=.ok t b')∧∀ y,rinseR unpackU ntB f st ou=.no y→y.1≠12→y.1≠13→rinseR unpackU ntB f st' ou'=.no y:=by
 unfold rinseR
 rw [if_pos ⟨h1,by omega,h4,by omega⟩,if_pos ⟨by omega,h3,by omega,h6⟩]
 obtain ⟨d,hd⟩:∃ d,st'.toNat=st.toNat+d:=⟨st'.toNat - st.toNat,by omega⟩
 rw [hd]
 obtain ⟨d1,d2⟩:=ShR.doc f st.toNat d
 rcases hq:docR unpackU f st.toNat with ⟨x,b⟩ | y
 ·rw [d1 _ _ hq]
  simp only
  obtain ⟨w1,w2⟩:=ShR.write ntB x.2.2.2 x.2.2.1 b d
  rcases hq2:writeR ntB x.2.2.2 x.2.2.1 b with ⟨t,b'⟩ | y
  ·rw [w1 _ _ hq2]
   simp only
   by_cases hl:ou.toNat < t.length
   ·rw [if_pos hl]
    exact ⟨fun t b e=>(by cases e),fun y e _ h13=>by cases e;exact absurd rfl h13⟩
   ·rw [if_neg hl,if_neg (by omega)]
    exact ⟨fun t2 b2 e=>by cases e;exact ⟨_,rfl⟩,fun y e=>by cases e⟩
  ·exact ⟨fun t b e=>(by cases e),fun y' e h12 _=>by cases e;rw [w2 _ hq2 h12]⟩
 ·exact ⟨fun t b e=>(by cases e),fun y' e h12 _=>by cases e;rw [d2 _ hq h12]⟩
end Go.Proofs.YtgffljllfenhkaaGreatDoor
end
