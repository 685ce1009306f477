import Derived.WalkKit
import Derived.Below
import Derived.Test.YtgffljllfenhkaaGreatDoorProg
import Derived.WalkSpells
import Derived.WalkLawsBesides
import Derived.Deep.QuietTactic
import Derived.BigQuiet
import Derived.RegionDies
import Derived.Deep.RegionWith
import Derived.Deep.DeepCutAuto
namespace Go.Proofs.YtgffljllfenhkaaGreatDoor
section
open Go.RowKit
theorem wraps_i64 (n:Int) (h₀:0<=n) (h₁:n<2^62):IntKind.i64.wrap n=n:=by rw[IntKind.wrap_i64];omega
theorem wrap64_id (n:Int) (h₀:-9223372036854775808<=n) (h₁:n<9223372036854775808):wrap64 n=n:=by unfold wrap64;omega
def bitOf (s:ByteArray) (p:Nat):Nat:=((s.data.toList.getD (p/8) 0).toNat >>> (p%8))%2
theorem bitOf_lt (s:ByteArray) (p:Nat):bitOf s p<2:=Nat.mod_lt _ (by decide)
theorem and_one_i64 (x:Nat) (k:Nat) (hx:x<256):bits .and .i64 (wrap64 ((x:Int)/2^k)) 1=(((x >>> k)%2:Nat):Int):=by
 have e:((x:Int)/2^k)=((x >>> k:Nat):Int):=by
  rw[Nat.shiftRight_eq_div_pow];simp
 have hle:x >>> k<=x:=by rw[Nat.shiftRight_eq_div_pow];exact Nat.div_le_self _ _
 rw[e]
 generalize x >>> k=y at *
 clear e;rw[wrap64_id _ (by omega) (by omega)];have:=bits_mask .i64 62 (by decide) wraps_i64 1 (by decide) (y:Int) (by omega) (by omega);simp only[Int.pow_succ,Int.pow_zero,Int.one_mul] at this;rw[show (2:Int)-1=1 from rfl] at this;rw[this];omega
theorem bit_value (s:ByteArray) (p:Nat) (h:p/8<s.data.size) :
  bits .and .i64 (wrap64 (((s.data[p/8]).toNat:Int)/2^(p%8))) 1=((bitOf s p:Nat):Int):=by
 rw[and_one_i64 _ _ (UInt8.toNat_lt _)];unfold bitOf;rw[List.getD_eq_getElem?_getD,Array.getElem?_toList,Array.getElem?_eq_getElem h];rfl
theorem or_bit (x b i:Nat) (hx:x<2^i) (hi:i<=32) (hb:b<2):bits .or .i64 (x:Int) (((b*2^i:Nat)):Int)=((x+b*2^i:Nat):Int):=by
 have hp:2^i<=2^32:=Nat.pow_le_pow_right (by decide) hi;have hb2:b*2^i<=1*2^i:=Nat.mul_le_mul_right _ (by omega);rw[(bits_nat .i64 62 (by decide) wraps_i64 x (b*2^i) (by omega) (by omega)).2];congr 1;rw[Nat.or_comm,Nat.mul_comm b,← Nat.two_pow_add_eq_or_of_lt hx b,Nat.add_comm]
end
section
def numOf (s:ByteArray) (p:Nat):Nat->Nat
 | 0=>0
 | n+1=>numOf s p n+bitOf s (p+n)*2^n
theorem numOf_lt (s:ByteArray) (p:Nat):∀ n,numOf s p n<2^n
 | 0=>by simp[numOf]
 | n+1=>by
  have:=numOf_lt s p n;have hb:=bitOf_lt s (p+n);have:bitOf s (p+n)*2^n<=1*2^n:=Nat.mul_le_mul_right _ (by omega);simp only[numOf,Nat.pow_succ];omega
def rd (s:ByteArray) (n p:Nat):Option (Nat×Nat):=if p+n<=8*s.size then some (numOf s p n,p+n) else none
def idxs (n:Nat) (l:List Nat):List Nat:=(List.range l.length).filter (fun i=>l.getD i 0==n)
def cnt (n:Nat) (l:List Nat):Nat:=(idxs n l).length
def start (l:List Nat):Nat->Nat
 | 0=>0
 | 1=>0
 | n+1=>start l n+cnt n l
def used (l:List Nat):Nat:=start l 16
def kraftTo (l:List Nat):Nat->Nat
 | 0=>0
 | n+1=>kraftTo l n+cnt (n+1) l*2^(14-n)
def whole (l:List Nat):Bool:=decide (kraftTo l 15=32768)
def single (l:List Nat):Bool:=decide (used l=1)&&decide (cnt 1 l=1)
def goodB (l:List Nat):Bool:=whole l||single l
def goodD (l:List Nat):Bool:=whole l||single l||decide (used l=0)
def decodeFrom (l:List Nat) (s:ByteArray):Nat->Nat->Nat->Option (Nat×Nat)
 | 0,_,_=>none
 | r+1,p,above=>
  if p<8*s.size then
   if 2*above+bitOf s p<cnt (15-r) l then some ((idxs (15-r) l).getD (2*above+bitOf s p) 0,p+1)
   else decodeFrom l s r (p+1) (2*above+bitOf s p-cnt (15-r) l)
  else none
def decode (l:List Nat) (s:ByteArray) (p:Nat):Option (Nat×Nat):=decodeFrom l s 15 p 0
def baseT:List Nat:=[3,4,5,6,7,8,9,10,11,13,15,17,19,23,27,31,35,43,51,59,67,83,99,115,131,163,195,227,258]
def extraT:List Nat:=[0,0,0,0,0,0,0,0,1,1,1,1,2,2,2,2,3,3,3,3,4,4,4,4,5,5,5,5,0]
def farT:List Nat:=[1,2,3,4,5,7,9,13,17,25,33,49,65,97,129,193,257,385,513,769,1025,1537,2049,3073,4097,6145,8193,12289,16385,24577]
def moreT:List Nat:=[0,0,0,0,1,1,2,2,3,3,4,4,5,5,6,6,7,7,8,8,9,9,10,10,11,11,12,12,13,13]
def orderT:List Nat:=[16,17,18,0,8,7,9,6,10,5,11,4,12,3,13,2,14,1,15]
def copyN (back:Nat):Nat->List UInt8->Option (List UInt8)
 | 0,out=>some out
 | n+1,out=>if out.length<2000 then copyN back n (out++[out.getD (out.length-back) 0]) else none
def storeN (s:ByteArray):Nat->Nat->List UInt8->Option (Nat×List UInt8)
 | 0,p,out=>some (p,out)
 | n+1,p,out=>if p+8<=8*s.size then (if out.length<2000 then storeN s n (p+8) (out++[UInt8.ofNat (numOf s p 8)]) else none) else none
def stored (s:ByteArray) (p:Nat) (out:List UInt8):Option (Nat×List UInt8):=
 if (p+7)/8*8+32<=8*s.size then
  (if numOf s ((p+7)/8*8) 16+numOf s ((p+7)/8*8+16) 16=65535 then storeN s (numOf s ((p+7)/8*8) 16) ((p+7)/8*8+32) out else none)
 else none
def copied (dl:List Nat) (s:ByteArray) (k p:Nat) (out:List UInt8):Option (Nat×List UInt8):=
 if k<29 then
  match rd s (extraT.getD k 0) p with
  | none=>none
  | some (x,p1)=>
   match decode dl s p1 with
   | none=>none
   | some (d,p2)=>
    if d<30 then
     match rd s (moreT.getD d 0) p2 with
     | none=>none
     | some (y,p3)=>
      if farT.getD d 0+y<=out.length then (copyN (farT.getD d 0+y) (baseT.getD k 0+x) out).map (fun o=>(p3,o)) else none
    else none
 else none
def blk (l dl:List Nat) (s:ByteArray):Nat->Nat->List UInt8->Option (Nat×List UInt8)
 | 0,_,_=>none
 | f+1,p,out=>
  match decode l s p with
  | none=>none
  | some (g,p1)=>
   if g<256 then (if out.length<2000 then blk l dl s f p1 (out++[UInt8.ofNat g]) else none)
   else if g=256 then some (p1,out)
   else
    match copied dl s (g-257) p1 out with
    | none=>none
    | some (p2,out2)=>blk l dl s f p2 out2
def readL (cl:List Nat) (s:ByteArray) (many:Nat):Nat->Nat->List Nat->Option (Nat×List Nat)
 | 0,_,_=>none
 | f+1,p,l=>
  if l.length<many then
   match decode cl s p with
   | none=>none
   | some (g,p1)=>
    if g<16 then readL cl s many f p1 (l++[g])
    else if g=16 then
     (if l=[] then none
     else match rd s 2 p1 with
      | none=>none
      | some (n,p2)=>readL cl s many f p2 (l++List.replicate (3+n) (l.getLastD 0)))
    else if g=17 then
     match rd s 3 p1 with
     | none=>none
     | some (n,p2)=>readL cl s many f p2 (l++List.replicate (3+n) 0)
    else
     match rd s 7 p1 with
     | none=>none
     | some (n,p2)=>readL cl s many f p2 (l++List.replicate (11+n) 0)
  else if l.length=many then some (p,l) else none
def clens (s:ByteArray) (p:Nat):Nat->List Nat
 | 0=>List.replicate 19 0
 | n+1=>(clens s p n).set (orderT.getD n 0) (numOf s (p+3*n) 3)
def ownLens (s:ByteArray) (p:Nat):Option (Nat×List Nat×List Nat):=
 if p+14<=8*s.size then
  let a:=numOf s p 5
  let b:=numOf s (p+5) 5
  let n:=4+numOf s (p+10) 4
  if p+14+3*n<=8*s.size then
   if a<=29/\b<=29/\whole (clens s (p+14) n)=true then
    match readL (clens s (p+14) n) s (258+a+b) (259+a+b) (p+14+3*n) [] with
    | none=>none
    | some (q,all)=>
     if all.getD 256 0≠0/\goodB (all.take (257+a))=true/\goodD (all.drop (257+a))=true then some (q,all.take (257+a),all.drop (257+a)) else none
   else none
  else none
 else none
def fixL:List Nat:=List.replicate 144 8++List.replicate 112 9++List.replicate 24 7++List.replicate 8 8
def fixD:List Nat:=List.replicate 32 5
def block (s:ByteArray) (k p:Nat) (out:List UInt8):Option (Nat×List UInt8):=
 if k=0 then stored s p out
 else if k=1 then blk fixL fixD s (8*s.size+1-p) p out
 else if k=2 then
  match ownLens s p with
  | none=>none
  | some (q,l,dl)=>blk l dl s (8*s.size+1-q) q out
 else none
end
section
open Go.RowKit
theorem hid {p:Prop}(h:p):Hid p:=h
theorem unh {p:Prop}(h:Hid p):p:=h
def bt (s:ByteArray) (i:Nat):Nat:=(s.data.toList.getD i 0).toNat
def vI (s:ByteArray) (o:Nat):Nat->Nat
 | 0=>0
 | j+1=>10*vI s o j+(bt s (o+j)-48)
end
section
abbrev Why:=Nat×Nat
structure St where
 b:Nat
 k:Nat
 o:Nat
 d:Nat
 t:Nat
inductive Out (α:Type) where
 | ok (a:α) (s:St)
 | no (y:Why)
def Rdr (α:Type):=St->Out α
def Rdr.ret {α:Type}(a:α):Rdr α:=fun s=>.ok a s
def Rdr.then {α β:Type}(m:Rdr α) (f:α->Rdr β):Rdr β:=fun s=>match m s with
 | .ok a s'=>f a s'
 | .no y=>.no y
theorem Rdr.then_ok {α β:Type}{m:Rdr α}{f:α->Rdr β}{s s':St}{a:α}(h:m s=.ok a s'):Rdr.then m f s=f a s':=by simp only[Rdr.then,h]
theorem Rdr.then_no {α β:Type}{m:Rdr α}{f:α->Rdr β}{s:St}{y:Why}(h:m s=.no y):Rdr.then m f s=.no y:=by simp only[Rdr.then,h]
structure Env where
 tab:Bool
 f:ByteArray
 e:Nat
def Env.why (E:Env) (p:Nat):Why:=if E.tab then (4,0) else (5,p)
def chargeM (n:Nat):Rdr Unit:=fun s=>if s.b<n then .no (12,0) else .ok () { s with b:=s.b-n }
def peekM (E:Env):Rdr Nat:=fun s=>if s.b<1 then .no (12,0) else if s.k=E.e then .no (E.why E.e) else .ok (bt E.f s.k) { s with b:=s.b-1 }
def needM (E:Env) (ok:Bool):Rdr Unit:=fun s=>if ok then .ok () s else .no (E.why s.k)
def advM:Rdr Unit:=fun s=>.ok () { s with k:=s.k+1 }
def atM:Rdr Nat:=fun s=>.ok s.k s
def wordM (E:Env):List Nat->Rdr Unit
 | []=>Rdr.ret ()
 | c::l=>(peekM E).then fun x=>(needM E (x==c)).then fun _=>advM.then fun _=>wordM E l
def someL (E:Env) (p:Nat->Bool):Nat->Rdr Unit
 | 0=>Rdr.ret ()
 | n+1=>(peekM E).then fun x=>if p x then advM.then fun _=>someL E p n else Rdr.ret ()
def someM (E:Env) (p:Nat->Bool) (most:Nat):Rdr ByteArray:=
 atM.then fun i=>(peekM E).then fun x=>(needM E (p x)).then fun _=>(someL E p most).then fun _=>atM.then fun j=>Rdr.ret (E.f.extract i j)
def digP (x:Nat):Bool:=decide (48<=x)&&decide (x<=57)
def letP (x:Nat):Bool:=(decide (65<=x)&&decide (x<=90))||(decide (97<=x)&&decide (x<=122))
def blkP (x:Nat):Bool:=x==32||x==10
def escP (x:Nat):Bool:=x==40||(x==41||x==92)
def wholeM (E:Env) (most:Nat):Rdr Nat:=(someM E digP most).then fun t=>Rdr.ret (vI t 0 t.size)
def countM (E:Env):Rdr Nat:=(peekM E).then fun x=>if x==48 then wholeM E 1 else wholeM E 4
def bytesM (E:Env) (n:Nat):Rdr ByteArray:=fun s=>if E.e-s.k<n then .no (E.why E.e) else .ok (E.f.extract s.k (s.k+n)) { s with k:=s.k+n }
def lineM (E:Env) (word:List Nat) (least most:Nat):Rdr Nat:=
 (wordM E word).then fun _=>(countM E).then fun n=>(needM E (decide (least<=n)&&decide (n<=most))).then fun _=>(wordM E [10]).then fun _=>Rdr.ret n
def placesM (E:Env):Nat->Rdr (List Nat)
 | 0=>Rdr.ret []
 | n+1=>(lineM E [] 0 9999).then fun p=>(placesM E n).then fun l=>Rdr.ret (p::l)
def tableM (E:Env) (at_:Nat):Rdr (List Nat×Nat):=
 (lineM E [120,114,101,102,32] 1 30).then fun n=>(placesM E n).then fun l=>(lineM E [114,111,111,116,32] 1 n).then fun r=>
 (lineM E [97,116,32] at_ at_).then fun _=>(wordM E [101,110,100,10]).then fun _=>fun s=>(needM E (s.k==E.e)).then (fun _=>Rdr.ret (l,r)) s
inductive Val where
 | none
 | null
 | tru
 | fls
 | num (neg:Bool) (m k:Nat)
 | str (t:ByteArray)
 | name (t:ByteArray)
 | ref (n:Nat)
 | arr (l:List Val)
 | dict (l:List (ByteArray×Val))
def blanksM (E:Env):Nat->Rdr Unit
 | 0=>fun _=>.no (0,0)
 | n+1=>(peekM E).then fun x=>if blkP x then advM.then fun _=>blanksM E n else Rdr.ret ()
def nextM (E:Env):Rdr Nat:=(blanksM E 9001).then fun _=>peekM E
def textL (E:Env):Nat->Rdr Unit
 | 0=>fun _=>.no (0,0)
 | n+1=>(peekM E).then fun x=>if x==41 then Rdr.ret () else
   (peekM E).then fun x=>(needM E (!(x==40))).then fun _=>(peekM E).then fun x=>
   (if x==92 then advM.then fun _=>(peekM E).then fun x=>needM E (escP x) else Rdr.ret ()).then fun _=>advM.then fun _=>textL E n
def textM (E:Env):Rdr ByteArray:=
 (wordM E [40]).then fun _=>atM.then fun i=>(textL E 9001).then fun _=>(wordM E [41]).then fun _=>atM.then fun j=>Rdr.ret (E.f.extract i (j-1))
def nameM (E:Env):Rdr ByteArray:=(wordM E [47]).then fun _=>someM E letP 8
def numM (E:Env):Rdr (Bool×Nat×Nat):=
 (peekM E).then fun x=>(if x==45 then advM else Rdr.ret ()).then fun _=>(someM E digP 6).then fun ti=>(peekM E).then fun y=>
 if y==46 then advM.then fun _=>(someM E digP 3).then fun tf=>Rdr.ret (x==45,vI (ti++tf) 0 (ti.size+tf.size),tf.size)
 else Rdr.ret (x==45,vI ti 0 ti.size,0)
def enterM:Rdr Unit:=fun s=>.ok () { s with o:=s.o+1,d:=if 6<s.o+1/\s.d=0 then s.k else s.d }
def leaveM:Rdr Unit:=fun s=>.ok () { s with o:=s.o-1 }
def twiceM (c:Bool) (p:Nat):Rdr Unit:=fun s=>.ok () { s with t:=if c/\s.t=0 then p else s.t }
def dget (l:List (ByteArray×Val)) (a:ByteArray):Option Val:=(l.find? fun e=>e.1==a).map (·.2)
def dset (l:List (ByteArray×Val)) (a:ByteArray) (v:Val):List (ByteArray×Val):=
 if l.any (fun e=>e.1==a) then l.map (fun e=>if e.1==a then (e.1,v) else e) else l++[(a,v)]
mutual
def valueM (E:Env):Nat->Rdr Val
 | 0=>fun _=>.no (0,0)
 | n+1=>(nextM E).then fun x=>
  if x==110 then (wordM E [110,117,108,108]).then fun _=>Rdr.ret .null
  else if x==116 then (wordM E [116,114,117,101]).then fun _=>Rdr.ret .tru
  else if x==102 then (wordM E [102,97,108,115,101]).then fun _=>Rdr.ret .fls
  else if x==40 then (textM E).then fun t=>Rdr.ret (.str t)
  else if x==47 then (nameM E).then fun t=>Rdr.ret (.name t)
  else if x==64 then (wordM E [64]).then fun _=>(wholeM E 4).then fun n=>Rdr.ret (.ref n)
  else if x==91 then enterM.then fun _=>(wordM E [91]).then fun _=>(elemsM E n []).then fun l=>(wordM E [93]).then fun _=>leaveM.then fun _=>Rdr.ret (.arr l)
  else if x==60 then enterM.then fun _=>(wordM E [60,60]).then fun _=>(keysM E n []).then fun l=>(wordM E [62,62]).then fun _=>leaveM.then fun _=>Rdr.ret (.dict l)
  else (numM E).then fun y=>Rdr.ret (.num y.1 y.2.1 y.2.2)
def elemsM (E:Env):Nat->List Val->Rdr (List Val)
 | 0,_=>fun _=>.no (0,0)
 | n+1,l=>(nextM E).then fun x=>if x==93 then Rdr.ret l else (valueM E n).then fun v=>elemsM E n (l++[v])
def keysM (E:Env):Nat->List (ByteArray×Val)->Rdr (List (ByteArray×Val))
 | 0,_=>fun _=>.no (0,0)
 | n+1,l=>(nextM E).then fun x=>if x==62 then Rdr.ret l else
   atM.then fun p=>(nameM E).then fun a=>(twiceM (dget l a).isSome p).then fun _=>(valueM E n).then fun v=>keysM E n (dset l a v)
end
structure Obj1 where
 v:Val:=.none
 place:Nat:=0
 fin:Nat:=0
 has:Bool:=false
 stream:ByteArray:=ByteArray.empty
def isDict:Val->Bool
 | .dict _=>true
 | _=>false
def streamM (E:Env):Rdr ByteArray:=
 (wordM E [126]).then fun _=>(nextM E).then fun _=>(countM E).then fun n=>(wordM E [58]).then fun _=>bytesM E n
def digs (n:Nat):List Nat:=if n<10 then [48+n] else [48+n/10,48+n%10]
def objectM (E:Env) (num:Nat):Rdr Obj1:=
 atM.then fun p=>(wordM E (digs num)).then fun _=>(peekM E).then fun x=>(needM E (!(digP x))).then fun _=>(valueM E 18010).then fun v=>
 (nextM E).then fun y=>(if y==126 then (needM E (isDict v)).then fun _=>(streamM E).then fun t=>Rdr.ret (true,t) else Rdr.ret (false,ByteArray.empty)).then fun hs=>
 (nextM E).then fun _=>(wordM E [59]).then fun _=>atM.then fun q=>Rdr.ret { v:=v,place:=p,fin:=q,has:=hs.1,stream:=hs.2 }
end
section
open Go.RowKit
def thrownY (y:Why):List PanicEntry:=[{ v:=.iface 45 (.agg #[.int .i64 (y.1:Int),.int .i64 (y.2:Int)]),recovered:=false }]
def chg (B:Nat):Value:=.func (.func 60) #[] #[.pointer (some ⟨B,0,none⟩),.pointer (some ⟨B+1,0,none⟩)]
def gupF (E:Env):Nat:=if E.tab then 100 else 105
def gup (E:Env):Value:=.func (.func (gupF E)) #[] #[]
def scExt (E:Env) (s:St):List Value:=if E.tab then [] else [.int .i64 (s.o:Int),.int .i64 (s.d:Int),.int .i64 (s.t:Int)]
def scT (E:Env):Nat:=if E.tab then 150 else 154
structure At (w:World) (P B:Nat) (E:Env) (s:St):Prop where
 r:w.heap[P]?=some (.cells (.string E.f::.int .i64 (s.k:Int)::.int .i64 (E.e:Int)::gup E::chg B::scExt E s).toArray (scT E) (0,0))
 a:w.heap[B]?=some (.cells #[.int .i64 (s.b:Int)] 3 (0,0))
 y:w.heap[B+1]?=some (.cells #[.int .i64 12,.int .i64 0] 45 (0,0))
 lt:B+1<P
 hk:s.k<=E.e
 he:E.e<=E.f.size
 hs:E.f.size<=9000
 hb:s.b<=100000000
variable {w w':World}{P B:Nat}{E:Env}{s:St}
theorem At.ltP (h:At w P B E s):P<w.heap.size:=(Array.getElem?_eq_some_iff.1 h.r).1
theorem At.c0 (h:At w P B E s):w.cell? ⟨P,0,none⟩=some (.string E.f):=by simp[World.cell?,h.r]
theorem At.c1 (h:At w P B E s):w.cell? ⟨P,1,none⟩=some (.int .i64 (s.k:Int)):=by simp[World.cell?,h.r]
theorem At.c2 (h:At w P B E s):w.cell? ⟨P,2,none⟩=some (.int .i64 (E.e:Int)):=by simp[World.cell?,h.r]
theorem At.c3 (h:At w P B E s):w.cell? ⟨P,3,none⟩=some (gup E):=by simp[World.cell?,h.r]
theorem At.c4 (h:At w P B E s):w.cell? ⟨P,4,none⟩=some (chg B):=by simp[World.cell?,h.r]
theorem At.ca (h:At w P B E s):w.cell? ⟨B,0,none⟩=some (.int .i64 (s.b:Int)):=by simp[World.cell?,h.a]
theorem At.fr (h:At w P B E s) (i:Nat):w.frozen? ⟨P,i,none⟩=false:=by simp[World.frozen?,h.r]
theorem At.fa (h:At w P B E s) (i:Nat):w.frozen? ⟨B,i,none⟩=false:=by simp[World.frozen?,h.a]
structure Fz (P B:Nat) (w w':World):Prop where
 os:w'.os=w.os
 tape:w'.tape=w.tape
 output:w'.output=w.output
 size:w.heap.size<=w'.heap.size
 block:∀ k,k<w.heap.size->k≠P->k≠B->w'.heap[k]?=w.heap[k]?
theorem Fz.refl (P B:Nat) (w:World):Fz P B w w:=⟨rfl,rfl,rfl,Nat.le_refl _,fun _ _ _ _=>rfl⟩
theorem Fz.trans {a b c:World}(h:Fz P B a b) (k:Fz P B b c):Fz P B a c:=
 ⟨k.os.trans h.os,k.tape.trans h.tape,k.output.trans h.output,Nat.le_trans h.size k.size,fun i hi h1 h2=>(k.block i (Nat.lt_of_lt_of_le hi h.size) h1 h2).trans (h.block i hi h1 h2)⟩
theorem Fz.setP (h:Fz P B w w') (i:Nat) (v:Value):Fz P B w (w'.setCell ⟨P,i,none⟩ v):=
 ⟨h.os,h.tape,h.output,by simp[h.size],fun k hk h1 h2=>(Below.heap_setCell _ _ _ _ (by exact h1)).trans (h.block k hk h1 h2)⟩
theorem Fz.setB (h:Fz P B w w') (i:Nat) (v:Value):Fz P B w (w'.setCell ⟨B,i,none⟩ v):=
 ⟨h.os,h.tape,h.output,by simp[h.size],fun k hk h1 h2=>(Below.heap_setCell _ _ _ _ (by exact h2)).trans (h.block k hk h1 h2)⟩
theorem Fz.drewN (h:Fz P B w w') (n:Nat):Fz P B w (w'.drewN n):=⟨h.os,h.tape,h.output,h.size,h.block⟩
theorem Fz.drew (h:Fz P B w w'):Fz P B w w'.drew:=⟨h.os,h.tape,h.output,h.size,h.block⟩
theorem Fz.alloc (h:Fz P B w w') (x:Obj):Fz P B w (w'.alloc x):=
 ⟨h.os,h.tape,h.output,by simp;exact Nat.le_succ_of_le h.size,fun k hk h1 h2=>(Below.heap_alloc _ _ _ (Nat.lt_of_lt_of_le hk h.size)).trans (h.block k hk h1 h2)⟩
theorem At.drewN (h:At w P B E s) (n:Nat):At (w.drewN n) P B E s:=⟨h.r,h.a,h.y,h.lt,h.hk,h.he,h.hs,h.hb⟩
theorem At.drew (h:At w P B E s):At w.drew P B E s:=⟨h.r,h.a,h.y,h.lt,h.hk,h.he,h.hs,h.hb⟩
theorem At.alloc (h:At w P B E s) (x:Obj):At (w.alloc x) P B E s:=by
 have hp:=h.ltP;have hl:=h.lt;refine⟨?_,?_,?_,h.lt,h.hk,h.he,h.hs,h.hb⟩
 ·exact (Below.heap_alloc _ _ _ hp).trans h.r
 ·exact (Below.heap_alloc _ _ _ (by omega)).trans h.a
 ·exact (Below.heap_alloc _ _ _ (by omega)).trans h.y
theorem At.take (h:At w P B E s) (n:Nat) (hn:n<=s.b):At (w.setCell ⟨B,0,none⟩ (.int .i64 ((s.b:Int)-(n:Int)))) P B E { s with b:=s.b-n }:=by
 have hl:=h.lt;refine⟨?_,?_,?_,h.lt,h.hk,h.he,h.hs,?_⟩
 ·exact (Below.heap_setCell _ _ _ _ (by show P≠B;omega)).trans h.r
 ·rw[heap_setCell_same w B 0 _ _ _ h.a];have e:(s.b:Int)-(n:Int)=((s.b-n:Nat):Int):=by omega
  rw[e];simp
 ·exact (Below.heap_setCell _ _ _ _ (by show B+1≠B;omega)).trans h.y
 ·have:=h.hb;show s.b-n<=_;omega
theorem At.go (h:At w P B E s) (q:Nat) (hq:q<=E.e):At (w.setCell ⟨P,1,none⟩ (.int .i64 (q:Int))) P B E { s with k:=q }:=by
 have hl:=h.lt;refine⟨?_,?_,?_,h.lt,hq,h.he,h.hs,h.hb⟩
 ·rw[heap_setCell_same w P 1 _ _ _ h.r];simp[scExt]
 ·exact (Below.heap_setCell _ _ _ _ (by show B≠P;omega)).trans h.a
 ·exact (Below.heap_setCell _ _ _ _ (by show B+1≠P;omega)).trans h.y
theorem dead_end {C:Prop}(a:Act) (w:World) (h:C) (_:wpAny Tryz.prog .any #[] (fun _ _ _=>True) 0 #[] a w):C:=h
def Post (P B:Nat) (E:Env) (w:World) {α:Type}(rep:α->Value->World->Prop) (o:Out α) (e:Ending) (w':World):Prop:=match o with
 | .ok a s'=>∃ v,e=.returned v/\rep a v w'/\At w' P B E s'/\Fz P B w w'
 | .no y=>e=.panicked (thrownY y)/\Fz P B w w'
theorem Post.ok {α:Type}{rep:α->Value->World->Prop}{o:Out α}{a:α}{s':St}{v:Value}(ho:o=.ok a s') (hr:rep a v w') (hA:At w' P B E s') (hF:Fz P B w w'):Post P B E w rep o (.returned v) w':=by
 subst ho;exact⟨v,rfl,hr,hA,hF⟩
theorem Post.no {α:Type}{rep:α->Value->World->Prop}{o:Out α}{y:Why}(ho:o=.no y) (hF:Fz P B w w'):Post P B E w rep o (.panicked (thrownY y)) w':=by
 subst ho;exact⟨rfl,hF⟩
set_option maxHeartbeats 400000 in
theorem take_ok (w:World) (A:Nat) (m n:Nat) (hA:w.cell? ⟨A,0,none⟩=some (.int .i64 (m:Int))) (hf:w.frozen? ⟨A,0,none⟩=false) (hm:n<=m) (hm2:m<=100000000) :
  Calls Tryz.prog 60 #[.int .i64 (n:Int),.pointer (some ⟨A,0,none⟩),.pointer (some ⟨A+1,0,none⟩)] w fun e w'=>e=.returned (.tuple #[])/\w.setCell ⟨A,0,none⟩ (.int .i64 ((m:Int)-(n:Int)))=w':=by
 have hd:¬ (m:Int)<(n:Int):=by omega
 go_enter Tryz.func60,Tryz.ntmps60
 go_wp2
 first | go_end0 | refine bodyPost_ret (results_none rfl _ _ _) rfl ?_
 exact⟨rfl,rfl⟩
set_option maxHeartbeats 400000 in
theorem take_no (w:World) (A:Nat) (m n:Nat) (c d:Int) (hA:w.cell? ⟨A,0,none⟩=some (.int .i64 (m:Int))) (hy:w.heap[A+1]?=some (.cells #[.int .i64 c,.int .i64 d] 45 (0,0))) (hm:m<n) :
  Calls Tryz.prog 60 #[.int .i64 (n:Int),.pointer (some ⟨A,0,none⟩),.pointer (some ⟨A+1,0,none⟩)] w fun e w'=>e=.panicked [{ v:=.iface 45 (.agg #[.int .i64 c,.int .i64 d]),recovered:=false }]/\w=w':=by
 have hy0:w.cell? ⟨A+1,0,none⟩=some (.int .i64 c):=by simp[World.cell?,hy]
 have hy1:w.cell? ⟨A+1,1,none⟩=some (.int .i64 d):=by simp[World.cell?,hy]
 have hd:(m:Int)<(n:Int):=by omega
 go_enter Tryz.func60,Tryz.ntmps60
 go_wp2_with fail
 exact⟨rfl,rfl,rfl⟩
set_option maxHeartbeats 400000 in
theorem refuse_any (w:World) (c d:Int) :
  Calls Tryz.prog 37 #[.int .i64 c,.int .i64 d] w fun e w'=>e=.panicked [{ v:=.iface 45 (.agg #[.int .i64 c,.int .i64 d]),recovered:=false }]/\w=w':=by
 go_enter Tryz.func37,Tryz.ntmps37
 go_wp2_with fail
 exact⟨rfl,rfl,rfl⟩
set_option maxHeartbeats 400000 in
theorem gup_any (w:World) (E:Env) (p:Nat) :
  Calls Tryz.prog (gupF E) #[.int .i64 (p:Int)] w fun e w'=>e=.panicked (thrownY (E.why p))/\w=w':=by
 obtain⟨tab,f,en⟩:=E;cases tab
 ·show Calls Tryz.prog 105 _ _ _
  go_enter Tryz.func105,Tryz.ntmps105
  go_wp2_with fail
  refine (refuse_any w _ _).mono ?_;rintro e w1 ⟨rfl,rfl⟩;exact⟨rfl,rfl,rfl⟩
 ·show Calls Tryz.prog 100 _ _ _
  go_enter Tryz.func100,Tryz.ntmps100
  go_wp2_with fail
  refine (refuse_any w _ _).mono ?_;rintro e w1 ⟨rfl,rfl⟩;exact⟨rfl,rfl,rfl⟩
theorem gup_tab (h:E.tab=true):gup E=.func (.func 100) #[] #[]:=by unfold gup gupF;rw[h];rfl
theorem gup_obj (h:E.tab=false):gup E=.func (.func 105) #[] #[]:=by unfold gup gupF;rw[h];rfl
theorem gtab_any (w:World) (p:Nat) (h:E.tab=true):Calls Tryz.prog 100 #[.int .i64 (p:Int)] w fun e w'=>e=.panicked (thrownY (E.why p))/\w=w':=by
 have:=gup_any w E p
 rwa [show gupF E=100 by unfold gupF;rw[h];rfl] at this
theorem gobj_any (w:World) (p:Nat) (h:E.tab=false):Calls Tryz.prog 105 #[.int .i64 (p:Int)] w fun e w'=>e=.panicked (thrownY (E.why p))/\w=w':=by
 have:=gup_any w E p
 rwa [show gupF E=105 by unfold gupF;rw[h];rfl] at this
end
section
open Go.RowKit
attribute [local go_sem] Oper.semAt_some
variable {w:World}{P B:Nat}{E:Env}{s:St}
theorem str_ix (s:ByteArray) (i:Nat) (hi:i<s.size) (w:World):(Instr.index 9 (.string s) (.int .i64 (i:Int))).run Tryz.prog w=.ok (.int .u8 ((bt s i:Nat):Int)) w:=by
 rw[run_index_string w _ _ _ _ Tryz.underlying9,dif_pos ⟨by omega,by omega⟩];congr 3;simp only[Int.toNat_natCast];unfold bt;rw[List.getD_eq_getElem?_getD];simp[ByteArray.getElem_eq_getElem_data,hi]
set_option maxHeartbeats 1000000 in
set_option maxRecDepth 100000 in
theorem peek_any (h:At w P B E s):Calls Tryz.prog 128 #[.pointer (some ⟨P,0,none⟩)] w (Post P B E w (fun x v _=>v=.int .u8 ((x:Nat):Int)) (peekM E s)):=by
 have c4:=h.c4;have hlt:=h.lt;have hb8:=h.hb;have hk:=h.hk;have he:=h.he;unfold chg at c4
 by_cases hb:s.b<1
 ·have hq:peekM E s=.no (12,0):=by unfold peekM;rw[if_pos hb]
  go_enter Tryz.func128,Tryz.ntmps128
  go_wp2_with fail
  refine (take_no w B s.b 1 12 0 h.ca h.y hb).mono ?_;rintro e w1 ⟨rfl,rfl⟩;exact⟨rfl,Post.no hq (Fz.refl _ _ _)⟩
 ·go_enter Tryz.func128,Tryz.ntmps128
  go_wp2_with fail
  refine (take_ok w B s.b 1 h.ca (h.fa 0) (by omega) hb8).mono ?_;rintro e w1 ⟨rfl,hw1⟩;have h1:=h.take 1 (by omega);have hF:Fz P B w w1:=by rw[← hw1];exact (Fz.refl _ _ _).setB _ _
  rw[hw1] at h1;have d0:=h1.c0;have d1:=h1.c1;have d2:=h1.c2;have d3:=h1.c3;clear hw1 c4;simp only[] at d1
  by_cases hke:s.k=E.e
  ·have hq:peekM E s=.no (E.why E.e):=by unfold peekM;rw[if_neg hb,if_pos hke]
   have hi:((s.k:Int)==(E.e:Int))=true:=by rw[hke];simp
   go_wp2_with fail
   go_quiet (fail)
   go_wp2_with fail
   rcases htab:E.tab with _|_
   ·rw[gup_obj htab] at d3
    go_region_dies
    all_goals
     refine (gobj_any _ E.e htab).mono ?_;rintro e w2 ⟨rfl,rfl⟩;exact⟨rfl,Post.no hq (hF.drewN _).drew⟩
   ·rw[gup_tab htab] at d3
    go_region_dies
    all_goals
     refine (gtab_any _ E.e htab).mono ?_;rintro e w2 ⟨rfl,rfl⟩;exact⟨rfl,Post.no hq (hF.drewN _).drew⟩
  ·have hq:peekM E s=.ok (bt E.f s.k) { s with b:=s.b-1 }:=by unfold peekM;rw[if_neg hb,if_neg hke]
   have hi:((s.k:Int)==(E.e:Int))=false:=by rw[beq_eq_false_iff_ne];omega
   have hx:=str_ix E.f s.k (by omega)
   go_wp2_with fail
   go_quiet (fail)
   go_wp2_with fail
   go_quiet (fail)
   go_wp2_with fail
   go_ret
   exact Post.ok hq rfl ((h1.drewN _).drewN _) ((hF.drewN _).drewN _)
set_option maxHeartbeats 1000000 in
set_option maxRecDepth 100000 in
theorem need_ok {v:Value}(w:World):Calls Tryz.prog 104 #[v,.bool true] w fun e w'=>e=.returned (.tuple #[])/\w=w':=by
 go_enter Tryz.func104,Tryz.ntmps104
 go_wp2
 first | go_end0 | refine bodyPost_ret (results_none rfl _ _ _) rfl ?_
 exact⟨rfl,rfl⟩
set_option maxHeartbeats 1000000 in
set_option maxRecDepth 100000 in
theorem need_no (h:At w P B E s):Calls Tryz.prog 104 #[.pointer (some ⟨P,0,none⟩),.bool false] w fun e w'=>e=.panicked (thrownY (E.why s.k))/\w.drew=w':=by
 have c1:=h.c1;have c3:=h.c3
 go_enter Tryz.func104,Tryz.ntmps104
 go_wp2_with fail
 rcases htab:E.tab with _|_
 ·rw[gup_obj htab] at c3
  go_region_dies
  all_goals
   refine (gobj_any _ s.k htab).mono ?_;rintro e w2 ⟨rfl,rfl⟩;exact⟨rfl,rfl,rfl⟩
 ·rw[gup_tab htab] at c3
  go_region_dies
  all_goals
   refine (gtab_any _ s.k htab).mono ?_;rintro e w2 ⟨rfl,rfl⟩;exact⟨rfl,rfl,rfl⟩
end
section
open Go.RowKit
attribute [local go_sem] Oper.semAt_some
variable {w:World}{P B:Nat}{E:Env}{s:St}
theorem Post.okC {P B:Nat}{E:Env}{w W:World}{α:Type}{rep:α->Value->World->Prop}{o:Out α}{a:α}{s':St}{p:Program}{f:Nat}{args:Array Value}(h:Calls p f args W (Post P B E w rep o)) (ho:o=.ok a s') :
  Calls p f args W fun e w'=>∃ v,e=.returned v/\rep a v w'/\At w' P B E s'/\Fz P B w w':=by subst ho;exact h
theorem Post.noC {P B:Nat}{E:Env}{w W:World}{α:Type}{rep:α->Value->World->Prop}{o:Out α}{y:Why}{p:Program}{f:Nat}{args:Array Value}(h:Calls p f args W (Post P B E w rep o)) (ho:o=.no y) :
  Calls p f args W fun e w'=>e=.panicked (thrownY y)/\Fz P B w w':=by subst ho;exact h
theorem bt_lt (f:ByteArray) (k:Nat):bt f k<256:=UInt8.toNat_lt _
theorem peek_inv {x:Nat}{s':St}(h:peekM E s=.ok x s'):s'={ s with b:=s.b-1 }/\x=bt E.f s.k/\s.k≠E.e/\1<=s.b:=by
 unfold peekM at h;split at h
 ·cases h
 ·split at h
  ·cases h
  ·cases h;exact⟨rfl,rfl,by assumption,by omega⟩
def bl (t:ByteArray):List Nat:=t.data.toList.map UInt8.toNat
theorem bl_length (t:ByteArray):(bl t).length=t.size:=by unfold bl;rw[List.length_map,Array.length_toList];rfl
theorem bl_drop (t:ByteArray) (i:Nat) (hi:i<t.size):(bl t).drop i=bt t i::(bl t).drop (i+1):=by
 have hl:i<(bl t).length:=by rw[bl_length];exact hi
 have hl2:i<t.data.toList.length:=by rw[Array.length_toList];exact hi
 have hb:(bl t)[i]?=some (bt t i):=by
  unfold bl bt;rw[List.getElem?_map,List.getD_eq_getElem?_getD,List.getElem?_eq_getElem hl2];rfl
 rw[List.drop_eq_getElem_cons hl];congr 1;exact Option.some.inj ((List.getElem?_eq_getElem hl).symm.trans hb)
theorem wordM_cons (c:Nat) (l:List Nat):wordM E (c::l) s=((peekM E).then fun x=>(needM E (x==c)).then fun _=>advM.then fun _=>wordM E l) s:=rfl
set_option maxHeartbeats 2000000 in
set_option maxRecDepth 100000 in
theorem word_any (t:ByteArray) (ht:t.size<=9000) (h:At w P B E s):Calls Tryz.prog 103 #[.pointer (some ⟨P,0,none⟩),.string t] w (Post P B E w (fun _ v _=>v=.tuple #[]) (wordM E (bl t) s)):=by
 go_enter Tryz.func103,Tryz.ntmps103
 go_wp2_with fail
 go_loopw [7] (fun v wr=>∃ (i:Nat) (si:St),v=.int .i64 (i:Int)/\i<=t.size/\At wr P B E si/\Fz P B w wr/\Hid (wordM E (bl t) s=wordM E ((bl t).drop i) si))
  (fun v _=>t.size-(intOf v).toNat)
 case atStart=>exact⟨0,s,rfl,Nat.zero_le _,h,Fz.refl _ _ _,rfl⟩
 case round=>
  obtain⟨i,si,rfl,hi,hA,hF,HE⟩:=hrel;have hk:=hA.hk;have he:=hA.he;have hs:=hA.hs
  by_cases hlt:i<t.size
  ·have hltI:(i:Int)<(t.size:Int):=by omega
   have hx:=str_ix t i hlt;obtain⟨c,hc⟩:∃ c,bt t i=c:=⟨_,rfl⟩;have hdr:=bl_drop t i hlt;rw[hc] at hx hdr;have HD:=hid hdr;clear hdr hc
   rcases hp:peekM E si with⟨x,s1⟩|y
   ·by_cases hxc:x=c
    ·have hbe:((x:Int)==(c:Int))=true:=by rw[hxc];simp
     go_wp2_with fail
     go_region_with (first | (go_at_call 128;refine (Post.okC (peek_any (by exact hA.drew)) hp).mono ?_;rintro e w2 ⟨v2,rfl,rfl,h2,F2⟩;have d1:=h2.c1;have f1:=h2.fr 1) | (go_at_call 104;refine (need_ok _).mono ?_;rintro e w3 ⟨rfl,rfl⟩))
     all_goals
      obtain⟨rfl,_,hne,_⟩:=peek_inv hp;simp only[] at d1
      go_wp2_with fail
      go_roundw
      case rel=>
       refine⟨i+1,{ si with b:=si.b-1,k:=si.k+1 },by go_num,by omega,?_,?_,?_⟩
       ·exact h2.go (si.k+1) (by omega)
       ·exact (hF.drew.trans F2).setP _ _
       ·exact (unh HE).trans (by rw[unh HD,wordM_cons,Rdr.then_ok hp,hxc];simp[Rdr.then,needM,advM])
      case measure=>simp[intOf];omega
    ·have hbe:((x:Int)==(c:Int))=false:=by rw[beq_eq_false_iff_ne];omega
     have FIN:wordM E (bl t) s=.no (E.why s1.k):=(unh HE).trans (by rw[unh HD,wordM_cons,Rdr.then_ok hp];simp[Rdr.then,needM,hxc]);have HN:=hid FIN;clear FIN
     go_wp2_with fail
     go_region_with (first | (go_at_call 128;refine (Post.okC (peek_any (by exact hA.drew)) hp).mono ?_;rintro e w2 ⟨v2,rfl,rfl,h2,F2⟩) | (go_at_call 104;refine (need_no h2).mono ?_;rintro e w3 ⟨rfl,rfl⟩;refine dead_end ⟨#[],[]⟩ w (show _ from ⟨rfl,Post.no (unh HN) (hF.drew.trans F2).drew⟩) ?_))
     all_goals trivial
   ·have FIN:wordM E (bl t) s=.no y:=(unh HE).trans (by rw[unh HD,wordM_cons,Rdr.then_no hp]);have HN:=hid FIN;clear FIN
    go_wp2_with fail
    go_region_dies
    all_goals
     refine (Post.noC (peek_any (by exact hA.drew)) hp).mono ?_;rintro e w2 ⟨rfl,F2⟩;exact⟨rfl,Post.no (unh HN) (hF.drew.trans F2)⟩
  ·have hltI:¬ (i:Int)<(t.size:Int):=by omega
   have HN:Hid (wordM E (bl t) s=.ok () si):=(unh HE).trans (by rw[List.drop_eq_nil_of_le (by rw[bl_length];omega)];rfl)
   go_wp2_with fail
   first | go_end0 | refine bodyPost_ret (results_none rfl _ _ _) rfl ?_
   exact Post.ok (unh HN) rfl hA hF
end
section
open Go.RowKit
attribute [local go_sem] Oper.semAt_some
variable {w:World}{P B:Nat}{E:Env}{s:St}
set_option maxHeartbeats 400000 in
theorem isDigit_any (w:World) (x:Nat) (hx:x<256):Calls Tryz.prog 129 #[.int .u8 (x:Int)] w fun e w'=>e=.returned (.bool (digP x))/\w=w':=by
 by_cases h1:48<=x
 ·by_cases h2:x<=57
  ·have i1:(48:Int)<=(x:Int):=by omega
   have i2:(x:Int)<=57:=by omega
   have hd:digP x=true:=by simp[digP,h1,h2]
   rw[hd]
   go_enter Tryz.func129,Tryz.ntmps129
   go_wp2_with fail
   go_ret
   exact⟨rfl,rfl⟩
  ·have i1:(48:Int)<=(x:Int):=by omega
   have i2:¬ (x:Int)<=57:=by omega
   have hd:digP x=false:=by simp[digP,h2]
   rw[hd]
   go_enter Tryz.func129,Tryz.ntmps129
   go_wp2_with fail
   go_ret
   exact⟨rfl,rfl⟩
 ·have i1:¬ (48:Int)<=(x:Int):=by omega
  have hd:digP x=false:=by simp[digP,h1]
  rw[hd]
  go_enter Tryz.func129,Tryz.ntmps129
  go_wp2_with fail
  go_ret
  exact⟨rfl,rfl⟩
set_option maxHeartbeats 400000 in
theorem isLetter_any (w:World) (x:Nat) (hx:x<256):Calls Tryz.prog 170 #[.int .u8 (x:Int)] w fun e w'=>e=.returned (.bool (letP x))/\w=w':=by
 obtain⟨b,hb⟩:∃ b,letP x=b:=⟨_,rfl⟩;rw[hb];have HB:=hid hb;clear hb
 by_cases h1:65<=x <;> by_cases h2:x<=90 <;> by_cases h3:97<=x <;> by_cases h4:x<=122 <;> try omega
 all_goals
  have i1:decide ((65:Int)<=(x:Int))=decide (65<=x):=by congr 1;exact propext ⟨by omega,by omega⟩
  have i2:decide ((x:Int)<=90)=decide (x<=90):=by congr 1;exact propext ⟨by omega,by omega⟩
  have i3:decide ((97:Int)<=(x:Int))=decide (97<=x):=by congr 1;exact propext ⟨by omega,by omega⟩
  have i4:decide ((x:Int)<=122)=decide (x<=122):=by congr 1;exact propext ⟨by omega,by omega⟩
  have hv:letP x=_:=rfl;unfold letP at hv;simp only[h1,h2,h3,h4,decide_true,decide_false] at i1 i2 i3 i4;have HV:Hid (letP x=((decide (65<=x)&&decide (x<=90))||(decide (97<=x)&&decide (x<=122)))):=rfl;clear hv
  go_enter Tryz.func170,Tryz.ntmps170
  go_wp2_with fail
  go_ret
  refine⟨?_,rfl⟩;rw[← unh HB,unh HV];simp[h1,h2,h3,h4]
end
section
open Go.RowKit
attribute [local go_sem] Oper.semAt_some
variable {w:World}{P B:Nat}{E:Env}{s:St}
def kOf (P:Nat) (w:World):Nat:=match w.cell? ⟨P,1,none⟩ with
 | some v=>(intOf v).toNat
 | none=>0
theorem At.kOf {w:World}{P B:Nat}{E:Env}{s:St}(h:At w P B E s):kOf P w=s.k:=by unfold YtgffljllfenhkaaGreatDoor.kOf;rw[h.c1];simp[intOf]
set_option maxHeartbeats 2000000 in
set_option maxRecDepth 100000 in
theorem someD_any (most:Nat) (hm:most<=100) (h:At w P B E s):Calls Tryz.prog 168 #[.pointer (some ⟨P,0,none⟩),.int .i64 (most:Int),.func (.func 129) #[] #[]] w (Post P B E w (fun t v _=>v=.string t) (someM E digP most s)):=by
 have c1:=h.c1;have hk:=h.hk;have he:=h.he;have hs:=h.hs;have hA0:=h
 go_enter Tryz.func168,Tryz.ntmps168
 rcases hp:peekM E s with⟨x,s1⟩|y
 ·obtain⟨hs1,hx,hne,hb1⟩:=peek_inv hp;have hx2:x<256:=by rw[hx];exact bt_lt _ _
  have hk1:s1.k=s.k:=by rw[hs1]
  clear hs1 hx
  rcases hpx:digP x with _|_
  ·have HN:Hid (someM E digP most s=.no (E.why s1.k)):=by
    show someM E digP most s=_;simp[someM,Rdr.then,atM,hp,needM,hpx]
   go_wp2_with (first | (go_at_call 128;refine (Post.okC (peek_any hA0) hp).mono ?_;rintro e w2 ⟨v2,rfl,rfl,h2,F2⟩) | (go_at_call 129;refine (isDigit_any _ x hx2).mono ?_;rw[hpx];rintro e w3 ⟨rfl,rfl⟩) | (go_at_call 104;refine (need_no h2).mono ?_;rintro e w3 ⟨rfl,rfl⟩;exact⟨rfl,Post.no (unh HN) F2.drew⟩))
  ·have HE0:Hid (someM E digP most s=((someL E digP most).then fun _=>atM.then fun j=>Rdr.ret (E.f.extract s.k j)) s1):=by
    show someM E digP most s=_;simp[someM,Rdr.then,atM,hp,needM,hpx]
   go_wp2_with (first | (go_at_call 128;refine (Post.okC (peek_any hA0) hp).mono ?_;rintro e w2 ⟨v2,rfl,rfl,h2,F2⟩) | (go_at_call 129;refine (isDigit_any _ x hx2).mono ?_;rw[hpx];rintro e w3 ⟨rfl,rfl⟩) | (go_at_call 104;refine (need_ok _).mono ?_;rintro e w3 ⟨rfl,rfl⟩))
   clear hp hpx hA0 c1
   go_loopw [18] (fun _ wr=>∃ (n:Nat) (si:St),s.k<=si.k/\n+(si.k-s.k)=most/\At wr P B E si/\Fz P B w wr/\Hid (someM E digP most s=((someL E digP n).then fun _=>atM.then fun j=>Rdr.ret (E.f.extract s.k j)) si))
    (fun _ wr=>E.e-kOf P wr)
   case atStart=>exact⟨most,s1,by omega,by omega,h2,F2,HE0⟩
   case round=>
    clear h2 HE0;obtain⟨n,si,hki,hn,hA,hF,HE⟩:=hrel;have d1:=hA.c1;have d0:=hA.c0;have hki2:=hA.hk;have fin:∀ (W:World) (sj:St),At W P B E sj->s.k<=sj.k->Fz P B w W->someM E digP most s=.ok (E.f.extract s.k sj.k) sj->Post P B E w (fun t v _=>v=.string t) (someM E digP most s) (.returned (.string (E.f.extract s.k sj.k))) W:=fun W sj a _ b c=>Post.ok c rfl a b
    by_cases hlt:si.k-s.k<most
    ·have hltI:(si.k:Int)-(s.k:Int)<(most:Int):=by omega
     obtain⟨n',rfl⟩:∃ n',n=n'+1:=⟨n-1,by omega⟩
     rcases hq:peekM E si with⟨x',s2⟩|y
     ·obtain⟨hs2,hx',hne',hb2⟩:=peek_inv hq;have hx3:x'<256:=by rw[hx'];exact bt_lt _ _
      rcases hpx:digP x' with _|_
      ·have HN:Hid (someM E digP most s=.ok (E.f.extract s.k s2.k) s2):=(unh HE).trans (by simp[someL,Rdr.then,hq,hpx,Rdr.ret,atM]);have hk2:s2.k<=si.k/\si.k<=s2.k:=by rw[hs2];exact⟨Nat.le_refl _,Nat.le_refl _⟩
       clear hs2 hx' HE
       go_wp2_with (first | (go_at_call 128;refine (Post.okC (peek_any hA) hq).mono ?_;rintro e w2 ⟨v2,rfl,rfl,h2,F2⟩;have g1:=h2.c1;have g0:=h2.c0) | (go_at_call 129;refine (isDigit_any _ x' hx3).mono ?_;rw[hpx];rintro e w3 ⟨rfl,rfl⟩))
       have hsl1:((s.k:Nat):Int)<=(s2.k:Int):=by omega
       have hsl2:(s2.k:Int)<=(E.f.size:Int):=by omega
       go_quiet (fail)
       go_wp2_with fail
       go_ret
       exact fin _ s2 (h2.drewN _) (by omega) ((hF.trans F2).drewN _) (unh HN)
      ·have HN:Hid (someM E digP most s=((someL E digP n').then fun _=>atM.then fun j=>Rdr.ret (E.f.extract s.k j)) { s2 with k:=s2.k+1 }):=(unh HE).trans (by simp[someL,Rdr.then,hq,hpx,advM]);have hk2:s2.k<=si.k/\si.k<=s2.k:=by rw[hs2];exact⟨Nat.le_refl _,Nat.le_refl _⟩
       clear hs2 hx' HE
       go_wp2_with (first | (go_at_call 128;refine (Post.okC (peek_any hA) hq).mono ?_;rintro e w2 ⟨v2,rfl,rfl,h2,F2⟩;have g1:=h2.c1;have g0:=h2.c0;have gf:=h2.fr 1) | (go_at_call 129;refine (isDigit_any _ x' hx3).mono ?_;rw[hpx];rintro e w3 ⟨rfl,rfl⟩))
       go_roundw
       case rel=>exact⟨n',{ s2 with k:=s2.k+1 },by show s.k<=s2.k+1;omega,by show n'+(s2.k+1-s.k)=most;omega,h2.go (s2.k+1) (by omega),(hF.trans F2).setP _ _,HN⟩
       case measure=>
        have e1:=hA.kOf;have e2:=(h2.go (s2.k+1) (by omega)).kOf;have e3:kOf P (w2.setCell ⟨P,1,none⟩ (.int .i64 ((s2.k:Int)+1)))=s2.k+1:=e2;simp only[e1,e3];omega
     ·have HN:Hid (someM E digP most s=.no y):=(unh HE).trans (by simp[someL,Rdr.then,hq]);clear HE
      go_wp2_with fail
      refine (Post.noC (peek_any hA) hq).mono ?_;rintro e w2 ⟨rfl,F2⟩;exact⟨rfl,Post.no (unh HN) (hF.trans F2)⟩
    ·have hltI:¬ (si.k:Int)-(s.k:Int)<(most:Int):=by omega
     have hn0:n=0:=by omega
     subst hn0;have HN:Hid (someM E digP most s=.ok (E.f.extract s.k si.k) si):=(unh HE).trans (by simp[someL,Rdr.then,Rdr.ret,atM]);clear HE;have hsl1:((s.k:Nat):Int)<=(si.k:Int):=by omega
     have hsl2:(si.k:Int)<=(E.f.size:Int):=by omega
     go_wp2_with fail
     go_quiet (fail)
     go_wp2_with fail
     go_ret
     exact fin _ si (hA.drewN _) (by omega) (hF.drewN _) (unh HN)
 ·have HN:Hid (someM E digP most s=.no y):=by
   show someM E digP most s=_;simp[someM,Rdr.then,atM,hp]
  go_wp2_with fail
  refine (Post.noC (peek_any hA0) hp).mono ?_;rintro e w2 ⟨rfl,F2⟩;exact⟨rfl,Post.no (unh HN) F2⟩
end
section
open Go.RowKit
attribute [local go_sem] Oper.semAt_some
variable {w:World}{P B:Nat}{E:Env}{s:St}
set_option maxHeartbeats 2000000 in
set_option maxRecDepth 100000 in
theorem someL_any (most:Nat) (hm:most<=100) (h:At w P B E s):Calls Tryz.prog 168 #[.pointer (some ⟨P,0,none⟩),.int .i64 (most:Int),.func (.func 170) #[] #[]] w (Post P B E w (fun t v _=>v=.string t) (someM E letP most s)):=by
 have c1:=h.c1;have hk:=h.hk;have he:=h.he;have hs:=h.hs;have hA0:=h
 go_enter Tryz.func168,Tryz.ntmps168
 rcases hp:peekM E s with⟨x,s1⟩|y
 ·obtain⟨hs1,hx,hne,hb1⟩:=peek_inv hp;have hx2:x<256:=by rw[hx];exact bt_lt _ _
  have hk1:s1.k=s.k:=by rw[hs1]
  clear hs1 hx
  rcases hpx:letP x with _|_
  ·have HN:Hid (someM E letP most s=.no (E.why s1.k)):=by
    show someM E letP most s=_;simp[someM,Rdr.then,atM,hp,needM,hpx]
   go_wp2_with (first | (go_at_call 128;refine (Post.okC (peek_any hA0) hp).mono ?_;rintro e w2 ⟨v2,rfl,rfl,h2,F2⟩) | (go_at_call 170;refine (isLetter_any _ x hx2).mono ?_;rw[hpx];rintro e w3 ⟨rfl,rfl⟩) | (go_at_call 104;refine (need_no h2).mono ?_;rintro e w3 ⟨rfl,rfl⟩;exact⟨rfl,Post.no (unh HN) F2.drew⟩))
  ·have HE0:Hid (someM E letP most s=((someL E letP most).then fun _=>atM.then fun j=>Rdr.ret (E.f.extract s.k j)) s1):=by
    show someM E letP most s=_;simp[someM,Rdr.then,atM,hp,needM,hpx]
   go_wp2_with (first | (go_at_call 128;refine (Post.okC (peek_any hA0) hp).mono ?_;rintro e w2 ⟨v2,rfl,rfl,h2,F2⟩) | (go_at_call 170;refine (isLetter_any _ x hx2).mono ?_;rw[hpx];rintro e w3 ⟨rfl,rfl⟩) | (go_at_call 104;refine (need_ok _).mono ?_;rintro e w3 ⟨rfl,rfl⟩))
   clear hp hpx hA0 c1
   go_loopw [18] (fun _ wr=>∃ (n:Nat) (si:St),s.k<=si.k/\n+(si.k-s.k)=most/\At wr P B E si/\Fz P B w wr/\Hid (someM E letP most s=((someL E letP n).then fun _=>atM.then fun j=>Rdr.ret (E.f.extract s.k j)) si))
    (fun _ wr=>E.e-kOf P wr)
   case atStart=>exact⟨most,s1,by omega,by omega,h2,F2,HE0⟩
   case round=>
    clear h2 HE0;obtain⟨n,si,hki,hn,hA,hF,HE⟩:=hrel;have d1:=hA.c1;have d0:=hA.c0;have hki2:=hA.hk;have fin:∀ (W:World) (sj:St),At W P B E sj->s.k<=sj.k->Fz P B w W->someM E letP most s=.ok (E.f.extract s.k sj.k) sj->Post P B E w (fun t v _=>v=.string t) (someM E letP most s) (.returned (.string (E.f.extract s.k sj.k))) W:=fun W sj a _ b c=>Post.ok c rfl a b
    by_cases hlt:si.k-s.k<most
    ·have hltI:(si.k:Int)-(s.k:Int)<(most:Int):=by omega
     obtain⟨n',rfl⟩:∃ n',n=n'+1:=⟨n-1,by omega⟩
     rcases hq:peekM E si with⟨x',s2⟩|y
     ·obtain⟨hs2,hx',hne',hb2⟩:=peek_inv hq;have hx3:x'<256:=by rw[hx'];exact bt_lt _ _
      rcases hpx:letP x' with _|_
      ·have HN:Hid (someM E letP most s=.ok (E.f.extract s.k s2.k) s2):=(unh HE).trans (by simp[someL,Rdr.then,hq,hpx,Rdr.ret,atM]);have hk2:s2.k<=si.k/\si.k<=s2.k:=by rw[hs2];exact⟨Nat.le_refl _,Nat.le_refl _⟩
       clear hs2 hx' HE
       go_wp2_with (first | (go_at_call 128;refine (Post.okC (peek_any hA) hq).mono ?_;rintro e w2 ⟨v2,rfl,rfl,h2,F2⟩;have g1:=h2.c1;have g0:=h2.c0) | (go_at_call 170;refine (isLetter_any _ x' hx3).mono ?_;rw[hpx];rintro e w3 ⟨rfl,rfl⟩))
       have hsl1:((s.k:Nat):Int)<=(s2.k:Int):=by omega
       have hsl2:(s2.k:Int)<=(E.f.size:Int):=by omega
       go_quiet (fail)
       go_wp2_with fail
       go_ret
       exact fin _ s2 (h2.drewN _) (by omega) ((hF.trans F2).drewN _) (unh HN)
      ·have HN:Hid (someM E letP most s=((someL E letP n').then fun _=>atM.then fun j=>Rdr.ret (E.f.extract s.k j)) { s2 with k:=s2.k+1 }):=(unh HE).trans (by simp[someL,Rdr.then,hq,hpx,advM]);have hk2:s2.k<=si.k/\si.k<=s2.k:=by rw[hs2];exact⟨Nat.le_refl _,Nat.le_refl _⟩
       clear hs2 hx' HE
       go_wp2_with (first | (go_at_call 128;refine (Post.okC (peek_any hA) hq).mono ?_;rintro e w2 ⟨v2,rfl,rfl,h2,F2⟩;have g1:=h2.c1;have g0:=h2.c0;have gf:=h2.fr 1) | (go_at_call 170;refine (isLetter_any _ x' hx3).mono ?_;rw[hpx];rintro e w3 ⟨rfl,rfl⟩))
       go_roundw
       case rel=>exact⟨n',{ s2 with k:=s2.k+1 },by show s.k<=s2.k+1;omega,by show n'+(s2.k+1-s.k)=most;omega,h2.go (s2.k+1) (by omega),(hF.trans F2).setP _ _,HN⟩
       case measure=>
        have e1:=hA.kOf;have e2:=(h2.go (s2.k+1) (by omega)).kOf;have e3:kOf P (w2.setCell ⟨P,1,none⟩ (.int .i64 ((s2.k:Int)+1)))=s2.k+1:=e2;simp only[e1,e3];omega
     ·have HN:Hid (someM E letP most s=.no y):=(unh HE).trans (by simp[someL,Rdr.then,hq]);clear HE
      go_wp2_with fail
      refine (Post.noC (peek_any hA) hq).mono ?_;rintro e w2 ⟨rfl,F2⟩;exact⟨rfl,Post.no (unh HN) (hF.trans F2)⟩
    ·have hltI:¬ (si.k:Int)-(s.k:Int)<(most:Int):=by omega
     have hn0:n=0:=by omega
     subst hn0;have HN:Hid (someM E letP most s=.ok (E.f.extract s.k si.k) si):=(unh HE).trans (by simp[someL,Rdr.then,Rdr.ret,atM]);clear HE;have hsl1:((s.k:Nat):Int)<=(si.k:Int):=by omega
     have hsl2:(si.k:Int)<=(E.f.size:Int):=by omega
     go_wp2_with fail
     go_quiet (fail)
     go_wp2_with fail
     go_ret
     exact fin _ si (hA.drewN _) (by omega) (hF.drewN _) (unh HN)
 ·have HN:Hid (someM E letP most s=.no y):=by
   show someM E letP most s=_;simp[someM,Rdr.then,atM,hp]
  go_wp2_with fail
  refine (Post.noC (peek_any hA0) hp).mono ?_;rintro e w2 ⟨rfl,F2⟩;exact⟨rfl,Post.no (unh HN) F2⟩
end
end Go.Proofs.YtgffljllfenhkaaGreatDoor
