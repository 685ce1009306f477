import Derived.Test.YtgffljllfenhkaaGreatDoorHwao
section
namespace Go.Proofs.YtgffljllfenhkaaGreatDoor
open Go.RowKit
variable {w w':World} {P B:Nat} {E:Env} {s s':St} {S S':Nat→Prop}
def oCells (cs:List Value) (o:Obj1):List Value:=cs++[Value.int .i64 (o.place:Int),Value.int .i64 (o.fin:Int),Value.bool o.has,Value.string o.stream]
def RepOs (w:World) (S:Nat→Prop):List Obj1→List Value→Prop
 | [],xs=>xs=[]
 | o::l,xs=>∃ cs rest,xs=oCells cs o++rest∧Rep w S o.v cs∧RepOs w S l rest
theorem RepOs.kept (hS:∀ b,S b→S' b∧w'.heap[b]?=w.heap[b]?):∀ (l:List Obj1) {xs:List Value},RepOs w S l xs→RepOs w' S' l xs
 | [],_,h=>h
 | o::l,_,h=>by
  obtain ⟨cs,rest,e,hv,hl⟩:=h
  exact ⟨cs,rest,e,Rep.kept hS o.v hv,RepOs.kept hS l hl⟩
theorem RepOs.append {o:Obj1} {cs:List Value} (hv:Rep w S o.v cs):∀ (l:List Obj1) {xs:List Value},RepOs w S l xs→RepOs w S (l++[o]) (xs++oCells cs o)
 | [],_,h=>by
  have h':_=[]:=h
  subst h'
  exact ⟨cs,[],by simp,hv,rfl⟩
 | u::l,_,h=>by
  obtain ⟨cu,rest,e,hu,hl⟩:=h
  exact ⟨cu,rest++oCells cs o,by rw [e,List.append_assoc],hu,RepOs.append hv l hl⟩
theorem oCells_len {o:Obj1} {cs:List Value} (hv:Rep w S o.v cs):(oCells cs o).length=10:=by unfold oCells;rw [List.length_append,Rep.len o.v hv];rfl
theorem RepOs.length:∀ (l:List Obj1) {xs:List Value},RepOs w S l xs→xs.length=l.length * 10
 | [],_,h=>by have h':_=[]:=h;subst h';rfl
 | o::l,_,h=>by
  obtain ⟨cs,rest,e,hv,hl⟩:=h
  rw [e,List.length_append,oCells_len hv,RepOs.length l hl,List.length_cons];omega
theorem RepOs.get:∀ (l:List Obj1) {xs:List Value},RepOs w S l xs→∀ (i:Nat) (o:Obj1),l[i]?=some o→∃ cs,Rep w S o.v cs∧∀ j u,(oCells cs o)[j]?=some u→xs[i * 10+j]?=some u
 | [],_,_,i,o,hi=>by simp at hi
 | o'::l,_,h,i,o,hi=>by
  obtain ⟨cs,rest,e,hv,hl⟩:=h
  cases i with
  | zero=>
   simp at hi
   subst hi
   refine ⟨cs,hv,fun j u hj=>?_⟩
   have hjl:j < (oCells cs o').length:=(List.getElem?_eq_some_iff.1 hj).1
   rw [e,Nat.zero_mul,Nat.zero_add,List.getElem?_append_left hjl];exact hj
  | succ i=>
   obtain ⟨c,hc,hg⟩:=RepOs.get l hl i o (by simpa using hi)
   refine ⟨c,hc,fun j u hj=>?_⟩
   have:=hg j u hj
   rw [e,List.getElem?_append_right (by rw [oCells_len hv];omega),oCells_len hv,show (i+1) * 10+j - 10=i * 10+j by omega]
   exact this
def objsR (f:ByteArray) (at_:Nat):List Nat→Nat→Nat→Res (List Obj1)
 | [],_,b=>.ok [] b
 | p::ps,num,b=>match objR f at_ p num b with
  | .no y=>.no y
  | .ok o b'=>match objsR f at_ ps (num+1) b' with
   | .no y=>.no y
   | .ok l b''=>.ok (o::l) b''
theorem objsR_cons_ok {f:ByteArray} {at_ p:Nat} {ps:List Nat} {num b b':Nat} {o:Obj1} (h:objR f at_ p num b=.ok o b'):objsR f at_ (p::ps) num b=match objsR f at_ ps (num+1) b' with
   | .no y=>.no y
   | .ok l b''=>.ok (o::l) b'':=by rw [objsR,h]
theorem objsR_cons_no {f:ByteArray} {at_ p:Nat} {ps:List Nat} {num b:Nat} {y:Why} (h:objR f at_ p num b=.no y):objsR f at_ (p::ps) num b=.no y:=by rw [objsR,h]
theorem places_inv:∀ (n:Nat) {s s':St} {l:List Nat},placesM E n s=.ok l s'→l.length=n∧∀ p ∈ l,p≤9999
 | 0,s,s',l,h=>by obtain ⟨rfl,_⟩:=ret_inv h;simp
 | n+1,s,s',l,h=>by
  unfold placesM at h
  obtain ⟨p,s1,hp,k1⟩:=then_inv h
  obtain ⟨l',s2,hl,k2⟩:=then_inv k1
  obtain ⟨e,_⟩:=ret_inv k2
  have h1:=line_inv hp
  have h2:=places_inv n hl
  rw [e]
  refine ⟨by simp [h2.1],fun q hq=>?_⟩
  rcases List.mem_cons.1 hq with rfl | hq
  ·exact h1.2
  ·exact h2.2 q hq
theorem tabR_inv {f:ByteArray} {b b' at_ root:Nat} {l:List Nat} (h:tabR f b=.ok (at_,l,root) b'):at_≤f.size∧1≤l.length∧l.length≤30∧(∀ p ∈ l,p≤9999)∧1≤root∧root≤l.length:=by
 unfold tabR at h
 split at h
 ·cases h
 ·split at h
  ·cases h
  ·rename_i hneg
   have hxl:=xrefAt_le f
   rcases hq:Rdr.then (tableM (tabEnv f) (xrefAt f).toNat) (fun x=>Rdr.ret ((xrefAt f).toNat,x.1,x.2)) ⟨b - f.size,(xrefAt f).toNat,0,0,0⟩ with ⟨x,s1⟩ | y
   ·rw [hq] at h
    have hx:x=(at_,l,root):=by unfold Out.res at h;cases h;rfl
    subst hx
    obtain ⟨y,s2,ht,k1⟩:=then_inv hq
    obtain ⟨e,_⟩:=ret_inv k1
    unfold tableM at ht
    obtain ⟨n,s3,hn,k3⟩:=then_inv ht
    obtain ⟨l',s4,hl,k4⟩:=then_inv k3
    obtain ⟨r,s5,hr,k5⟩:=then_inv k4
    obtain ⟨_,s6,_,k6⟩:=then_inv k5
    obtain ⟨_,s7,_,k7⟩:=then_inv k6
    obtain ⟨_,s8,_,k8⟩:=then_inv k7
    obtain ⟨e2,_⟩:=ret_inv k8
    have h1:=line_inv hn
    have h2:=places_inv n hl
    have h3:=line_inv hr
    have e3:at_=(xrefAt f).toNat∧l=y.1∧root=y.2:=by simpa using e
    rw [e2] at e3
    obtain ⟨e4,e5,e6⟩:=e3
    simp only [] at e5 e6
    rw [e4,e5,e6]
    exact ⟨by omega,by omega,by omega,h2.2,by omega,by omega⟩
   ·rw [hq] at h;cases h
structure Doc (w:World) (D B lo:Nat) (at_:Nat) (pl:List Nat) (root:Nat) (slp:Value) (slo:Value) (os:List Obj1) (xs:List Value):Prop where
 d:w.heap[D]?=some (.cells #[.int .i64 (at_:Int),slp,.int .i64 (root:Int),slo,chg B] 101 (0,0))
 p:w.ownsRow lo 3 1 slp pl.length (intsV pl)
 o:w.ownsRow lo 122 10 slo os.length xs
 r:RepOs w (fun b=>lo≤b∧b < w.heap.size∧b≠D∧slo.ownBlock≠some b∧slp.ownBlock≠some b) os xs
 lo:lo≤D
 ne:slo.ownBlock≠some D∧slp.ownBlock≠some D∧(∀ g,slo.ownBlock=some g→slp.ownBlock≠some g)
section
variable {D lo at_ root:Nat} {pl:List Nat} {slp slo:Value} {os:List Obj1} {xs:List Value}
theorem Doc.c0 (h:Doc w D B lo at_ pl root slp slo os xs):w.cell? ⟨D,0,none⟩=some (.int .i64 (at_:Int)):=by simp [World.cell?,h.d]
theorem Doc.c1 (h:Doc w D B lo at_ pl root slp slo os xs):w.cell? ⟨D,1,none⟩=some slp:=by simp [World.cell?,h.d]
theorem Doc.c2 (h:Doc w D B lo at_ pl root slp slo os xs):w.cell? ⟨D,2,none⟩=some (.int .i64 (root:Int)):=by simp [World.cell?,h.d]
theorem Doc.c3 (h:Doc w D B lo at_ pl root slp slo os xs):w.cell? ⟨D,3,none⟩=some slo:=by simp [World.cell?,h.d]
theorem Doc.c4 (h:Doc w D B lo at_ pl root slp slo os xs):w.cell? ⟨D,4,none⟩=some (chg B):=by simp [World.cell?,h.d]
theorem Doc.fr (h:Doc w D B lo at_ pl root slp slo os xs) (i:Nat):w.frozen? ⟨D,i,none⟩=false:=by simp [World.frozen?,h.d]
theorem Doc.ltD (h:Doc w D B lo at_ pl root slp slo os xs):D < w.heap.size:=(Array.getElem?_eq_some_iff.1 h.d).1
theorem Doc.kept (h:Doc w D B lo at_ pl root slp slo os xs) (F:Fb B w w') (hB:B < lo):Doc w' D B lo at_ pl root slp slo os xs:=by
 have hl:=h.lo
 have hs:=F.size
 refine ⟨(F.block D h.ltD (by omega)).trans h.d,?_,?_,RepOs.kept (fun b hb=>?_) os h.r,h.lo,h.ne⟩
 ·exact ownsRow_blockI h.p (fun g hg=>F.block g (World.ownsRow.lt h.p g hg).2 (by have:=(World.ownsRow.lt h.p g hg).1;omega))
 ·refine ⟨h.o.1,?_⟩
  rcases h.o.2 with hn | ⟨g,cap,cur,e,h1,h2,rest⟩
  ·exact .inl hn
  ·exact .inr ⟨g,cap,cur,e,h1,(F.block g (Array.getElem?_eq_some_iff.1 h2).1 (by omega)).trans h2,rest⟩
 ·obtain ⟨b1,b2,b3,b4,b5⟩:=hb
  exact ⟨⟨b1,by omega,b3,b4,b5⟩,F.block b b2 (by omega)⟩
end
end Go.Proofs.YtgffljllfenhkaaGreatDoor
end
section
namespace Go.Proofs.YtgffljllfenhkaaGreatDoor
open Go.RowKit
attribute [local go_sem] Oper.semAt_some
variable {w w':World} {P B:Nat} {D lo at_ root:Nat} {pl:List Nat} {slp slo:Value} {os:List Obj1} {xs:List Value}
def tnameAt (os:List Obj1) (n:Nat):ByteArray:=match os[n]? with
 | some o=>tname o
 | none=>ByteArray.empty
theorem Doc.obj (h:Doc w D B lo at_ pl root slp slo os xs) (n:Nat) (o:Obj1) (ho:os[n]?=some o) :
  ∃ g c kk xx tt rr aa nn cc mm,slo=.slice (some ⟨g,0,none⟩) os.length c∧os.length≤c∧g < w.heap.size∧lo≤g∧w.rangeAt g (n * 10) [.int .i64 ((kk:Nat):Int),.float .f64 xx,.string tt,.int .i64 ((rr:Nat):Int),.slice aa nn cc,.map mm,.int .i64 (o.place:Int),.int .i64 (o.fin:Int),.bool o.has,.string o.stream] ∧
   Rep w (fun b=>lo≤b∧b < w.heap.size∧b≠D∧slo.ownBlock≠some b∧slp.ownBlock≠some b) o.v (vC kk xx tt rr (.slice aa nn cc) (.map mm))∧(∀ j,j < 10→w.frozen? ⟨g,n * 10+j,none⟩=false):=by
 obtain ⟨cs,hR,hx⟩:=RepOs.get os h.r n o ho
 obtain ⟨kk,xx,tt,rr,aa,nn,cc,mm,rfl⟩:=hR.shape
 have hnl:n < os.length:=(List.getElem?_eq_some_iff.1 ho).1
 have hcl:∀ g,slo.ownBlock=some g→∀ j u,xs[j]?=some u→w.cell? ⟨g,j,none⟩=some u:=fun g hg j u hu=>by
  have:=World.ownsRow.cells h.o hg j u hu
  rw [Addr.add_mid,Nat.zero_add] at this
  exact this
 rcases h.o.2 with ⟨_,hn⟩ | ⟨g,cap,cur,e,h1,h2,hcap,_⟩
 ·omega
 ·refine ⟨g,cap,kk,xx,tt,rr,aa,nn,cc,mm,e,hcap,(Array.getElem?_eq_some_iff.1 h2).1,h1,fun j u hj=>?_,hR,fun j _=>by simp [World.frozen?,h2]⟩
  exact hcl g (by rw [e];rfl) _ _ (hx j u hj)
theorem load_mid {ops:Array Oper} {rest:List Oper} {o:Oper} {a:Act} {w:World} {Q:Exit→Act→World→Prop} (hgd:o.guard=none) (ty:TypeId) (x:Operand) (ho:o.op=.load ty x)
  (b off:Nat) (hx:a.eval x=.pointer (some ⟨b,off,none⟩)) (cs:List Value) (hc:w.rangeAt b off cs)
  (hu:(Tryz.prog.underlying ty).map isAg=some true) (hi:(Tryz.prog.info? ty).map (·.size)=some cs.length)
  (h:wpList Tryz.prog ops Q rest (a.put o.dst (.agg cs.toArray)) w):wpList Tryz.prog ops Q (o::rest) a w:=by
 obtain ⟨d,h1,h2⟩:=isStruct hu
 refine wpList_load_mid hgd ty x ho b off hx cs d hc h1 ?_ hi h
 cases d <;> first | rfl | cases h2
set_option maxHeartbeats 2000000 in
set_option maxRecDepth 100000 in
theorem typeOf_any (h:Doc w D B lo at_ pl root slp slo os xs) (n:Nat) :
  Calls Tryz.prog 70 #[.pointer (some ⟨D,0,none⟩),.int .i64 (n:Int)] w fun e w'=>e=.returned (.string (tnameAt os n))∧Below w.heap.size w w':=by
 have c3:=h.c3
 rcases ho:os[n]? with _ | o
 ·have hnl:os.length≤n:=by simpa using ho
  have ht:Hid (tnameAt os n=ByteArray.empty):=by show tnameAt os n=_;unfold tnameAt;rw [ho]
  have hsl:∃ a c,slo=.slice a os.length c:=by
   rcases h.o.2 with ⟨e,e2⟩ | ⟨g,cap,cur,e,_⟩
   ·exact ⟨none,0,by rw [e,e2]⟩
   ·exact ⟨_,_,e⟩
  obtain ⟨a,c,rfl⟩:=hsl
  have i1:(os.length:Int)≤(n:Int):=by omega
  go_enter Tryz.func70,Tryz.ntmps70
  go_wp2_with fail
  go_ret
  exact ⟨congrArg (fun t=>Ending.returned (Value.string t)) (unh ht).symm,Below.refl _ _⟩
 ·have hnl:n < os.length:=(List.getElem?_eq_some_iff.1 ho).1
  have ht:Hid (tnameAt os n=tname o):=by show tnameAt os n=_;unfold tnameAt;rw [ho]
  obtain ⟨g,c,kk,xx,tt,rr,aa,nn,cc,mm,e,_,hg,hgl,hr,hR,_⟩:=h.obj n o ho
  have TN:=typeName_any o hR (fun b hb=>hb.2.1)
  clear hR ho
  subst e
  have i1:¬ (os.length:Int)≤(n:Int):=by omega
  have i1':decide ((os.length:Int)≤(n:Int))=false:=by simp;omega
  have i1'':decide (os.length≤n)=false:=by simp;omega
  have i2:(n:Int) < (os.length:Int):=by omega
  go_enter Tryz.func70,Tryz.ntmps70
  go_wp2_with (first | (go_at_call 107;refine TN.mono ?_;rintro e w2 ⟨rfl,hB⟩) | (refine load_mid rfl 122 _ rfl g (n * 10) rfl _ hr Tryz.agO Tryz.sizeO ?_))
  go_ret
  exact ⟨congrArg (fun t=>Ending.returned (Value.string t)) (unh ht).symm,hB⟩
end Go.Proofs.YtgffljllfenhkaaGreatDoor
end
section
namespace Go.Proofs.YtgffljllfenhkaaGreatDoor
open Go.RowKit
attribute [local go_sem] Oper.semAt_some
variable {w w':World} {P B:Nat} {D lo at_ root:Nat} {pl:List Nat} {slp slo:Value} {os:List Obj1} {xs:List Value}
def overI (o:Obj1) (num:Nat):List Obj1→Nat→Res Unit
 | [],b=>.ok () b
 | u::l,b=>if b < 1 then .no (12,0) else if o.place < u.fin∧u.place < o.fin then .no (8,num) else overI o num l (b - 1)
def overO (os:List Obj1):Nat→Nat→Res Unit
 | 0,b=>.ok () b
 | m+1,b=>match os[os.length - (m+1)]? with
  | none=>.ok () b
  | some o=>match overI o (os.length - (m+1)) (os.take (os.length - (m+1))) b with
   | .no y=>.no y
   | .ok _ b'=>overO os m b'
def overR (os:List Obj1) (b:Nat):Res Unit:=overO os os.length b
theorem one_tenO (o:Obj1) (kk xx:Nat) (tt:ByteArray) (rr:Nat) (aa:Option Addr) (nn cc:Nat) (mm:Option Nat):(#[.int .i64 (kk:Int),.float .f64 xx,.string tt,.int .i64 (rr:Int),.slice aa nn cc,.map mm,.int .i64 (o.place:Int),.int .i64 (o.fin:Int),.bool o.has,.string o.stream]:Array Value).all (·.oneCell')=true:=by simp [Value.oneCell']
set_option maxHeartbeats 4000000 in
set_option maxRecDepth 100000 in
theorem overlaps_any {b:Nat} (hd:Doc w D B lo at_ pl root slp slo os xs) (hB:Bud w B b) (hlo:B+1 < lo) (hos:os.length≤100) :
  Calls Tryz.prog 68 #[.pointer (some ⟨D,0,none⟩)] w (PostB B w (fun _ v _=>v=.tuple #[]) (overR os b)):=by
 have c3:=hd.c3
 have hsl:∃ a c,slo=.slice a os.length c:=by
  rcases hd.o.2 with ⟨e,e2⟩ | ⟨g,cap,cur,e,_⟩
  ·exact ⟨none,0,by rw [e,e2]⟩
  ·exact ⟨_,_,e⟩
 obtain ⟨ao,cp,rfl⟩:=hsl
 go_enter Tryz.func68,Tryz.ntmps68
 go_wp2_with fail
 clear c3
 go_loopw [11] (fun v wr=>∃ i b',v=.int .i64 ((i:Nat):Int)∧i≤os.length∧Bud wr B b'∧Fb B w wr∧Hid (overR os b=overO os (os.length - i) b'))
  (fun v _=>os.length - (intOf v).toNat)
 case atStart=>exact ⟨0,b,rfl,Nat.zero_le _,hB,Fb.refl _ _,rfl⟩
 case round=>
  clear hB
  obtain ⟨i,b',rfl,hi,hB,hF,HE⟩:=hrel
  have hdr:=hd.kept hF (by omega)
  by_cases hlt:i < os.length
  ·have hltI:(i:Int) < (os.length:Int):=by omega
   obtain ⟨o,ho⟩:∃ o,os[i]?=some o:=⟨os[i],List.getElem?_eq_getElem hlt⟩
   obtain ⟨g,cp',kk,xx,tt,rr,aa,nn,cc,mm,e,hcap,hg,hgl,hr,_,_⟩:=hdr.obj i o ho
   obtain ⟨rfl,rfl⟩:ao=some ⟨g,0,none⟩∧cp=cp':=by simpa using e
   clear e
   have HE1:Hid (overR os b=match overI o i (os.take i) b' with
     | .no y=>.no y
     | .ok _ b''=>overO os (os.length - (i+1)) b''):=(unh HE).trans (by
    rw [show os.length - i=(os.length - (i+1))+1 by omega,overO,show os.length - (os.length - (i+1)+1)=i by omega,ho])
   have c3:=(hdr.kept ((Fb.refl B wr).alloc (.cells #[.int .i64 (kk:Int),.float .f64 xx,.string tt,.int .i64 (rr:Int),.slice aa nn cc,.map mm,.int .i64 (o.place:Int),.int .i64 (o.fin:Int),.bool o.has,.string o.stream] 122)) (by omega)).c3
   have icap:(i:Int)≤(cp:Int):=by omega
   have hB3:=hB.alloc (.cells #[.int .i64 (kk:Int),.float .f64 xx,.string tt,.int .i64 (rr:Int),.slice aa nn cc,.map mm,.int .i64 (o.place:Int),.int .i64 (o.fin:Int),.bool o.has,.string o.stream] 122)
   have hR3:(wr.alloc (.cells #[.int .i64 (kk:Int),.float .f64 xx,.string tt,.int .i64 (rr:Int),.slice aa nn cc,.map mm,.int .i64 (o.place:Int),.int .i64 (o.fin:Int),.bool o.has,.string o.stream] 122)).heap[wr.heap.size]?=some (.cells #[.int .i64 (kk:Int),.float .f64 xx,.string tt,.int .i64 (rr:Int),.slice aa nn cc,.map mm,.int .i64 (o.place:Int),.int .i64 (o.fin:Int),.bool o.has,.string o.stream] 122 (0,0)):=heap_alloc_new wr _
   have hd3:=hdr.kept ((Fb.refl B wr).alloc (.cells #[.int .i64 (kk:Int),.float .f64 xx,.string tt,.int .i64 (rr:Int),.slice aa nn cc,.map mm,.int .i64 (o.place:Int),.int .i64 (o.fin:Int),.bool o.has,.string o.stream] 122)) (by omega)
   have F3:=hF.alloc (.cells #[.int .i64 (kk:Int),.float .f64 xx,.string tt,.int .i64 (rr:Int),.slice aa nn cc,.map mm,.int .i64 (o.place:Int),.int .i64 (o.fin:Int),.bool o.has,.string o.stream] 122)
   have hz3:wr.heap.size < (wr.alloc (.cells #[.int .i64 (kk:Int),.float .f64 xx,.string tt,.int .i64 (rr:Int),.slice aa nn cc,.map mm,.int .i64 (o.place:Int),.int .i64 (o.fin:Int),.bool o.has,.string o.stream] 122)).heap.size:=by simp
   clear HE
   go_wp2_with (first | (refine load_mid rfl 122 _ rfl g (i * 10) rfl _ hr Tryz.agO Tryz.sizeO ?_) | (refine wpList_store_row rfl 122 _ _ rfl wr.heap.size _ rfl rfl 122 _ (heap_alloc_new wr _) Tryz.sizeO rfl (one_tenO o _ _ _ _ _ _ _ _) ?_;rw [setRow_alloc]))
   obtain ⟨wo,rfl⟩:∃ wo,wo=wr:=⟨_,rfl⟩
   obtain ⟨W3,hW3⟩:∃ W3,wo.alloc (.cells #[.int .i64 (kk:Int),.float .f64 xx,.string tt,.int .i64 (rr:Int),.slice aa nn cc,.map mm,.int .i64 (o.place:Int),.int .i64 (o.fin:Int),.bool o.has,.string o.stream] 122)=W3:=⟨_,rfl⟩
   rw [hW3] at c3 hB3 hR3 hd3 F3 hz3 ⊢
   clear hW3 c3 hr
   go_loopw [23] (fun v wr=>∃ j b2,v=.int .i64 ((j:Nat):Int)∧j≤i∧Bud wr B b2∧Fb B W3 wr∧Hid (overI o i (os.take i) b'=overI o i ((os.take i).drop j) b2))
    (fun v _=>i - (intOf v).toNat)
   case atStart=>exact ⟨0,b',rfl,Nat.zero_le _,hB3,Fb.refl _ _,rfl⟩
   case round=>
    clear hB3
    obtain ⟨j,b2,rfl,hj,hBq,hFq,HQ⟩:=hrel
    have hdq:=hd3.kept hFq (by omega)
    by_cases hjl:j < i
    ·have hjlI:(j:Int) < (i:Int):=by omega
     obtain ⟨u,hu⟩:∃ u,os[j]?=some u:=⟨os[j],List.getElem?_eq_getElem (by omega)⟩
     have hdrop:(os.take i).drop j=u::(os.take i).drop (j+1):=by
      have hl:j < (os.take i).length:=by simp;omega
      rw [List.drop_eq_getElem_cons hl]
      congr 1
      have:(os.take i)[j]?=some u:=by rw [List.getElem?_take,if_pos hjl];exact hu
      exact Option.some.inj ((List.getElem?_eq_getElem hl).symm.trans this)
     obtain ⟨g2,cp2,kk2,xx2,tt2,rr2,aa2,nn2,cc2,mm2,e2,_,hg2,hgl2,hr2,_,_⟩:=hdq.obj j u hu
     obtain ⟨rfl,rfl⟩:g=g2∧cp=cp2:=by simpa using e2
     clear e2
     have c4:=(hdq.kept ((Fb.refl B wr).alloc (.cells #[.int .i64 (kk2:Int),.float .f64 xx2,.string tt2,.int .i64 (rr2:Int),.slice aa2 nn2 cc2,.map mm2,.int .i64 (u.place:Int),.int .i64 (u.fin:Int),.bool u.has,.string u.stream] 122)) (by omega)).c4
     unfold chg at c4
     have hB4:=hBq.alloc (.cells #[.int .i64 (kk2:Int),.float .f64 xx2,.string tt2,.int .i64 (rr2:Int),.slice aa2 nn2 cc2,.map mm2,.int .i64 (u.place:Int),.int .i64 (u.fin:Int),.bool u.has,.string u.stream] 122)
     have F4:=hFq.alloc (.cells #[.int .i64 (kk2:Int),.float .f64 xx2,.string tt2,.int .i64 (rr2:Int),.slice aa2 nn2 cc2,.map mm2,.int .i64 (u.place:Int),.int .i64 (u.fin:Int),.bool u.has,.string u.stream] 122)
     have hzq:=hFq.size
     have hb2:=hBq.hb
     have hBl:=hBq.lt
     have hR34:(wr.alloc (.cells #[.int .i64 (kk2:Int),.float .f64 xx2,.string tt2,.int .i64 (rr2:Int),.slice aa2 nn2 cc2,.map mm2,.int .i64 (u.place:Int),.int .i64 (u.fin:Int),.bool u.has,.string u.stream] 122)).heap[wo.heap.size]?=some (.cells #[.int .i64 (kk:Int),.float .f64 xx,.string tt,.int .i64 (rr:Int),.slice aa nn cc,.map mm,.int .i64 (o.place:Int),.int .i64 (o.fin:Int),.bool o.has,.string o.stream] 122 (0,0)):=(Below.heap_alloc _ _ _ (by omega)).trans ((hFq.block _ (by omega) (by have:=hF.size;have:=hd.lo;have:=hd.ltD;omega)).trans hR3)
     have hR54:(wr.alloc (.cells #[.int .i64 (kk2:Int),.float .f64 xx2,.string tt2,.int .i64 (rr2:Int),.slice aa2 nn2 cc2,.map mm2,.int .i64 (u.place:Int),.int .i64 (u.fin:Int),.bool u.has,.string u.stream] 122)).heap[wr.heap.size]?=some (.cells #[.int .i64 (kk2:Int),.float .f64 xx2,.string tt2,.int .i64 (rr2:Int),.slice aa2 nn2 cc2,.map mm2,.int .i64 (u.place:Int),.int .i64 (u.fin:Int),.bool u.has,.string u.stream] 122 (0,0)):=heap_alloc_new wr _
     have HD:=hid hdrop
     clear hdrop
     by_cases hb1:b2 < 1
     ·have HN:Hid (overR os b=.no (12,0)):=(unh HE1).trans (by rw [unh HQ,unh HD,overI,if_pos hb1])
      go_wp2_with (first | (refine load_mid rfl 122 _ rfl g (j * 10) rfl _ hr2 Tryz.agO Tryz.sizeO ?_) | (refine wpList_store_row rfl 122 _ _ rfl wr.heap.size _ rfl rfl 122 _ (heap_alloc_new wr _) Tryz.sizeO rfl (one_tenO u _ _ _ _ _ _ _ _) ?_;rw [setRow_alloc]))
      refine (take_no _ B b2 1 12 0 hB4.ca hB4.y hb1).mono ?_
      rintro e w5 ⟨rfl,rfl⟩
      exact ⟨rfl,PostB.no (unh HN) (F3.trans F4)⟩
     ·go_wp2_with (first | (refine load_mid rfl 122 _ rfl g (j * 10) rfl _ hr2 Tryz.agO Tryz.sizeO ?_) | (refine wpList_store_row rfl 122 _ _ rfl wr.heap.size _ rfl rfl 122 _ (heap_alloc_new wr _) Tryz.sizeO rfl (one_tenO u _ _ _ _ _ _ _ _) ?_;rw [setRow_alloc]))
      refine (take_ok _ B b2 1 hB4.ca (hB4.fa 0) (by omega) hb2).mono ?_
      rintro e w5 ⟨rfl,hw5⟩
      have hB5:=hB4.take 1 (by omega)
      have F5:=F4.setB 0 (.int .i64 ((b2:Int) - ((1:Nat):Int)))
      have k3:wo.heap.size≠B:=by have:=hF.size;have:=hd.lo;have:=hd.ltD;omega
      have k5:wr.heap.size≠B:=by omega
      have hR35:=(Below.heap_setCell (wr.alloc (.cells #[.int .i64 (kk2:Int),.float .f64 xx2,.string tt2,.int .i64 (rr2:Int),.slice aa2 nn2 cc2,.map mm2,.int .i64 (u.place:Int),.int .i64 (u.fin:Int),.bool u.has,.string u.stream] 122)) ⟨B,0,none⟩ (.int .i64 ((b2:Int) - ((1:Nat):Int))) wo.heap.size k3).trans hR34
      have hR55:=(Below.heap_setCell (wr.alloc (.cells #[.int .i64 (kk2:Int),.float .f64 xx2,.string tt2,.int .i64 (rr2:Int),.slice aa2 nn2 cc2,.map mm2,.int .i64 (u.place:Int),.int .i64 (u.fin:Int),.bool u.has,.string u.stream] 122)) ⟨B,0,none⟩ (.int .i64 ((b2:Int) - ((1:Nat):Int))) wr.heap.size k5).trans hR54
      rw [hw5] at hB5 F5 hR35 hR55
      clear hw5 hR34 hR54 hB4 F4 c4 hr2
      have a6:w5.cell? ⟨wo.heap.size,6,none⟩=some (.int .i64 (o.place:Int)):=by simp [World.cell?,hR35]
      have a7:w5.cell? ⟨wo.heap.size,7,none⟩=some (.int .i64 (o.fin:Int)):=by simp [World.cell?,hR35]
      have u6:w5.cell? ⟨wr.heap.size,6,none⟩=some (.int .i64 (u.place:Int)):=by simp [World.cell?,hR55]
      have u7:w5.cell? ⟨wr.heap.size,7,none⟩=some (.int .i64 (u.fin:Int)):=by simp [World.cell?,hR55]
      clear hR35 hR55
      by_cases h1:o.place < u.fin
      ·have j1:(o.place:Int) < (u.fin:Int):=by omega
       by_cases h2:u.place < o.fin
       ·have j2:(u.place:Int) < (o.fin:Int):=by omega
        have HN:Hid (overR os b=.no (8,i)):=(unh HE1).trans (by rw [unh HQ,unh HD,overI,if_neg hb1,if_pos ⟨h1,h2⟩])
        go_wp2_with fail
        refine (refuse_any _ _ _).mono ?_
        rintro e w6 ⟨rfl,rfl⟩
        exact ⟨rfl,PostB.no (unh HN) (F3.trans F5)⟩
       ·have j2:¬ (u.place:Int) < (o.fin:Int):=by omega
        have j2':decide ((u.place:Int) < (o.fin:Int))=false:=by simp;omega
        have j2'':decide (u.place < o.fin)=false:=by simp;omega
        have HQ2:Hid (overI o i (os.take i) b'=overI o i ((os.take i).drop (j+1)) (b2 - 1)):=(unh HQ).trans (by rw [unh HD,overI,if_neg hb1,if_neg (fun h=>h2 h.2)])
        go_wp2_with fail
        go_roundw
        case rel=>exact ⟨j+1,b2 - 1,by go_num,by omega,hB5,F5,HQ2⟩
        case measure=>simp [intOf];omega
      ·have j1:¬ (o.place:Int) < (u.fin:Int):=by omega
       have j1':decide ((o.place:Int) < (u.fin:Int))=false:=by simp;omega
       have j1'':decide (o.place < u.fin)=false:=by simp;omega
       have HQ2:Hid (overI o i (os.take i) b'=overI o i ((os.take i).drop (j+1)) (b2 - 1)):=(unh HQ).trans (by rw [unh HD,overI,if_neg hb1,if_neg (fun h=>h1 h.1)])
       go_wp2_with fail
       go_roundw
       case rel=>exact ⟨j+1,b2 - 1,by go_num,by omega,hB5,F5,HQ2⟩
       case measure=>simp [intOf];omega
    ·have hjlI:¬ (j:Int) < (i:Int):=by omega
     have HE2:Hid (overR os b=overO os (os.length - (i+1)) b2):=(unh HE1).trans (by rw [unh HQ,List.drop_eq_nil_of_le (by simp;omega),overI])
     go_wp2_with fail
     go_roundw
     case rel=>exact ⟨i+1,b2,by go_num,by omega,hBq,F3.trans hFq,HE2⟩
     case measure=>simp [intOf];omega
  ·have hltI:¬ (i:Int) < (os.length:Int):=by omega
   have HN:Hid (overR os b=.ok () b'):=(unh HE).trans (by rw [show os.length - i=0 by omega];rfl)
   go_wp2_with fail
   first | go_end0 | refine bodyPost_ret (results_none rfl _ _ _) rfl ?_
   exact PostB.ok (unh HN) rfl hB hF
end Go.Proofs.YtgffljllfenhkaaGreatDoor
end
section
namespace Go.Proofs.YtgffljllfenhkaaGreatDoor
open Go.RowKit
attribute [local go_sem] Oper.semAt_some
variable {w w':World} {P B:Nat} {D lo at_ root:Nat} {pl:List Nat} {slp slo:Value} {os:List Obj1} {xs:List Value} {S:Nat→Prop}
def fB:ByteArray:=⟨#[70]⟩
def zB:ByteArray:=⟨#[90]⟩
def packed (o:Obj1):Bool:=(tname o == textB) && isNameB (vget o.v fB) zB
def unpS (U:ByteArray→Nat→Nat→Res ByteArray) (o:Obj1) (num b:Nat):Res Obj1:=if packed o then (match U o.stream num b with
 | .ok t b'=>.ok { o with stream:=t } b'
 | .no y=>.no y) else .ok o b
def unpL (U:ByteArray→Nat→Nat→Res ByteArray):List Obj1→Nat→Nat→Res (List Obj1)
 | [],_,b=>.ok [] b
 | o::l,k,b=>match unpS U o k b with
  | .no y=>.no y
  | .ok o' b'=>match unpL U l (k+1) b' with
   | .no y=>.no y
   | .ok l' b''=>.ok (o'::l') b''
theorem oCells_stream (cs:List Value) (hc:cs.length=6) (o:Obj1) (t:ByteArray):oCells cs { o with stream:=t }=(oCells cs o).set 9 (.string t):=by
 unfold oCells
 rw [List.set_append_right _ _ (by omega),hc];rfl
theorem RepOs.stream (t:ByteArray):∀ (l:List Obj1) {xs:List Value},RepOs w S l xs→∀ (i:Nat) (o:Obj1),l[i]?=some o→RepOs w S (l.set i { o with stream:=t }) (xs.set (i * 10+9) (.string t))
 | [],_,_,i,o,hi=>by simp at hi
 | o'::l,_,h,i,o,hi=>by
  obtain ⟨cs,rest,e,hv,hl⟩:=h
  have hc:=Rep.len _ hv
  have ho:=oCells_len hv
  cases i with
  | zero=>
   simp at hi
   subst hi
   refine ⟨cs,rest,?_,hv,hl⟩
   have hq:=oCells_stream cs hc o' t
   rw [e,Nat.zero_mul,Nat.zero_add,List.set_append_left _ _ (by omega),hq]
  | succ i=>
   have:=RepOs.stream t l hl i o (by simpa using hi)
   refine ⟨cs,_,?_,hv,this⟩
   rw [e,List.set_append_right _ _ (by omega),ho,show (i+1) * 10+9 - 10=i * 10+9 by omega]
theorem ownsRow_set {e:TypeId} {sl:Value} {base n i:Nat} {xs:List Value} {v:Value} {g:Nat} (h:w.ownsRow base e 10 sl n xs) (hg:sl.ownBlock=some g):(w.setCell ⟨g,i,none⟩ v).ownsRow base e 10 sl n (xs.set i v):=by
 refine ⟨by rw [List.length_set];exact h.1,?_⟩
 rcases h.2 with ⟨rfl,_⟩ | ⟨g',cap,cur,rfl,h1,h2,h3,h4,h5,h6⟩
 ·simp [Value.ownBlock] at hg
 ·simp [Value.ownBlock] at hg
  subst hg
  refine .inr ⟨g',cap,cur.setIfInBounds i v,rfl,h1,?_,h3,h4,by simpa using h5,?_⟩
  ·exact heap_setCell_same w g' i _ _ v h2
  ·rw [Array.toList_setIfInBounds,List.take_set,h6]
theorem Doc.stream (h:Doc w D B lo at_ pl root slp slo os xs) (n:Nat) (o:Obj1) (ho:os[n]?=some o) (t:ByteArray) (g:Nat) (hg:slo.ownBlock=some g) :
  Doc (w.setCell ⟨g,n * 10+9,none⟩ (.string t)) D B lo at_ pl root slp slo (os.set n { o with stream:=t }) (xs.set (n * 10+9) (.string t)):=by
 have hne:=h.ne
 have hgD:g≠D:=fun e=>hne.1 (by rw [hg,e])
 refine ⟨(Below.heap_setCell _ _ _ _ (by exact Ne.symm hgD)).trans h.d,?_,?_,?_,h.lo,h.ne⟩
 ·exact ownsRow_blockI h.p (fun k hk=>Below.heap_setCell _ _ _ _ (by intro e;exact hne.2.2 g hg (by rw [hk];congr 1)))
 ·rw [List.length_set]
  exact ownsRow_set h.o hg
 ·refine RepOs.kept (fun b hb=>?_) _ (RepOs.stream t os h.r n o ho)
  obtain ⟨b1,b2,b3,b4,b5⟩:=hb
  exact ⟨⟨b1,by simpa using b2,b3,b4,b5⟩,Below.heap_setCell _ _ _ _ (by intro e;exact b4 (by rw [hg];congr 1;exact e.symm))⟩
def UnpC (G:World→Prop) (B:Nat) (U:ByteArray→Nat→Nat→Res ByteArray):Prop:=∀ (w:World) (b num:Nat) (s:ByteArray),G w→Bud w B b→s.size≤9000→num≤100 →
 Calls Tryz.prog 109 #[.string s,chg B,.agg #[.int .i64 9,.int .i64 (num:Int)]] w (PostB B w (fun t v _=>v=.string t) (U s num b))
theorem unpL_drop {U:ByteArray→Nat→Nat→Res ByteArray} {o:Obj1} {l:List Obj1} {k b:Nat}:unpL U (o::l) k b=match unpS U o k b with
  | .no y=>.no y
  | .ok o' b'=>match unpL U l (k+1) b' with
   | .no y=>.no y
   | .ok l' b''=>.ok (o'::l') b'':=rfl
def pre (l:List Obj1):Res (List Obj1)→Res (List Obj1)
 | .no y=>.no y
 | .ok l' b=>.ok (l++l') b
theorem pre_ok {U:ByteArray→Nat→Nat→Res ByteArray} {o o':Obj1} {d l:List Obj1} {k b b':Nat} (h:unpS U o k b=.ok o' b'):pre d (unpL U (o::l) k b)=pre (d++[o']) (unpL U l (k+1) b'):=by
 rw [unpL_drop,h]
 simp only []
 rcases hq:unpL U l (k+1) b' with ⟨l',b''⟩ | y
 ·simp [pre]
 ·rfl
theorem pre_no {U:ByteArray→Nat→Nat→Res ByteArray} {o:Obj1} {d l:List Obj1} {k b:Nat} {y:Why} (h:unpS U o k b=.no y):pre d (unpL U (o::l) k b)=.no y:=by rw [unpL_drop,h];rfl
end Go.Proofs.YtgffljllfenhkaaGreatDoor
end
