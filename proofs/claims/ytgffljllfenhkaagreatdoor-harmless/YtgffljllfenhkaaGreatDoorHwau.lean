import Derived.Test.YtgffljllfenhkaaGreatDoorHwat
section
namespace Go.Proofs.YtgffljllfenhkaaGreatDoor
open Go.RowKit
attribute [local go_sem] Oper.semAt_some
variable {w w':World} {B:Nat} {D lo at_ root:Nat} {pl:List Nat} {slp slo:Value} {os:List Obj1} {xs:List Value} {S:Nat→Prop}
def elemsOf:Val→List Val
 | .arr l=>l
 | _=>[]
def isArr:Val→Bool
 | .arr _=>true
 | _=>false
def isStr:Val→Bool
 | .str _=>true
 | _=>false
def isNum:Val→Bool
 | .num ..=>true
 | _=>false
def refTo (os:List Obj1) (ty:ByteArray):Val→Bool
 | .ref n=>tnameAt os n == ty
 | _=>false
def refR (os:List Obj1) (ty:ByteArray) (v:Val) (b:Nat):Res (Val×Bool):=if b < 1 then .no (12,0) else .ok (v,refTo os ty v) (b - 1)
def kidsR (os:List Obj1) (v:Val) (b:Nat):Res (Val×Bool):=if b < (elemsOf v).length then .no (12,0) else .ok (.arr ((elemsOf v).filter (refTo os pageB)),isArr v) (b - (elemsOf v).length)
inductive Rule where
 | kids | title | box | next | text
def Rule.key:Rule→ByteArray
 | .kids=>⟨#[75,105,100,115]⟩
 | .title=>⟨#[84,105,116,108,101]⟩
 | .box=>⟨#[66,111,120]⟩
 | .next=>⟨#[78,101,120,116]⟩
 | .text=>⟨#[84,101,120,116]⟩
def Rule.right (os:List Obj1) (r:Rule) (v:Val) (b:Nat):Res (Val×Bool):=match r with
 | .kids=>kidsR os v b
 | .title=>.ok (v,isStr v) b
 | .box=>.ok (v,((elemsOf v).length == 4) && (elemsOf v).all isNum) b
 | .next=>refR os pageB v b
 | .text=>refR os textB v b
def rulesOf (ty:ByteArray):List Rule:=if ty=rootB then [.kids,.title] else if ty=pageB then [.box,.next,.text] else []
def idx:List Nat→Nat→Option Nat
 | [],_=>none
 | x::l,a=>if x=a then some 0 else (idx l a).map (·+1)
def numR (olds:List Nat) (old b:Nat):Res (Nat×List Nat):=if b < 1 then .no (12,0) else match idx olds old with
 | some i=>.ok (i+1,olds) (b - 1)
 | none=>.ok (olds.length+1,olds++[old]) (b - 1)
def renLeaf (olds:List Nat) (v:Val) (b:Nat):Res (Val×List Nat):=match v with
 | .ref n=>(match numR olds n b with
  | .no y=>.no y
  | .ok (m,o') b'=>.ok (.ref m,o') b')
 | v=>.ok (v,olds) b
def renL:List Val→List Val→List Nat→Nat→Res (List Val×List Nat)
 | [],acc,olds,b=>.ok (acc,olds) b
 | v::l,acc,olds,b=>match renLeaf olds v b with
  | .no y=>.no y
  | .ok (v',o') b'=>renL l (acc++[v']) o' b'
def renV (olds:List Nat) (v:Val) (b:Nat):Res (Val×List Nat):=match v with
 | .arr l=>(match renL l [] olds b with
  | .no y=>.no y
  | .ok (l',o') b'=>.ok (.arr l',o') b')
 | v=>renLeaf olds v b
def keepL (os:List Obj1) (o:Obj1):List Rule→List (ByteArray×Val)→List Nat→Nat→Res (List (ByteArray×Val)×List Nat)
 | [],acc,olds,b=>.ok (acc,olds) b
 | r::rs,acc,olds,b=>match r.right os (vget o.v r.key) b with
  | .no y=>.no y
  | .ok (_,false) b1=>keepL os o rs acc olds b1
  | .ok (v,true) b1=>match renV olds v b1 with
   | .no y=>.no y
   | .ok (v',o') b2=>keepL os o rs (acc++[(r.key,v')]) o' b2
def reachW (nt:Bool→Nat→Nat→ByteArray) (os:List Obj1):Nat→Nat→List Nat→List Nat→List UInt8→Nat→Res (List Nat×List UInt8)
 | 0,_,_,_,_,_=>.no (0,0)
 | f+1,i,olds,places,out,b=>match olds[i]? with
  | none=>.ok (places,out) b
  | some n=>match os[n]? with
   | none=>.no (0,0)
   | some o=>match keepL os o (rulesOf (tname o)) [] olds b with
    | .no y=>.no y
    | .ok (fs,olds') b1=>match objW nt (i+1) (tname o) fs o.stream out b1 with
     | .no y=>.no y
     | .ok out' b2=>reachW nt os f (i+1) olds' (places++[out.length]) out' b2
def writeR (nt:Bool→Nat→Nat→ByteArray) (os:List Obj1) (root b:Nat):Res (List UInt8):=match putR [headB] [] b with
 | .no y=>.no y
 | .ok out b1=>match reachW nt os 40 0 [root] [] out b1 with
  | .no y=>.no y
  | .ok (pl,out') b2=>tabW pl out' b2
def rinseR (U:ByteArray→Nat→Nat→Res ByteArray) (nt:Bool→Nat→Nat→ByteArray) (f:ByteArray) (steps out:Int):Res (List UInt8):=
 if 0≤steps∧steps≤100000000∧0≤out∧out≤9000 then
  match docR U f steps.toNat with
  | .no y=>.no y
  | .ok x b=>match writeR nt x.2.2.2 x.2.2.1 b with
   | .no y=>.no y
   | .ok t b'=>if out.toNat < t.length then .no (13,0) else .ok t b'
 else .no (1,0)
theorem Rep.kindOf {v:Val} {kk xx:Nat} {tt:ByteArray} {rr:Nat} {aa:Option Addr} {nn cc:Nat} {mm:Option Nat} (h:Rep w S v (vC kk xx tt rr (.slice aa nn cc) (.map mm))) :
  (kk=5 ↔ isStr v=true)∧(kk=8 ↔ isArr v=true)∧(kk=4 ↔ isNum v=true)∧(kk=7 ↔ ∃ n,v=.ref n)∧nn=(elemsOf v).length∧(∀ n,v=.ref n→rr=n):=by
 cases v <;> unfold Rep at h
 case arr l=>
  obtain ⟨sl,xs,e,ho,_⟩:=h
  obtain ⟨rfl,rfl,rfl,rfl,e5,_⟩:=vC_m e
  obtain ⟨a,c,rfl⟩:=ownsRow_shape ho
  have:nn=l.length:=by have:=e5;simp at this;exact this.2.1
  simp [isStr,isArr,isNum,elemsOf,this]
 case dict l=>
  obtain ⟨M,n,f,e,_⟩:=h
  obtain ⟨rfl,rfl,rfl,rfl,e5,_⟩:=vC_m e
  have:nn=0:=by have:=e5;simp at this;exact this.2.1
  simp [isStr,isArr,isNum,elemsOf,this]
 all_goals
  obtain ⟨rfl,rfl,rfl,rfl,e5,_⟩:=vC_m h
  have hn0:nn=0:=by have:=e5;simp at this;exact this.2.1
  simp [isStr,isArr,isNum,elemsOf,hn0]
def StoreV (P:Program) (o:Oper) (a:Act) (w:World) (K:Act→World→Prop) (Q:Exit→Act→World→Prop):Prop:=o.wp P a w K Q
theorem store_v {P:Program} {d:Option Tmp} {x y:Operand} {ty:TypeId} {ps:String} {af:Array Edge} {gd:Option (Nat×Bool)} {a:Act} {w:World} {K:Act→World→Prop} {Q:Exit→Act→World→Prop} :
  Oper.wp P { dst:=d,op:=.store 120 x y,type:=ty,pos:=ps,after:=af,guard:=gd } a w K Q=StoreV P { dst:=d,op:=.store 120 x y,type:=ty,pos:=ps,after:=af,guard:=gd } a w K Q:=rfl
theorem StoreV.row {o:Oper} {a:Act} {w:World} {K:Act→World→Prop} {Q:Exit→Act→World→Prop} (x y:Operand) (ho:o.op=.store 120 x y)
  (g:Nat) (cells:Array Value) (hx:a.eval x=.pointer (some ⟨g,0,none⟩)) (hy:a.eval y=.agg cells) (old:Array Value) (hg:w.heap[g]?=some (.cells old 120 (0,0))) (ho6:old.size=6) (h6:cells.size=6) (h1:cells.all (·.oneCell')=true)
  (h:K (a.put o.dst undef) (w.setRow g cells)):StoreV Tryz.prog o a w K Q:=
 wp_store_row 120 x y ho g cells hx hy 120 old hg (by rw [h6];exact Tryz.sizeV) (ho6.trans h6.symm) h1 h
theorem StoreV.row0 {o:Oper} {a:Act} {w:World} {K:Act→World→Prop} {Q:Exit→Act→World→Prop} (x y:Operand) (ho:o.op=.store 120 x y) (hd:o.dst=none)
  (g:Nat) (cells:Array Value) (hx:a.eval x=.pointer (some ⟨g,0,none⟩)) (hy:a.eval y=.agg cells) (old:Array Value) (hg:w.heap[g]?=some (.cells old 120 (0,0))) (ho6:old.size=6) (h6:cells.size=6) (h1:cells.all (·.oneCell')=true)
  (h:K a (w.setRow g cells)):StoreV Tryz.prog o a w K Q:=by
 refine StoreV.row x y ho g cells hx hy old hg ho6 h6 h1 ?_
 rw [hd]
 exact h
def LoadV (P:Program) (o:Oper) (a:Act) (w:World) (K:Act→World→Prop) (Q:Exit→Act→World→Prop):Prop:=o.wp P a w K Q
theorem load_v {P:Program} {d:Option Tmp} {x:Operand} {ty:TypeId} {ps:String} {af:Array Edge} {gd:Option (Nat×Bool)} {a:Act} {w:World} {K:Act→World→Prop} {Q:Exit→Act→World→Prop} :
  Oper.wp P { dst:=d,op:=.load 120 x,type:=ty,pos:=ps,after:=af,guard:=gd } a w K Q=LoadV P { dst:=d,op:=.load 120 x,type:=ty,pos:=ps,after:=af,guard:=gd } a w K Q:=rfl
theorem LoadV.row {o:Oper} {a:Act} {w:World} {K:Act→World→Prop} {Q:Exit→Act→World→Prop} (x:Operand) (ho:o.op=.load 120 x)
  (b off:Nat) (cs:List Value) (hx:a.eval x=.pointer (some ⟨b,off,none⟩)) (hc:w.rangeAt b off cs) (h6:cs.length=6)
  (h:K (a.put o.dst (.agg cs.toArray)) w):LoadV Tryz.prog o a w K Q:=by
 obtain ⟨d,h1,h2⟩:=isStruct Tryz.agV
 refine wp_load_mid 120 x ho b off hx cs d hc h1 ?_ (by rw [h6];exact Tryz.sizeV) h
 cases d <;> first | rfl | cases h2
theorem LoadV.here {P:Program} {o:Oper} {a:Act} {w:World} {K:Act→World→Prop} {Q:Exit→Act→World→Prop} (h:LoadV P o a w K Q):LoadV P o a w K Q:=h
theorem StoreV.here {P:Program} {o:Oper} {a:Act} {w:World} {K:Act→World→Prop} {Q:Exit→Act→World→Prop} (h:StoreV P o a w K Q):StoreV P o a w K Q:=h
theorem res_two {fn:Func} {p u:Tmp} (h:fn.results=#[.cell p 120,.tmp u]) (tmps:Array Value) (w:World) (g:Nat) (cs:Array Value) (b:Value) (hp:tmps.getD p undef=.pointer (some ⟨g,0,none⟩)) (hb:tmps.getD u undef=b)
  (hg:w.heap[g]?=some (.cells cs 120 (0,0))) (hi:cs.size=6):(results fn tmps).run Tryz.prog w=.ok (.tuple #[.agg cs,b]) w:=by
 obtain ⟨d,hd1,hd2⟩:=isStruct Tryz.agV
 have hr:=run_loadVar_row (P:=Tryz.prog) w g 120 120 cs (0,0) d hg hd1 (by cases d <;> first | rfl | cases hd2) (by rw [hi];exact Tryz.sizeV)
 rw [results_cell_tmp h,hp,hb]
 simp [asAddr,hr]
theorem storedV {w W:World} {g N:Nat} {old:Array Value} {ty:TypeId} (cells:Array Value) (hg:W.heap[g]?=some (.cells old ty (0,0))) (hN:N≤g) (hB:Below N w W) :
  ∃ W2,W.setRow g cells=W2∧W2.heap[g]?=some (.cells cells ty (0,0))∧(∀ k,k≠g→W2.heap[k]?=W.heap[k]?)∧Below N w W2∧W2.heap.size=W.heap.size:=
 ⟨_,rfl,setRow_heap W g old cells _ _ hg,fun k hk=>setRow_other _ _ _ _ hk,below_setRow hB hN _,by simp [World.setRow]⟩
attribute [local go_sem ↓] store_v load_v Go.wp_at_zero Go.wp_at_succ
set_option maxHeartbeats 2000000 in
set_option maxRecDepth 100000 in
theorem title_any (v:Val) {kk xx:Nat} {tt:ByteArray} {rr:Nat} {aa:Option Addr} {nn cc:Nat} {mm:Option Nat} (hR:Rep w S v (vC kk xx tt rr (.slice aa nn cc) (.map mm))) :
  Calls Tryz.prog 139 #[.agg #[.int .i64 (kk:Int),.float .f64 xx,.string tt,.int .i64 (rr:Int),.slice aa nn cc,.map mm]] w fun e w'=>e=.returned (.tuple #[.agg #[.int .i64 (kk:Int),.float .f64 xx,.string tt,.int .i64 (rr:Int),.slice aa nn cc,.map mm],.bool (isStr v)])∧Below w.heap.size w w':=by
 have hk:=(Rep.kindOf hR).1
 have hb:((kk:Int) == 5)=isStr v:=by
  rw [Bool.eq_iff_iff,← hk,beq_iff_eq];omega
 clear hR hk
 have hB:Below w.heap.size w ((w.alloc (.cells #[.int .i64 (kk:Int),.float .f64 xx,.string tt,.int .i64 (rr:Int),.slice aa nn cc,.map mm] 120)).alloc (.cells #[.int .i64 0,.float .f64 0,.string ⟨#[]⟩,.int .i64 0,.slice none 0 0,.map none] 120)):=((Below.refl _ _).alloc (Nat.le_refl _) _).alloc (by simp) _
 have hA:((w.alloc (.cells #[.int .i64 (kk:Int),.float .f64 xx,.string tt,.int .i64 (rr:Int),.slice aa nn cc,.map mm] 120)).alloc (.cells #[.int .i64 0,.float .f64 0,.string ⟨#[]⟩,.int .i64 0,.slice none 0 0,.map none] 120)).heap[w.heap.size]?=some (.cells #[.int .i64 (kk:Int),.float .f64 xx,.string tt,.int .i64 (rr:Int),.slice aa nn cc,.map mm] 120 (0,0)):=heap_alloc2_old w _ _
 have hZ:((w.alloc (.cells #[.int .i64 (kk:Int),.float .f64 xx,.string tt,.int .i64 (rr:Int),.slice aa nn cc,.map mm] 120)).alloc (.cells #[.int .i64 0,.float .f64 0,.string ⟨#[]⟩,.int .i64 0,.slice none 0 0,.map none] 120)).heap[w.heap.size+1]?=some (.cells #[.int .i64 0,.float .f64 0,.string ⟨#[]⟩,.int .i64 0,.slice none 0 0,.map none] 120 (0,0)):=heap_alloc2_new w _ _
 go_enter Tryz.func139,Tryz.ntmps139
 go_wp2_with fail
 obtain ⟨W,hW⟩:∃ W,(w.alloc (.cells #[.int .i64 (kk:Int),.float .f64 xx,.string tt,.int .i64 (rr:Int),.slice aa nn cc,.map mm] 120)).alloc (.cells #[.int .i64 0,.float .f64 0,.string ⟨#[]⟩,.int .i64 0,.slice none 0 0,.map none] 120)=W:=⟨_,rfl⟩
 rw [hW] at hA hZ hB ⊢
 clear hW
 have hrA:W.drew.rangeAt w.heap.size 0 [.int .i64 (kk:Int),.float .f64 xx,.string tt,.int .i64 (rr:Int),.slice aa nn cc,.map mm]:=rangeAt_block (w:=W.drew) hA
 have cA:W.drew.cell? ⟨w.heap.size,0,none⟩=some (.int .i64 (kk:Int)):=by have:=hrA 0 (.int .i64 (kk:Int)) rfl;simpa using this
 have hBd:Below w.heap.size w W.drew:=⟨hB.os,hB.tape,hB.output,hB.size,hB.block⟩
 go_region_with (first | (refine LoadV.row _ rfl w.heap.size 0 [.int .i64 (kk:Int),.float .f64 xx,.string tt,.int .i64 (rr:Int),.slice aa nn cc,.map mm] rfl hrA rfl ?_) | (refine StoreV.row0 _ _ rfl rfl (w.heap.size+1) #[.int .i64 (kk:Int),.float .f64 xx,.string tt,.int .i64 (rr:Int),.slice aa nn cc,.map mm] rfl rfl _ hZ rfl rfl (one_six _ _ _ _ _ _ _ _) ?_;obtain ⟨W2,hW2,hS2,hO2,hB2,_⟩:=storedV (w:=w) (W:=W.drew) #[.int .i64 (kk:Int),.float .f64 xx,.string tt,.int .i64 (rr:Int),.slice aa nn cc,.map mm] hZ (Nat.le_succ _) hBd;rw [hW2];have cS:W2.cell? ⟨w.heap.size,0,none⟩=some (.int .i64 (kk:Int)):=(World.cell?_of_block (w:=W.drew) (hO2 w.heap.size (by omega))).trans cA;clear hW2))
 all_goals
  go_wp2_with fail
  exact bodyPost_ret (res_two rfl _ _ _ _ _ rfl rfl hS2 rfl) rfl ⟨rfl,hB2⟩
end Go.Proofs.YtgffljllfenhkaaGreatDoor
end
section
namespace Go.Proofs.YtgffljllfenhkaaGreatDoor
open Go.RowKit
attribute [local go_sem] Oper.semAt_some
variable {w w':World} {B D OL NV M base:Nat} {S S':Nat→Prop}
def At1 (w:World) (g:Nat) (v:Value) (t:TypeId):Prop:=w.heap[g]?=some (.cells #[v] t (0,0))
theorem At1.c {g:Nat} {v:Value} {t:TypeId} (h:At1 w g v t):w.cell? ⟨g,0,none⟩=some v:=by unfold At1 at h;simp [World.cell?,h]
theorem At1.f {g:Nat} {v:Value} {t:TypeId} (h:At1 w g v t) (i:Nat):w.frozen? ⟨g,i,none⟩=false:=by unfold At1 at h;simp [World.frozen?,h]
theorem At1.lt {g:Nat} {v:Value} {t:TypeId} (h:At1 w g v t):g < w.heap.size:=(Array.getElem?_eq_some_iff.1 h).1
theorem Tryz.undInt:Tryz.prog.underlying 3=some (.int .i64):=by kernel_rfl
theorem Tryz.undMI:Tryz.prog.underlying 142=some (.map 3 3):=by kernel_rfl
theorem Tryz.keyedI:Maps.Keyed Tryz.prog 3:=Maps.int_keyed Tryz.undInt
def litI (a:Nat):Lit:=.int .i64 (a:Int)
def MapN (w:World) (M n:Nat) (f:Nat→Option Value):Prop:=
 ∃ D:DataW Value,w.ownsMap Tryz.prog 3 heldR M n D∧∀ a zd,D.atKey (litI a) zd=match f a with
  | some v=>.held v
  | none=>zd
theorem Tryz.zeroRunI (w:World):(zeroValue 3).run Tryz.prog w=.ok (.int .i64 0) w:=by kernel_rfl
theorem MapN.made (w:World):MapN (w.alloc (.map #[] 0)) w.heap.size 0 (fun _=>none):=
 ⟨.map [],World.ownsMap_made w _ _ _,fun _ _=>rfl⟩
theorem MapN.of_block {n:Nat} {f:Nat→Option Value} (h:MapN w M n f) (hb:w'.heap[M]?=w.heap[M]?):MapN w' M n f:=by
 obtain ⟨D,⟨es,clock,h1,h2⟩,h3⟩:=h
 exact ⟨D,⟨es,clock,hb.trans h1,h2⟩,h3⟩
theorem MapN.lt {n:Nat} {f:Nat→Option Value} (h:MapN w M n f):M < w.heap.size:=by obtain ⟨D,h,_⟩:=h;exact h.lt
theorem litI_wf (a:Nat) (ha:a≤1000000):(litI a).wf=true:=by
 show (decide (IntKind.i64.min≤(a:Int)) && decide ((a:Int)≤IntKind.i64.max))=true
 have h1:IntKind.i64.min=-9223372036854775808:=rfl
 have h2:IntKind.i64.max=9223372036854775807:=rfl
 rw [h1,h2,Bool.and_eq_true,decide_eq_true_iff,decide_eq_true_iff]
 omega
theorem MapN.look {n:Nat} {f:Nat→Option Value} (h:MapN w M n f) (a:Nat) (ha:a≤1000000) (c:Bool) :
  (Instr.lookup 142 (.map (some M)) (.int .i64 (a:Int)) c).run Tryz.prog w=.ok (match f a with
   | some v=>if c then .tuple #[v,.bool true] else v
   | none=>if c then .tuple #[.int .i64 0,.bool false] else .int .i64 0) w:=by
 obtain ⟨D,⟨es,clock,hb,F,hs,hD⟩,hf⟩:=h
 have hfa:=hf a
 subst hD
 rcases Maps.fit_look c Tryz.keyedI Tryz.undMI (Tryz.zeroRunI w) hb F (Maps.keyOf_int_mk Tryz.undInt (litI_wf a ha)) with ⟨hr,_,hat⟩ | ⟨e0,y,_,_,hr,hy,hat,_⟩
 ·rw [hr]
  rcases hfv:f a with _ | v
  ·rfl
  ·exfalso
   rw [hfv] at hfa
   have h1:=(hat .nil).symm.trans (hfa .nil)
   cases h1
 ·rw [hr]
  have hy1:y.1=.held e0.val:=by have:=hy;unfold heldR at this;cases this;rfl
  rcases hfv:f a with _ | v
  ·exfalso
   rw [hfv] at hfa
   have h1:=(hat .nil).symm.trans (hfa .nil)
   rw [hy1] at h1
   cases h1
  ·rw [hfv] at hfa
   have h1:=(hat .nil).symm.trans (hfa .nil)
   rw [hy1] at h1
   cases h1
   rfl
theorem litI_inj {a b:Nat} (h:litI a=litI b):a=b:=by
 unfold litI at h
 have h1:(a:Int)=(b:Int):=by injection h
 omega
theorem MapN.update {n:Nat} {f:Nat→Option Value} (h:MapN w M n f) (a:Nat) (ha:a≤1000000) (hn:n < maxLen) (v:Value) :
  ∃ w',(Instr.mapUpdate 142 (.map (some M)) (.int .i64 (a:Int)) v).run Tryz.prog w=.ok () w'∧MapN w' M (n+1) (fun b=>if b=a then some v else f b)∧w.grownBy w' (some M):=by
 obtain ⟨D,hO,hf⟩:=h
 have hk:Go.keyOf Tryz.prog 3 (.int .i64 (a:Int))=some (litI a):=Maps.keyOf_int_mk Tryz.undInt (litI_wf a ha)
 obtain ⟨w2,hr,hO2,hg⟩:=hO.update Tryz.keyedI Tryz.undMI hn hk (show heldR v=some (.held v,[]) from rfl)
 refine ⟨w2,hr,⟨_,hO2,fun b zd=>?_⟩,hg⟩
 simp only []
 by_cases hb:b=a
 ·rw [if_pos hb,hb]
  obtain ⟨es,clock,_,_,_,hD⟩:=hO
  exact Maps.atKey_put_same ⟨_,hD⟩ (Tryz.keyedI.key hk) _ _
 ·rw [if_neg hb,Maps.atKey_put_other (fun e=>hb (litI_inj e))]
  exact hf b zd
def newsF (olds:List Nat):Nat→Option Value:=fun a=>(idx olds a).map (fun (i:Nat)=>Value.int .i64 ((i+1:Nat):Int))
structure Nm (w:World) (OL NV M base:Nat) (o:Value) (olds:List Nat):Prop where
 ol:At1 w OL o 52
 nv:At1 w NV (.map (some M)) 142
 row:w.ownsRow base 3 1 o olds.length (intsV olds)
 map:∃ n,n≤olds.length∧MapN w M n (newsF olds)
 hl:olds.length≤1000
 lt:OL < w.heap.size∧NV < w.heap.size∧M < w.heap.size∧base≤w.heap.size
 ne:OL≠NV∧OL≠M∧NV≠M
theorem Nm.own {o:Value} {olds:List Nat} (h:Nm w OL NV M base o olds):∀ g,o.ownBlock=some g→g≠OL∧g≠NV∧g≠M:=by
 intro k e
 rcases h.row.2 with ⟨h1,_⟩ | ⟨g,cap,cur,h1,_,h2,_⟩
 ·rw [h1] at e;simp [Value.ownBlock] at e
 ·rw [h1] at e
  have:g=k:=by simpa [Value.ownBlock] using e
  subst this
  refine ⟨?_,?_,?_⟩
  ·rintro rfl;have h3:=h.ol;unfold At1 at h3;rw [h2] at h3;simp at h3
  ·rintro rfl;have h3:=h.nv;unfold At1 at h3;rw [h2] at h3;simp at h3
  ·rintro rfl
   obtain ⟨n,_,D,⟨es,clock,hm,_⟩,_⟩:=h.map
   rw [hm] at h2
   simp at h2
structure Fk (B OL M:Nat) (o:Value) (w:World) (o':Value) (w':World):Prop where
 os:w'.os=w.os
 tape:w'.tape=w.tape
 output:w'.output=w.output
 size:w.heap.size≤w'.heap.size
 block:∀ k,k < w.heap.size→k≠B→k≠OL→k≠M→o.ownBlock≠some k→w'.heap[k]?=w.heap[k]?
 own:o'.ownBlock=o.ownBlock∨∃ g,o'.ownBlock=some g∧w.heap.size≤g
section
variable {o o' o'':Value} {w'':World} {olds:List Nat} {b:Nat}
theorem Fk.refl (B OL M:Nat) (o:Value) (w:World):Fk B OL M o w o w:=⟨rfl,rfl,rfl,Nat.le_refl _,fun _ _ _ _ _ _=>rfl,.inl rfl⟩
theorem Fk.trans (h:Fk B OL M o w o' w') (k:Fk B OL M o' w' o'' w''):Fk B OL M o w o'' w'':=by
 refine ⟨k.os.trans h.os,k.tape.trans h.tape,k.output.trans h.output,Nat.le_trans h.size k.size,?_,?_⟩
 ·intro b hb h1 h2 h3 h4
  rw [k.block b (Nat.lt_of_lt_of_le hb h.size) h1 h2 h3 ?_,h.block b hb h1 h2 h3 h4]
  rcases h.own with e | ⟨g,e,hg⟩
  ·rw [e];exact h4
  ·rw [e];intro e';simp at e';omega
 ·rcases k.own with e | ⟨g,e,hg⟩
  ·rcases h.own with e' | ⟨g,e',hg⟩
   ·exact .inl (e.trans e')
   ·exact .inr ⟨g,e.trans e',hg⟩
  ·exact .inr ⟨g,e,Nat.le_trans h.size hg⟩
theorem Fk.of_fb (o:Value) (h:Fb B w w'):Fk B OL M o w o w':=⟨h.os,h.tape,h.output,h.size,fun k hk h1 _ _ _=>h.block k hk h1,.inl rfl⟩
theorem Fk.below (o:Value) (h:Below w.heap.size w w'):Fk B OL M o w o w':=⟨h.os,h.tape,h.output,h.size,fun k hk _ _ _ _=>h.block k hk,.inl rfl⟩
theorem Fk.fb {w0:World} (h0:Fb B w0 w) (h:Fk B OL M o w o' w') (h1:w0.heap.size≤OL) (h2:w0.heap.size≤M) (h3:∀ k,o.ownBlock=some k→w0.heap.size≤k):Fb B w0 w':=
 ⟨h.os.trans h0.os,h.tape.trans h0.tape,h.output.trans h0.output,Nat.le_trans h0.size h.size,fun k hk hb=>(h.block k (Nat.lt_of_lt_of_le hk h0.size) hb (by omega) (by omega) (fun e=>by have:=h3 k e;omega)).trans (h0.block k hk hb)⟩
theorem Nm.kept (h:Nm w OL NV M base o olds) (F:Fb B w w') (hB:B≠OL∧B≠NV∧B≠M∧B < base):Nm w' OL NV M base o olds:=by
 have hl:=h.lt
 obtain ⟨n,hn,hm⟩:=h.map
 refine ⟨(F.block OL h.ol.lt (by omega)).trans h.ol,(F.block NV h.nv.lt (by omega)).trans h.nv,?_,⟨n,hn,hm.of_block (F.block M hm.lt (by omega))⟩,h.hl,⟨Nat.lt_of_lt_of_le hl.1 F.size,Nat.lt_of_lt_of_le hl.2.1 F.size,Nat.lt_of_lt_of_le hl.2.2.1 F.size,Nat.le_trans hl.2.2.2 F.size⟩,h.ne⟩
 exact ownsRow_blockI h.row (fun g hg=>F.block g (World.ownsRow.lt h.row g hg).2 (by have:=(World.ownsRow.lt h.row g hg).1;omega))
end
def PostK (B OL NV M base:Nat) (o:Value) (w:World) {α:Type} (rep:α→Value→World→Prop) (r:Res (α×List Nat)) (e:Ending) (w':World):Prop:=match r with
 | .ok x b'=>∃ v o',e=.returned v∧rep x.1 v w'∧Nm w' OL NV M base o' x.2∧Bud w' B b'∧Fk B OL M o w o' w'
 | .no y=>e=.panicked (thrownY y)∧∃ o',Fk B OL M o w o' w'
section
variable {o o':Value} {W:World} {α:Type} {rep:α→Value→World→Prop} {r:Res (α×List Nat)} {a:α} {olds':List Nat} {b':Nat} {y:Why} {v:Value}
theorem PostK.ok (hr:r=.ok (a,olds') b') (h:rep a v w') (hN:Nm w' OL NV M base o' olds') (hB:Bud w' B b') (F:Fk B OL M o w o' w'):PostK B OL NV M base o w rep r (.returned v) w':=by
 subst hr;exact ⟨v,o',rfl,h,hN,hB,F⟩
theorem PostK.no (hr:r=.no y) (F:Fk B OL M o w o' w'):PostK B OL NV M base o w rep r (.panicked (thrownY y)) w':=by
 subst hr;exact ⟨rfl,o',F⟩
theorem PostK.okC {p:Program} {f:Nat} {args:Array Value} (h:Calls p f args W (PostK B OL NV M base o w rep r)) (hr:r=.ok (a,olds') b') :
  Calls p f args W fun e w'=>∃ v o',e=.returned v∧rep a v w'∧Nm w' OL NV M base o' olds'∧Bud w' B b'∧Fk B OL M o w o' w':=by subst hr;exact h
theorem PostK.noC {p:Program} {f:Nat} {args:Array Value} (h:Calls p f args W (PostK B OL NV M base o w rep r)) (hr:r=.no y) :
  Calls p f args W fun e w'=>e=.panicked (thrownY y)∧∃ o',Fk B OL M o w o' w':=by subst hr;exact h
end
theorem idx_snoc (old a:Nat):∀ (olds:List Nat),idx (olds++[old]) a=match idx olds a with
  | some i=>some i
  | none=>if old=a then some olds.length else none
 | []=>by simp [idx]
 | x::l=>by
  rw [List.cons_append,idx,idx,idx_snoc old a l]
  split
  ·rfl
  ·rcases idx l a with _ | i
   ·simp only [Option.map_none]
    split <;> simp
   ·rfl
theorem newsF_snoc {olds:List Nat} {old:Nat} (h:idx olds old=none):(fun b=>if b=old then some (Value.int .i64 ((olds.length+1:Nat):Int)) else newsF olds b)=newsF (olds++[old]):=by
 funext a
 unfold newsF
 rw [idx_snoc]
 by_cases ha:a=old
 ·subst ha
  rw [if_pos rfl,h,if_pos rfl]
  rfl
 ·rw [if_neg ha]
  rcases hq:idx olds a with _ | i
  ·simp only []
   rw [if_neg (Ne.symm ha)]
  ·rfl
set_option maxHeartbeats 2000000 in
set_option maxRecDepth 100000 in
theorem newNumber_any {b DV old:Nat} {o:Value} {olds:List Nat} {q0 q1 q2 q3:Value} (hN:Nm w OL NV M base o olds) (hBd:Bud w B b) (hDV:At1 w DV (.pointer (some ⟨D,0,none⟩)) 75) (hD:w.heap[D]?=some (.cells #[q0,q1,q2,q3,chg B] 101 (0,0)))
  (hne:B≠OL∧B≠NV∧B≠M∧B < base∧B+1≠OL∧B+1≠M∧DV≠B∧D≠B∧B+1 < base) (hold:old≤100000) (hl:olds.length≤900) :
  Calls Tryz.prog 95 #[.int .i64 (old:Int),.pointer (some ⟨DV,0,none⟩),.pointer (some ⟨NV,0,none⟩),.pointer (some ⟨OL,0,none⟩)] w (PostK B OL NV M base o w (fun (m:Nat) v _=>v=.int .i64 (m:Int)) (numR olds old b)):=by
 obtain ⟨i0,hi0,hz0,hz1,hz2⟩:=info_parts Tryz.infoI
 have cV:=hDV.c
 have c4:w.cell? ⟨D,4,none⟩=some (chg B):=by simp [World.cell?,hD]
 unfold chg at c4
 have hbb:=hBd.hb
 have hlt:=hN.lt
 have hnn:=hN.ne
 obtain ⟨n,hn,hmap⟩:=hN.map
 by_cases hb:b < 1
 ·have HN:Hid (numR olds old b=.no (12,0)):=by show numR olds old b=_;unfold numR;rw [if_pos hb]
  go_enter Tryz.func95,Tryz.ntmps95
  go_wp2_with fail
  refine (take_no _ B b 1 12 0 hBd.ca hBd.y hb).mono ?_
  rintro e w1 ⟨rfl,rfl⟩
  exact ⟨rfl,PostK.no (unh HN) (Fk.refl _ _ _ _ _)⟩
 ·go_enter Tryz.func95,Tryz.ntmps95
  go_wp2_with fail
  refine (take_ok _ B b 1 hBd.ca (hBd.fa 0) (by omega) hbb).mono ?_
  rintro e w1 ⟨rfl,hw1⟩
  have hB1:=hBd.take 1 (by omega)
  rw [hw1] at hB1
  have F1:Fb B w w1:=by rw [← hw1];exact (Fb.refl _ _).setB 0 _
  have hs1:w1.heap.size=w.heap.size:=by rw [← hw1];simp
  clear hw1 cV c4
  have hN1:=hN.kept F1 ⟨hne.1,hne.2.1,hne.2.2.1,hne.2.2.2.1⟩
  have hm1:=hmap.of_block (F1.block M hmap.lt (by omega))
  have cN:=hN1.nv.c
  have cO:=hN1.ol.c
  have lk:=hm1.look old (by omega) true
  have lf:=hm1.look old (by omega) false
  rcases hq:idx olds old with _ | i
  ·have hnf:newsF olds old=none:=by unfold newsF;rw [hq];rfl
   rw [hnf] at lk lf
   have HN:Hid (numR olds old b=.ok (olds.length+1,olds++[old]) (b - 1)):=by show numR olds old b=_;unfold numR;rw [if_neg hb,hq]
   obtain ⟨ao,cp,ho⟩:∃ a c,o=.slice a olds.length c:=by
    rcases hN1.row.2 with ⟨e,e2⟩ | ⟨g,cap,cur,e,_⟩
    ·exact ⟨none,0,by rw [e,e2]⟩
    ·exact ⟨_,_,e⟩
   have hown:=World.ownsRow.lt hN1.row
   have hsn:=newsF_snoc hq
   subst ho
   have hl0:=hN.hl
   simp only [if_true] at lk
   simp only [] at lk lf
   have HS1:=hid hs1
   have hnv:newsF (olds++[old]) old=some (.int .i64 ((olds.length+1:Nat):Int)):=by rw [← hsn];simp
   have hal:=World.grownBy_alloc w1 (.cells #[.int .i64 (old:Int)] 3) (Value.slice ao olds.length cp).ownBlock
   have hneO:∀ k,k < base∨k=OL∨k=NV∨k=M→some k≠(Value.slice ao olds.length cp).ownBlock:=fun k hk e=>by have:=(hown k e.symm).1;have:=hN1.own k e.symm;omega
   have hlm:=hmap.lt
   have hltO:=hN1.ol.lt
   have hltN:=hN1.nv.lt
   have hOB:OL < w1.heap.size∧NV < w1.heap.size∧M < w1.heap.size∧base≤w1.heap.size:=by omega
   have hz9:=hs1
   clear hs1
   have HZ9:=hid hz9
   clear hz9
   go_wp2_with (at_builtin;refine wpList_append_own_at _ rfl _ _ 52 rfl base 3 i0 (.int .i64 0) 1 8 Tryz.undI hi0 hz0 hz1 hz2 rfl (by decide) _ _ _ rfl (World.ownsRow.alloc hN1.row _) ⟨w1.heap.size,0,none⟩ 1 1 [.int .i64 (old:Int)] rfl rfl (cell_one_new _ _ _) (by simp [Value.oneCell']) (by unfold maxLen;omega) (by omega) (by simp;omega) ?_;intro v3 w3 hown3 hg3 _ hat3;obtain ⟨g3,c3,rfl⟩:=ownsRow_succ hown3;have hgg:=gTrans hal hg3;have hO3:At1 w3 OL (.slice ao olds.length cp) 52:=(hgg.block OL hOB.1 (hneO OL (.inr (.inl rfl)))).trans hN1.ol;have hV3:At1 w3 NV (.map (some M)) 142:=(hgg.block NV hOB.2.1 (hneO NV (.inr (.inr (.inl rfl))))).trans hN1.nv;have cO3:=hO3.c;have fO3:=hO3.f 0;obtain ⟨W3,hW3⟩:∃ W3,w3.setCell ⟨OL,0,none⟩ (.slice (some ⟨g3,0,none⟩) (olds.length+1) c3)=W3:=⟨_,rfl⟩;have hk3:∀ k,k≠OL→W3.heap[k]?=w3.heap[k]?:=(fun k hk=>by rw [← hW3];exact Below.heap_setCell _ _ _ _ (by exact hk));have hOW:At1 W3 OL (.slice (some ⟨g3,0,none⟩) (olds.length+1) c3) 52:=(by unfold At1;rw [← hW3,heap_setCell_same w3 OL 0 _ _ _ hO3];simp);have cOW:=hOW.c;have hVW:At1 W3 NV (.map (some M)) 142:=(hk3 NV (by omega)).trans hV3;have cVW:=hVW.c;have hmW:MapN W3 M n (newsF olds):=(hm1.of_block (hgg.block M hOB.2.2.1 (hneO M (.inr (.inr (.inr rfl)))))).of_block (hk3 M (by omega));obtain ⟨w4,hr4,hM4,hg4⟩:=hmW.update old (by omega) (by unfold maxLen;omega) (.int .i64 ((olds.length+1:Nat):Int));rw [hsn] at hM4;rw [show ((olds.length+1:Nat):Int)=(olds.length:Int)+1 from by omega] at hr4;have hV4:At1 w4 NV (.map (some M)) 142:=(hg4.block NV hVW.lt (by simp;omega)).trans hVW;have cV4:=hV4.c;have lf4:(Instr.lookup 142 (.map (some M)) (.int .i64 (old:Int)) false).run Tryz.prog w4=.ok (.int .i64 ((olds.length+1:Nat):Int)) w4:=(by have:=hM4.look old (by omega) false;rw [hnv] at this;exact this))
   go_ret
   have hz9:=unh HZ9
   have hzg:=hgg.size
   have hs3:W3.heap.size=w3.heap.size:=by rw [← hW3];simp
   have hz4:=hg4.size
   have hbl:∀ k,k < base→k≠OL→k≠M→w4.heap[k]?=w1.heap[k]?:=fun k hk h1 h2=>(hg4.block k (by omega) (by simp;omega)).trans ((hk3 k h1).trans (hgg.block k (by omega) (hneO k (.inl hk))))
   refine PostK.ok (unh HN) rfl (o':=.slice (some ⟨g3,0,none⟩) (olds.length+1) c3) ⟨(hg4.block OL hOW.lt (by simp;omega)).trans hOW,hV4,?_,⟨n+1,by simp;omega,hM4⟩,by simp;omega,⟨by omega,by omega,by omega,by omega⟩,hN.ne⟩ (hB1.of_blocks (fun k hk=>hbl k (by omega) (by omega) (by omega))) ⟨?_,?_,?_,by omega,?_,?_⟩
   ·rw [List.length_append]
    have e:intsV (olds++[old])=intsV olds++[.int .i64 (old:Int)]:=by unfold intsV;rw [List.map_append];rfl
    rw [e]
    refine ownsRow_blockI hown3 (fun g hg=>?_)
    have hgl:=World.ownsRow.lt hown3 g hg
    have hgo:g≠OL∧g≠NV∧g≠M:=by
     rcases hat3 with e | e
     ·exact hN1.own g (e.symm.trans hg)
     ·rw [e] at hg
      have:(w1.alloc (.cells #[.int .i64 (old:Int)] 3)).heap.size=g:=by simpa using hg
      simp at this
      omega
    exact (hg4.block g (by omega) (by simp;omega)).trans (hk3 g (by omega))
   ·exact hg4.os.trans ((by rw [← hW3];rfl:W3.os=w3.os).trans (hgg.os.trans F1.os))
   ·exact hg4.tape.trans ((by rw [← hW3];rfl:W3.tape=w3.tape).trans (hgg.tape.trans F1.tape))
   ·exact hg4.output.trans ((by rw [← hW3];rfl:W3.output=w3.output).trans (hgg.output.trans F1.output))
   ·intro k hk h1 h2 h3 h4
    exact (hg4.block k (by omega) (by simp;omega)).trans ((hk3 k h2).trans ((hgg.block k (by omega) (fun e=>h4 e.symm)).trans (F1.block k hk h1)))
   ·rcases hat3 with e | e
    ·exact .inl e
    ·exact .inr ⟨_,e,by simp;omega⟩
  ·have hnf:newsF olds old=some (.int .i64 ((i+1:Nat):Int)):=by unfold newsF;rw [hq];rfl
   rw [hnf] at lk lf
   have HN:Hid (numR olds old b=.ok (i+1,olds) (b - 1)):=by show numR olds old b=_;unfold numR;rw [if_neg hb,hq]
   have lk':(Instr.lookup 142 (.map (some M)) (.int .i64 (old:Int)) true).run Tryz.prog w1=.ok (.tuple #[.int .i64 ((i+1:Nat):Int),.bool true]) w1:=lk
   have lf':(Instr.lookup 142 (.map (some M)) (.int .i64 (old:Int)) false).run Tryz.prog w1=.ok (.int .i64 ((i+1:Nat):Int)) w1:=lf
   clear lk lf
   go_wp2_with fail
   go_ret
   exact PostK.ok (unh HN) rfl hN1 hB1 (Fk.of_fb o F1)
end Go.Proofs.YtgffljllfenhkaaGreatDoor
end
