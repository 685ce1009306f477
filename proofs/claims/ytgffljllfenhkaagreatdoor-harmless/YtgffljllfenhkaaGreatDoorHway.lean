import Derived.BigQuiet
import Derived.Test.YtgffljllfenhkaaGreatDoorHwao
import Derived.Test.YtgffljllfenhkaaGreatDoorHwax
section
namespace Go.Proofs.YtgffljllfenhkaaGreatDoor
open Go.RowKit
attribute [local go_sem] Oper.semAt_some
variable {w w':World} {B D lo at_ root:Nat} {pl:List Nat} {slp slo:Value} {os:List Obj1} {xs:List Value} {S S':Nat→Prop}
def valOk (v:Val):Prop:=(elemsOf v).length≤9000∧(∀ e ∈ elemsOf v,isNum e=true→leafOk e)∧(isStr v=true→leafOk v)
theorem refTo_ok {ty:ByteArray} {v:Val} (ht:ty≠ByteArray.empty) (hos:os.length≤40) (h:refTo os ty v=true):leafOk v∧refOk v:=by
 cases v
 case ref n=>
  have hn:n < 40:=by
   have h1:tnameAt os n=ty:=by haveI:=lawfulB;unfold refTo at h;exact eq_of_beq h
   rcases ho:os[n]? with _ | o
   ·unfold tnameAt at h1
    rw [ho] at h1
    exact absurd h1.symm ht
   ·have:=(List.getElem?_eq_some_iff.1 ho).1
    omega
  exact ⟨by show n≤80000;omega,fun m e=>by cases e;exact hn⟩
 all_goals simp [refTo] at h
theorem right_ok {r:Rule} {v x:Val} {b b':Nat} (hos:os.length≤40) (hv:valOk v) (h:r.right os v b=.ok (x,true) b'):keptOk x∧refsOk x:=by
 cases r
 case kids=>
  simp only [Rule.right,kidsR] at h
  split at h
  ·cases h
  ·simp only [Res.ok.injEq,Prod.mk.injEq] at h
   obtain ⟨⟨rfl,_⟩,_⟩:=h
   have hm:∀ e ∈ (elemsOf v).filter (refTo os pageB),leafOk e∧refOk e:=fun e he=>refTo_ok (by decide +kernel) hos (List.mem_filter.1 he).2
   exact ⟨⟨Nat.le_trans (List.length_filter_le _ _) hv.1,fun e he=>(hm e he).1⟩,fun e he=>(hm e he).2⟩
 case title=>
  simp only [Rule.right,Res.ok.injEq,Prod.mk.injEq] at h
  obtain ⟨⟨rfl,h2⟩,_⟩:=h
  have:=hv.2.2 h2
  cases v <;> first | (simp [isStr] at h2;done) | exact ⟨this,fun m e=>by cases e⟩
 case box=>
  simp only [Rule.right,Res.ok.injEq,Prod.mk.injEq] at h
  obtain ⟨⟨rfl,h2⟩,_⟩:=h
  rw [Bool.and_eq_true] at h2
  cases v
  case arr l=>
   have hm:∀ e ∈ l,isNum e=true:=List.all_eq_true.1 h2.2
   refine ⟨⟨hv.1,fun e he=>hv.2.1 e he (hm e he)⟩,fun e he m em=>?_⟩
   have:=hm e he
   rw [em] at this
   cases this
  all_goals (simp [elemsOf] at h2)
 case next=>
  simp only [Rule.right,refR] at h
  split at h
  ·cases h
  ·simp only [Res.ok.injEq,Prod.mk.injEq] at h
   obtain ⟨⟨rfl,h2⟩,_⟩:=h
   have:=refTo_ok (by decide +kernel) hos h2
   cases v <;> first | (simp [refTo] at h2;done) | exact this
 case text=>
  simp only [Rule.right,refR] at h
  split at h
  ·cases h
  ·simp only [Res.ok.injEq,Prod.mk.injEq] at h
   obtain ⟨⟨rfl,h2⟩,_⟩:=h
   have:=refTo_ok (by decide +kernel) hos h2
   cases v <;> first | (simp [refTo] at h2;done) | exact this
theorem Rep.nil {v:Val} {kk xx:Nat} {tt:ByteArray} {rr:Nat} {aa:Option Addr} {nn cc:Nat} {mm:Option Nat} (h:Rep w S v (vC kk xx tt rr (.slice aa nn cc) (.map mm))):aa=none→nn=0∧cc=0:=by
 intro ha
 cases v <;> unfold Rep at h
 case arr l=>
  obtain ⟨sl,xs,e,ho,_⟩:=h
  obtain ⟨_,_,_,_,e5,_⟩:=vC_m e
  rcases ho.2 with ⟨h1,_⟩ | ⟨g,cap,cur,h1,_⟩
  ·rw [h1] at e5;simp only [Value.slice.injEq] at e5;exact ⟨e5.2.1,e5.2.2⟩
  ·rw [h1,ha] at e5;simp at e5
 case dict l=>
  obtain ⟨M,n,f,e,_⟩:=h
  obtain ⟨_,_,_,_,e5,_⟩:=vC_m e
  simp only [Value.slice.injEq] at e5
  exact ⟨e5.2.1,e5.2.2⟩
 all_goals
  obtain ⟨_,_,_,_,e5,_⟩:=vC_m h
  simp only [Value.slice.injEq] at e5
  exact ⟨e5.2.1,e5.2.2⟩
theorem RightQ.same {v:Val} {ok:Bool} {kk xx:Nat} {tt:ByteArray} {rr:Nat} {aa:Option Addr} {nn cc:Nat} {mm:Option Nat} (hS:∀ b,S b→b < w.heap.size∧b≠B) (F:Fb B w w') (h:Rep w S v (vC kk xx tt rr (.slice aa nn cc) (.map mm))) :
  RightQ w S (v,ok) (.tuple #[.agg #[.int .i64 (kk:Int),.float .f64 xx,.string tt,.int .i64 (rr:Int),.slice aa nn cc,.map mm],.bool ok]) w':=
 ⟨kk,xx,tt,rr,aa,nn,cc,mm,rfl,RepK.kept (fun b hb=>⟨.inl hb,F.block b (hS b hb).1 (hS b hb).2⟩) v (Rep.toK h),Rep.nil h⟩
theorem title_r {b:Nat} (hB:Bud w B b) (v:Val) (hS:∀ b,S b→b < w.heap.size∧b≠B) {kk xx:Nat} {tt:ByteArray} {rr:Nat} {aa:Option Addr} {nn cc:Nat} {mm:Option Nat} (hR:Rep w S v (vC kk xx tt rr (.slice aa nn cc) (.map mm))) :
  Calls Tryz.prog 139 #[.agg #[.int .i64 (kk:Int),.float .f64 xx,.string tt,.int .i64 (rr:Int),.slice aa nn cc,.map mm]] w (PostB B w (RightQ w S) (Rule.right os .title v b)):=
 (title_any v hR).mono fun e w1 ⟨he,hb⟩=>by
  subst he
  have hlt:=hB.lt
  exact PostB.ok rfl (RightQ.same hS (Fb.of_below hb) hR) (hB.of_blocks (fun k hk=>hb.block k (by omega))) (Fb.of_below hb)
theorem box_r {b:Nat} (hB:Bud w B b) (v:Val) (hS:∀ b,S b→b < w.heap.size∧b≠B) {kk xx:Nat} {tt:ByteArray} {rr:Nat} {aa:Option Addr} {nn cc:Nat} {mm:Option Nat} (hR:Rep w S v (vC kk xx tt rr (.slice aa nn cc) (.map mm))) :
  Calls Tryz.prog 140 #[.agg #[.int .i64 (kk:Int),.float .f64 xx,.string tt,.int .i64 (rr:Int),.slice aa nn cc,.map mm]] w (PostB B w (RightQ w S) (Rule.right os .box v b)):=
 (box_any v (fun b hb=>(hS b hb).1) hR (Rep.elems hR)).mono fun e w1 ⟨he,hb⟩=>by
  subst he
  have hlt:=hB.lt
  exact PostB.ok rfl (RightQ.same hS (Fb.of_below hb) hR) (hB.of_blocks (fun k hk=>hb.block k (by omega))) (Fb.of_below hb)
theorem ref_r {b DV TV:Nat} {ty:ByteArray} (h:Doc w D B lo at_ pl root slp slo os xs) (hB:Bud w B b) (hlo:B+1 < lo) (hDV:At1 w DV (.pointer (some ⟨D,0,none⟩)) 75) (hTV:At1 w TV (.string ty) 9) (hn:DV≠B∧TV≠B) (v:Val) (hS:∀ b,S b→b < w.heap.size∧b≠B) {kk xx:Nat} {tt:ByteArray} {rr:Nat} {aa:Option Addr} {nn cc:Nat} {mm:Option Nat} (hR:Rep w S v (vC kk xx tt rr (.slice aa nn cc) (.map mm))) :
  Calls Tryz.prog 161 #[.agg #[.int .i64 (kk:Int),.float .f64 xx,.string tt,.int .i64 (rr:Int),.slice aa nn cc,.map mm],.pointer (some ⟨DV,0,none⟩),.pointer (some ⟨TV,0,none⟩)] w (PostB B w (RightQ w S) (refR os ty v b)):=
 (refTo_any h hB hlo hDV hTV hn v hR).mono fun e w1 hp=>by
  rcases q:refR os ty v b with ⟨⟨x,ok⟩,b'⟩ | y
  ·rw [q] at hp
   obtain ⟨val,rfl,rfl,hB1,F1⟩:=hp
   have hx:x=v:=by
    unfold refR at q
    split at q
    ·cases q
    ·simp only [Res.ok.injEq,Prod.mk.injEq] at q;exact q.1.1.symm
   subst hx
   exact ⟨_,rfl,RightQ.same hS F1 hR,hB1,F1⟩
  ·rw [q] at hp
   exact hp
theorem Nm.apart {OL NV M base:Nat} {o:Value} {olds:List Nat} (h:Nm w OL NV M base o olds) {k:Nat} {cs:Array Value} {t:TypeId} (hk:w.heap[k]?=some (.cells cs t (0,0))) (ht:t≠3):o.ownBlock≠some k:=by
 intro e
 rcases h.row.2 with ⟨h1,_⟩ | ⟨g,cap,cur,h1,_,h2,_⟩
 ·rw [h1] at e;simp [Value.ownBlock] at e
 ·rw [h1] at e
  have:g=k:=by simpa [Value.ownBlock] using e
  subst this
  rw [hk] at h2
  simp at h2
  exact ht h2.2
structure FldR (w:World) (lo:Nat) (S:Nat→Prop) (sl:Value) (acc:List (ByteArray×Val)) (ys:List Value):Prop where
 row:w.ownsRow lo 146 7 sl acc.length ys
 el:∀ i f,acc[i]?=some f→∃ k1 x1 t1 r1 a1 n1 c1 m1,(∀ j u,([.string f.1,.int .i64 ((k1:Nat):Int),.float .f64 x1,.string t1,.int .i64 ((r1:Nat):Int),.slice a1 n1 c1,.map m1]:List Value)[j]?=some u→ys[i * 7+j]?=some u)∧RepK w S f.2 (vC k1 x1 t1 r1 (.slice a1 n1 c1) (.map m1))
theorem FldR.nil (w:World) (lo:Nat) (S:Nat→Prop):FldR w lo S (.slice none 0 0) [] []:=⟨World.ownsRow_nil _ _ _ _,by simp⟩
theorem FldR.own {lo:Nat} {sl:Value} {acc:List (ByteArray×Val)} {ys:List Value} (h:FldR w lo S sl acc ys) {k:Nat} (hk:sl.ownBlock=some k):lo≤k∧k < w.heap.size∧∃ cs,w.heap[k]?=some (.cells cs 146 (0,0)):=by
 rcases h.row.2 with ⟨h1,_⟩ | ⟨g,cap,cur,h1,h3,h2,_⟩
 ·rw [h1] at hk;simp [Value.ownBlock] at hk
 ·rw [h1] at hk
  have:g=k:=by simpa [Value.ownBlock] using hk
  subst this
  exact ⟨h3,(Array.getElem?_eq_some_iff.1 h2).1,_,h2⟩
theorem FldR.kept {lo:Nat} {sl:Value} {acc:List (ByteArray×Val)} {ys:List Value} (h:FldR w lo S sl acc ys) (hr:∀ k,sl.ownBlock=some k→w'.heap[k]?=w.heap[k]?) (hS:∀ b,S b→S' b∧w'.heap[b]?=w.heap[b]?):FldR w' lo S' sl acc ys:=by
 refine ⟨?_,fun i f hf=>?_⟩
 ·refine ⟨h.row.1,?_⟩
  rcases h.row.2 with hn | ⟨g,cap,cur,rfl,h1,h2,rest⟩
  ·exact .inl hn
  ·exact .inr ⟨g,cap,cur,rfl,h1,(hr g rfl).trans h2,rest⟩
 ·obtain ⟨k1,x1,t1,r1,a1,n1,c1,m1,h1,h2⟩:=h.el i f hf
  exact ⟨k1,x1,t1,r1,a1,n1,c1,m1,h1,RepK.kept hS f.2 h2⟩
theorem FldR.snoc {lo:Nat} {sl sl':Value} {acc:List (ByteArray×Val)} {ys:List Value} {key:ByteArray} {v:Val} {kk xx:Nat} {tt:ByteArray} {rr:Nat} {aa:Option Addr} {nn cc:Nat} {mm:Option Nat} (h:FldR w lo S sl acc ys) (hS:∀ b,S b→S' b∧w'.heap[b]?=w.heap[b]?) (hr:w'.ownsRow lo 146 7 sl' (acc.length+1) (ys++[.string key,.int .i64 (kk:Int),.float .f64 xx,.string tt,.int .i64 (rr:Int),.slice aa nn cc,.map mm])) (hv:RepK w' S' v (vC kk xx tt rr (.slice aa nn cc) (.map mm))) :
  FldR w' lo S' sl' (acc++[(key,v)]) (ys++[.string key,.int .i64 (kk:Int),.float .f64 xx,.string tt,.int .i64 (rr:Int),.slice aa nn cc,.map mm]):=by
 have hl:ys.length=acc.length * 7:=h.row.1
 refine ⟨by rw [List.length_append];exact hr,fun i f hf=>?_⟩
 by_cases hi:i < acc.length
 ·rw [List.getElem?_append_left hi] at hf
  obtain ⟨k1,x1,t1,r1,a1,n1,c1,m1,h1,h2⟩:=h.el i f hf
  refine ⟨k1,x1,t1,r1,a1,n1,c1,m1,fun j u hj=>?_,RepK.kept hS f.2 h2⟩
  have hj7:j < 7:=(List.getElem?_eq_some_iff.1 hj).1
  rw [List.getElem?_append_left (by omega)]
  exact h1 j u hj
 ·have hil:=(List.getElem?_eq_some_iff.1 hf).1
  rw [List.length_append] at hil
  have:i=acc.length:=by simp at hil;omega
  subst this
  have:(key,v)=f:=by simpa using hf
  subst this
  refine ⟨kk,xx,tt,rr,aa,nn,cc,mm,fun j u hj=>?_,hv⟩
  rw [List.getElem?_append_right (by omega),hl,Nat.add_sub_cancel_left]
  exact hj
end Go.Proofs.YtgffljllfenhkaaGreatDoor
end
section
namespace Go.Proofs.YtgffljllfenhkaaGreatDoor
open Go.RowKit
attribute [local go_sem] Oper.semAt_some
variable {w w':World} {X:Nat}
structure Ey (w:World) (X:Nat) (s:ByteArray) (p:Nat):Prop where
 x:w.heap[X]?=some (.cells #[.string s,.int .i64 (p:Int),.bool false] 51 (0,0))
 hp:p≤s.size
 hs:s.size≤9000
theorem Ey.c0 {s:ByteArray} {p:Nat} (h:Ey w X s p):w.cell? ⟨X,0,none⟩=some (.string s):=by simp [World.cell?,h.x]
theorem Ey.c1 {s:ByteArray} {p:Nat} (h:Ey w X s p):w.cell? ⟨X,1,none⟩=some (.int .i64 (p:Int)):=by simp [World.cell?,h.x]
theorem Ey.c2 {s:ByteArray} {p:Nat} (h:Ey w X s p):w.cell? ⟨X,2,none⟩=some (.bool false):=by simp [World.cell?,h.x]
theorem Ey.f {s:ByteArray} {p:Nat} (h:Ey w X s p) (i:Nat):w.frozen? ⟨X,i,none⟩=false:=by simp [World.frozen?,h.x]
theorem Ey.move {s:ByteArray} {p:Nat} (h:Ey w X s p) (q nq:Nat) (hq:q≤s.size) (v:Int) (hv:v=(q:Int)):Ey ((w.drewN nq).setCell ⟨X,1,none⟩ (.int .i64 v)) X s q∧Fb X w ((w.drewN nq).setCell ⟨X,1,none⟩ (.int .i64 v)):=by
 have hx:(w.drewN nq).heap[X]?=some (.cells #[.string s,.int .i64 (p:Int),.bool false] 51 (0,0)):=h.x
 refine ⟨⟨?_,hq,h.hs⟩,⟨rfl,rfl,rfl,by simp,fun k hk hne=>(Below.heap_setCell _ _ _ _ (by exact hne)).trans rfl⟩⟩
 rw [heap_setCell_same _ X 1 _ _ _ hx,hv]
 rfl
theorem Ey.stay {s:ByteArray} {p:Nat} (h:Ey w X s p) (nq:Nat):Ey (w.drewN nq) X s p∧Fb X w (w.drewN nq):=⟨⟨h.x,h.hp,h.hs⟩,⟨rfl,rfl,rfl,Nat.le_refl _,fun _ _ _=>rfl⟩⟩
def Has (s:ByteArray) (p:Nat) (l:List UInt8):Prop:=∀ (i:Nat) (c:UInt8),l[i]?=some c→s.data[p+i]?=some c
theorem Has.app {s:ByteArray} {p:Nat} {a b:List UInt8} (h:Has s p (a++b)):Has s p a∧Has s (p+a.length) b:=by
 refine ⟨fun i c hi=>h i c ?_,fun i c hi=>?_⟩
 ·rw [List.getElem?_append_left (List.getElem?_eq_some_iff.1 hi).1];exact hi
 ·rw [Nat.add_assoc]
  refine h (a.length+i) c ?_
  rw [List.getElem?_append_right (by omega),Nat.add_sub_cancel_left]
  exact hi
theorem Has.le {s:ByteArray} {p:Nat} {l:List UInt8} (h:Has s p l) (hl:l≠[]):p+l.length≤s.size:=by
 have hn:0 < l.length:=List.length_pos_iff.2 hl
 have:=h (l.length - 1) _ (List.getElem?_eq_getElem (by omega))
 have:=(Array.getElem?_eq_some_iff.1 this).1
 have e:s.data.size=s.size:=rfl
 omega
theorem Has.ext {s t:ByteArray} {p:Nat} (h:Has s p t.data.toList) (h1:p+t.size≤s.size):s.extract p (p+t.size)=t:=by
 apply ByteArray.ext
 rw [ByteArray.data_extract]
 apply Array.ext
 ·have e1:s.data.size=s.size:=rfl
  have e2:t.data.size=t.size:=rfl
  simp;omega
 ·intro i h2 h3
  have hc:=h i t.data[i] (by simp)
  have:=(Array.getElem?_eq_some_iff.1 hc).2
  simpa using this
theorem Has.not {s t:ByteArray} {p:Nat} (j:Nat) (c d:UInt8) (h:s.data[p+j]?=some c) (ht:t.data[j]?=some d) (hcd:c≠d):s.extract p (p+t.size)≠t:=by
 intro e
 have h2:(s.extract p (p+t.size)).data[j]?=some d:=by rw [e];exact ht
 rw [ByteArray.data_extract] at h2
 have h3:=(Array.getElem?_eq_some_iff.1 h2)
 obtain ⟨h4,h5⟩:=h3
 have h6:s.data[p+j]?=some d:=by
  rw [Array.getElem_extract] at h5
  rw [← h5]
  exact Array.getElem?_eq_getElem _
 rw [h] at h6
 exact hcd (by simpa using h6)
set_option maxHeartbeats 4000000 in
set_option maxRecDepth 100000 in
theorem is_yes {s t:ByteArray} {p:Nat} (h:Ey w X s p) (h1:p+t.size≤s.size) (h2:s.extract p (p+t.size)=t) :
  Calls Tryz.prog 27 #[.pointer (some ⟨X,0,none⟩),.string t] w fun e w'=>e=.returned (.bool true)∧Ey w' X s (p+t.size)∧Fb X w w':=by
 have c0:=h.c0
 have c1:=h.c1
 have c2:=h.c2
 have f1:=h.f 1
 have hp:=h.hp
 have hs:=h.hs
 have i1:¬ ((s.size:Nat):Int) < (p:Int)+(t.size:Int):=by omega
 have hwr:IntKind.i64.wrap ((p:Int)+(t.size:Int))=(p:Int)+(t.size:Int):=wraps_i64 _ (by omega) (by omega)
 have g1:(0:Int)≤(p:Int):=by omega
 have g2:(p:Int)≤(p:Int)+(t.size:Int):=by omega
 have g3:(p:Int)+(t.size:Int)≤(s.size:Int):=by omega
 have g4:((p:Int)+(t.size:Int)).toNat=p+t.size:=by omega
 go_enter Tryz.func27,Tryz.ntmps27
 go_wp2_with fail
 go_quiet (fail)
 go_wp2_with fail
 go_ret
 exact ⟨rfl,h.move _ _ h1 _ (by omega)⟩
set_option maxHeartbeats 4000000 in
set_option maxRecDepth 100000 in
theorem is_no {s t:ByteArray} {p:Nat} (h:Ey w X s p) (ht:t.size≤9000) (hn:p+t.size≤s.size→s.extract p (p+t.size)≠t) :
  Calls Tryz.prog 27 #[.pointer (some ⟨X,0,none⟩),.string t] w fun e w'=>e=.returned (.bool false)∧Ey w' X s p∧Fb X w w':=by
 have c0:=h.c0
 have c1:=h.c1
 have c2:=h.c2
 have hp:=h.hp
 have hs:=h.hs
 have hwr:IntKind.i64.wrap ((p:Int)+(t.size:Int))=(p:Int)+(t.size:Int):=wraps_i64 _ (by omega) (by omega)
 by_cases h1:p+t.size≤s.size
 ·have i1:¬ ((s.size:Nat):Int) < (p:Int)+(t.size:Int):=by omega
  have h2:¬ (s.extract p (p+t.size)).toList=t.toList:=fun e=>hn h1 (by
   rw [ba_toList,ba_toList] at e
   exact ByteArray.ext (Array.toList_inj.1 e))
  have hb:((s.extract p (p+t.size)).toList == t.toList)=false:=beq_eq_false_iff_ne.2 h2
  clear h2
  have g1:(0:Int)≤(p:Int):=by omega
  have g2:(p:Int)≤(p:Int)+(t.size:Int):=by omega
  have g3:(p:Int)+(t.size:Int)≤(s.size:Int):=by omega
  have g4:((p:Int)+(t.size:Int)).toNat=p+t.size:=by omega
  clear hn
  go_enter Tryz.func27,Tryz.ntmps27
  go_wp2_with fail
  go_quiet (fail)
  go_wp2_with fail
  go_ret
  exact ⟨rfl,h.stay _⟩
 ·have i1:((s.size:Nat):Int) < (p:Int)+(t.size:Int):=by omega
  clear hn
  go_enter Tryz.func27,Tryz.ntmps27
  go_wp2_with fail
  go_quiet (fail)
  go_wp2_with fail
  go_ret
  exact ⟨rfl,h.stay _⟩
theorem need_yes {s t:ByteArray} {p:Nat} (h:Ey w X s p) (h1:p+t.size≤s.size) (h2:s.extract p (p+t.size)=t) :
  Calls Tryz.prog 26 #[.pointer (some ⟨X,0,none⟩),.string t] w fun e w'=>e=.returned (.tuple #[])∧Ey w' X s (p+t.size)∧Fb X w w':=by
 have IY:=is_yes h h1 h2
 go_enter Tryz.func26,Tryz.ntmps26
 go_wp2_with fail
 refine IY.mono ?_
 rintro e w1 ⟨rfl,h3,F3⟩
 go_wp2_with fail
 first | go_end0 | refine bodyPost_ret (results_none rfl _ _ _) rfl ?_
 exact ⟨rfl,h3,F3⟩
end Go.Proofs.YtgffljllfenhkaaGreatDoor
end
section
namespace Go.Proofs.YtgffljllfenhkaaGreatDoor
open Go.RowKit
attribute [local go_sem] Oper.semAt_some
variable {w w':World} {X:Nat}
def isDig (c:UInt8):Bool:=decide (48≤c.toNat∧c.toNat≤57)
def digV:List UInt8→Nat→Nat
 | [],n=>n
 | c::l,n=>digV l (10 * n+(c.toNat - 48))
theorem digV_app:∀ (a b:List UInt8) (n:Nat),digV (a++b) n=digV b (digV a n)
 | [],_,_=>rfl
 | c::a,b,n=>by rw [List.cons_append,digV,digV,digV_app a b]
theorem digV_lt:∀ (l:List UInt8) (n k:Nat),(∀ c ∈ l,isDig c=true)→n < 10 ^ k→digV l n < 10 ^ (k+l.length)
 | [],n,k,_,h=>by simpa [digV] using h
 | c::l,n,k,hd,h=>by
  rw [digV]
  have hc:=of_decide_eq_true (hd c (by simp))
  have:=digV_lt l (10 * n+(c.toNat - 48)) (k+1) (fun d h=>hd d (by simp [h])) (by rw [Nat.pow_succ];omega)
  rw [List.length_cons,show k+(l.length+1)=k+1+l.length by omega]
  exact this
theorem bt_of {s:ByteArray} {q:Nat} {c:UInt8} (h:s.data[q]?=some c):bt s q=c.toNat∧q < s.size:=by
 have h1:=Array.getElem?_eq_some_iff.1 h
 have h4:q < s.size:=h1.1
 refine ⟨?_,h4⟩
 unfold bt
 simp [h]
def atOf (w:World) (X:Nat):Nat:=match w.cell? ⟨X,1,none⟩ with
 | some (.int _ v)=>v.toNat
 | _=>0
theorem Ey.at {s:ByteArray} {p:Nat} (h:Ey w X s p):atOf w X=p:=by unfold atOf;rw [h.c1];simp
def Ends (s:ByteArray) (p n:Nat):Prop:=n=6∨p+n=s.size∨∃ c,s.data[p+n]?=some c∧isDig c=false
set_option maxHeartbeats 4000000 in
set_option maxRecDepth 100000 in
theorem number_yes {s:ByteArray} {p:Nat} (h:Ey w X s p) (ds:List UInt8) (hd:∀ c ∈ ds,isDig c=true) (h1:ds≠[]) (h6:ds.length≤6) (hH:Has s p ds) (hE:Ends s p ds.length) :
  Calls Tryz.prog 29 #[.pointer (some ⟨X,0,none⟩)] w fun e w'=>e=.returned (.int .i64 ((digV ds 0:Nat):Int))∧Ey w' X s (p+ds.length)∧Fb X w w':=by
 have c1:=h.c1
 have hle:=hH.le h1
 have hn:0 < ds.length:=List.length_pos_iff.2 h1
 have hs:=h.hs
 go_enter Tryz.func29,Tryz.ntmps29
 go_wp2_with fail
 clear c1
 go_loopw [3] (fun nv wr=>∃ (i:Nat),i≤ds.length∧nv=.int .i64 ((digV (ds.take i) 0:Nat):Int)∧Ey wr X s (p+i)∧Fb X w wr)
  (fun _ wr=>p+ds.length - atOf wr X)
 case atStart=>exact ⟨0,Nat.zero_le _,rfl,h,Fb.refl _ _⟩
 case round=>
  obtain ⟨i,hi,rfl,hr,hF⟩:=hrel
  have HA:=hid hr.at
  have hlt:=digV_lt (ds.take i) 0 0 (fun c hc=>hd c (List.mem_of_mem_take hc)) (by decide)
  have hlt6:digV (ds.take i) 0 < 1000000:=by
   refine Nat.lt_of_lt_of_le hlt ?_
   have:(ds.take i).length≤6:=by simp;omega
   exact Nat.le_trans (Nat.pow_le_pow_right (by decide) (by omega:0+(ds.take i).length≤6)) (by decide)
  clear hlt
  obtain ⟨v,hv⟩:∃ v,digV (ds.take i) 0=v:=⟨_,rfl⟩
  rw [hv] at hlt6 ⊢
  have HV:=hid hv
  clear hv
  obtain ⟨q,hq⟩:∃ q,p+i=q:=⟨_,rfl⟩
  rw [hq] at hr
  have HQ:=hid hq
  have c0:=hr.c0
  have c1:=hr.c1
  have c2:=hr.c2
  have f1:=hr.f 1
  by_cases hil:i < ds.length
  ·obtain ⟨c,hc⟩:∃ c,ds[i]?=some c:=⟨ds[i],List.getElem?_eq_getElem hil⟩
   have hcd:=of_decide_eq_true (hd c (List.mem_of_getElem? hc))
   have hb:=bt_of (hH i c hc)
   rw [hq] at hb
   have hix:=str_ix s q hb.2
   rw [hb.1] at hix
   have k1:(q:Int) < (s.size:Int):=by omega
   have k2:(q:Int) < (p:Int)+6:=by omega
   have k3:(48:Int)≤(c.toNat:Int):=by omega
   have k4:(c.toNat:Int)≤57:=by omega
   have k5:IntKind.u8.wrap ((c.toNat:Int) - 48)=(c.toNat:Int) - 48:=by rw [IntKind.wrap_u8];omega
   have k6:IntKind.i64.wrap ((p:Int)+6)=(p:Int)+6:=wraps_i64 _ (by omega) (by omega)
   clear hq
   go_wp2_with fail
   go_quiet (fail)
   obtain ⟨nq1,hnq1⟩:∃ n,n=nq:=⟨_,rfl⟩
   subst hnq1
   go_wp2_with fail
   go_region
   go_wp2_with fail
   go_roundw
   case rel=>
    have hq:=unh HQ
    have hm:=hr.move (q+1) (nq1+1) (by omega) ((q:Int)+1) (by omega)
    refine ⟨i+1,by omega,?_,by rw [← Nat.add_assoc,hq];exact hm.1,hF.trans hm.2⟩
    rw [List.take_add_one,hc,digV_app,unh HV]
    simp [digV]
    omega
   case measure=>
    have hq:=unh HQ
    have hm:=hr.move (q+1) (nq1+1) (by omega) ((q:Int)+1) (by omega)
    have e1:=hm.1.at
    have e2:=hr.at
    rw [e1,e2]
    omega
  ·have hie:i=ds.length:=by omega
   have ck0:¬ q=p:=by omega
   by_cases he:q < s.size
   ·have k1:(q:Int) < (s.size:Int):=by omega
    have k6:IntKind.i64.wrap ((p:Int)+6)=(p:Int)+6:=wraps_i64 _ (by omega) (by omega)
    by_cases h7:ds.length=6
    ·have k2:decide ((q:Int) < (p:Int)+6)=false:=by simp;omega
     clear hq
     go_wp2_with fail
     go_quiet (fail)
     go_wp2_with fail
     go_ret
     have hst:=hr.stay nq
     have hq:=unh HQ
     refine ⟨?_,by rw [← hie,hq];exact hst.1,hF.trans hst.2⟩
     have hv:=unh HV
     rw [hie,List.take_length] at hv
     rw [hv];rfl
    ·have k2:(q:Int) < (p:Int)+6:=by omega
     have hE':∃ c,s.data[p+ds.length]?=some c∧isDig c=false:=by
      rcases hE with h8 | h8 | h8
      ·exact absurd h8 h7
      ·omega
      ·exact h8
     obtain ⟨c,hc,hcd⟩:=hE'
     rw [← hie,hq] at hc
     have hb:=bt_of hc
     have hix:=str_ix s q hb.2
     rw [hb.1] at hix
     have hcd':=of_decide_eq_false hcd
     by_cases h9:48≤c.toNat
     ·have k3:(48:Int)≤(c.toNat:Int):=by omega
      have k4:decide ((c.toNat:Int)≤57)=false:=by simp;omega
      clear hq
      go_wp2_with fail
      go_quiet (fail)
      go_wp2_with fail
      go_ret
      have hst:=hr.stay nq
      have hq:=unh HQ
      refine ⟨?_,by rw [← hie,hq];exact hst.1,hF.trans hst.2⟩
      have hv:=unh HV
      rw [hie,List.take_length] at hv
      rw [hv];rfl
     ·have k3:decide ((48:Int)≤(c.toNat:Int))=false:=by simp;omega
      clear hq
      go_wp2_with fail
      go_quiet (fail)
      go_wp2_with fail
      go_ret
      have hst:=hr.stay nq
      have hq:=unh HQ
      refine ⟨?_,by rw [← hie,hq];exact hst.1,hF.trans hst.2⟩
      have hv:=unh HV
      rw [hie,List.take_length] at hv
      rw [hv];rfl
   ·have k1:decide ((q:Int) < (s.size:Int))=false:=by simp;omega
    clear hq
    go_wp2_with fail
    go_quiet (fail)
    go_wp2_with fail
    go_ret
    have hst:=hr.stay nq
    have hq:=unh HQ
    refine ⟨?_,by rw [← hie,hq];exact hst.1,hF.trans hst.2⟩
    have hv:=unh HV
    rw [hie,List.take_length] at hv
    rw [hv];rfl
end Go.Proofs.YtgffljllfenhkaaGreatDoor
end
section
namespace Go.Proofs.YtgffljllfenhkaaGreatDoor
open Go.RowKit
attribute [local go_sem] Oper.semAt_some
variable {w w':World} {X:Nat}
def textOk:List UInt8→Bool
 | []=>true
 | [c]=>c != 40 && c != 41 && c != 92
 | c::d::l=>if c == 92 then textOk l else c != 40 && c != 41 && textOk (d::l)
theorem textOk_cons {c:UInt8} {l:List UInt8} (h:textOk (c::l)=true):c≠41∧c≠40∧((c=92∧∃ d l',l=d::l'∧textOk l'=true)∨(c≠92∧textOk l=true)):=by
 cases l with
 | nil=>
  simp only [textOk,Bool.and_eq_true,bne_iff_ne,ne_eq] at h
  exact ⟨h.1.2,h.1.1,.inr ⟨h.2,rfl⟩⟩
 | cons d l=>
  simp only [textOk] at h
  by_cases hc:c=92
  ·rw [if_pos (by simp [hc])] at h
   exact ⟨by rw [hc];decide,by rw [hc];decide,.inl ⟨hc,d,l,rfl,h⟩⟩
  ·rw [if_neg (by simp [hc])] at h
   simp only [Bool.and_eq_true,bne_iff_ne,ne_eq] at h
   exact ⟨h.1.2,h.1.1,.inr ⟨hc,h.2⟩⟩
theorem u8_ne {c d:UInt8} (h:c≠d):c.toNat≠d.toNat:=fun e=>h (UInt8.toNat_inj.1 e)
set_option maxHeartbeats 4000000 in
set_option maxRecDepth 100000 in
theorem text_yes {s:ByteArray} {p:Nat} (h:Ey w X s p) (t:List UInt8) (ht:textOk t=true) (hH:Has s p (t++[41])) :
  Calls Tryz.prog 78 #[.pointer (some ⟨X,0,none⟩)] w fun e w'=>e=.returned (.tuple #[])∧Ey w' X s (p+t.length+1)∧Fb X w w':=by
 have hle:=hH.le (by simp)
 rw [List.length_append] at hle
 have hle':p+t.length+1≤s.size:=by simpa [Nat.add_assoc] using hle
 have hs:=h.hs
 go_enter Tryz.func78,Tryz.ntmps78
 go_wp2_with fail
 go_loopw [] (fun wr=>∃ (i:Nat),i≤t.length∧textOk (t.drop i)=true∧Ey wr X s (p+i)∧Fb X w wr)
  (fun wr=>p+t.length - atOf wr X)
 case atStart=>exact ⟨0,Nat.zero_le _,ht,h,Fb.refl _ _⟩
 case round=>
  obtain ⟨i,hi,hto,hr,hF⟩:=hrel
  have hat:=hr.at
  obtain ⟨q,hq⟩:∃ q,p+i=q:=⟨_,rfl⟩
  rw [hq] at hr hat
  have HQ:=hid hq
  have c0:=hr.c0
  have c1:=hr.c1
  have c2:=hr.c2
  have f1:=hr.f 1
  have k1:(q:Int) < (s.size:Int):=by omega
  by_cases hil:i < t.length
  ·obtain ⟨c,hc⟩:∃ c,t[i]?=some c:=⟨t[i],List.getElem?_eq_getElem hil⟩
   have hb:=bt_of (hH i c (by rw [List.getElem?_append_left hil];exact hc))
   rw [hq] at hb
   have hix:=str_ix s q hb.2
   rw [hb.1] at hix
   have hdr:t.drop i=c::t.drop (i+1):=by
    rw [List.drop_eq_getElem_cons hil]
    congr 1
    exact Option.some.inj ((List.getElem?_eq_getElem hil).symm.trans hc)
   rw [hdr] at hto
   obtain ⟨t1,t2,t3⟩:=textOk_cons hto
   have n1:¬ (c.toNat:Int)=41:=by have:=u8_ne t1;simp at this;omega
   have n2:¬ (c.toNat:Int)=40:=by have:=u8_ne t2;simp at this;omega
   rcases t3 with ⟨h92,d,l',hl',hok⟩ | ⟨h92,hok⟩
   ·have n3:(c.toNat:Int)=92:=by rw [h92];rfl
    have hi2:i+2≤t.length:=by
     have:=congrArg List.length hl'
     simp at this;omega
    have hl2:t.drop (i+2)=l':=by
     have:=congrArg (List.drop 1) hl'
     simpa [List.drop_drop] using this
    clear hq hdr hto hl'
    go_wp2_with fail
    go_quiet (fail)
    obtain ⟨nq1,hnq1⟩:∃ n,n=nq:=⟨_,rfl⟩
    subst hnq1
    go_wp2_with fail
    go_region
    go_wp2_with fail
    go_region
    go_wp2_with fail
    go_roundw
    case rel=>
     have hq:=unh HQ
     have m1:=hr.move (q+1) (nq1+1+1) (by omega) ((q:Int)+1) (by omega)
     have m2:=m1.1.move (q+1+1) 0 (by omega) ((q:Int)+1+1) (by omega)
     exact ⟨i+2,hi2,by rw [hl2];exact hok,by rw [show p+(i+2)=q+1+1 by omega];exact m2.1,hF.trans (m1.2.trans m2.2)⟩
    case measure=>
     have hq:=unh HQ
     have m1:=hr.move (q+1) (nq1+1+1) (by omega) ((q:Int)+1) (by omega)
     have m2:=m1.1.move (q+1+1) 0 (by omega) ((q:Int)+1+1) (by omega)
     have e1:atOf _ X=q+1+1:=m2.1.at
     have e2:=hr.at
     refine Nat.lt_of_le_of_lt (Nat.le_of_eq (congrArg (fun z=>p+t.length - z) e1)) ?_
     rw [e2]
     show p+t.length - (q+1+1) < p+t.length - q
     omega
   ·have n3:¬ (c.toNat:Int)=92:=by have:=u8_ne h92;simp at this;omega
    clear hq hdr hto
    go_wp2_with fail
    go_quiet (fail)
    obtain ⟨nq1,hnq1⟩:∃ n,n=nq:=⟨_,rfl⟩
    subst hnq1
    go_wp2_with fail
    go_region
    go_wp2_with fail
    go_region
    go_wp2_with fail
    go_roundw
    case rel=>
     have hq:=unh HQ
     have m1:=hr.move (q+1) (nq1+1+1) (by omega) ((q:Int)+1) (by omega)
     exact ⟨i+1,hil,hok,by rw [show p+(i+1)=q+1 by omega];exact m1.1,hF.trans m1.2⟩
    case measure=>
     have hq:=unh HQ
     have m1:=hr.move (q+1) (nq1+1+1) (by omega) ((q:Int)+1) (by omega)
     have e1:=m1.1.at
     have e2:=hr.at
     rw [e1,e2]
     omega
  ·have hie:i=t.length:=by omega
   have hb:=bt_of (hH i 41 (by rw [hie,List.getElem?_append_right (Nat.le_refl _)];simp))
   rw [hq] at hb
   have hix:=str_ix s q hb.2
   rw [hb.1] at hix
   have n1:((41:UInt8).toNat:Int)=41:=rfl
   have hNE:=fun nq=>need_yes (t:=⟨#[41]⟩) (hr.stay nq).1 (by show q+1≤s.size;omega) (Has.ext (s:=s) (p:=q) (t:=⟨#[41]⟩) (fun j d hj=>by
    have h2:=hH (i+j) d (by rw [hie,List.getElem?_append_right (by omega),Nat.add_sub_cancel_left];exact hj)
    rw [← Nat.add_assoc,hq] at h2
    exact h2) (by show q+1≤s.size;omega))
   clear hq
   go_wp2_with fail
   go_quiet (fail)
   go_wp2_with fail
   refine (hNE nq).mono ?_
   rintro e w1 ⟨rfl,h3,F3⟩
   go_wp2_with fail
   first | go_end0 | refine bodyPost_ret (results_none rfl _ _ _) rfl ?_
   have hq:=unh HQ
   exact ⟨rfl,by rw [← hie,hq];exact h3,hF.trans ((hr.stay nq).2.trans F3)⟩
end Go.Proofs.YtgffljllfenhkaaGreatDoor
end
