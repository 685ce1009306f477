import Derived.Deep.MidRow
import Derived.Test.YtgffljllfenhkaaGreatDoorGwaf
namespace Go.Proofs.YtgffljllfenhkaaGreatDoor
section
open Go.RowKit
variable {w w':World}{P B:Nat}{E:Env}{s s':St}{S:Nat->Prop}
theorem value_all {G:World->Prop}(hG:∀ w w',G w->Fz P B w w'->G w') (NC:NumC G P B):∀ n,ValC G P B n:=by
 intro n
 induction n using Nat.strongRecOn with
 | _ n ih=>
  cases n with
  | zero=>intro w E s _ _ _ _ hn;omega
  | succ n=>exact value_step hG NC n ih
theorem setCells_other (b k:Nat) (hk:k≠b):∀ (vs:List Value) (o:Nat) (w:World),(w.setCells b o vs).heap[k]?=w.heap[k]?
 | [],_,_=>rfl
 | v::r,o,w=>by rw[World.setCells,setCells_other b k hk r,Below.heap_setCell _ _ _ _ hk]
theorem setCells_keeps (b:Nat):∀ (vs:List Value) (o:Nat) (w:World),(w.setCells b o vs).os=w.os/\(w.setCells b o vs).tape=w.tape/\(w.setCells b o vs).output=w.output/\(w.setCells b o vs).heap.size=w.heap.size
 | [],_,_=>⟨rfl,rfl,rfl,rfl⟩
 | v::r,o,w=>by
  rw[World.setCells];obtain⟨h1,h2,h3,h4⟩:=setCells_keeps b r (o+1) (w.setCell ⟨b,o,none⟩ v);exact⟨h1,h2,h3,h4.trans (by simp)⟩
theorem setCells_six (w:World) (R:Nat) (a0 a1 a2 a3 a4 a5:Value) (x:List Value) (t:TypeId) (c0 c1 c2 c3 c4 c5:Value) (h:w.heap[R]?=some (.cells (a0::a1::a2::a3::a4::a5::x).toArray t (0,0))) :
  (w.setCells R 0 [c0,c1,c2,c3,c4,c5]).heap[R]?=some (.cells (c0::c1::c2::c3::c4::c5::x).toArray t (0,0)):=by
 simp only[World.setCells,Nat.zero_add,Nat.reduceAdd];have h1:=heap_setCell_same w R 0 _ _ c0 h;have h2:=heap_setCell_same _ R 1 _ _ c1 h1;have h3:=heap_setCell_same _ R 2 _ _ c2 h2;have h4:=heap_setCell_same _ R 3 _ _ c3 h3;have h5:=heap_setCell_same _ R 4 _ _ c4 h4;have h6:=heap_setCell_same _ R 5 _ _ c5 h5;rw[h6];simp
theorem At.setCells {W:World}(h:At W P B E s) (R o:Nat) (vs:List Value) (hR:R≠P/\R≠B/\R≠B+1):At (W.setCells R o vs) P B E s:=
 h.of_blocks (fun k hk=>setCells_other _ _ (by omega) _ _ _)
theorem Fz.setCells {W:World}(F:Fz P B w W) (R o:Nat) (vs:List Value) (hR:w.heap.size<=R):Fz P B w (W.setCells R o vs):=by
 obtain⟨h1,h2,h3,h4⟩:=setCells_keeps R vs o W;exact⟨h1.trans F.os,h2.trans F.tape,h3.trans F.output,by rw[h4];exact F.size,fun k hk a b=>(setCells_other _ _ (by omega) _ _ _).trans (F.block k hk a b)⟩
theorem At.setNew {W:World}(h:At W P B E s) (R i:Nat) (v:Value) (hR:R≠P/\R≠B/\R≠B+1):At (W.setCell ⟨R,i,none⟩ v) P B E s:=
 h.of_blocks (fun k hk=>Below.heap_setCell _ _ _ _ (by show k≠R;omega))
theorem Fz.setNew {W:World}(F:Fz P B w W) (R i:Nat) (v:Value) (hR:w.heap.size<=R):Fz P B w (W.setCell ⟨R,i,none⟩ v):=
 ⟨F.os,F.tape,F.output,by simp[F.size],fun k hk a b=>(Below.heap_setCell _ _ _ _ (by show k≠R;omega)).trans (F.block k hk a b)⟩
def Ob (w:World) (R:Nat) (cs:List Value) (place fin:Nat) (has:Bool) (t:ByteArray):Prop:=
 w.heap[R]?=some (.cells (cs++[Value.int .i64 (place:Int),Value.int .i64 (fin:Int),Value.bool has,Value.string t]).toArray 122 (0,0))
theorem vC_kind {k k' x x':Nat}{t t':ByteArray}{r r':Nat}{sl sl' m m':Value}(h:vC k x t r sl m=vC k' x' t' r' sl' m'):k=k':=by
 unfold vC at h;have h1:=(List.cons.inj h).1;simp at h1;omega
theorem Rep.kind {v:Val}{k x:Nat}{t:ByteArray}{r:Nat}{sl m:Value}(h:Rep w S v (vC k x t r sl m)):(k=9 ↔ isDict v=true)/\k<=9:=by
 cases v <;> unfold Rep at h
 case arr l=>obtain⟨sl,xs,e,_⟩:=h;have:=vC_kind e;subst this;simp[isDict]
 case dict l=>obtain⟨M,n,f,e,_⟩:=h;have:=vC_kind e;subst this;simp[isDict]
 all_goals (have:=vC_kind h;subst this;simp[isDict])
theorem itoa_digs:∀ i:Fin 100,bl ⟨(Lib.decDigits i.1).toArray⟩=digs i.1:=by decide +kernel
theorem itoa_size:∀ i:Fin 100,(⟨(Lib.decDigits i.1).toArray⟩:ByteArray).size<=9000:=by decide +kernel
theorem Tryz.sizeO:(Tryz.prog.info? 122).map (·.size)=some 10:=by kernel_rfl
theorem Tryz.agO:(Tryz.prog.underlying 122).map isAg=some true:=by kernel_rfl
def OQ (w:World):Obj1->Value->World->Prop:=fun o v w'=>∃ cs,v=.agg (cs++[.int .i64 (o.place:Int),.int .i64 (o.fin:Int),.bool o.has,.string o.stream]).toArray/\Rep w' (NewB w w') o.v cs
end
section
open Go.RowKit
attribute [local go_sem] Oper.semAt_some
variable {w w':World}{P B:Nat}{E:Env}{s s':St}{S:Nat->Prop}
theorem setRow_alloc2 (w:World) (A:Obj) (old cs:Array Value) (t:TypeId):((w.alloc A).alloc (.cells old t)).setRow (w.heap.size+1) cs=(w.alloc A).alloc (.cells cs t):=by
 have:=setRow_alloc (w.alloc A) old cs t
 rwa [show (w.alloc A).heap.size=w.heap.size+1 by simp] at this
theorem one_ten (a b c d:Value) (ha:a.oneCell'=true) (hb:b.oneCell'=true) (hc:c.oneCell'=true) (hd:d.oneCell'=true) (k x:Nat) (t:ByteArray) (r:Nat) (e:Option Addr) (n f:Nat) (m:Option Nat) :
  (#[.int .i64 (k:Int),.float .f64 x,.string t,.int .i64 (r:Int),.slice e n f,.map m,a,b,c,d]:Array Value).all (·.oneCell')=true:=by
 simp only[Value.oneCell'] at ha hb hc hd;simp[Value.oneCell',ha,hb,hc,hd]
theorem one_ten0 (p:Nat):(#[.int .i64 0,.float .f64 0,.string ⟨#[]⟩,.int .i64 0,.slice none 0 0,.map none,.int .i64 (p:Int),.int .i64 0,.bool false,.string ⟨#[]⟩]:Array Value).all (·.oneCell')=true:=by simp[Value.oneCell']
theorem Ob.kept {W W':World}{R:Nat}{cs:List Value}{p q:Nat}{b:Bool}{t:ByteArray}(h:Ob W R cs p q b t) (F:Fz P B W W') (hP:R≠P) (hB:R≠B):Ob W' R cs p q b t:=
 (F.block R (Array.getElem?_eq_some_iff.1 h).1 hP hB).trans h
theorem Ob.six {W:World}{R:Nat}{k x:Nat}{t:ByteArray}{r:Nat}{sl m:Value}{p q:Nat}{b:Bool}{tt:ByteArray}(h:Ob W R (vC k x t r sl m) p q b tt) (k' x':Nat) (t':ByteArray) (r':Nat) (sl' m':Value) :
  Ob (W.setCells R 0 [.int .i64 (k':Int),.float .f64 x',.string t',.int .i64 (r':Int),sl',m']) R (vC k' x' t' r' sl' m') p q b tt:=
 setCells_six W R _ _ _ _ _ _ _ _ _ _ _ _ _ _ h
theorem Ob.there {W:World}{R:Nat}{k x:Nat}{t:ByteArray}{r:Nat}{sl m:Value}{p q:Nat}{b:Bool}{tt:ByteArray}(h:Ob W R (vC k x t r sl m) p q b tt):W.there R 0 6:=fun j hj=>by
 unfold Ob vC at h;refine⟨?_,by simp[World.frozen?,h]⟩;rw[Nat.zero_add];simp only[World.cell?,h]
 match j,hj with
 | 0,_=>rfl
 | 1,_=>rfl
 | 2,_=>rfl
 | 3,_=>rfl
 | 4,_=>rfl
 | 5,_=>rfl
section
variable {W:World}{R:Nat}{k x:Nat}{t:ByteArray}{r:Nat}{sl m:Value}{p q:Nat}{b:Bool}{tt:ByteArray}
theorem Ob.c0 (h:Ob W R (vC k x t r sl m) p q b tt):W.cell? ⟨R,0,none⟩=some (.int .i64 (k:Int)):=by unfold Ob vC at h;simp[World.cell?,h]
theorem Ob.c7 (h:Ob W R (vC k x t r sl m) p q b tt):W.cell? ⟨R,7,none⟩=some (.int .i64 (q:Int)):=by unfold Ob vC at h;simp[World.cell?,h]
theorem Ob.c8 (h:Ob W R (vC k x t r sl m) p q b tt):W.cell? ⟨R,8,none⟩=some (.bool b):=by unfold Ob vC at h;simp[World.cell?,h]
theorem Ob.c9 (h:Ob W R (vC k x t r sl m) p q b tt):W.cell? ⟨R,9,none⟩=some (.string tt):=by unfold Ob vC at h;simp[World.cell?,h]
theorem Ob.fr (h:Ob W R (vC k x t r sl m) p q b tt) (i:Nat):W.frozen? ⟨R,i,none⟩=false:=by unfold Ob vC at h;simp[World.frozen?,h]
theorem Ob.set7 (h:Ob W R (vC k x t r sl m) p q b tt) (q':Nat):Ob (W.setCell ⟨R,7,none⟩ (.int .i64 (q':Int))) R (vC k x t r sl m) p q' b tt:=by
 unfold Ob vC at h ⊢;rw[heap_setCell_same _ R 7 _ _ _ h];simp
theorem Ob.set8 (h:Ob W R (vC k x t r sl m) p q b tt) (b':Bool):Ob (W.setCell ⟨R,8,none⟩ (.bool b')) R (vC k x t r sl m) p q b' tt:=by
 unfold Ob vC at h ⊢;rw[heap_setCell_same _ R 8 _ _ _ h];simp
theorem Ob.set9 (h:Ob W R (vC k x t r sl m) p q b tt) (u:ByteArray):Ob (W.setCell ⟨R,9,none⟩ (.string u)) R (vC k x t r sl m) p q b u:=by
 unfold Ob vC at h ⊢;rw[heap_setCell_same _ R 9 _ _ _ h];simp
theorem Ob.row (h:Ob W R (vC k x t r sl m) p q b tt):W.heap[R]?=some (.cells #[.int .i64 (k:Int),.float .f64 x,.string t,.int .i64 (r:Int),sl,m,.int .i64 (p:Int),.int .i64 (q:Int),.bool b,.string tt] 122 (0,0)):=h
end
theorem load_row {ops:Array Oper}{rest:List Oper}{o:Oper}{a:Act}{w:World}{Q:Exit->Act->World->Prop}(hgd:o.guard=none) (ty:TypeId) (x:Operand) (ho:o.op=.load ty x)
  (g:Nat) (hx:a.eval x=.pointer (some ⟨g,0,none⟩)) (t:TypeId) (cs:Array Value) (fr:Nat×Nat) (hg:w.heap[g]?=some (.cells cs t fr))
  (hu:(Tryz.prog.underlying ty).map isAg=some true) (hi:(Tryz.prog.info? ty).map (·.size)=some cs.size)
  (h:wpList Tryz.prog ops Q rest (a.put o.dst (.agg cs)) w):wpList Tryz.prog ops Q (o::rest) a w:=by
 obtain⟨d,h1,h2⟩:=isStruct hu;refine wpList_load_row hgd ty x ho g hx t cs fr d hg h1 ?_ hi h;cases d <;> first | rfl | cases h2
def objEnd (E:Env) (v:Val) (p:Nat) (hs:Bool×ByteArray):Rdr Obj1:=(nextM E).then fun _=>(wordM E [59]).then fun _=>atM.then fun q=>Rdr.ret { v:=v,place:=p,fin:=q,has:=hs.1,stream:=hs.2 }
set_option maxHeartbeats 4000000 in
set_option maxRecDepth 100000 in
theorem object_any {G:World->Prop}(hG:∀ w w',G w->Fz P B w w'->G w') (NC:NumC G P B) (num:Nat) (hnum:num<100) (hw:G w) (ht:E.tab=false) (h:At w P B E s) (ho:s.o<=s.k) :
  Calls Tryz.prog 106 #[.pointer (some ⟨P,0,none⟩),.int .i64 (num:Int)] w (Post P B E w (OQ w) (objectM E num s)):=by
 have VA:=value_all hG NC 18010;have hs9:=h.hs;have he9:=h.he;have hk9:=h.hk;have hPB:=h.lt;have hltP:=h.ltP;obtain⟨dO,hd1,hd2⟩:=isStruct Tryz.agO;have h1a:=h.alloc (.cells #[.int .i64 0,.float .f64 0,.string ⟨#[]⟩,.int .i64 0,.slice none 0 0,.map none,.int .i64 0,.int .i64 0,.bool false,.string ⟨#[]⟩] 122);have c1:=h1a.c1;have h0:=h1a.alloc (.cells #[.int .i64 0,.float .f64 0,.string ⟨#[]⟩,.int .i64 0,.slice none 0 0,.map none,.int .i64 (s.k:Int),.int .i64 0,.bool false,.string ⟨#[]⟩] 122);have F0:Fz P B w ((w.alloc (.cells #[.int .i64 0,.float .f64 0,.string ⟨#[]⟩,.int .i64 0,.slice none 0 0,.map none,.int .i64 0,.int .i64 0,.bool false,.string ⟨#[]⟩] 122)).alloc (.cells #[.int .i64 0,.float .f64 0,.string ⟨#[]⟩,.int .i64 0,.slice none 0 0,.map none,.int .i64 (s.k:Int),.int .i64 0,.bool false,.string ⟨#[]⟩] 122)):=((Fz.refl _ _ _).alloc _).alloc _;have hOb0:Ob ((w.alloc (.cells #[.int .i64 0,.float .f64 0,.string ⟨#[]⟩,.int .i64 0,.slice none 0 0,.map none,.int .i64 0,.int .i64 0,.bool false,.string ⟨#[]⟩] 122)).alloc (.cells #[.int .i64 0,.float .f64 0,.string ⟨#[]⟩,.int .i64 0,.slice none 0 0,.map none,.int .i64 (s.k:Int),.int .i64 0,.bool false,.string ⟨#[]⟩] 122)) (w.heap.size+1) (vC 0 0 ⟨#[]⟩ 0 (.slice none 0 0) (.map none)) s.k 0 false ⟨#[]⟩:=heap_alloc2_new w _ _;have hR00:((w.alloc (.cells #[.int .i64 0,.float .f64 0,.string ⟨#[]⟩,.int .i64 0,.slice none 0 0,.map none,.int .i64 0,.int .i64 0,.bool false,.string ⟨#[]⟩] 122)).alloc (.cells #[.int .i64 0,.float .f64 0,.string ⟨#[]⟩,.int .i64 0,.slice none 0 0,.map none,.int .i64 (s.k:Int),.int .i64 0,.bool false,.string ⟨#[]⟩] 122)).heap[w.heap.size]?=some (.cells #[.int .i64 0,.float .f64 0,.string ⟨#[]⟩,.int .i64 0,.slice none 0 0,.map none,.int .i64 0,.int .i64 0,.bool false,.string ⟨#[]⟩] 122):=(Below.heap_alloc _ _ _ (by simp)).trans (heap_alloc_new w _);have hsz0:((w.alloc (.cells #[.int .i64 0,.float .f64 0,.string ⟨#[]⟩,.int .i64 0,.slice none 0 0,.map none,.int .i64 0,.int .i64 0,.bool false,.string ⟨#[]⟩] 122)).alloc (.cells #[.int .i64 0,.float .f64 0,.string ⟨#[]⟩,.int .i64 0,.slice none 0 0,.map none,.int .i64 (s.k:Int),.int .i64 0,.bool false,.string ⟨#[]⟩] 122)).heap.size=w.heap.size+2:=by simp
 have IT:=Tryz.strconv_Itoa_small num hnum;have hbl:=itoa_digs ⟨num,hnum⟩;have hbs:=itoa_size ⟨num,hnum⟩;simp only[] at hbl hbs;obtain⟨nt,hnt⟩:∃ nt:ByteArray,⟨(Lib.decDigits num).toArray⟩=nt:=⟨_,rfl⟩;rw[hnt] at IT hbl hbs;clear hnt h1a
 go_enter Tryz.func106,Tryz.ntmps106
 go_wp2_with (refine wpList_store_row rfl 122 _ _ rfl (w.heap.size+1) _ rfl rfl 122 _ (heap_alloc2_new w _ _) Tryz.sizeO rfl (one_ten0 s.k) ?_;rw[setRow_alloc2])
 simp only[Act.put];clear c1;obtain⟨W0,hW0⟩:∃ W0,(w.alloc (.cells #[.int .i64 0,.float .f64 0,.string ⟨#[]⟩,.int .i64 0,.slice none 0 0,.map none,.int .i64 0,.int .i64 0,.bool false,.string ⟨#[]⟩] 122)).alloc (.cells #[.int .i64 0,.float .f64 0,.string ⟨#[]⟩,.int .i64 0,.slice none 0 0,.map none,.int .i64 (s.k:Int),.int .i64 0,.bool false,.string ⟨#[]⟩] 122)=W0:=⟨_,rfl⟩;rw[hW0] at h0 F0 hOb0 hR00 hsz0 ⊢;clear hW0
 rcases q1:wordM E (digs num) s with⟨u1,s1⟩|y
 ·have q1':wordM E (bl nt) s=.ok u1 s1:=by rw[hbl];exact q1
  have eo1:=(word_o _ q1).1;have ek1:=(word_inv _ q1).1;have hdl:1<=(digs num).length:=by unfold digs;split <;> simp
  go_cut [] (fun wx=>At wx P B E s1/\Fz P B W0 wx)
  case first=>
   go_region_with (first | (go_at_call 97;refine (IT _).mono ?_;rintro e w1a ⟨rfl,rfl⟩) | (go_at_call 103;refine (Post.okC (word_any nt hbs (by exact h0.drew)) q1').mono ?_;rintro e w1 ⟨v1,rfl,rfl,h1,F1⟩))
   all_goals
    go_wp2_with fail
    go_meet
    case rel=>exact⟨h1,(Fz.refl _ _ _).drew.trans F1⟩
  case rest=>
   clear IT hbl hbs q1';obtain⟨h1,F01⟩:=hcut
   rcases q2:peekM E s1 with⟨x2,s2⟩|y
   ·obtain⟨e2,ex2,_,_⟩:=peek_inv q2;have hx2:x2<256:=by rw[ex2];exact bt_lt _ _
    have ek2:s2.k=s1.k/\s2.o=s1.o:=by rw[e2];exact⟨rfl,rfl⟩
    clear e2 ex2
    rcases hdg:digP x2 with _|_
    ·have HE2:Hid (objectM E num s=((valueM E 18010).then fun v=>(nextM E).then fun y=>(if y==126 then (needM E (isDict v)).then fun _=>(streamM E).then fun t=>Rdr.ret (true,t) else Rdr.ret (false,ByteArray.empty)).then fun hs=>objEnd E v s.k hs) s2):=by
      show objectM E num s=_;simp[objectM,objEnd,Rdr.then,atM,q1,q2,needM,hdg]
     go_upto_region 3 with fail
     go_cut [] (fun wx=>At wx P B E s2/\Fz P B W0 wx)
     case first=>
      go_region_with (first | (go_at_call 128;refine (Post.okC (peek_any (by exact h1.drew)) q2).mono ?_;rintro e w2 ⟨v2,rfl,rfl,h2,F2⟩) | (go_at_call 129;refine (isDigit_any _ x2 hx2).mono ?_;rw[hdg];rintro e w2a ⟨rfl,rfl⟩) | (go_at_call 104;refine (need_ok _).mono ?_;rintro e w2b ⟨rfl,rfl⟩))
      all_goals
       go_wp2_with fail
       go_meet
       case rel=>exact⟨h2,F01.drew.trans F2⟩
     case rest=>
      clear h1 F01 hdg hx2 q2 q1;obtain⟨h2,F02⟩:=hcut;have hk2:=h2.hk
      rcases q4:valueM E 18010 s2 with⟨v4,s4⟩|y
      ·obtain⟨vk,vo⟩:=(val_mo 18010).1 _ _ _ q4;have HE4:Hid (objectM E num s=((nextM E).then fun y=>(if y==126 then (needM E (isDict v4)).then fun _=>(streamM E).then fun t=>Rdr.ret (true,t) else Rdr.ret (false,ByteArray.empty)).then fun hs=>objEnd E v4 s.k hs) s4):=(unh HE2).trans (by simp[Rdr.then,q4])
       go_wp2_with fail
       refine (Post.okC (VA _ E s2 (hG _ _ hw (F0.trans F02)) ht h2 (by omega) (by omega)) q4).mono ?_;rintro e w4 ⟨v4',rfl,⟨cs,rfl,hRep⟩,h4,F4⟩;obtain⟨kk,xx,tt,rr,aa,nn,cc,mm,rfl⟩:=hRep.shape;obtain⟨hkind,hk10⟩:=hRep.kind;have F04:=F02.trans F4;have hO4:=hOb0.kept F04 (by omega) (by omega);have hth:=hO4.there;have hs02:=F02.size;have hs4:=F4.size;have hO5:=hO4.six kk xx tt rr (.slice aa nn cc) (.map mm);have h5:=h4.setCells (w.heap.size+1) 0 [.int .i64 (kk:Int),.float .f64 xx,.string tt,.int .i64 (rr:Int),.slice aa nn cc,.map mm] (by omega);have F05:Fz P B w (w4.setCells (w.heap.size+1) 0 [.int .i64 (kk:Int),.float .f64 xx,.string tt,.int .i64 (rr:Int),.slice aa nn cc,.map mm]):=(F0.trans F04).setCells _ _ _ (by omega);have hR05:(w4.setCells (w.heap.size+1) 0 [.int .i64 (kk:Int),.float .f64 xx,.string tt,.int .i64 (rr:Int),.slice aa nn cc,.map mm]).heap[w.heap.size]?=_:=(setCells_other _ _ (by omega) _ _ _).trans ((F04.block w.heap.size (by omega) (by omega) (by omega)).trans hR00);have hsz5:(w4.setCells (w.heap.size+1) 0 [.int .i64 (kk:Int),.float .f64 xx,.string tt,.int .i64 (rr:Int),.slice aa nn cc,.map mm]).heap.size=w4.heap.size:=(setCells_keeps _ _ _ _).2.2.2
       have hRep5:Rep (w4.setCells (w.heap.size+1) 0 [.int .i64 (kk:Int),.float .f64 xx,.string tt,.int .i64 (rr:Int),.slice aa nn cc,.map mm]) (fun b=>w.heap.size+2<=b/\b<(w4.setCells (w.heap.size+1) 0 [.int .i64 (kk:Int),.float .f64 xx,.string tt,.int .i64 (rr:Int),.slice aa nn cc,.map mm]).heap.size) v4 (vC kk xx tt rr (.slice aa nn cc) (.map mm)):=
        Rep.kept (fun b hb=>⟨⟨by have:=hb.1;omega,by rw[hsz5];exact hb.2⟩,setCells_other _ _ (by have:=hb.1;omega) _ _ _⟩) v4 hRep
       obtain⟨W5,hW5⟩:∃ W5,(w4.setCells (w.heap.size+1) 0 [.int .i64 (kk:Int),.float .f64 xx,.string tt,.int .i64 (rr:Int),.slice aa nn cc,.map mm])=W5:=⟨_,rfl⟩;rw[hW5] at h5 F05 hR05 hsz5 hRep5;have hO5':Ob W5 (w.heap.size+1) (vC kk xx tt rr (.slice aa nn cc) (.map mm)) s.k 0 false ⟨#[]⟩:=by rw[← hW5];exact hO5
       have HW5:=hid hW5;unfold vC;clear hRep hO4 h2 VA hOb0 h0 hR00 hO5 hW5
       go_wp2_with (refine wpList_store_mid rfl 120 _ _ rfl (w.heap.size+1) 0 _ rfl rfl hth Tryz.sizeV (one_six _ _ _ _ _ _ _ _) ?_;rw[show w4.setCells (w.heap.size+1) 0 (#[.int .i64 (kk:Int),.float .f64 xx,.string tt,.int .i64 (rr:Int),.slice aa nn cc,.map mm]:Array Value).toList=W5 from unh HW5])
       clear hth
       rcases q6:nextM E s4 with⟨x6,s6⟩|y
       ·refine (Post.okC (next_any h5) q6).mono ?_;rintro e w6 ⟨v6,rfl,rfl,h6,F6⟩;have F06:=F05.trans F6;have hl5:w.heap.size+1<W5.heap.size:=(Array.getElem?_eq_some_iff.1 hO5').1;have hO6:=hO5'.kept F6 (by omega) (by omega);have hR06:w6.heap[w.heap.size]?=_:=(F6.block w.heap.size (by omega) (by omega) (by omega)).trans hR05;have hRep6:Rep w6 (fun b=>w.heap.size+2<=b/\b<w6.heap.size) v4 (vC kk xx tt rr (.slice aa nn cc) (.map mm)):=Rep.kept (fun b hb=>⟨⟨hb.1,Nat.lt_of_lt_of_le hb.2 F6.size⟩,F6.block b hb.2 (by have:=hb.1;omega) (by have:=hb.1;omega)⟩) v4 hRep5;clear hRep5 hO5' hR05 HW5 hsz5
        by_cases hx6:x6=126
        ·have i6:((x6:Int)==126)=true:=beqI hx6
         rcases hdv:isDict v4 with _|_
         ·have HN:Hid (objectM E num s=.no (E.why s6.k)):=(unh HE4).trans (by simp[Rdr.then,q6,hx6,hdv,needM]);have hk9':¬ kk=9:=fun e=>by rw[hkind.1 e] at hdv;cases hdv
          have ik:((kk:Int)==9)=false:=beqI' hk9';have e0:=hO6.c0;clear hx6 hkind hk9'
          go_wp2_with fail
          go_region_dies
          all_goals
           refine (need_no h6.drew).mono ?_;rintro e w7 ⟨rfl,rfl⟩;exact⟨rfl,Post.no (unh HN) F06.drew.drew⟩
         ·have hk9':kk=9:=hkind.2 hdv;have ik:((kk:Int)==9)=true:=beqI hk9';have e0:=hO6.c0;have HE6:Hid (objectM E num s=((streamM E).then fun t=>objEnd E v4 s.k (true,t)) s6):=(unh HE4).trans (by simp[Rdr.then,q6,hx6,hdv,needM,Rdr.ret];cases streamM E s6 <;> rfl);clear hx6 hkind hk9'
          go_upto_region 6 with fail
          go_cut [] (fun wx=>At wx P B E s6/\Fz P B w6 wx)
          case first=>
           go_region_with (go_at_call 104;refine (need_ok _).mono ?_;rintro e w7 ⟨rfl,rfl⟩)
           all_goals
            go_wp2_with fail
            go_meet
            case rel=>exact⟨h6.drew,(Fz.refl _ _ _).drew⟩
          case rest=>
           obtain⟨h6c,F6c⟩:=hcut;have F06c:=F06.trans F6c;have hl6:w.heap.size+1<w6.heap.size:=(Array.getElem?_eq_some_iff.1 hO6).1;clear e0 ik
           rcases q7:streamM E s6 with⟨t7,s7⟩|y
           ·have HE7:Hid (objectM E num s=objEnd E v4 s.k (true,t7) s7):=(unh HE6).trans (by simp[Rdr.then,q7])
            go_wp2_with fail
            refine (Post.okC (stream_any h6c) q7).mono ?_;rintro e w7 ⟨v7,rfl,rfl,h7,F7⟩;have F67:=F6c.trans F7;have hs67:=F67.size;have hO7:=hO6.kept F67 (by omega) (by omega);have a8:=hO7.c8;have b8:=hO7.fr 8;have hO7b:=hO7.set8 true;have a9:=hO7b.c9;have b9:=hO7b.fr 9;have hO8:=hO7b.set9 t7;have h8a:At ((w7.setCell ⟨w.heap.size+1,8,none⟩ (.bool true)).setCell ⟨w.heap.size+1,9,none⟩ (.string t7)) P B E s7:=(h7.setNew _ _ _ (by omega)).setNew _ _ _ (by omega);have F8a:Fz P B w ((w7.setCell ⟨w.heap.size+1,8,none⟩ (.bool true)).setCell ⟨w.heap.size+1,9,none⟩ (.string t7)):=(((F06.trans F67).setNew _ _ _ (by omega)).setNew _ _ _ (by omega));have hbk:∀ b,b≠w.heap.size+1->((w7.setCell ⟨w.heap.size+1,8,none⟩ (.bool true)).setCell ⟨w.heap.size+1,9,none⟩ (.string t7)).heap[b]?=w7.heap[b]?:=fun b hb=>(Below.heap_setCell _ _ _ _ (by exact hb)).trans (Below.heap_setCell _ _ _ _ (by exact hb))
            have hR8:((w7.setCell ⟨w.heap.size+1,8,none⟩ (.bool true)).setCell ⟨w.heap.size+1,9,none⟩ (.string t7)).heap[w.heap.size]?=_:=(hbk w.heap.size (by omega)).trans ((F67.block w.heap.size (by omega) (by omega) (by omega)).trans hR06);have hz8:((w7.setCell ⟨w.heap.size+1,8,none⟩ (.bool true)).setCell ⟨w.heap.size+1,9,none⟩ (.string t7)).heap.size=w7.heap.size:=by simp
            have hRep8:Rep ((w7.setCell ⟨w.heap.size+1,8,none⟩ (.bool true)).setCell ⟨w.heap.size+1,9,none⟩ (.string t7)) (fun b=>w.heap.size+2<=b/\b<((w7.setCell ⟨w.heap.size+1,8,none⟩ (.bool true)).setCell ⟨w.heap.size+1,9,none⟩ (.string t7)).heap.size) v4 (vC kk xx tt rr (.slice aa nn cc) (.map mm)):=Rep.kept (fun b hb=>by
             obtain⟨hb1,hb2⟩:=hb
             exact⟨⟨hb1,by rw[hz8];omega⟩,(hbk b (by omega)).trans (F67.block b hb2 (by omega) (by omega))⟩) v4 hRep6
            obtain⟨w8',hw8'⟩:∃ W,(w7.setCell ⟨w.heap.size+1,8,none⟩ (.bool true)).setCell ⟨w.heap.size+1,9,none⟩ (.string t7)=W:=⟨_,rfl⟩;rw[hw8'] at hO8 h8a F8a hR8 hRep8;clear hO7 hO7b hO6 hRep6 hR06 hbk hz8
            go_wp2_with fail
            rcases q8:nextM E s7 with⟨x8,s8⟩|y
            ·rcases q9:wordM E [59] s8 with⟨u9,s9⟩|y
             ·have HN:Hid (objectM E num s=.ok { v:=v4,place:=s.k,fin:=s9.k,has:=true,stream:=t7 } s9):=(unh HE7).trans (by simp[objEnd,Rdr.then,q8,q9,atM,Rdr.ret])
              go_wp2_with fail
              refine (Post.okC (next_any h8a) q8).mono ?_;rintro e w8 ⟨v8,rfl,rfl,h8,F8⟩
              go_wp2_with fail
              refine (Post.okC (word_any ⟨#[59]⟩ (by decide) h8) (show wordM E (bl ⟨#[59]⟩) s8=_ from q9)).mono ?_;rintro e w9 ⟨v9,rfl,rfl,h9,F9⟩;have F89:=F8.trans F9;have hO9:=hO8.kept F89 (by omega) (by omega);have d1:=h9.c1;have d7:=hO9.c7;have f7:=hO9.fr 7;have hO10:=(hO9.set7 s9.k).row;have F10:=F8a.trans F89;have hlR:w.heap.size<w9.heap.size:=by have:=(Array.getElem?_eq_some_iff.1 hR8).1;have:=F89.size;omega
              have hR0:(w9.setCell ⟨w.heap.size+1,7,none⟩ (.int .i64 (s9.k:Int))).heap[w.heap.size]?=_:=(Below.heap_setCell _ _ _ _ (by show w.heap.size≠w.heap.size+1;omega)).trans ((F89.block w.heap.size (Array.getElem?_eq_some_iff.1 hR8).1 (by omega) (by omega)).trans hR8);have hRp:=hRep8;obtain⟨w10,hw10⟩:∃ w10,w9.setCell ⟨w.heap.size+1,7,none⟩ (.int .i64 (s9.k:Int))=w10:=⟨_,rfl⟩;have h10:At w10 P B E s9:=by rw[← hw10];exact h9.setNew _ _ _ (by omega)
              have F10':Fz P B w w10:=by rw[← hw10];exact F10.setNew _ _ _ (by omega)
              have hRp10:Rep w10 (fun b=>w.heap.size+2<=b/\b<w10.heap.size) v4 (vC kk xx tt rr (.slice aa nn cc) (.map mm)):=Rep.kept (fun b hb=>by
               obtain⟨hb1,hb2⟩:=hb;have:=F89.size;rw[← hw10]
               exact⟨⟨hb1,by simp;omega⟩,(Below.heap_setCell _ _ _ _ (by show b≠w.heap.size+1;omega)).trans (F89.block b hb2 (by omega) (by omega))⟩) v4 hRp
              rw[hw10] at hO10 hR0;have HW10:=hid hw10;have hw10':w9.setCell ⟨w.heap.size+1,7,none⟩ (.int .i64 (s9.k:Int))=w10:=hw10;clear hO9 hRp hw10
              go_wp2_with (first | (refine load_row rfl 122 _ rfl (w.heap.size+1) rfl 122 _ (0,0) hO10 Tryz.agO Tryz.sizeO ?_) | (refine wpList_store_row rfl 122 _ _ rfl w.heap.size _ rfl rfl 122 _ hR0 Tryz.sizeO rfl (one_ten _ _ _ _ rfl rfl rfl rfl _ _ _ _ _ _ _ _) ?_))
              refine bodyPost_ret (results_cell_row rfl _ _ w.heap.size 122 _ (0,0) dO rfl (setRow_heap _ _ _ _ _ _ hR0) hd1 (by cases dO <;> first | rfl | cases hd2) Tryz.sizeO) rfl ?_;refine Post.ok (unh HN) ⟨vC kk xx tt rr (.slice aa nn cc) (.map mm),rfl,Rep.kept (fun b hb=>?_) v4 hRp10⟩ (h10.setRow _ _ (by omega)) (F10'.setRow _ _ (Nat.le_refl _));exact⟨⟨by have:=hb.1;omega,by rw[setRow_size];exact hb.2⟩,setRow_other _ _ _ _ (by have:=hb.1;omega)⟩
             ·have HN:Hid (objectM E num s=.no y):=(unh HE7).trans (by simp[objEnd,Rdr.then,q8,q9])
              go_wp2_with fail
              refine (Post.okC (next_any h8a) q8).mono ?_;rintro e w8 ⟨v8,rfl,rfl,h8,F8⟩
              go_wp2_with fail
              refine (Post.noC (word_any ⟨#[59]⟩ (by decide) h8) (show wordM E (bl ⟨#[59]⟩) s8=_ from q9)).mono ?_;rintro e w9 ⟨rfl,F9⟩;exact⟨rfl,Post.no (unh HN) ((F8a.trans F8).trans F9)⟩
            ·have HN:Hid (objectM E num s=.no y):=(unh HE7).trans (by simp[objEnd,Rdr.then,q8])
             go_wp2_with fail
             refine (Post.noC (next_any h8a) q8).mono ?_;rintro e w8 ⟨rfl,F8⟩;exact⟨rfl,Post.no (unh HN) (F8a.trans F8)⟩
           ·have HN:Hid (objectM E num s=.no y):=(unh HE6).trans (by simp[Rdr.then,q7])
            go_wp2_with fail
            refine (Post.noC (stream_any h6c) q7).mono ?_;rintro e w7 ⟨rfl,F7⟩;exact⟨rfl,Post.no (unh HN) (F06c.trans F7)⟩
        ·have i6:((x6:Int)==126)=false:=beqI' hx6;have HE6:Hid (objectM E num s=objEnd E v4 s.k (false,ByteArray.empty) s6):=(unh HE4).trans (by simp[Rdr.then,q6,hx6,Rdr.ret]);clear hx6 hkind
         rcases q8:nextM E s6 with⟨x8,s8⟩|y
         ·rcases q9:wordM E [59] s8 with⟨u9,s9⟩|y
          ·have HN:Hid (objectM E num s=.ok { v:=v4,place:=s.k,fin:=s9.k,has:=false,stream:=ByteArray.empty } s9):=(unh HE6).trans (by simp[objEnd,Rdr.then,q8,q9,atM,Rdr.ret])
           go_wp2_with fail
           refine (Post.okC (next_any h6) q8).mono ?_;rintro e w8 ⟨v8,rfl,rfl,h8,F8⟩
           go_wp2_with fail
           refine (Post.okC (word_any ⟨#[59]⟩ (by decide) h8) (show wordM E (bl ⟨#[59]⟩) s8=_ from q9)).mono ?_;rintro e w9 ⟨v9,rfl,rfl,h9,F9⟩;have F89:=F8.trans F9;have hO9:=hO6.kept F89 (by omega) (by omega);have d1:=h9.c1;have d7:=hO9.c7;have f7:=hO9.fr 7;have hO10:=(hO9.set7 s9.k).row;have F10:=F06.trans F89;have hlR:w.heap.size<w9.heap.size:=by have:=(Array.getElem?_eq_some_iff.1 hR06).1;have:=F89.size;omega
           have hR0:(w9.setCell ⟨w.heap.size+1,7,none⟩ (.int .i64 (s9.k:Int))).heap[w.heap.size]?=_:=(Below.heap_setCell _ _ _ _ (by show w.heap.size≠w.heap.size+1;omega)).trans ((F89.block w.heap.size (Array.getElem?_eq_some_iff.1 hR06).1 (by omega) (by omega)).trans hR06);have hRp:=hRep6;obtain⟨w10,hw10⟩:∃ w10,w9.setCell ⟨w.heap.size+1,7,none⟩ (.int .i64 (s9.k:Int))=w10:=⟨_,rfl⟩;have h10:At w10 P B E s9:=by rw[← hw10];exact h9.setNew _ _ _ (by omega)
           have F10':Fz P B w w10:=by rw[← hw10];exact F10.setNew _ _ _ (by omega)
           have hRp10:Rep w10 (fun b=>w.heap.size+2<=b/\b<w10.heap.size) v4 (vC kk xx tt rr (.slice aa nn cc) (.map mm)):=Rep.kept (fun b hb=>by
            obtain⟨hb1,hb2⟩:=hb;have:=F89.size;rw[← hw10]
            exact⟨⟨hb1,by simp;omega⟩,(Below.heap_setCell _ _ _ _ (by show b≠w.heap.size+1;omega)).trans (F89.block b hb2 (by omega) (by omega))⟩) v4 hRp
           rw[hw10] at hO10 hR0;have HW10:=hid hw10;have hw10':w9.setCell ⟨w.heap.size+1,7,none⟩ (.int .i64 (s9.k:Int))=w10:=hw10;clear hO9 hRp hw10
           go_wp2_with (first | (refine load_row rfl 122 _ rfl (w.heap.size+1) rfl 122 _ (0,0) hO10 Tryz.agO Tryz.sizeO ?_) | (refine wpList_store_row rfl 122 _ _ rfl w.heap.size _ rfl rfl 122 _ hR0 Tryz.sizeO rfl (one_ten _ _ _ _ rfl rfl rfl rfl _ _ _ _ _ _ _ _) ?_))
           refine bodyPost_ret (results_cell_row rfl _ _ w.heap.size 122 _ (0,0) dO rfl (setRow_heap _ _ _ _ _ _ hR0) hd1 (by cases dO <;> first | rfl | cases hd2) Tryz.sizeO) rfl ?_;refine Post.ok (unh HN) ⟨vC kk xx tt rr (.slice aa nn cc) (.map mm),rfl,Rep.kept (fun b hb=>?_) v4 hRp10⟩ (h10.setRow _ _ (by omega)) (F10'.setRow _ _ (Nat.le_refl _));exact⟨⟨by have:=hb.1;omega,by rw[setRow_size];exact hb.2⟩,setRow_other _ _ _ _ (by have:=hb.1;omega)⟩
          ·have HN:Hid (objectM E num s=.no y):=(unh HE6).trans (by simp[objEnd,Rdr.then,q8,q9])
           go_wp2_with fail
           refine (Post.okC (next_any h6) q8).mono ?_;rintro e w8 ⟨v8,rfl,rfl,h8,F8⟩
           go_wp2_with fail
           refine (Post.noC (word_any ⟨#[59]⟩ (by decide) h8) (show wordM E (bl ⟨#[59]⟩) s8=_ from q9)).mono ?_;rintro e w9 ⟨rfl,F9⟩;exact⟨rfl,Post.no (unh HN) ((F06.trans F8).trans F9)⟩
         ·have HN:Hid (objectM E num s=.no y):=(unh HE6).trans (by simp[objEnd,Rdr.then,q8])
          go_wp2_with fail
          refine (Post.noC (next_any h6) q8).mono ?_;rintro e w8 ⟨rfl,F8⟩;exact⟨rfl,Post.no (unh HN) (F06.trans F8)⟩
       ·have HN:Hid (objectM E num s=.no y):=(unh HE4).trans (by simp[Rdr.then,q6]);refine (Post.noC (next_any h5) q6).mono ?_;rintro e w6 ⟨rfl,F6⟩;exact⟨rfl,Post.no (unh HN) (F05.trans F6)⟩
      ·have HN:Hid (objectM E num s=.no y):=(unh HE2).trans (by simp[Rdr.then,q4])
       go_wp2_with fail
       refine (Post.noC (VA _ E s2 (hG _ _ hw (F0.trans F02)) ht h2 (by omega) (by omega)) q4).mono ?_;rintro e w4 ⟨rfl,F4⟩;exact⟨rfl,Post.no (unh HN) ((F0.trans F02).trans F4)⟩
    ·have HN:Hid (objectM E num s=.no (E.why s2.k)):=by
      show objectM E num s=_;simp[objectM,Rdr.then,atM,q1,q2,needM,hdg]
     go_wp2_with fail
     go_region_with (first | (go_at_call 128;refine (Post.okC (peek_any (by exact h1.drew)) q2).mono ?_;rintro e w2 ⟨v2,rfl,rfl,h2,F2⟩) | (go_at_call 129;refine (isDigit_any _ x2 hx2).mono ?_;rw[hdg];rintro e w2a ⟨rfl,rfl⟩) | (go_at_call 104;refine (need_no h2).mono ?_;rintro e w2b ⟨rfl,rfl⟩;refine dead_end ⟨#[],[]⟩ w (show _ from ⟨rfl,Post.no (unh HN) ((F0.trans F01).drew.trans F2).drew⟩) ?_))
     all_goals trivial
   ·have HN:Hid (objectM E num s=.no y):=by
     show objectM E num s=_;simp[objectM,Rdr.then,atM,q1,q2]
    go_wp2_with fail
    go_region_dies
    all_goals
     refine (Post.noC (peek_any (by exact h1.drew)) q2).mono ?_;rintro e w2 ⟨rfl,F2⟩;exact⟨rfl,Post.no (unh HN) ((F0.trans F01).drew.trans F2)⟩
 ·have q1':wordM E (bl nt) s=.no y:=by rw[hbl];exact q1
  have HN:Hid (objectM E num s=.no y):=by show objectM E num s=_;simp[objectM,Rdr.then,atM,q1]
  go_region_with (first | (go_at_call 97;refine (IT _).mono ?_;rintro e w1a ⟨rfl,rfl⟩) | (go_at_call 103;refine (Post.noC (word_any nt hbs (by exact h0.drew)) q1').mono ?_;rintro e w1 ⟨rfl,F1⟩;refine dead_end ⟨#[],[]⟩ w (show _ from ⟨rfl,Post.no (unh HN) (F0.drew.trans F1)⟩) ?_))
  all_goals trivial
end
end Go.Proofs.YtgffljllfenhkaaGreatDoor
