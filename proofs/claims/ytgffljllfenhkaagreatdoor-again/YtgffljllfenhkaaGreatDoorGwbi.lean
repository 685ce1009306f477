import Derived.Deep.DrawnRows
import Derived.Test.YtgffljllfenhkaaGreatDoorGwbh
namespace Go.Proofs.YtgffljllfenhkaaGreatDoor
section
open Go.RowKit
attribute [local go_sem] Oper.semAt_some
theorem SpN.sp {w:World}{base R A B:Nat}{sg:Value}{l:List Nat}(h:SpN w base sg l) (hR:R<base) (hA:A<base) (hB:B<base):Sp w R A B sg l:=by
 obtain⟨g,cap,h1,h2,h3,h4⟩:=h;exact⟨g,cap,h1,h3,by omega,by omega,by omega,h4⟩
theorem Nums.take {w:World}{g off:Nat}{l:List Nat}(h:Nums w g off l) (n:Nat):Nums w g off (l.take n):=by
 refine⟨h.1,fun i hi=>?_⟩;rw[List.length_take] at hi;rw[h.2 i (by omega)];unfold nth;rw[List.getD_eq_getElem?_getD,List.getD_eq_getElem?_getD,List.getElem?_take,if_pos (by omega)]
theorem Nums.drop {w:World}{g off:Nat}{l:List Nat}(h:Nums w g off l) (n:Nat):Nums w g (off+n) (l.drop n):=by
 refine⟨h.1,fun i hi=>?_⟩;rw[List.length_drop] at hi;rw[Nat.add_assoc,h.2 (n+i) (by omega)];unfold nth;rw[List.getD_eq_getElem?_getD,List.getD_eq_getElem?_getD,List.getElem?_drop]
theorem Nums.drew {w:World}{g off:Nat}{l:List Nat}(h:Nums w g off l):Nums w.drew g off l:=h
theorem Nums.alloc {w:World}{g off:Nat}{l:List Nat}(h:Nums w g off l) (o:Obj):Nums (w.alloc o) g off l:=h.below ((Below.refl _ _).alloc (Nat.le_refl _) _)
theorem Nums.drop0 {w:World}{g:Nat}{l:List Nat}(h:Nums w g 0 l) (n:Nat):Nums w g n (l.drop n):=by have:=h.drop n;rwa [Nat.zero_add] at this
theorem take_le {l:List Nat}{b:Nat}(h:∀ i,nth l i<=b) (n:Nat):∀ i,nth (l.take n) i<=b:=fun i=>by
 have h1:=h i;unfold nth at *;rw[List.getD_eq_getElem?_getD] at *;rw[List.getElem?_take];split
 ·exact h1
 ·simp
theorem drop_le {l:List Nat}{b:Nat}(h:∀ i,nth l i<=b) (n:Nat):∀ i,nth (l.drop n) i<=b:=fun i=>by
 have h1:=h (n+i);unfold nth at *;rw[List.getD_eq_getElem?_getD] at *;rw[List.getElem?_drop];exact h1
def CodesAt (w:World) (g:Nat):Prop:=∃ old:Array Value,old.size=34/\w.heap[g]?=some (.cells old 206 (0,0))
theorem CodesAt.keep {w w':World}{g:Nat}(hB:Below w.heap.size w w') (h:CodesAt w g):CodesAt w' g:=by
 obtain⟨old,hs,hg⟩:=h;exact⟨old,hs,(hB.block g (Array.getElem?_eq_some_iff.1 hg).1).trans hg⟩
theorem CodesAt.drew {w:World}{g:Nat}(h:CodesAt w g):CodesAt w.drew g:=h
theorem CodesAt.new (w:World):CodesAt (w.alloc (.cells #[.int .i64 0,.int .i64 0,.int .i64 0,.int .i64 0,.int .i64 0,.int .i64 0,.int .i64 0,.int .i64 0,.int .i64 0,.int .i64 0,.int .i64 0,.int .i64 0,.int .i64 0,.int .i64 0,.int .i64 0,.int .i64 0,.slice none 0 0,.int .i64 0,.int .i64 0,.int .i64 0,.int .i64 0,.int .i64 0,.int .i64 0,.int .i64 0,.int .i64 0,.int .i64 0,.int .i64 0,.int .i64 0,.int .i64 0,.int .i64 0,.int .i64 0,.int .i64 0,.int .i64 0,.slice none 0 0] 206)) w.heap.size:=⟨_,rfl,World.alloc_heap_new w _⟩
theorem CodesAt.put {w:World}{g:Nat}(h:CodesAt w g) (cs:Array Value):(w.setRow g cs).heap[g]?=some (.cells cs 206 (0,0)):=by
 obtain⟨old,_,hg⟩:=h;exact setRow_heap w g old cs _ _ hg
theorem SpN.put {w:World}{base g:Nat}{sg:Value}{l:List Nat}(h:SpN w base sg l) (hne:sg.ownBlock≠some g) (cs:Array Value):SpN (w.setRow g cs) base sg l:=by
 obtain⟨k,cap,rfl,h2,h3,h4⟩:=h;have hk:k≠g:=fun e=>hne (by subst e;rfl)
 have hgr:=grownBy_setRow w g cs;refine⟨k,cap,rfl,h2,Nat.lt_of_lt_of_le h3 hgr.size,fun n a h1 h15 ha=>?_⟩;rw[World.cell?_of_block (w:=w) (hgr.block k h3 (by simp;omega))];exact h4 n a h1 h15 ha
def zCodes:Obj:=.cells #[.int .i64 0,.int .i64 0,.int .i64 0,.int .i64 0,.int .i64 0,.int .i64 0,.int .i64 0,.int .i64 0,.int .i64 0,.int .i64 0,.int .i64 0,.int .i64 0,.int .i64 0,.int .i64 0,.int .i64 0,.int .i64 0,.slice none 0 0,.int .i64 0,.int .i64 0,.int .i64 0,.int .i64 0,.int .i64 0,.int .i64 0,.int .i64 0,.int .i64 0,.int .i64 0,.int .i64 0,.int .i64 0,.int .i64 0,.int .i64 0,.int .i64 0,.int .i64 0,.int .i64 0,.slice none 0 0] 206
theorem CodesAt.newY (w:World):CodesAt (w.alloc zCodes) w.heap.size:=CodesAt.new w
theorem CodesAt.newZ (w:World):CodesAt (w.alloc zCodes).drew w.heap.size:=CodesAt.new w
theorem CodesAt.keepX {w w':World}{R A B g:Nat}(hf:Fxr R A B w w') (h:CodesAt w g) (hg:g≠R/\g≠A/\g≠B):CodesAt w' g:=by
 obtain⟨old,hs,hg'⟩:=h;exact⟨old,hs,(hf.block g (Array.getElem?_eq_some_iff.1 hg').1 hg.1 hg.2.1 hg.2.2).trans hg'⟩
theorem Nums.byFx {w w':World}{R A B g off:Nat}{l:List Nat}(h:Nums w g off l) (hf:Fxr R A B w w') (hg:g≠R/\g≠A/\g≠B):Nums w' g off l:=
 ⟨Nat.lt_of_lt_of_le h.1 hf.size,fun i hi=>(World.cell?_of_block (w:=w) (hf.block g h.1 hg.1 hg.2.1 hg.2.2)).trans (h.2 i hi)⟩
def OwnR (R A:Nat) (V:Ux) (t:St) (w5:World) (l1 l2:List Nat) (pv:Value) (wx:World):Prop:=
 ∃ (g:Nat) (a1 a2:Array Value) (s1 s2:Value),pv=.pointer (some ⟨g,0,none⟩)/\wx.heap[g]?=some (.cells (a1++a2) 206 (0,0))/\CodeP a1 l1 s1/\CodeP a2 l2 s2/\SpN wx w5.heap.size s1 l1/\SpN wx w5.heap.size s2 l2/\a1.all (·.oneCell')=true/\a2.all (·.oneCell')=true/\w5.heap.size<=g/\Fxr R A V.B w5 wx/\Rx wx R A V t
theorem own_rel {R A:Nat}{V:Ux}{t:St}{w5 W:World}{l1 l2:List Nat}{a1 a2:Array Value}{s1 s2:Value}(g:Nat) (hk:CodesAt W g) (h1:SpN W w5.heap.size s1 l1) (h2:SpN W w5.heap.size s2 l2) (hn1:s1.ownBlock≠some g) (hn2:s2.ownBlock≠some g)
  (hg:w5.heap.size<=g) (hB:Fxr R A V.B w5 W) (hR:Rx W R A V t) (h5:R<w5.heap.size) (hc1:CodeP a1 l1 s1) (hc2:CodeP a2 l2 s2) (ho1:a1.all (·.oneCell')=true) (ho2:a2.all (·.oneCell')=true) :
  OwnR R A V t w5 l1 l2 (.pointer (some ⟨g,0,none⟩)) (W.setRow g (a1++a2)):=by
 have hl:=hR.lt;refine⟨g,a1,a2,s1,s2,rfl,hk.put _,hc1,hc2,h1.put hn1 _,h2.put hn2 _,ho1,ho2,hg,hB.grow (grownBy_setRow W g _) (fun k e=>by simp at e;omega),hR.byGrown (grownBy_setRow W g _) (fun k e=>by simp at e;omega)⟩
theorem load_part {P:Program}{ops:Array Oper}{rest:List Oper}{o:Oper}{a:Act}{w:World}{Q:Exit->Act->World->Prop}(ty:TypeId) (x:Operand) (ho:o.op=.load ty x) (hw:Region.wanted o (yielded ops a.tmps)=true)
  (b off:Nat) (hx:a.eval x=.pointer (some ⟨b,off,none⟩)) (cs:Array Value) (hc:w.rangeAt b off cs.toList)
  (hu:(P.underlying ty).map isAgg=some true) (hi:(P.info? ty).map (·.size)=some cs.size)
  (h:wpList P ops Q rest (a.put o.dst (.agg cs)) w):wpList P ops Q (o::rest) a w:=by
 obtain⟨d,h1,h2⟩:=structured hu;unfold wpList;rw[if_pos hw]
 left
 refine wp_load_mid ty x ho b off hx cs.toList d hc h1 ?_ (by simpa using hi) (by simpa using h);cases d <;> first | rfl | cases h2
theorem range_one {w:World}{g:Nat}{a1 a2:Array Value}{t:TypeId}(h:w.heap[g]?=some (.cells (a1++a2) t (0,0))):w.rangeAt g 0 a1.toList:=fun j v hv=>by
 rw[Array.getElem?_toList] at hv;have hj:=(Array.getElem?_eq_some_iff.1 hv).1;simp only[World.cell?,h];rw[Nat.zero_add,Array.getElem?_append_left hj];exact hv
theorem range_two {w:World}{g:Nat}{a1 a2:Array Value}{t:TypeId}(h:w.heap[g]?=some (.cells (a1++a2) t (0,0))) (h1:a1.size=17):w.rangeAt g 17 a2.toList:=fun j v hv=>by
 rw[Array.getElem?_toList] at hv;simp only[World.cell?,h];rw[Array.getElem?_append_right (by omega),h1,Nat.add_sub_cancel_left];exact hv
def StoreWp (P:Program) (o:Oper) (a:Act) (w:World) (K:Act->World->Prop) (Q:Exit->Act->World->Prop):Prop:=o.wp P a w K Q
theorem store_aside {P:Program}{d:Option Tmp}{x y:Operand}{ty:TypeId}{ps:String}{af:Array Edge}{gd:Option (Nat×Bool)}{a:Act}{w:World}{K:Act->World->Prop}{Q:Exit->Act->World->Prop} :
  Oper.wp P { dst:=d,op:=.store 206 x y,type:=ty,pos:=ps,after:=af,guard:=gd } a w K Q=StoreWp P { dst:=d,op:=.store 206 x y,type:=ty,pos:=ps,after:=af,guard:=gd } a w K Q:=rfl
theorem StoreWp.row {o:Oper}{a:Act}{w:World}{K:Act->World->Prop}{Q:Exit->Act->World->Prop}(x y:Operand) (ho:o.op=.store 206 x y)
  (g:Nat) (cells:Array Value) (hx:a.eval x=.pointer (some ⟨g,0,none⟩)) (hy:a.eval y=.agg cells) (hg:CodesAt w g) (h34:cells.size=34) (h1:cells.all (·.oneCell')=true)
  (h:K (a.put o.dst undef) (w.setRow g cells)):StoreWp Tryz.prog o a w K Q:=by
 obtain⟨old,hs,hg⟩:=hg;exact wp_store_row 206 x y ho g cells hx hy 206 old hg (Tryz.infoCodes _ h34) (hs.trans h34.symm) h1 h
attribute [local go_sem ↓] store_aside Go.wp_at_zero Go.wp_at_succ
theorem then_invX {α β:Type}{m:Rdr α}{f:α->Rdr β}{t t':St}{b:β}(h:Rdr.then m f t=.ok b t'):∃ a t1,m t=.ok a t1/\f a t1=.ok b t':=by
 unfold Rdr.then at h;split at h
 ·rename_i a t1 e;exact⟨a,t1,e,h⟩
 ·cases h
theorem demandX_inv {V:Ux}{c:Bool}{t t':St}{u:Unit}(h:demandX V c t=.ok u t'):c=true/\t'=t:=by
 cases c
 ·cases h
 ·cases h;exact⟨rfl,rfl⟩
theorem readX_le {V:Ux}{cl:List Nat}{many:Nat}(hcl:cl.length<=19):∀ {f:Nat}{l all:List Nat}{t t':St},readX V cl many f l t=.ok all t'->(∀ i,nth l i<=15)->(∀ i,nth all i<=15)/\all.length=many
 | 0,_,_,_,_,h,_=>by cases h
 | f+1,l,all,t,t',h,hl=>by
  rw[readX_succ] at h;split at h
  ·obtain⟨x,t1,h1,h2⟩:=then_invX h;have hx:=(signX_inv h1).1;split at h2
   ·obtain⟨_,t2,_,h3⟩:=then_invX h2;obtain⟨n,t3,_,h4⟩:=then_invX h3;exact readX_le hcl h4 (nth_snoc hl (last_le hl))
   ·split at h2
    ·obtain⟨n,t3,_,h4⟩:=then_invX h2;exact readX_le hcl h4 (nth_snoc hl (by omega))
    ·split at h2
     ·obtain⟨n,t3,_,h4⟩:=then_invX h2;exact readX_le hcl h4 (nth_snoc hl (by omega))
     ·exact readX_le hcl h2 (nth_snoc (n:=1) hl (by omega))
  ·obtain⟨_,t1,h1,h2⟩:=then_invX h;cases h2;exact⟨hl,by have:=(demandX_inv h1).1;simpa using this⟩
def ownEnd (V:Ux) (l1 l2:List Nat) (v:Nat):Rdr (List Nat×List Nat):=
 (demandX V (decide (0<v))).then fun _=>(demandX V (goodB l1)).then fun _=>(demandX V (goodD l2)).then fun _=>Rdr.ret (l1,l2)
def ownRest (V:Ux) (a b:Nat) (all:List Nat):Rdr (List Nat×List Nat):=
 (chargeX (257+a)).then fun _=>(chargeX (1+b)).then fun _=>ownEnd V (all.take (257+a)) (all.drop (257+a)) (all.getD 256 0)
theorem ownX_eq (V:Ux):ownX V=(numX V 5).then fun a=>(numX V 5).then fun b=>(numX V 4).then fun n=>(demandX V (decide (a<=29/\b<=29))).then fun _=>
 (codeLX V (4+n)).then fun cl=>(readX V cl (258+a+b) (259+a+b) []).then fun all=>ownRest V a b all:=rfl
set_option maxHeartbeats 8000000 in
set_option maxRecDepth 100000 in
theorem powncodes_walk (w : World) (R A : Nat) (V : Ux) (t : St) (h : Rx w R A V t) (hT : PTabs w) (h22 : 22<V.B) :
    Calls Tryz.prog 158 #[.pointer (some ⟨R, 0, none⟩)] w (PostX R A V w (CodesQ w) (ownX V t)) := by
  have hlR := h.ltR;have hlA := h.ltA;have hlB := h.lt
  have GO0 : Hid (ownX V t = ((numX V 5).then fun a => (numX V 5).then fun b => (numX V 4).then fun n => (demandX V (decide (a <= 29 /\ b <= 29))).then fun _ =>
      (codeLX V (4 + n)).then fun cl => (readX V cl (258 + a + b) (259 + a + b) []).then fun all => ownRest V a b all) t) := by rw[ownX_eq]; rfl
  obtain⟨r, hr⟩ : ∃ r, ownX V t = r := ⟨_, rfl⟩;rw[hr] at GO0;rw[hr];clear hr
  go_enter Tryz.func158, Tryz.ntmps158
  go_wp2_with fail
  obtain⟨old, hold⟩ : ∃ old : Array Value, old = #[.int .i64 0, .int .i64 0, .int .i64 0, .int .i64 0, .int .i64 0, .int .i64 0, .int .i64 0, .int .i64 0, .int .i64 0, .int .i64 0, .int .i64 0, .int .i64 0, .int .i64 0, .int .i64 0, .int .i64 0, .int .i64 0, .slice none 0 0, .int .i64 0, .int .i64 0, .int .i64 0, .int .i64 0, .int .i64 0, .int .i64 0, .int .i64 0, .int .i64 0, .int .i64 0, .int .i64 0, .int .i64 0, .int .i64 0, .int .i64 0, .int .i64 0, .int .i64 0, .int .i64 0, .slice none 0 0] := ⟨_, rfl⟩;rw[← hold];have holds : old.size = 34 := by rw[hold]; rfl
  clear hold;have hF0 := Fxr.alloc R A V.B w (.cells old 206);have hR0 := h.alloc (.cells old 206);have hO0 : (w.alloc (.cells old 206)).heap[w.heap.size]? = some (.cells old 206 (0, 0)) := World.alloc_heap_new w _;obtain⟨W0, hW0⟩ : ∃ W0, w.alloc (.cells old 206) = W0 := ⟨_, rfl⟩;rw[hW0] at hF0 hR0 hO0 ⊢;clear hW0
  rcases q1 : numX V 5 t with⟨x, t1⟩|y
  · have GO1 : Hid (r = ((numX V 5).then fun b => (numX V 4).then fun n => (demandX V (decide (x <= 29 /\ b <= 29))).then fun _ =>
      (codeLX V (4 + n)).then fun cl => (readX V cl (258 + x + b) (259 + x + b) []).then fun all => ownRest V x b all) t1) := (unh GO0).trans (by rw[Rdr.then_ok q1])
    have hx32 : x<32 := numX_lt q1;refine (PostX.okC (rnum_any _ R A V t 5 5 rfl hR0 (by omega)) q1).mono ?_;rintro e w1 ⟨v1, rfl, rfl, hR1, hF1⟩;clear q1 GO0
    go_wp2_with fail
    rcases q2 : numX V 5 t1 with⟨y, t2⟩|y
    · have GO2 : Hid (r = ((numX V 4).then fun n => (demandX V (decide (x <= 29 /\ y <= 29))).then fun _ =>
        (codeLX V (4 + n)).then fun cl => (readX V cl (258 + x + y) (259 + x + y) []).then fun all => ownRest V x y all) t2) := (unh GO1).trans (by rw[Rdr.then_ok q2])
      have hy32 : y<32 := numX_lt q2;refine (PostX.okC (rnum_any _ R A V t1 5 5 rfl hR1 (by omega)) q2).mono ?_;rintro e w2 ⟨v2, rfl, rfl, hR2, hF2⟩;clear q2 GO1
      go_wp2_with fail
      rcases q3 : numX V 4 t2 with⟨z, t3⟩|y
      · have GO3 : Hid (r = ((demandX V (decide (x <= 29 /\ y <= 29))).then fun _ =>
          (codeLX V (4 + z)).then fun cl => (readX V cl (258 + x + y) (259 + x + y) []).then fun all => ownRest V x y all) t3) := (unh GO2).trans (by rw[Rdr.then_ok q3])
        have hz16 : z<16 := numX_lt q3;refine (PostX.okC (rnum_any _ R A V t2 4 4 rfl hR2 (by omega)) q3).mono ?_;rintro e w3 ⟨v3, rfl, rfl, hR3, hF3⟩;clear q3 GO2;have hFa := (hF0.trans hF1).trans (hF2.trans hF3);have hF03 := hF1.trans (hF2.trans hF3);have hs0 : w.heap.size<W0.heap.size := (Array.getElem?_eq_some_iff.1 hO0).1;have hO3 := (hF03.block w.heap.size hs0 (by omega) (by omega) (by omega)).trans hO0;clear hR1 hR2 hF1 hF2 hF3 hR0 hO0 hF0
        by_cases hx29 : x <= 29
        · by_cases hy29 : y <= 29
          · have GO4 : Hid (r = ((codeLX V (4 + z)).then fun cl => (readX V cl (258 + x + y) (259 + x + y) []).then fun all => ownRest V x y all) t3) := (unh GO3).trans (by rw[Rdr.then_ok (demandX_ok (by simp; omega))])
            have dx : decide ((257 : Int) + (x : Int) <= 286) = true := by simp; omega
            have dy : decide ((1 : Int) + (y : Int) <= 30) = true := by simp; omega
            have hs3 := hFa.size;have hT3 := hT.kept hFa h22 h;clear GO3
            go_wp2_with (go_at_call 136; refine (demand_ok _).mono ?_; rintro e w4 ⟨rfl, rfl⟩)
            rcases q4 : codeLX V (4 + z) t3 with⟨cl, t4⟩|y
            · have GO5 : Hid (r = ((readX V cl (258 + x + y) (259 + x + y) []).then fun all => ownRest V x y all) t4) := (unh GO4).trans (by rw[Rdr.then_ok q4])
              refine (PostX.okC (col_walk w3 R A V t3 (4 + z) _ hR3 hT3 h22 (by omega) (by omega)) q4).mono ?_;rintro e w4 ⟨v4, rfl, ⟨carr, sg, rfl, hD, hSp, hone, hcl19⟩, hR4, hF4⟩;clear q4 GO4
              go_wp2_with fail
              rcases q5 : readX V cl (258 + x + y) (258 + x + y + 1) [] t4 with⟨all, t5⟩|yy
              · have GO6 : Hid (r = ownRest V x y all t5) := (unh GO5).trans (by rw[show 259 + x + y = 258 + x + y + 1 by omega, Rdr.then_ok q5])
                obtain⟨hle, hal⟩ := readX_le (by omega) q5 (fun i => by simp[nth]);refine (PostX.okC (plengths_walk w4 R A V t4 (258 + x + y) _ carr cl sg hR4 hD (hSp.sp (by omega) (by omega) (by omega)) (by omega) (by omega) (by omega)) q5).mono ?_;rintro e w5 ⟨v5, rfl, hRow', hR5, hF5⟩;have hRow : RowI w5 (w4.heap.size + 1) v5 all := hRow';clear hRow' q5 GO5;obtain⟨g8, cp8, rfl, hg8, hn8⟩ := hRow.nums (by omega);obtain⟨m, hm⟩ : ∃ m : Nat, 257 + x = m := ⟨_, rfl⟩;have hmI : (257 : Int) + (x : Int) = (m : Int) := by omega
                have hmw : IntKind.i64.wrap (m : Int) = (m : Int) := wraps_i64 _ (by omega) (by omega);have hm0 : (0 : Int) <= (m : Int) := by omega
                have hml : (m : Int) <= (all.length : Int) := by omega
                have hmlN : m <= all.length := by omega
                have hcp : all.length <= cp8 := by
                  rcases hRow.2 with⟨e, _⟩|⟨g, cap, cur, e, _, _, hc, _⟩
                  · cases e
                  · simp only[Value.slice.injEq] at e; omega
                have hmc : (m : Int) <= (cp8 : Int) := by omega
                have hmcN : m <= cp8 := by omega
                have hs34 := hF4.size;have hs45 := hF5.size;have hR5s : R<w5.heap.size := hR5.ltR;have hg8n : g8 ≠ R /\ g8 ≠ A /\ g8 ≠ V.B := ⟨by omega, by omega, by omega⟩;have hw5n : w5.heap.size ≠ R /\ w5.heap.size ≠ A /\ w5.heap.size ≠ V.B := ⟨by omega, by omega, by omega⟩;have hRAB : R<w5.heap.size /\ A<w5.heap.size /\ V.B<w5.heap.size := ⟨by omega, by omega, by omega⟩
                have GO7 : Hid (r = ((chargeX (all.take m).length).then fun _ => (chargeX (all.drop m).length).then fun _ => ownEnd V (all.take m) (all.drop m) (nth all 256)) t5) := (unh GO6).trans (by
                  unfold ownRest
                  rw[show (all.take m).length = 257 + x by simp; omega, show (all.drop m).length = 1 + y by simp; omega, ← hm]; rfl)
                clear hm GO6;have hg8B : g8 ≠ V.B := hg8n.2.2;have hknew := CodesAt.new
                go_wp2_with fail
                rcases q6 : chargeX (all.take m).length t5 with⟨u6, t6⟩|yy
                · have GO8 : Hid (r = ((chargeX (all.drop m).length).then fun _ => ownEnd V (all.take m) (all.drop m) (nth all 256)) t6) := (unh GO7).trans (by rw[Rdr.then_ok q6])
                  clear GO7
                  rcases q7 : chargeX (all.drop m).length t6 with⟨u7, t7⟩|yy
                  · have GO9 : Hid (r = ownEnd V (all.take m) (all.drop m) (nth all 256) t7) := (unh GO8).trans (by rw[Rdr.then_ok q7])
                    clear GO8
                    go_cut [7] (fun pv wx => OwnR R A V t7 w5 (all.take m) (all.drop m) pv wx)
                    case first =>
                      have tok1 : Hid (0 = 0) := rfl
                      go_region_with (first | (go_at_call 182; first | (have tk := tok1; clear tk tok1; refine (PostX.okC (rcode_n (by first | exact hR5.drew | exact (hR5.alloc _).drew) g8 0 _ m (all.take m) (by first | exact hn8.drew.take _ | exact (hn8.drew.alloc _).take _) (by simp; omega) (take_le hle m) (by simp; omega) hg8B) q6).mono ?_; rintro e w6 ⟨v6, rfl, ⟨a1, s1, rfl, hc1, hs1, ho1⟩, hR6, hF6⟩; (first | have hF56 : Fxr R A V.B w5 w6 := (Fxr.drew R A V.B w5).trans hF6 | have hF56 : Fxr R A V.B w5 w6 := ((Fxr.alloc R A V.B w5 _).trans (Fxr.drew R A V.B _)).trans hF6); (first | (have hF6a : Fxr R A V.B (w5.alloc zCodes).drew w6 := hF6; have hk6 := CodesAt.keepX hF6a (CodesAt.newZ w5) hw5n; clear hF6a) | skip)) | (refine (PostX.okC (rcode_n (by first | exact hR6 | exact hR6.alloc _) g8 m _ _ (all.drop m) (by first | exact (hn8.byFx hF56 hg8n).drop0 m | exact ((hn8.byFx hF56 hg8n).alloc _).drop0 m) (by simp; omega) (drop_le hle m) (by simp; omega) hg8B) q7).mono ?_; rintro e w7 ⟨v7, rfl, ⟨a2, s2, rfl, hc2, hs2, ho2⟩, hR7, hF7⟩; (first | have hk7A := CodesAt.keepX hF7 hk6 hw5n | (have hF7b : Fxr R A V.B (w6.alloc zCodes) w7 := hF7; have hk7B := CodesAt.keepX hF7b (CodesAt.newY w6) ⟨by have := hF56.size; omega, by have := hF56.size; omega, by have := hF56.size; omega⟩; clear hF7b) | skip); (first | have hF67 : Fxr R A V.B w6 w7 := hF7 | have hF67 : Fxr R A V.B w6 w7 := (Fxr.alloc R A V.B _ _).trans hF7); have hz1 := hs1; have hz2 := hs2; obtain⟨gs1, cs1, rfl, hzb1, hzl1, _⟩ := hz1; obtain⟨gs2, cs2, rfl, hzb2, hzl2, _⟩ := hz2; have HZ := hide (And.intro hzb1 (And.intro hzl1 (And.intro hzb2 hzl2))); obtain⟨x0, x1, x2, x3, x4, x5, x6, x7, x8, x9, x10, x11, x12, x13, x14, x15, rfl⟩ := hc1.opened; obtain⟨y0, y1, y2, y3, y4, y5, y6, y7, y8, y9, y10, y11, y12, y13, y14, y15, rfl⟩ := hc2.opened; clear hzb1 hzl1 hzb2 hzl2)) | (refine StoreWp.row _ _ rfl _ _ rfl rfl ?hcg rfl (codes_one _ _ _ _ _ _ _ _ _ _ _ _ _ _ _ _ _ _ _ _ _ _ _ _ _ _ _ _ _ _ _ _ _ _ rfl rfl) ?_; (case hcg => first | exact hk7A | exact hk7B | exact CodesAt.new _)))
                      all_goals
                        go_wp2_with fail
                        go_meet
                        case rel =>
                          obtain⟨hzb1, hzl1, hzb2, hzl2⟩ := unhide HZ;have hs56 := hF56.size;have hs67 := hF67.size;have hF57 : Fxr R A V.B w5 w7 := hF56.trans hF67;have hS1 := (SpN.byFx hs1 hF67 (by first | omega | (simp; omega)) (by first | omega | (simp; omega)) (by first | omega | (simp; omega))).mono (base' := w5.heap.size) (by simp);have hS2 := hs2.mono (base' := w5.heap.size) (by first | exact hs56 | (simp; omega));rw[← codes_app x0 x1 x2 x3 x4 x5 x6 x7 x8 x9 x10 x11 x12 x13 x14 x15 y0 y1 y2 y3 y4 y5 y6 y7 y8 y9 y10 y11 y12 y13 y14 y15 (.slice (some ⟨gs1, 0, none⟩) (used (all.take m)) cs1) (.slice (some ⟨gs2, 0, none⟩) (used (all.drop m)) cs2)]
                          first
                            | (have hk := hk7A
                               have hz1 : w5.heap.size + 1 <= gs1 := by simpa using hzb1
                               have hz2 : w6.heap.size <= gs2 := hzb2;have hl5 : w5.heap.size + 1 <= w6.heap.size := by have := hF6.size; simpa using this
                               exact own_rel w5.heap.size hk hS1 hS2 (by simp[Value.ownBlock]; omega) (by simp[Value.ownBlock]; omega) (Nat.le_refl _) hF57 hR7 hR5s hc1 hc2 ho1 ho2)
                            | (have hk := hk7B
                               have hz2 : w6.heap.size + 1 <= gs2 := by simpa using hzb2
                               exact own_rel w6.heap.size hk hS1 hS2 (by simp[Value.ownBlock]; omega) (by simp[Value.ownBlock]; omega) hs56 hF57 hR7 hR5s hc1 hc2 ho1 ho2)
                            | exact own_rel w7.heap.size (CodesAt.new w7) (hS1.grown (World.grownBy_alloc w7 _ none) (fun k e => by cases e)) (hS2.grown (World.grownBy_alloc w7 _ none) (fun k e => by cases e)) (by simp[Value.ownBlock]; omega) (by simp[Value.ownBlock]; omega) hF57.size (hF57.trans (Fxr.alloc R A V.B _ _)) (hR7.alloc _) hR5s hc1 hc2 ho1 ho2
                    case rest =>
                      obtain⟨g, a1, a2, s1, s2, rfl, hG, hc1, hc2, hS1, hS2, ho1, ho2, hg5, hFx, hR9⟩ := hcut;have hzx := hFx.size;have hn9 := (hn8.byFx hFx hg8n).2 256 (by omega);obtain⟨v, hv⟩ : ∃ v, nth all 256 = v := ⟨_, rfl⟩;rw[hv] at hn9 GO9;rw[Nat.zero_add] at hn9;obtain⟨L1, hL1⟩ : ∃ L, all.take m = L := ⟨_, rfl⟩;obtain⟨L2, hL2⟩ : ∃ L, all.drop m = L := ⟨_, rfl⟩;rw[hL1] at hc1 hS1 GO9;rw[hL2] at hc2 hS2 GO9;have hal2 : (256 : Int)<(all.length : Int) := by omega
                      have hz3 := hF03.size;have hO9 := (hFx.block w.heap.size (by omega) (by omega) (by omega) (by omega)).trans ((hF5.block w.heap.size (by omega) (by omega) (by omega) (by omega)).trans ((hF4.block w.heap.size (by omega) (by omega) (by omega) (by omega)).trans hO3));have hF9 : Fxr R A V.B w wc := ((hFa.trans hF4).trans hF5).trans hFx;have hgw : g ≠ w.heap.size := by omega
                      clear hv hL1 hL2 hn8 hle hRow hmI hmw hm0 hml hmlN hcp hmc hmcN hknew hO3 hSp hD hone q6 q7 hg8n hw5n hRAB hg8B
                      by_cases hv0 : v = 0
                      · have hd : decide ((0 : Int)<(v : Int)) = false := by simp; omega
                        have FIN : Hid (r = .no (9, V.n9)) := (unh GO9).trans (by unfold ownEnd; rw[Rdr.then_no (demandX_no (by simpa using hv0))])
                        go_wp2_with fail
                        refine (demand_no hR9).mono ?_;rintro e w9 ⟨rfl, rfl⟩;exact⟨rfl, PostX.no (y := (9, V.n9)) (unh FIN) hF9⟩
                      · have hd : decide ((0 : Int)<(v : Int)) = true := by simp; omega
                        have hd' : decide (0<v) = true := by simp; omega
                        have GO10 : Hid (r = ((demandX V (goodB L1)).then fun _ => (demandX V (goodD L2)).then fun _ => Rdr.ret (L1, L2)) t7) := (unh GO9).trans (by unfold ownEnd; rw[Rdr.then_ok (demandX_ok hd')]);clear GO9
                        go_wp2_with fail
                        refine (demand_ok _).mono ?_;rintro e w9' ⟨rfl, rfl⟩;obtain⟨w9, hw9⟩ : ∃ w9, w9 = wc := ⟨_, rfl⟩;subst hw9;have hlg : g<w9.heap.size := (Array.getElem?_eq_some_iff.1 hG).1;have hs1' := hS1;obtain⟨gs1, cs1, rfl, _⟩ := hs1';have hs2' := hS2;obtain⟨gs2, cs2, rfl, _⟩ := hs2'
                        go_upto_region 8 with fail
                        go_cut [] (fun wx => Hid (goodB L1 = true) /\ Below w9.heap.size w9 wx)
                        case first =>
                          go_wp2_with (refine load_part 204 _ rfl rfl g 0 rfl a1 (range_one hG) Tryz.aggCodeP (Tryz.infoCodeP _ hc1.size) ?_)
                          refine (isWhole_any _ a1 L1 _ hc1).mono ?_;rintro e w10 ⟨rfl, x10, hx10⟩;have hB10 : Below w9.heap.size w9 w10 := by rw[← hx10]; exact (Below.refl _ _).alloc (Nat.le_refl _) _
                          have hG10 := (hB10.block g hlg).trans hG;clear hx10;cases hw1 : whole L1 with
                          | true =>
                            go_wp2_with fail
                            refine (demand_ok _).mono ?_;rintro e w11 ⟨rfl, rfl⟩
                            go_wp2_with fail
                            go_meet
                            case rel => exact⟨by show goodB L1 = true; simp[goodB, hw1], hB10⟩
                          | false =>
                            go_wp2_with (refine load_part 204 _ rfl rfl g 0 rfl a1 (range_one hG10) Tryz.aggCodeP (Tryz.infoCodeP _ hc1.size) ?_)
                            refine (isSingle_any _ a1 L1 _ _ hc1).mono ?_;rintro e w11 ⟨rfl, x11, hx11⟩;have hB11 : Below w9.heap.size w9 w11 := by rw[← hx11]; exact hB10.alloc hB10.size _
                            clear hx11;cases hw2 : single L1 with
                            | true =>
                              go_wp2_with fail
                              refine (demand_ok _).mono ?_;rintro e w12 ⟨rfl, rfl⟩
                              go_wp2_with fail
                              go_meet
                              case rel => exact⟨by show goodB L1 = true; simp[goodB, hw2], hB11⟩
                            | false =>
                              have FIN : Hid (r = .no (9, V.n9)) := (unh GO10).trans (by rw[Rdr.then_no (demandX_no (by simp[goodB, hw1, hw2]))])
                              go_wp2_with fail
                              refine (demand_no (hR9.below hB11)).mono ?_;rintro e w12 ⟨rfl, rfl⟩;exact⟨rfl, PostX.no (y := (9, V.n9)) (unh FIN) (hF9.trans (Fxr.below hB11))⟩
                        case rest =>
                          obtain⟨hgb, hBc⟩ := hcut;have GO11 : Hid (r = ((demandX V (goodD L2)).then fun _ => Rdr.ret (L1, L2)) t7) := (unh GO10).trans (by rw[Rdr.then_ok (demandX_ok (unh hgb))]);obtain⟨w13, hw13⟩ : ∃ w13, w13 = wc := ⟨_, rfl⟩;subst hw13;have hG13 := (hBc.block g hlg).trans hG;have hO13 := (hBc.block w.heap.size (by omega)).trans hO9;have hF13 := hF9.trans (Fxr.below hBc);have hR13 := hR9.below hBc;have hS13 := hS1.grown (below_none hBc) (fun k e => by cases e);have hT13 := hS2.grown (below_none hBc) (fun k e => by cases e);have hl13 : g<w13.heap.size := (Array.getElem?_eq_some_iff.1 hG13).1;have hs13 := hBc.size;clear hG hO9 hF9 hR9 hS1 hS2 GO10
                          go_upto_region 9 with fail
                          go_cut [] (fun wx => Hid (goodD L2 = true) /\ Below w13.heap.size w13 wx)
                          case first =>
                            go_wp2_with (refine load_part 204 _ rfl rfl g 17 rfl a2 (range_two hG13 hc1.size) Tryz.aggCodeP (Tryz.infoCodeP _ hc2.size) ?_)
                            refine (isWhole_any _ a2 L2 _ hc2).mono ?_;rintro e w14 ⟨rfl, x14, hx14⟩;have hB14 : Below w13.heap.size w13 w14 := by rw[← hx14]; exact (Below.refl _ _).alloc (Nat.le_refl _) _
                            have hG14 := (hB14.block g hl13).trans hG13;clear hx14;cases hw1 : whole L2 with
                            | true =>
                              go_wp2_with fail
                              refine (demand_ok _).mono ?_;rintro e w' ⟨rfl, rfl⟩
                              go_wp2_with fail
                              go_meet
                              case rel => exact⟨by show goodD L2 = true; simp[goodD, hw1], hB14⟩
                            | false =>
                              go_wp2_with (refine load_part 204 _ rfl rfl g 17 rfl a2 (range_two hG14 hc1.size) Tryz.aggCodeP (Tryz.infoCodeP _ hc2.size) ?_)
                              refine (isSingle_any _ a2 L2 _ _ hc2).mono ?_;rintro e w15 ⟨rfl, x15, hx15⟩;have hB15 : Below w13.heap.size w13 w15 := by rw[← hx15]; exact hB14.alloc hB14.size _
                              have hG15 := (hB15.block g hl13).trans hG13;clear hx15;cases hw2 : single L2 with
                              | true =>
                                go_wp2_with fail
                                refine (demand_ok _).mono ?_;rintro e w' ⟨rfl, rfl⟩
                                go_wp2_with fail
                                go_meet
                                case rel => exact⟨by show goodD L2 = true; simp[goodD, hw2], hB15⟩
                              | false =>
                                go_wp2_with (refine load_part 204 _ rfl rfl g 17 rfl a2 (range_two hG15 hc1.size) Tryz.aggCodeP (Tryz.infoCodeP _ hc2.size) ?_)
                                refine (isEmpty_any _ a2 L2 _ _ hc2).mono ?_;rintro e w16 ⟨rfl, x16, hx16⟩;have hB16 : Below w13.heap.size w13 w16 := by rw[← hx16]; exact hB15.alloc hB15.size _
                                clear hx16;cases hw3 : decide (used L2 = 0) with
                                | true =>
                                  go_wp2_with fail
                                  refine (demand_ok _).mono ?_;rintro e w' ⟨rfl, rfl⟩
                                  go_wp2_with fail
                                  go_meet
                                  case rel => exact⟨by show goodD L2 = true; unfold goodD; rw[hw3]; simp, hB16⟩
                                | false =>
                                  have FIN : Hid (r = .no (9, V.n9)) := (unh GO11).trans (by rw[Rdr.then_no (demandX_no (by unfold goodD; rw[hw1, hw2, hw3]; rfl))])
                                  go_wp2_with fail
                                  refine (demand_no (hR13.below hB16)).mono ?_;rintro e w' ⟨rfl, rfl⟩;exact⟨rfl, PostX.no (y := (9, V.n9)) (unh FIN) (hF13.trans (Fxr.below hB16))⟩
                          case rest =>
                            obtain⟨hgd, hBd⟩ := hcut;have hG17 := (hBd.block g hl13).trans hG13;have hO17 := (hBd.block w.heap.size (by omega)).trans hO13;have hF17 := hF13.trans (Fxr.below hBd);have hR17 := hR13.below hBd;have hS17 := hS13.grown (below_none hBd) (fun k e => by cases e);have hT17 := hT13.grown (below_none hBd) (fun k e => by cases e);have hs17 := hBd.size;have h34 : (a1 ++ a2).size = 34 := by rw[Array.size_append, hc1.size, hc2.size]
                            have hone2 : (a1 ++ a2).all (·.oneCell') = true := by rw[Array.all_append, ho1, ho2]; rfl
                            have FIN : Hid (r = .ok (L1, L2) t7) := (unh GO11).trans (by rw[Rdr.then_ok (demandX_ok (unh hgd))]; rfl);clear hG13 hO13 hF13 hR13 hS13 hT13 GO11;obtain⟨arr, harr⟩ : ∃ arr, a1 ++ a2 = arr := ⟨_, rfl⟩;rw[harr] at hG17 h34 hone2;have HARR := hide harr;clear harr
                            go_wp2_with (first | (refine load_whole rfl 206 _ rfl g rfl 206 arr (0, 0) hG17 Tryz.aggCodes (Tryz.infoCodes _ h34) ?_) | (refine wpList_store_row rfl 206 _ _ rfl w.heap.size arr rfl rfl 206 old hO17 (Tryz.infoCodes _ h34) (holds.trans h34.symm) hone2 ?_))
                            obtain⟨d, hd1, hd2⟩ := structured Tryz.aggCodes;refine bodyPost_ret (v := .agg arr) (results_cell_row rfl _ _ w.heap.size 206 _ (0, 0) d rfl (setRow_heap _ w.heap.size old arr _ _ hO17) hd1 (by cases d <;> first | rfl | cases hd2) (Tryz.infoCodes _ h34)) rfl ?_;have hgr := grownBy_setRow wc w.heap.size arr;exact PostX.ok (unh FIN) ⟨a1, a2, _, _, by rw[unhide HARR], hc1, hc2, (hS17.grown hgr (fun k e => by simp at e; omega)).mono (by omega), (hT17.grown hgr (fun k e => by simp at e; omega)).mono (by omega)⟩ (hR17.byGrown hgr (fun k e => by simp at e; omega)) (hF17.grow hgr (fun k e => by simp at e; omega))
                  · have FIN : Hid (r = .no yy) := (unh GO8).trans (by rw[Rdr.then_no q7])
                    have tok1 : Hid (0 = 0) := rfl
                    go_region_with (go_at_call 182; first | (have tk := tok1; clear tk tok1; refine (PostX.okC (rcode_n (by first | exact hR5.drew | exact (hR5.alloc _).drew) g8 0 _ m (all.take m) (by first | exact hn8.drew.take _ | exact (hn8.drew.alloc _).take _) (by simp; omega) (take_le hle m) (by simp; omega) hg8B) q6).mono ?_; rintro e w6 ⟨v6, rfl, ⟨a1, s1, rfl, hc1, hs1, ho1⟩, hR6, hF6⟩; (first | have hF56 : Fxr R A V.B w5 w6 := (Fxr.drew R A V.B w5).trans hF6 | have hF56 : Fxr R A V.B w5 w6 := ((Fxr.alloc R A V.B w5 _).trans (Fxr.drew R A V.B _)).trans hF6); (first | (have hF6a : Fxr R A V.B (w5.alloc zCodes).drew w6 := hF6; have hk6 := CodesAt.keepX hF6a (CodesAt.newZ w5) hw5n; clear hF6a) | skip)) | (refine (PostX.noC (rcode_n (by first | exact hR6 | exact hR6.alloc _) g8 m _ _ (all.drop m) (by first | exact (hn8.byFx hF56 hg8n).drop0 m | exact ((hn8.byFx hF56 hg8n).alloc _).drop0 m) (by simp; omega) (drop_le hle m) (by simp; omega) hg8B) q7).mono ?_; rintro e w7 ⟨rfl, hF7⟩; (first | have hF67 : Fxr R A V.B w6 w7 := hF7 | have hF67 : Fxr R A V.B w6 w7 := (Fxr.alloc R A V.B _ _).trans hF7); refine dead_end ⟨#[], []⟩ w (show _ from ⟨rfl, PostX.no (unh FIN) (((hFa.trans hF4).trans hF5).trans (hF56.trans hF67))⟩) ?_))
                    all_goals trivial
                · have FIN : Hid (r = .no yy) := (unh GO7).trans (by rw[Rdr.then_no q6])
                  go_region_with (go_at_call 182; refine (PostX.noC (rcode_n (by first | exact hR5.drew | exact (hR5.alloc _).drew) g8 0 _ m (all.take m) (by first | exact hn8.drew.take _ | exact (hn8.drew.alloc _).take _) (by simp; omega) (take_le hle m) (by simp; omega) hg8B) q6).mono ?_; rintro e w6 ⟨rfl, hF6⟩; (first | have hF56 : Fxr R A V.B w5 w6 := (Fxr.drew R A V.B w5).trans hF6 | have hF56 : Fxr R A V.B w5 w6 := ((Fxr.alloc R A V.B w5 _).trans (Fxr.drew R A V.B _)).trans hF6); refine dead_end ⟨#[], []⟩ w (show _ from ⟨rfl, PostX.no (unh FIN) (((hFa.trans hF4).trans hF5).trans hF56)⟩) ?_)
                  all_goals trivial
              · have FIN : Hid (r = .no yy) := (unh GO5).trans (by rw[show 259 + x + y = 258 + x + y + 1 by omega, Rdr.then_no q5])
                refine (PostX.noC (plengths_walk w4 R A V t4 (258 + x + y) _ carr cl sg hR4 hD (hSp.sp (by omega) (by omega) (by omega)) (by omega) (by omega) (by omega)) q5).mono ?_;rintro e w5 ⟨rfl, hF5⟩;exact⟨rfl, PostX.no (unh FIN) ((hFa.trans hF4).trans hF5)⟩
            · have FIN : Hid (r = .no y) := (unh GO4).trans (by rw[Rdr.then_no q4])
              refine (PostX.noC (col_walk w3 R A V t3 (4 + z) _ hR3 hT3 h22 (by omega) (by omega)) q4).mono ?_;rintro e w4 ⟨rfl, hF4⟩;exact⟨rfl, PostX.no (unh FIN) (hFa.trans hF4)⟩
          · have dx : decide ((257 : Int) + (x : Int) <= 286) = true := by simp; omega
            have dy : decide ((1 : Int) + (y : Int) <= 30) = false := by simp; omega
            have FIN : Hid (r = .no (9, V.n9)) := (unh GO3).trans (by rw[Rdr.then_no (demandX_no (by simp; omega))])
            go_wp2_with fail
            refine (demand_no hR3).mono ?_;rintro e w4 ⟨rfl, rfl⟩;exact⟨rfl, PostX.no (y := (9, V.n9)) (unh FIN) hFa⟩
        · have dx : decide ((257 : Int) + (x : Int) <= 286) = false := by simp; omega
          have FIN : Hid (r = .no (9, V.n9)) := (unh GO3).trans (by rw[Rdr.then_no (demandX_no (by simp; omega))])
          go_wp2_with fail
          refine (demand_no hR3).mono ?_;rintro e w4 ⟨rfl, rfl⟩;exact⟨rfl, PostX.no (y := (9, V.n9)) (unh FIN) hFa⟩
      · have FIN : Hid (r = .no y) := (unh GO2).trans (by rw[Rdr.then_no q3])
        refine (PostX.noC (rnum_any _ R A V t2 4 4 rfl hR2 (by omega)) q3).mono ?_;rintro e w3 ⟨rfl, hF3⟩;exact⟨rfl, PostX.no (unh FIN) ((hF0.trans hF1).trans (hF2.trans hF3))⟩
    · have FIN : Hid (r = .no y) := (unh GO1).trans (by rw[Rdr.then_no q2])
      refine (PostX.noC (rnum_any _ R A V t1 5 5 rfl hR1 (by omega)) q2).mono ?_;rintro e w2 ⟨rfl, hF2⟩;exact⟨rfl, PostX.no (unh FIN) ((hF0.trans hF1).trans hF2)⟩
  · have FIN : Hid (r = .no y) := (unh GO0).trans (by rw[Rdr.then_no q1])
    refine (PostX.noC (rnum_any _ R A V t 5 5 rfl hR0 (by omega)) q1).mono ?_;rintro e w1 ⟨rfl, hF1⟩;exact⟨rfl, PostX.no (unh FIN) (hF0.trans hF1)⟩
end
end Go.Proofs.YtgffljllfenhkaaGreatDoor
