import Derived.Test.YtgffljllfenhkaaGreatDoorGwar
namespace Go.Proofs.YtgffljllfenhkaaGreatDoor
section
open Go.RowKit
attribute [local go_sem] Oper.semAt_some
variable {w w':World}{B D OL NV M base:Nat}{S S':Nat->Prop}
def At1 (w:World) (g:Nat) (v:Value) (t:TypeId):Prop:=w.heap[g]?=some (.cells #[v] t (0,0))
theorem At1.c {g:Nat}{v:Value}{t:TypeId}(h:At1 w g v t):w.cell? ⟨g,0,none⟩=some v:=by unfold At1 at h;simp[World.cell?,h]
theorem At1.f {g:Nat}{v:Value}{t:TypeId}(h:At1 w g v t) (i:Nat):w.frozen? ⟨g,i,none⟩=false:=by unfold At1 at h;simp[World.frozen?,h]
theorem At1.lt {g:Nat}{v:Value}{t:TypeId}(h:At1 w g v t):g<w.heap.size:=(Array.getElem?_eq_some_iff.1 h).1
theorem Tryz.undInt:Tryz.prog.underlying 3=some (.int .i64):=by kernel_rfl
theorem Tryz.undMI:Tryz.prog.underlying 142=some (.map 3 3):=by kernel_rfl
theorem Tryz.keyedI:Maps.Keyed Tryz.prog 3:=Maps.int_keyed Tryz.undInt
def litI (a:Nat):Lit:=.int .i64 (a:Int)
def MapN (w:World) (M n:Nat) (f:Nat->Option Value):Prop:=
 ∃ D:DataW Value,w.ownsMap Tryz.prog 3 heldR M n D/\∀ a zd,D.atKey (litI a) zd=match f a with
  | some v=>.held v
  | none=>zd
theorem Tryz.zeroRunI (w:World):(zeroValue 3).run Tryz.prog w=.ok (.int .i64 0) w:=by kernel_rfl
theorem MapN.made (w:World):MapN (w.alloc (.map #[] 0)) w.heap.size 0 (fun _=>none):=
 ⟨.map [],World.ownsMap_made w _ _ _,fun _ _=>rfl⟩
theorem MapN.of_block {n:Nat}{f:Nat->Option Value}(h:MapN w M n f) (hb:w'.heap[M]?=w.heap[M]?):MapN w' M n f:=by
 obtain⟨D,⟨es,clock,h1,h2⟩,h3⟩:=h;exact⟨D,⟨es,clock,hb.trans h1,h2⟩,h3⟩
theorem MapN.lt {n:Nat}{f:Nat->Option Value}(h:MapN w M n f):M<w.heap.size:=by obtain⟨D,h,_⟩:=h;exact h.lt
theorem litI_wf (a:Nat) (ha:a<=1000000):(litI a).wf=true:=by
 show (decide (IntKind.i64.min<=(a:Int))&&decide ((a:Int)<=IntKind.i64.max))=true;have h1:IntKind.i64.min=-9223372036854775808:=rfl;have h2:IntKind.i64.max=9223372036854775807:=rfl;rw[h1,h2,Bool.and_eq_true,decide_eq_true_iff,decide_eq_true_iff];omega
theorem MapN.look {n:Nat}{f:Nat->Option Value}(h:MapN w M n f) (a:Nat) (ha:a<=1000000) (c:Bool) :
  (Instr.lookup 142 (.map (some M)) (.int .i64 (a:Int)) c).run Tryz.prog w=.ok (match f a with
   | some v=>if c then .tuple #[v,.bool true] else v
   | none=>if c then .tuple #[.int .i64 0,.bool false] else .int .i64 0) w:=by
 obtain⟨D,⟨es,clock,hb,F,hs,hD⟩,hf⟩:=h;have hfa:=hf a;subst hD
 rcases Maps.fit_look c Tryz.keyedI Tryz.undMI (Tryz.zeroRunI w) hb F (Maps.keyOf_int_mk Tryz.undInt (litI_wf a ha)) with⟨hr,_,hat⟩|⟨e0,y,_,_,hr,hy,hat,_⟩
 ·rw[hr]
  rcases hfv:f a with _|v
  ·rfl
  ·exfalso;rw[hfv] at hfa;have h1:=(hat .nil).symm.trans (hfa .nil);cases h1
 ·rw[hr];have hy1:y.1=.held e0.val:=by have:=hy;unfold heldR at this;cases this;rfl
  rcases hfv:f a with _|v
  ·exfalso;rw[hfv] at hfa;have h1:=(hat .nil).symm.trans (hfa .nil);rw[hy1] at h1;cases h1
  ·rw[hfv] at hfa;have h1:=(hat .nil).symm.trans (hfa .nil);rw[hy1] at h1;cases h1;rfl
theorem litI_inj {a b:Nat}(h:litI a=litI b):a=b:=by
 unfold litI at h;have h1:(a:Int)=(b:Int):=by injection h
 omega
theorem MapN.update {n:Nat}{f:Nat->Option Value}(h:MapN w M n f) (a:Nat) (ha:a<=1000000) (hn:n<maxLen) (v:Value) :
  ∃ w',(Instr.mapUpdate 142 (.map (some M)) (.int .i64 (a:Int)) v).run Tryz.prog w=.ok () w'/\MapN w' M (n+1) (fun b=>if b=a then some v else f b)/\w.grownBy w' (some M):=by
 obtain⟨D,hO,hf⟩:=h;have hk:Go.keyOf Tryz.prog 3 (.int .i64 (a:Int))=some (litI a):=Maps.keyOf_int_mk Tryz.undInt (litI_wf a ha);obtain⟨w2,hr,hO2,hg⟩:=hO.update Tryz.keyedI Tryz.undMI hn hk (show heldR v=some (.held v,[]) from rfl);refine⟨w2,hr,⟨_,hO2,fun b zd=>?_⟩,hg⟩;simp only[]
 by_cases hb:b=a
 ·rw[if_pos hb,hb];obtain⟨es,clock,_,_,_,hD⟩:=hO;exact Maps.atKey_put_same ⟨_,hD⟩ (Tryz.keyedI.key hk) _ _
 ·rw[if_neg hb,Maps.atKey_put_other (fun e=>hb (litI_inj e))];exact hf b zd
def newsF (olds:List Nat):Nat->Option Value:=fun a=>(idx olds a).map (fun (i:Nat)=>Value.int .i64 ((i+1:Nat):Int))
structure Nm (w:World) (OL NV M base:Nat) (o:Value) (olds:List Nat):Prop where
 ol:At1 w OL o 52
 nv:At1 w NV (.map (some M)) 142
 row:w.ownsRow base 3 1 o olds.length (intsV olds)
 map:∃ n,n<=olds.length/\MapN w M n (newsF olds)
 hl:olds.length<=1000
 lt:OL<w.heap.size/\NV<w.heap.size/\M<w.heap.size/\base<=w.heap.size
 ne:OL≠NV/\OL≠M/\NV≠M
theorem Nm.own {o:Value}{olds:List Nat}(h:Nm w OL NV M base o olds):∀ g,o.ownBlock=some g->g≠OL/\g≠NV/\g≠M:=by
 intro k e
 rcases h.row.2 with⟨h1,_⟩|⟨g,cap,cur,h1,_,h2,_⟩
 ·rw[h1] at e;simp[Value.ownBlock] at e
 ·rw[h1] at e;have:g=k:=by simpa[Value.ownBlock] using e
  subst this;refine⟨?_,?_,?_⟩
  ·rintro rfl;have h3:=h.ol;unfold At1 at h3;rw[h2] at h3;simp at h3
  ·rintro rfl;have h3:=h.nv;unfold At1 at h3;rw[h2] at h3;simp at h3
  ·rintro rfl;obtain⟨n,_,D,⟨es,clock,hm,_⟩,_⟩:=h.map;rw[hm] at h2;simp at h2
structure Fk (B OL M:Nat) (o:Value) (w:World) (o':Value) (w':World):Prop where
 os:w'.os=w.os
 tape:w'.tape=w.tape
 output:w'.output=w.output
 size:w.heap.size<=w'.heap.size
 block:∀ k,k<w.heap.size->k≠B->k≠OL->k≠M->o.ownBlock≠some k->w'.heap[k]?=w.heap[k]?
 own:o'.ownBlock=o.ownBlock\/∃ g,o'.ownBlock=some g/\w.heap.size<=g
section
variable {o o' o'':Value}{w'':World}{olds:List Nat}{b:Nat}
theorem Fk.refl (B OL M:Nat) (o:Value) (w:World):Fk B OL M o w o w:=⟨rfl,rfl,rfl,Nat.le_refl _,fun _ _ _ _ _ _=>rfl,.inl rfl⟩
theorem Fk.trans (h:Fk B OL M o w o' w') (k:Fk B OL M o' w' o'' w''):Fk B OL M o w o'' w'':=by
 refine⟨k.os.trans h.os,k.tape.trans h.tape,k.output.trans h.output,Nat.le_trans h.size k.size,?_,?_⟩
 ·intro b hb h1 h2 h3 h4;rw[k.block b (Nat.lt_of_lt_of_le hb h.size) h1 h2 h3 ?_,h.block b hb h1 h2 h3 h4]
  rcases h.own with e|⟨g,e,hg⟩
  ·rw[e];exact h4
  ·rw[e];intro e';simp at e';omega
 ·rcases k.own with e|⟨g,e,hg⟩
  ·rcases h.own with e' | ⟨g,e',hg⟩
   ·exact .inl (e.trans e')
   ·exact .inr ⟨g,e.trans e',hg⟩
  ·exact .inr ⟨g,e,Nat.le_trans h.size hg⟩
theorem Fk.of_fb (o:Value) (h:Fb B w w'):Fk B OL M o w o w':=⟨h.os,h.tape,h.output,h.size,fun k hk h1 _ _ _=>h.block k hk h1,.inl rfl⟩
theorem Fk.below (o:Value) (h:Below w.heap.size w w'):Fk B OL M o w o w':=⟨h.os,h.tape,h.output,h.size,fun k hk _ _ _ _=>h.block k hk,.inl rfl⟩
theorem Fk.fb {w0:World}(h0:Fb B w0 w) (h:Fk B OL M o w o' w') (h1:w0.heap.size<=OL) (h2:w0.heap.size<=M) (h3:∀ k,o.ownBlock=some k->w0.heap.size<=k):Fb B w0 w':=
 ⟨h.os.trans h0.os,h.tape.trans h0.tape,h.output.trans h0.output,Nat.le_trans h0.size h.size,fun k hk hb=>(h.block k (Nat.lt_of_lt_of_le hk h0.size) hb (by omega) (by omega) (fun e=>by have:=h3 k e;omega)).trans (h0.block k hk hb)⟩
theorem Nm.kept (h:Nm w OL NV M base o olds) (F:Fb B w w') (hB:B≠OL/\B≠NV/\B≠M/\B<base):Nm w' OL NV M base o olds:=by
 have hl:=h.lt;obtain⟨n,hn,hm⟩:=h.map;refine⟨(F.block OL h.ol.lt (by omega)).trans h.ol,(F.block NV h.nv.lt (by omega)).trans h.nv,?_,⟨n,hn,hm.of_block (F.block M hm.lt (by omega))⟩,h.hl,⟨Nat.lt_of_lt_of_le hl.1 F.size,Nat.lt_of_lt_of_le hl.2.1 F.size,Nat.lt_of_lt_of_le hl.2.2.1 F.size,Nat.le_trans hl.2.2.2 F.size⟩,h.ne⟩;exact ownsRow_blockI h.row (fun g hg=>F.block g (World.ownsRow.lt h.row g hg).2 (by have:=(World.ownsRow.lt h.row g hg).1;omega))
end
def PostK (B OL NV M base:Nat) (o:Value) (w:World) {α:Type}(rep:α->Value->World->Prop) (r:Res (α×List Nat)) (e:Ending) (w':World):Prop:=match r with
 | .ok x b'=>∃ v o',e=.returned v/\rep x.1 v w'/\Nm w' OL NV M base o' x.2/\Bud w' B b'/\Fk B OL M o w o' w'
 | .no y=>e=.panicked (thrownY y)/\∃ o',Fk B OL M o w o' w'
section
variable {o o':Value}{W:World}{α:Type}{rep:α->Value->World->Prop}{r:Res (α×List Nat)}{a:α}{olds':List Nat}{b':Nat}{y:Why}{v:Value}
theorem PostK.ok (hr:r=.ok (a,olds') b') (h:rep a v w') (hN:Nm w' OL NV M base o' olds') (hB:Bud w' B b') (F:Fk B OL M o w o' w'):PostK B OL NV M base o w rep r (.returned v) w':=by
 subst hr;exact⟨v,o',rfl,h,hN,hB,F⟩
theorem PostK.no (hr:r=.no y) (F:Fk B OL M o w o' w'):PostK B OL NV M base o w rep r (.panicked (thrownY y)) w':=by
 subst hr;exact⟨rfl,o',F⟩
theorem PostK.okC {p:Program}{f:Nat}{args:Array Value}(h:Calls p f args W (PostK B OL NV M base o w rep r)) (hr:r=.ok (a,olds') b') :
  Calls p f args W fun e w'=>∃ v o',e=.returned v/\rep a v w'/\Nm w' OL NV M base o' olds'/\Bud w' B b'/\Fk B OL M o w o' w':=by subst hr;exact h
theorem PostK.noC {p:Program}{f:Nat}{args:Array Value}(h:Calls p f args W (PostK B OL NV M base o w rep r)) (hr:r=.no y) :
  Calls p f args W fun e w'=>e=.panicked (thrownY y)/\∃ o',Fk B OL M o w o' w':=by subst hr;exact h
end
theorem idx_snoc (old a:Nat):∀ (olds:List Nat),idx (olds++[old]) a=match idx olds a with
  | some i=>some i
  | none=>if old=a then some olds.length else none
 | []=>by simp[idx]
 | x::l=>by
  rw[List.cons_append,idx,idx,idx_snoc old a l];split
  ·rfl
  ·rcases idx l a with _|i
   ·simp only[Option.map_none];split <;> simp
   ·rfl
theorem newsF_snoc {olds:List Nat}{old:Nat}(h:idx olds old=none):(fun b=>if b=old then some (Value.int .i64 ((olds.length+1:Nat):Int)) else newsF olds b)=newsF (olds++[old]):=by
 funext a
 unfold newsF;rw[idx_snoc]
 by_cases ha:a=old
 ·subst ha;rw[if_pos rfl,h,if_pos rfl];rfl
 ·rw[if_neg ha]
  rcases hq:idx olds a with _|i
  ·simp only[];rw[if_neg (Ne.symm ha)]
  ·rfl
set_option maxHeartbeats 2000000 in
set_option maxRecDepth 100000 in
theorem newNumber_any {b DV old:Nat}{o:Value}{olds:List Nat}{q0 q1 q2 q3:Value}(hN:Nm w OL NV M base o olds) (hBd:Bud w B b) (hDV:At1 w DV (.pointer (some ⟨D,0,none⟩)) 75) (hD:w.heap[D]?=some (.cells #[q0,q1,q2,q3,chg B] 101 (0,0)))
  (hne:B≠OL/\B≠NV/\B≠M/\B<base/\B+1≠OL/\B+1≠M/\DV≠B/\D≠B/\B+1<base) (hold:old<=100000) (hl:olds.length<=900) :
  Calls Tryz.prog 95 #[.int .i64 (old:Int),.pointer (some ⟨DV,0,none⟩),.pointer (some ⟨NV,0,none⟩),.pointer (some ⟨OL,0,none⟩)] w (PostK B OL NV M base o w (fun (m:Nat) v _=>v=.int .i64 (m:Int)) (numR olds old b)):=by
 obtain⟨i0,hi0,hz0,hz1,hz2⟩:=info_parts Tryz.infoI;have cV:=hDV.c;have c4:w.cell? ⟨D,4,none⟩=some (chg B):=by simp[World.cell?,hD]
 unfold chg at c4;have hbb:=hBd.hb;have hlt:=hN.lt;have hnn:=hN.ne;obtain⟨n,hn,hmap⟩:=hN.map
 by_cases hb:b<1
 ·have HN:Hid (numR olds old b=.no (12,0)):=by show numR olds old b=_;unfold numR;rw[if_pos hb]
  go_enter Tryz.func95,Tryz.ntmps95
  go_wp2_with fail
  refine (take_no _ B b 1 12 0 hBd.ca hBd.y hb).mono ?_;rintro e w1 ⟨rfl,rfl⟩;exact⟨rfl,PostK.no (unh HN) (Fk.refl _ _ _ _ _)⟩
 ·go_enter Tryz.func95,Tryz.ntmps95
  go_wp2_with fail
  refine (take_ok _ B b 1 hBd.ca (hBd.fa 0) (by omega) hbb).mono ?_;rintro e w1 ⟨rfl,hw1⟩;have hB1:=hBd.take 1 (by omega);rw[hw1] at hB1;have F1:Fb B w w1:=by rw[← hw1];exact (Fb.refl _ _).setB 0 _
  have hs1:w1.heap.size=w.heap.size:=by rw[← hw1];simp
  clear hw1 cV c4;have hN1:=hN.kept F1 ⟨hne.1,hne.2.1,hne.2.2.1,hne.2.2.2.1⟩;have hm1:=hmap.of_block (F1.block M hmap.lt (by omega));have cN:=hN1.nv.c;have cO:=hN1.ol.c;have lk:=hm1.look old (by omega) true;have lf:=hm1.look old (by omega) false
  rcases hq:idx olds old with _|i
  ·have hnf:newsF olds old=none:=by unfold newsF;rw[hq];rfl
   rw[hnf] at lk lf;have HN:Hid (numR olds old b=.ok (olds.length+1,olds++[old]) (b-1)):=by show numR olds old b=_;unfold numR;rw[if_neg hb,hq]
   obtain⟨ao,cp,ho⟩:∃ a c,o=.slice a olds.length c:=by
    rcases hN1.row.2 with⟨e,e2⟩|⟨g,cap,cur,e,_⟩
    ·exact⟨none,0,by rw[e,e2]⟩
    ·exact⟨_,_,e⟩
   have hown:=World.ownsRow.lt hN1.row;have hsn:=newsF_snoc hq;subst ho;have hl0:=hN.hl;simp only[if_true] at lk;simp only[] at lk lf;have HS1:=hid hs1;have hnv:newsF (olds++[old]) old=some (.int .i64 ((olds.length+1:Nat):Int)):=by rw[← hsn];simp
   have hal:=World.grownBy_alloc w1 (.cells #[.int .i64 (old:Int)] 3) (Value.slice ao olds.length cp).ownBlock;have hneO:∀ k,k<base\/k=OL\/k=NV\/k=M->some k≠(Value.slice ao olds.length cp).ownBlock:=fun k hk e=>by have:=(hown k e.symm).1;have:=hN1.own k e.symm;omega
   have hlm:=hmap.lt;have hltO:=hN1.ol.lt;have hltN:=hN1.nv.lt;have hOB:OL<w1.heap.size/\NV<w1.heap.size/\M<w1.heap.size/\base<=w1.heap.size:=by omega
   have hz9:=hs1;clear hs1;have HZ9:=hid hz9;clear hz9
   go_wp2_with (at_builtin;refine wpList_append_own_at _ rfl _ _ 52 rfl base 3 i0 (.int .i64 0) 1 8 Tryz.undI hi0 hz0 hz1 hz2 rfl (by decide) _ _ _ rfl (World.ownsRow.alloc hN1.row _) ⟨w1.heap.size,0,none⟩ 1 1 [.int .i64 (old:Int)] rfl rfl (cell_one_new _ _ _) (by simp[Value.oneCell']) (by unfold maxLen;omega) (by omega) (by simp;omega) ?_;intro v3 w3 hown3 hg3 _ hat3;obtain⟨g3,c3,rfl⟩:=ownsRow_succ hown3;have hgg:=gTrans hal hg3;have hO3:At1 w3 OL (.slice ao olds.length cp) 52:=(hgg.block OL hOB.1 (hneO OL (.inr (.inl rfl)))).trans hN1.ol;have hV3:At1 w3 NV (.map (some M)) 142:=(hgg.block NV hOB.2.1 (hneO NV (.inr (.inr (.inl rfl))))).trans hN1.nv;have cO3:=hO3.c;have fO3:=hO3.f 0;obtain⟨W3,hW3⟩:∃ W3,w3.setCell ⟨OL,0,none⟩ (.slice (some ⟨g3,0,none⟩) (olds.length+1) c3)=W3:=⟨_,rfl⟩;have hk3:∀ k,k≠OL->W3.heap[k]?=w3.heap[k]?:=(fun k hk=>by rw[← hW3];exact Below.heap_setCell _ _ _ _ (by exact hk));have hOW:At1 W3 OL (.slice (some ⟨g3,0,none⟩) (olds.length+1) c3) 52:=(by unfold At1;rw[← hW3,heap_setCell_same w3 OL 0 _ _ _ hO3];simp);have cOW:=hOW.c;have hVW:At1 W3 NV (.map (some M)) 142:=(hk3 NV (by omega)).trans hV3;have cVW:=hVW.c;have hmW:MapN W3 M n (newsF olds):=(hm1.of_block (hgg.block M hOB.2.2.1 (hneO M (.inr (.inr (.inr rfl)))))).of_block (hk3 M (by omega));obtain⟨w4,hr4,hM4,hg4⟩:=hmW.update old (by omega) (by unfold maxLen;omega) (.int .i64 ((olds.length+1:Nat):Int));rw[hsn] at hM4;rw[show ((olds.length+1:Nat):Int)=(olds.length:Int)+1 from by omega] at hr4;have hV4:At1 w4 NV (.map (some M)) 142:=(hg4.block NV hVW.lt (by simp;omega)).trans hVW;have cV4:=hV4.c;have lf4:(Instr.lookup 142 (.map (some M)) (.int .i64 (old:Int)) false).run Tryz.prog w4=.ok (.int .i64 ((olds.length+1:Nat):Int)) w4:=(by have:=hM4.look old (by omega) false;rw[hnv] at this;exact this))
   go_ret
   have hz9:=unh HZ9;have hzg:=hgg.size;have hs3:W3.heap.size=w3.heap.size:=by rw[← hW3];simp
   have hz4:=hg4.size;have hbl:∀ k,k<base->k≠OL->k≠M->w4.heap[k]?=w1.heap[k]?:=fun k hk h1 h2=>(hg4.block k (by omega) (by simp;omega)).trans ((hk3 k h1).trans (hgg.block k (by omega) (hneO k (.inl hk))))
   refine PostK.ok (unh HN) rfl (o':=.slice (some ⟨g3,0,none⟩) (olds.length+1) c3) ⟨(hg4.block OL hOW.lt (by simp;omega)).trans hOW,hV4,?_,⟨n+1,by simp;omega,hM4⟩,by simp;omega,⟨by omega,by omega,by omega,by omega⟩,hN.ne⟩ (hB1.of_blocks (fun k hk=>hbl k (by omega) (by omega) (by omega))) ⟨?_,?_,?_,by omega,?_,?_⟩
   ·rw[List.length_append];have e:intsV (olds++[old])=intsV olds++[.int .i64 (old:Int)]:=by unfold intsV;rw[List.map_append];rfl
    rw[e];refine ownsRow_blockI hown3 (fun g hg=>?_);have hgl:=World.ownsRow.lt hown3 g hg
    have hgo:g≠OL/\g≠NV/\g≠M:=by
     rcases hat3 with e|e
     ·exact hN1.own g (e.symm.trans hg)
     ·rw[e] at hg;have:(w1.alloc (.cells #[.int .i64 (old:Int)] 3)).heap.size=g:=by simpa using hg
      simp at this;omega
    exact (hg4.block g (by omega) (by simp;omega)).trans (hk3 g (by omega))
   ·exact hg4.os.trans ((by rw[← hW3];rfl:W3.os=w3.os).trans (hgg.os.trans F1.os))
   ·exact hg4.tape.trans ((by rw[← hW3];rfl:W3.tape=w3.tape).trans (hgg.tape.trans F1.tape))
   ·exact hg4.output.trans ((by rw[← hW3];rfl:W3.output=w3.output).trans (hgg.output.trans F1.output))
   ·intro k hk h1 h2 h3 h4;exact (hg4.block k (by omega) (by simp;omega)).trans ((hk3 k h2).trans ((hgg.block k (by omega) (fun e=>h4 e.symm)).trans (F1.block k hk h1)))
   ·rcases hat3 with e|e
    ·exact .inl e
    ·exact .inr ⟨_,e,by simp;omega⟩
  ·have hnf:newsF olds old=some (.int .i64 ((i+1:Nat):Int)):=by unfold newsF;rw[hq];rfl
   rw[hnf] at lk lf;have HN:Hid (numR olds old b=.ok (i+1,olds) (b-1)):=by show numR olds old b=_;unfold numR;rw[if_neg hb,hq]
   have lk':(Instr.lookup 142 (.map (some M)) (.int .i64 (old:Int)) true).run Tryz.prog w1=.ok (.tuple #[.int .i64 ((i+1:Nat):Int),.bool true]) w1:=lk;have lf':(Instr.lookup 142 (.map (some M)) (.int .i64 (old:Int)) false).run Tryz.prog w1=.ok (.int .i64 ((i+1:Nat):Int)) w1:=lf;clear lk lf
   go_wp2_with fail
   go_ret
   exact PostK.ok (unh HN) rfl hN1 hB1 (Fk.of_fb o F1)
end
section
open Go.RowKit
attribute [local go_sem] Oper.semAt_some
variable {w w':World}{B:Nat}{D lo at_ root:Nat}{pl:List Nat}{slp slo:Value}{os:List Obj1}{xs:List Value}{S:Nat->Prop}
attribute [local go_sem ↓] store_v load_v Go.wp_at_zero Go.wp_at_succ
set_option maxHeartbeats 8000000 in
set_option maxRecDepth 100000 in
theorem refTo_any {b DV TV:Nat}{ty:ByteArray}(h:Doc w D B lo at_ pl root slp slo os xs) (hBd:Bud w B b) (hlo:B+1<lo) (hDV:At1 w DV (.pointer (some ⟨D,0,none⟩)) 75) (hTV:At1 w TV (.string ty) 9) (hn:DV≠B/\TV≠B)
  (v:Val) {kk xx:Nat} {tt:ByteArray} {rr:Nat} {aa:Option Addr} {nn cc:Nat} {mm:Option Nat} (hR:Rep w S v (vC kk xx tt rr (.slice aa nn cc) (.map mm))) :
  Calls Tryz.prog 161 #[.agg #[.int .i64 (kk:Int),.float .f64 xx,.string tt,.int .i64 (rr:Int),.slice aa nn cc,.map mm],.pointer (some ⟨DV,0,none⟩),.pointer (some ⟨TV,0,none⟩)] w
   (PostB B w (fun x val _=>val=.tuple #[.agg #[.int .i64 (kk:Int),.float .f64 xx,.string tt,.int .i64 (rr:Int),.slice aa nn cc,.map mm],.bool x.2]) (refR os ty v b)):=by
 have hk7:=(Rep.kindOf hR).2.2.2.1;have hrn:=(Rep.kindOf hR).2.2.2.2.2;clear hR;have hltD:=h.ltD;have hltV:=hDV.lt;have hltT:=hTV.lt;have hltB:=hBd.lt;have hloD:=h.lo;have hB:Below w.heap.size w ((w.alloc (.cells #[.int .i64 (kk:Int),.float .f64 xx,.string tt,.int .i64 (rr:Int),.slice aa nn cc,.map mm] 120)).alloc (.cells #[.int .i64 0,.float .f64 0,.string ⟨#[]⟩,.int .i64 0,.slice none 0 0,.map none] 120)):=((Below.refl _ _).alloc (Nat.le_refl _) _).alloc (by simp) _;have hA:((w.alloc (.cells #[.int .i64 (kk:Int),.float .f64 xx,.string tt,.int .i64 (rr:Int),.slice aa nn cc,.map mm] 120)).alloc (.cells #[.int .i64 0,.float .f64 0,.string ⟨#[]⟩,.int .i64 0,.slice none 0 0,.map none] 120)).heap[w.heap.size]?=some (.cells #[.int .i64 (kk:Int),.float .f64 xx,.string tt,.int .i64 (rr:Int),.slice aa nn cc,.map mm] 120 (0,0)):=heap_alloc2_old w _ _;have hZ:((w.alloc (.cells #[.int .i64 (kk:Int),.float .f64 xx,.string tt,.int .i64 (rr:Int),.slice aa nn cc,.map mm] 120)).alloc (.cells #[.int .i64 0,.float .f64 0,.string ⟨#[]⟩,.int .i64 0,.slice none 0 0,.map none] 120)).heap[w.heap.size+1]?=some (.cells #[.int .i64 0,.float .f64 0,.string ⟨#[]⟩,.int .i64 0,.slice none 0 0,.map none] 120 (0,0)):=heap_alloc2_new w _ _;have hsz:((w.alloc (.cells #[.int .i64 (kk:Int),.float .f64 xx,.string tt,.int .i64 (rr:Int),.slice aa nn cc,.map mm] 120)).alloc (.cells #[.int .i64 0,.float .f64 0,.string ⟨#[]⟩,.int .i64 0,.slice none 0 0,.map none] 120)).heap.size=w.heap.size+2:=by simp
 go_enter Tryz.func161,Tryz.ntmps161
 go_upto_region 1 with fail
 obtain⟨W,hW⟩:∃ W,(w.alloc (.cells #[.int .i64 (kk:Int),.float .f64 xx,.string tt,.int .i64 (rr:Int),.slice aa nn cc,.map mm] 120)).alloc (.cells #[.int .i64 0,.float .f64 0,.string ⟨#[]⟩,.int .i64 0,.slice none 0 0,.map none] 120)=W:=⟨_,rfl⟩;rw[hW] at hA hZ hB hsz ⊢;clear hW;have hBW:Bud W B b:=hBd.of_blocks (fun k hk=>hB.block k (by omega));have F0:Fb B w W:=Fb.of_below hB;have cD:W.cell? ⟨DV,0,none⟩=some (.pointer (some ⟨D,0,none⟩)):=At1.c ((hB.block DV hltV).trans hDV);have c4:=(h.kept F0 (by omega)).c4;unfold chg at c4;have hbb:=hBd.hb
 by_cases hb:b<1
 ·have HN:Hid (refR os ty v b=.no (12,0)):=by show refR os ty v b=_;unfold refR;rw[if_pos hb]
  go_wp2_with fail
  refine (take_no _ B b 1 12 0 hBW.ca hBW.y hb).mono ?_;rintro e w1 ⟨rfl,rfl⟩;exact⟨rfl,PostB.no (unh HN) F0⟩
 ·have HN:Hid (refR os ty v b=.ok (v,refTo os ty v) (b-1)):=by show refR os ty v b=_;unfold refR;rw[if_neg hb]
  go_wp2_with fail
  refine (take_ok _ B b 1 hBW.ca (hBW.fa 0) (by omega) hbb).mono ?_;rintro e w1 ⟨rfl,hw1⟩;have hB1:=hBW.take 1 (by omega);rw[hw1] at hB1;have F1:Fb B w w1:=by rw[← hw1];exact F0.setB 0 _
  have hk1:∀ k,k≠B->w1.heap[k]?=W.heap[k]?:=fun k hk=>by rw[← hw1];exact Below.heap_setCell _ _ _ _ (by exact hk)
  have hs1:w1.heap.size=W.heap.size:=by rw[← hw1];simp
  clear hw1;have hA1:=(hk1 w.heap.size (by omega)).trans hA;have hZ1:=(hk1 (w.heap.size+1) (by omega)).trans hZ;have hV1:At1 w1 DV (.pointer (some ⟨D,0,none⟩)) 75:=(F1.block DV hltV hn.1).trans hDV;have hT1:At1 w1 TV (.string ty) 9:=(F1.block TV hltT hn.2).trans hTV;have hd1:=h.kept F1 (by omega);clear hA hZ cD c4 hk1 hBW;have F1d:Fb B w w1.drew:=F1.drew;have hdd:=h.kept F1d (by omega);have hrA:w1.drew.rangeAt w.heap.size 0 [.int .i64 (kk:Int),.float .f64 xx,.string tt,.int .i64 (rr:Int),.slice aa nn cc,.map mm]:=rangeAt_block (w:=w1.drew) hA1;have cA0:w1.drew.cell? ⟨w.heap.size,0,none⟩=some (.int .i64 (kk:Int)):=by have:=hrA 0 (.int .i64 (kk:Int)) rfl;simpa using this
  have cA3:w1.drew.cell? ⟨w.heap.size,3,none⟩=some (.int .i64 (rr:Int)):=by have:=hrA 3 (.int .i64 (rr:Int)) rfl;simpa using this
  have cV:w1.drew.cell? ⟨DV,0,none⟩=some (.pointer (some ⟨D,0,none⟩)):=At1.c (w:=w1.drew) hV1;have cT:w1.drew.cell? ⟨TV,0,none⟩=some (.string ty):=At1.c (w:=w1.drew) hT1;have hZd:w1.drew.heap[w.heap.size+1]?=some (.cells #[.int .i64 0,.float .f64 0,.string ⟨#[]⟩,.int .i64 0,.slice none 0 0,.map none] 120 (0,0)):=hZ1;have hsd:w1.drew.heap.size=w.heap.size+2:=hs1.trans hsz;have hBd1:Bud w1.drew B (b-1):=hB1.drew;obtain⟨W2,hW2,hS2,hO2,_,hs2⟩:=storedV (w:=w1.drew) (W:=w1.drew) (N:=w.heap.size+1) #[.int .i64 (kk:Int),.float .f64 xx,.string tt,.int .i64 (rr:Int),.slice aa nn cc,.map mm] hZd (Nat.le_refl _) (Below.refl _ _);have F2:Fb B w W2:=by rw[← hW2];exact F1d.setRow _ _ (by omega)
  have hd2:=h.kept F2 (by omega);have cB0:W2.cell? ⟨w.heap.size,0,none⟩=some (.int .i64 (kk:Int)):=(World.cell?_of_block (w:=w1.drew) (hO2 w.heap.size (by omega))).trans cA0;have cB3:W2.cell? ⟨w.heap.size,3,none⟩=some (.int .i64 (rr:Int)):=(World.cell?_of_block (w:=w1.drew) (hO2 w.heap.size (by omega))).trans cA3;have cVB:W2.cell? ⟨DV,0,none⟩=some (.pointer (some ⟨D,0,none⟩)):=(World.cell?_of_block (w:=w1.drew) (hO2 DV (by omega))).trans cV;have cTB:W2.cell? ⟨TV,0,none⟩=some (.string ty):=(World.cell?_of_block (w:=w1.drew) (hO2 TV (by omega))).trans cT;have hBd2:Bud W2 B (b-1):=hBd1.of_blocks (fun k hk=>hO2 k (by omega))
  by_cases hk:kk=7
  ·obtain⟨n,hvn⟩:=hk7.1 hk;have hrr:=hrn n hvn;subst hrr;have hkb:((kk:Int)==7)=true:=by rw[beq_iff_eq];omega
   have hfin:Hid (((tnameAt os rr).toList==ty.toList)=refTo os ty v):=by rw[hvn];exact str_eq _ _
   subst hk;clear hk7 hrn hvn
   go_upto_region 2 with fail
   have TO:∀ W3,Doc W3 D B lo at_ pl root slp slo os xs->Calls Tryz.prog 70 #[.pointer (some ⟨D,0,none⟩),.int .i64 (rr:Int)] W3 fun e w'=>e=.returned (.string (tnameAt os rr))/\Below W3.heap.size W3 w':=fun W3 h3=>typeOf_any h3 rr
   go_cut [5] (fun rv wx=>rv=.bool (refTo os ty v)/\wx.heap[w.heap.size+1]?=some (.cells #[.int .i64 ((7:Nat):Int),.float .f64 xx,.string tt,.int .i64 (rr:Int),.slice aa nn cc,.map mm] 120 (0,0))/\Bud wx B (b-1)/\Fb B w wx)
   case first=>
    go_region_with (first
     | (go_at_call 70;refine (TO _ ?hdoc).mono ?_;(case hdoc=>first | exact hdd | exact hd2);rintro e w3 ⟨rfl,hB3⟩;(first | (have hq:Below w1.drew.heap.size w1.drew w3:=hB3;have cT3:w3.cell? ⟨TV,0,none⟩=some (.string ty):=(hB3.cell (by show TV<w1.heap.size;omega)).trans cT;have hZ3:=(hB3.block (w.heap.size+1) (by show _<w1.heap.size;omega)).trans hZd;have hrA3:w3.rangeAt w.heap.size 0 [.int .i64 ((7:Nat):Int),.float .f64 xx,.string tt,.int .i64 (rr:Int),.slice aa nn cc,.map mm]:=(fun j u hj=>(hB3.cell (by show w.heap.size<w1.heap.size;omega)).trans (hrA j u hj));clear hq) | (have cT3:w3.cell? ⟨TV,0,none⟩=some (.string ty):=(hB3.cell (by omega)).trans cTB;have hS3:=(hB3.block (w.heap.size+1) (by omega)).trans hS2)))
     | (with_reducible refine LoadV.here ?_;refine LoadV.row _ rfl w.heap.size 0 [.int .i64 ((7:Nat):Int),.float .f64 xx,.string tt,.int .i64 (rr:Int),.slice aa nn cc,.map mm] rfl ?hra rfl ?_;(case hra=>first | exact hrA3 | exact hrA))
     | (with_reducible refine StoreV.here ?_;first | (have tk:=hZ3;clear tk;refine StoreV.row0 _ _ rfl rfl (w.heap.size+1) #[.int .i64 ((7:Nat):Int),.float .f64 xx,.string tt,.int .i64 (rr:Int),.slice aa nn cc,.map mm] rfl rfl _ hZ3 rfl rfl (one_six _ _ _ _ _ _ _ _) ?_;obtain⟨W4,hW4,hS4,hO4,_,hs4⟩:=storedV (w:=w3) (W:=w3) (N:=w.heap.size+1) #[.int .i64 ((7:Nat):Int),.float .f64 xx,.string tt,.int .i64 (rr:Int),.slice aa nn cc,.map mm] hZ3 (Nat.le_refl _) (Below.refl _ _);have F4:Fb B w W4:=(by rw[← hW4];exact ((F1d.trans (Fb.of_below hB3)).setRow _ _ (by omega)));have cT4:W4.cell? ⟨TV,0,none⟩=some (.string ty):=(World.cell?_of_block (w:=w3) (hO4 TV (by omega))).trans cT3;have hq4:W4.heap[B]?=w3.heap[B]?/\W4.heap[B+1]?=w3.heap[B+1]?:=⟨hO4 _ (by omega),hO4 _ (by omega)⟩;rw[hW4];clear hW4 hO4) | (refine StoreV.row0 _ _ rfl rfl (w.heap.size+1) #[.int .i64 ((7:Nat):Int),.float .f64 xx,.string tt,.int .i64 (rr:Int),.slice aa nn cc,.map mm] rfl rfl _ hZd rfl rfl (one_six _ _ _ _ _ _ _ _) ?_;rw[hW2])))
    all_goals
     go_wp2_with fail
     go_meet
     case rel=>
      first
       | exact⟨congrArg Value.bool (unh hfin),hS4,hBd1.of_blocks (fun k hk=>by
         rcases hk with rfl|rfl
         ·exact hq4.1.trans (hB3.block _ (by show _<w1.heap.size;omega))
         ·exact hq4.2.trans (hB3.block _ (by show _<w1.heap.size;omega))),F4⟩
       | exact⟨congrArg Value.bool (unh hfin),hS3,hBd2.of_blocks (fun k hk=>hB3.block k (by omega)),F2.trans (Fb.of_below hB3)⟩
   case rest=>
    obtain⟨rfl,hS,hBu,hFF⟩:=hcut
    go_wp2_with fail
    exact bodyPost_ret (res_two rfl _ _ _ _ _ rfl rfl hS rfl) rfl (PostB.ok (unh HN) rfl hBu hFF)
  ·have hkb:((kk:Int)==7)=false:=by rw[beq_eq_false_iff_ne];omega
   have hfin:Hid (false=refTo os ty v):=by
    cases v <;> first | rfl | (exfalso;exact hk (hk7.2 ⟨_,rfl⟩))
   clear hk7 hrn
   go_upto_region 2 with fail
   go_cut [5] (fun rv wx=>rv=.bool (refTo os ty v)/\wx.heap[w.heap.size+1]?=some (.cells #[.int .i64 (kk:Int),.float .f64 xx,.string tt,.int .i64 (rr:Int),.slice aa nn cc,.map mm] 120 (0,0))/\Bud wx B (b-1)/\Fb B w wx)
   case first=>
    first
    | go_region_with (first
     | (with_reducible refine LoadV.here ?_;refine LoadV.row _ rfl w.heap.size 0 [.int .i64 (kk:Int),.float .f64 xx,.string tt,.int .i64 (rr:Int),.slice aa nn cc,.map mm] rfl hrA rfl ?_)
     | (with_reducible refine StoreV.here ?_;refine StoreV.row0 _ _ rfl rfl (w.heap.size+1) #[.int .i64 (kk:Int),.float .f64 xx,.string tt,.int .i64 (rr:Int),.slice aa nn cc,.map mm] rfl rfl _ hZd rfl rfl (one_six _ _ _ _ _ _ _ _) ?_;rw[hW2]))
    | fail
    all_goals
     go_wp2_with fail
     go_meet
     case rel=>exact⟨congrArg Value.bool (unh hfin),hS2,hBd2,F2⟩
   case rest=>
    obtain⟨rfl,hS,hBu,hFF⟩:=hcut
    go_wp2_with fail
    exact bodyPost_ret (res_two rfl _ _ _ _ _ rfl rfl hS rfl) rfl (PostB.ok (unh HN) rfl hBu hFF)
end
section
open Go.RowKit
attribute [local go_sem] Oper.semAt_some
variable {w w':World}{B D OL NV M base:Nat}{S S':Nat->Prop}
theorem heap_setCells_other (b k:Nat) (h:k≠b):∀ (vs:List Value) (o:Nat) (w:World),(w.setCells b o vs).heap[k]?=w.heap[k]?
 | [],_,_=>rfl
 | v::vs,o,w=>(heap_setCells_other b k h vs (o+1) (w.setCell ⟨b,o,none⟩ v)).trans (Below.heap_setCell _ _ _ _ (by exact h))
theorem size_setCells' (b:Nat):∀ (vs:List Value) (o:Nat) (w:World),(w.setCells b o vs).heap.size=w.heap.size
 | [],_,_=>rfl
 | v::vs,o,w=>(size_setCells' b vs (o+1) (w.setCell ⟨b,o,none⟩ v)).trans (by simp)
theorem rest_setCells (b:Nat):∀ (vs:List Value) (o:Nat) (w:World),(w.setCells b o vs).os=w.os/\(w.setCells b o vs).tape=w.tape/\(w.setCells b o vs).output=w.output
 | [],_,_=>⟨rfl,rfl,rfl⟩
 | v::vs,o,w=>rest_setCells b vs (o+1) (w.setCell ⟨b,o,none⟩ v)
theorem Tryz.eqNil (w:World):(binOp .eql 117 (.slice none 0 0) (.slice none 0 0)).run Tryz.prog w=.ok (.bool true) w:=by kernel_rfl
def isV (w:World) (g:Nat):Prop:=∃ cs,w.heap[g]?=some (.cells cs 120 (0,0))
def CloneQ (w:World) (n:Nat) (xs:List Value) (e:Ending) (w':World):Prop:=∃ g c,e=.returned (.slice (some ⟨g,0,none⟩) n c)/\w.heap.size<=g/\g<w'.heap.size/\w'.rangeAt g 0 xs/\(∀ j,j<xs.length->w'.frozen? ⟨g,j,none⟩=false)/\Below w.heap.size w w'/\isV w' g
set_option maxHeartbeats 1000000 in
set_option maxRecDepth 100000 in
theorem clone_nil (w:World):Calls Tryz.prog 142 #[.slice none 0 0] w fun e w'=>e=.returned (.slice none 0 0)/\w=w':=by
 have hq:=Tryz.eqNil w
 go_enter Tryz.func142,Tryz.ntmps142
 go_wp2_with fail
 go_ret
 exact⟨rfl,rfl⟩
def newF (DV NV OL:Nat):Value:=.func (.func 95) #[] #[.pointer (some ⟨DV,0,none⟩),.pointer (some ⟨NV,0,none⟩),.pointer (some ⟨OL,0,none⟩)]
theorem Nm.below {o:Value}{olds:List Nat}(h:Nm w OL NV M base o olds) (hB:Below w.heap.size w w'):Nm w' OL NV M base o olds:=by
 have hl:=h.lt;obtain⟨n,hn,hm⟩:=h.map;refine⟨(hB.block OL h.ol.lt).trans h.ol,(hB.block NV h.nv.lt).trans h.nv,ownsRow_blockI h.row (fun g hg=>hB.block g (World.ownsRow.lt h.row g hg).2),⟨n,hn,hm.of_block (hB.block M hm.lt)⟩,h.hl,⟨Nat.lt_of_lt_of_le hl.1 hB.size,Nat.lt_of_lt_of_le hl.2.1 hB.size,Nat.lt_of_lt_of_le hl.2.2.1 hB.size,Nat.le_trans hl.2.2.2 hB.size⟩,h.ne⟩
structure Nd (w:World) (B D DV OL NV M base:Nat) (o:Value) (olds:List Nat) (b:Nat):Prop where
 n:Nm w OL NV M base o olds
 bud:Bud w B b
 dv:At1 w DV (.pointer (some ⟨D,0,none⟩)) 75
 d:∃ q0 q1 q2 q3,w.heap[D]?=some (.cells #[q0,q1,q2,q3,chg B] 101 (0,0))
 ne:B≠OL/\B≠NV/\B≠M/\B<base/\B+1≠OL/\B+1≠M/\DV≠B/\D≠B/\B+1<base
 ne2:DV≠OL/\DV≠M/\D≠OL/\D≠M/\DV<base/\D<base
section
variable {DV:Nat}{o o':Value}{olds olds':List Nat}{b b':Nat}
theorem Nd.below (h:Nd w B D DV OL NV M base o olds b) (hB:Below w.heap.size w w'):Nd w' B D DV OL NV M base o olds b:=by
 obtain⟨q0,q1,q2,q3,hd⟩:=h.d;have hl:=h.bud.lt;exact⟨h.n.below hB,h.bud.of_blocks (fun k hk=>hB.block k (by omega)),(hB.block DV h.dv.lt).trans h.dv,⟨q0,q1,q2,q3,(hB.block D (Array.getElem?_eq_some_iff.1 hd).1).trans hd⟩,h.ne,h.ne2⟩
theorem Nd.step (h:Nd w B D DV OL NV M base o olds b) (hN:Nm w' OL NV M base o' olds') (hB:Bud w' B b') (F:Fk B OL M o w o' w'):Nd w' B D DV OL NV M base o' olds' b':=by
 obtain⟨q0,q1,q2,q3,hd⟩:=h.d;have h1:=h.ne;have h2:=h.ne2;have hown:=World.ownsRow.lt h.n.row;exact⟨hN,hB,(F.block DV h.dv.lt (by omega) (by omega) (by omega) (fun e=>by have:=(hown _ e).1;omega)).trans h.dv,⟨q0,q1,q2,q3,(F.block D (Array.getElem?_eq_some_iff.1 hd).1 (by omega) (by omega) (by omega) (fun e=>by have:=(hown _ e).1;omega)).trans hd⟩,h.ne,h.ne2⟩
theorem Nd.num (h:Nd w B D DV OL NV M base o olds b) (old:Nat) (hold:old<=100000) (hl:olds.length<=900) :
  Calls Tryz.prog 95 #[.int .i64 (old:Int),.pointer (some ⟨DV,0,none⟩),.pointer (some ⟨NV,0,none⟩),.pointer (some ⟨OL,0,none⟩)] w (PostK B OL NV M base o w (fun (m:Nat) v _=>v=.int .i64 (m:Int)) (numR olds old b)):=by
 obtain⟨q0,q1,q2,q3,hd⟩:=h.d;exact newNumber_any h.n h.bud h.dv hd h.ne hold hl
end
end
end Go.Proofs.YtgffljllfenhkaaGreatDoor
