import Derived.Lib.AppendStr
import Derived.Test.YtgffljllfenhkaaGreatDoorGwao
namespace Go.Proofs.YtgffljllfenhkaaGreatDoor
section
open Go.RowKit
attribute [local go_sem] Oper.semAt_some
attribute [local go_sem ↓] app_aside Go.wp_at_zero Go.wp_at_succ
variable {w w':World}{P B:Nat}
def DocQ (B:Nat) (w:World):Nat×List Nat×Nat×List Obj1->Value->World->Prop:=fun x v w'=>∃ D slp slo xs,v=.pointer (some ⟨D,0,none⟩)/\Doc w' D B w.heap.size x.1 x.2.1 x.2.2.1 slp slo x.2.2.2 xs
theorem Fb.fo {g:Nat}{w1:World}(h:Fb B w w1) (F:Fo B g w1 w') (hg:w.heap.size<=g):Fb B w w':=
 ⟨F.os.trans h.os,F.tape.trans h.tape,F.output.trans h.output,Nat.le_trans h.size F.size,fun k hk hb=>(F.block k (Nat.lt_of_lt_of_le hk h.size) hb (by omega)).trans (h.block k hk hb)⟩
theorem FT.fb {T:Nat}(h:FT T w) (F:Fb B w w') (hT:T≠B) (h22:22<B):FT T w':=h.kept (fun k hk=>F.block k (by have:=h.lt;omega) (by omega))
theorem ownsRow_shapeO {sl:Value}{base n:Nat}{xs:List Value}(h:w.ownsRow base 122 10 sl n xs):∃ a c,sl=.slice a n c:=by
 rcases h.2 with⟨rfl,rfl⟩|⟨g,cap,cur,rfl,_⟩
 ·exact⟨_,_,rfl⟩
 ·exact⟨_,_,rfl⟩
theorem ownsRow_blockO {sl:Value}{base n:Nat}{xs:List Value}(h:w.ownsRow base 122 10 sl n xs) (hb:∀ g,sl.ownBlock=some g->w'.heap[g]?=w.heap[g]?):w'.ownsRow base 122 10 sl n xs:=by
 refine⟨h.1,?_⟩
 rcases h.2 with hn|⟨g,cap,cur,rfl,h1,h2,rest⟩
 ·exact .inl hn
 ·exact .inr ⟨g,cap,cur,rfl,h1,(hb g rfl).trans h2,rest⟩
set_option maxHeartbeats 8000000 in
set_option maxRecDepth 100000 in
theorem readDocument_any {G:World->Prop}{U:ByteArray->Nat->Nat->Res ByteArray}{T b:Nat}{f:ByteArray}(hG:∀ g w' w'',w.heap.size<=g->G w'->Fo B g w' w''->G w'') (UC:UnpC G B U) (hw:G w) (hFT:FT T w) (hTB:T≠B) (h22:22<B) (hB:Bud w B b) (hf:f.size<9223372036854775808) :
  Calls Tryz.prog 40 #[.string f,chg B] w (PostB B w (DocQ B w) (docR U f b)):=by
 unfold chg;have hlt:=hB.lt
 go_enter Tryz.func40,Tryz.ntmps40
 by_cases h9:9000<f.size
 ·have HN:Hid (docR U f b=.no (2,0)):=by show docR U f b=_;unfold docR;rw[if_pos h9]
  have i9:(9000:Int)<(f.size:Int):=by omega
  go_wp2_with fail
  refine (refuse_any _ _ _).mono ?_;rintro e w1 ⟨rfl,rfl⟩;exact⟨rfl,PostB.no (unh HN) (Fb.refl _ _)⟩
 ·have i9:¬ (9000:Int)<(f.size:Int):=by omega
  have HP:Calls Tryz.prog 65 #[.string f,.string ⟨#[68,79,67,49,10]⟩] w fun e w'=>e=.returned (.bool (Lib.hasPrefix f.data.toList headB.data.toList))/\w=w':=(Tryz.strings_HasPrefix f ⟨#[68,79,67,49,10]⟩ w).mono (fun e w' h=>⟨h.1,h.2.symm⟩)
  rcases hpf:Lib.hasPrefix f.data.toList headB.data.toList with _|_
  ·have HN:Hid (docR U f b=.no (3,0)):=by show docR U f b=_;unfold docR;rw[if_neg h9,if_pos hpf]
   rw[hpf] at HP
   go_wp2_with (go_at_call 65;refine HP.mono ?_;rintro e w1 ⟨rfl,rfl⟩)
   refine (refuse_any _ _ _).mono ?_;rintro e w1 ⟨rfl,rfl⟩;exact⟨rfl,PostB.no (unh HN) (Fb.refl _ _)⟩
  ·rw[hpf] at HP;have RT:=readTable_any (f:=f) hB (by omega);unfold chg at RT
   rcases qt:tabR f b with⟨⟨at_,l,root⟩,b1⟩|y
   ·obtain⟨hat,hl1,hl30,hp9,hr1,hr2⟩:=tabR_inv qt
    have HE1:Hid (docR U f b=match objsR f at_ l 1 b1 with
     | .no y=>.no y
     | .ok l2 b2=>match overR ({}::l2) b2 with
      | .no y=>.no y
      | .ok _ b3=>match unpL U ({}::l2) 0 b3 with
       | .no y=>.no y
       | .ok os b4=>if tnameAt os root==rootB then .ok (at_,l,root,os) b4 else .no (10,0)):=by
     show docR U f b=_;unfold docR;rw[if_neg h9,if_neg (by rw[hpf];simp),qt];rfl
    go_wp2_with (first | (go_at_call 65;refine HP.mono ?_;rintro e w1 ⟨rfl,rfl⟩) | (go_at_call 66;refine (PostB.okC RT qt).mono ?_;rintro e w1 ⟨v1,rfl,⟨slp,rfl,hrow1⟩,hB1,F1⟩;obtain⟨ap,cpp,rfl⟩:=ownsRow_shapeI hrow1))
    have hz1:=F1.size;have hap:∀ g,(Value.slice ap l.length cpp).ownBlock=some g->w.heap.size<=g/\g<w1.heap.size:=World.ownsRow.lt hrow1;have hs2:((w1.alloc (.cells #[.int .i64 0,.float .f64 0,.string ⟨#[]⟩,.int .i64 0,.slice none 0 0,.map none,.int .i64 0,.int .i64 0,.bool false,.string ⟨#[]⟩] 122)).alloc (.cells #[.int .i64 (at_:Int),.slice ap l.length cpp,.int .i64 (root:Int),.slice (some ⟨w1.heap.size,0,none⟩) 1 1,.func (.func 60) #[] #[.pointer (some ⟨B,0,none⟩),.pointer (some ⟨B+1,0,none⟩)]] 101)).heap.size=w1.heap.size+2:=by simp
    have hBl2:Below w1.heap.size w1 ((w1.alloc (.cells #[.int .i64 0,.float .f64 0,.string ⟨#[]⟩,.int .i64 0,.slice none 0 0,.map none,.int .i64 0,.int .i64 0,.bool false,.string ⟨#[]⟩] 122)).alloc (.cells #[.int .i64 (at_:Int),.slice ap l.length cpp,.int .i64 (root:Int),.slice (some ⟨w1.heap.size,0,none⟩) 1 1,.func (.func 60) #[] #[.pointer (some ⟨B,0,none⟩),.pointer (some ⟨B+1,0,none⟩)]] 101)):=((Below.refl _ _).alloc (Nat.le_refl _) _).alloc (by simp) _
    have hD2:Doc ((w1.alloc (.cells #[.int .i64 0,.float .f64 0,.string ⟨#[]⟩,.int .i64 0,.slice none 0 0,.map none,.int .i64 0,.int .i64 0,.bool false,.string ⟨#[]⟩] 122)).alloc (.cells #[.int .i64 (at_:Int),.slice ap l.length cpp,.int .i64 (root:Int),.slice (some ⟨w1.heap.size,0,none⟩) 1 1,.func (.func 60) #[] #[.pointer (some ⟨B,0,none⟩),.pointer (some ⟨B+1,0,none⟩)]] 101)) (w1.heap.size+1) B w.heap.size at_ l root (.slice ap l.length cpp) (.slice (some ⟨w1.heap.size,0,none⟩) 1 1) [{}] [.int .i64 0,.float .f64 0,.string ⟨#[]⟩,.int .i64 0,.slice none 0 0,.map none,.int .i64 0,.int .i64 0,.bool false,.string ⟨#[]⟩]:=by
     refine⟨heap_alloc2_new w1 _ _,?_,?_,?_,by omega,?_,?_,?_⟩
     ·exact ownsRow_blockI hrow1 (fun g hg=>hBl2.block g (hap g hg).2)
     ·exact⟨rfl,.inr ⟨w1.heap.size,1,#[.int .i64 0,.float .f64 0,.string ⟨#[]⟩,.int .i64 0,.slice none 0 0,.map none,.int .i64 0,.int .i64 0,.bool false,.string ⟨#[]⟩],rfl,hz1,(Below.heap_alloc _ _ _ (by simp)).trans (heap_alloc_new w1 _),Nat.le_refl _,by unfold maxLen;decide,rfl,rfl⟩⟩
     ·exact⟨vC 0 0 ⟨#[]⟩ 0 (.slice none 0 0) (.map none),[],rfl,by unfold Rep;rfl,rfl⟩
     ·intro e;simp[Value.ownBlock] at e
     ·intro e;have:=(hap _ e).2;omega
     ·intro g hg e;have:=(hap g e).2;simp[Value.ownBlock] at hg;omega
    have hB2:Bud ((w1.alloc (.cells #[.int .i64 0,.float .f64 0,.string ⟨#[]⟩,.int .i64 0,.slice none 0 0,.map none,.int .i64 0,.int .i64 0,.bool false,.string ⟨#[]⟩] 122)).alloc (.cells #[.int .i64 (at_:Int),.slice ap l.length cpp,.int .i64 (root:Int),.slice (some ⟨w1.heap.size,0,none⟩) 1 1,.func (.func 60) #[] #[.pointer (some ⟨B,0,none⟩),.pointer (some ⟨B+1,0,none⟩)]] 101)) B b1:=(hB1.alloc _).alloc _;have F2:Fb B w ((w1.alloc (.cells #[.int .i64 0,.float .f64 0,.string ⟨#[]⟩,.int .i64 0,.slice none 0 0,.map none,.int .i64 0,.int .i64 0,.bool false,.string ⟨#[]⟩] 122)).alloc (.cells #[.int .i64 (at_:Int),.slice ap l.length cpp,.int .i64 (root:Int),.slice (some ⟨w1.heap.size,0,none⟩) 1 1,.func (.func 60) #[] #[.pointer (some ⟨B,0,none⟩),.pointer (some ⟨B+1,0,none⟩)]] 101)):=(F1.alloc _).alloc _;obtain⟨W2,hW2⟩:∃ W2,(w1.alloc (.cells #[.int .i64 0,.float .f64 0,.string ⟨#[]⟩,.int .i64 0,.slice none 0 0,.map none,.int .i64 0,.int .i64 0,.bool false,.string ⟨#[]⟩] 122)).alloc (.cells #[.int .i64 (at_:Int),.slice ap l.length cpp,.int .i64 (root:Int),.slice (some ⟨w1.heap.size,0,none⟩) 1 1,.func (.func 60) #[] #[.pointer (some ⟨B,0,none⟩),.pointer (some ⟨B+1,0,none⟩)]] 101)=W2:=⟨_,rfl⟩;obtain⟨D,hD⟩:∃ D,w1.heap.size+1=D:=⟨_,rfl⟩;rw[hW2] at hs2 hBl2 hD2 hB2 F2 ⊢;rw[hD] at hD2 ⊢;have hDl:=hD2.lo;clear hW2 hrow1 hB1 RT HP hBl2
    go_loopw [29] (fun v wr=>∃ (i b':Nat) (acc:List Obj1) (xs:List Value) (slo:Value),v=.int .i64 ((i:Nat):Int)/\i<=l.length/\acc.length=i/\(∀ o ∈ acc,o.stream.size<=9000)/\Doc wr D B w.heap.size at_ l root (.slice ap l.length cpp) slo ({}::acc) xs/\Bud wr B b'/\Fb B w wr/\Hid (objsR f at_ l 1 b1=pre acc (objsR f at_ (l.drop i) (i+1) b')))
     (fun v _=>l.length-(intOf v).toNat)
    case atStart=>exact⟨0,b1,[],_,_,rfl,Nat.zero_le _,rfl,(fun o h=>by cases h),hD2,hB2,F2,by
     show objsR f at_ l 1 b1=pre [] (objsR f at_ l 1 b1)
     rcases objsR f at_ l 1 b1 with⟨l',b''⟩|y <;> rfl⟩
    case round=>
     clear hD2 hB2 F2 hs2;obtain⟨i,b',acc,xs,slo,rfl,hi,hacc,hstr,hdr,hBr,hF,HE⟩:=hrel;have HA:=hid hacc;clear hacc;have hxo:slo.ownBlock=slo.ownBlock:=rfl;obtain⟨ao,cpo,rfl⟩:=ownsRow_shapeO hdr.o
     by_cases hil:i<l.length
     ·have hilI:(i:Int)<(l.length:Int):=by omega
      obtain⟨p,hp⟩:∃ p,l[i]?=some p:=⟨l[i],List.getElem?_eq_getElem hil⟩;have hp99:=hp9 p (List.mem_of_getElem? hp)
      have hcons:l.drop i=p::l.drop (i+1):=by
       rw[List.drop_eq_getElem_cons hil];congr 1;exact Option.some.inj ((List.getElem?_eq_getElem hil).symm.trans hp)
      have HC:=hid hcons;clear hcons;have c0:=hdr.c0;have c1:=hdr.c1;have c2:=hdr.c2;have c3:=hdr.c3;have hlenx:(({}:Obj1)::acc).length=i+1:=by rw[List.length_cons,unh HA]
      rw[hlenx] at c3;have hFTr:FT T wr.drew:=(hFT.fb hF hTB h22).drew;have RO:=readObject_any (w:=wr.drew) (f:=f) (root:=root) (num:=i+1) (place:=p) hFTr hTB h22 hBr.drew (by omega) hat (by exact hdr.p) hl30 (by omega) (by simpa using hp) hp99;unfold chg at RO;have eI:((i+1:Nat):Int)=(i:Int)+1:=by omega
      rw[eI] at RO;have hwI:IntKind.i64.wrap ((i:Int)+1)=(i:Int)+1:=wraps_i64 _ (by omega) (by omega);clear eI;obtain⟨i0,hi0,hz0,hz1',hz2⟩:=info_parts Tryz.infoO;have hdrl:=hdr.ltD
      rcases qo:objR f at_ p (i+1) b' with⟨o,b''⟩|y
      ·have hso:=objR_inv qo;have HE2:Hid (objsR f at_ l 1 b1=pre (acc++[o]) (objsR f at_ (l.drop (i+1)) (i+1+1) b'')):=(unh HE).trans (by rw[unh HC,pre_objs qo]);clear HE
       go_wp2_with fail
       go_region_with (first | (go_at_call 67;refine (PostB.okC RO qo).mono ?_;rintro e w5 ⟨v5,rfl,⟨cs,rfl,hRep⟩,hB5,F5'⟩;obtain⟨kk,xx,tt,rr,aa,nn,cc,mm,rfl⟩:=hRep.shape;have F5:Fb B wr w5:=(Fb.refl B wr).drew.trans F5';have hd5:=hdr.kept F5 (by omega);have hrow5:=hd5.o;rw[hlenx] at hrow5;have t5:=hd5.c3;rw[hlenx] at t5;have hz5:=F5.size;have t5a:=(hd5.kept ((Fb.refl B w5).alloc (.cells #[.int .i64 (kk:Int),.float .f64 xx,.string tt,.int .i64 (rr:Int),.slice aa nn cc,.map mm,.int .i64 (o.place:Int),.int .i64 (o.fin:Int),.bool o.has,.string o.stream] 122)) (by omega)).c3;rw[hlenx] at t5a;unfold vC) | (refine AppWp.own _ _ 99 rfl w.heap.size 122 i0 (.agg #[.int .i64 0,.float .f64 0,.string ⟨#[]⟩,.int .i64 0,.slice none 0 0,.map none,.int .i64 0,.int .i64 0,.bool false,.string ⟨#[]⟩]) 10 112 Tryz.undO hi0 hz0 hz1' hz2 rfl (by decide) _ _ _ rfl (World.ownsRow.alloc hrow5 _) ⟨w5.heap.size,0,none⟩ 1 1 [.int .i64 (kk:Int),.float .f64 xx,.string tt,.int .i64 (rr:Int),.slice aa nn cc,.map mm,.int .i64 (o.place:Int),.int .i64 (o.fin:Int),.bool o.has,.string o.stream] rfl rfl (cell_new _ _ _) (by simp[Value.oneCell']) (by unfold maxLen;omega) (by omega) (by simp;omega) ?_;intro v6 w6 hown6 hg6 hat6;obtain⟨a6,c6,rfl⟩:=ownsRow_shapeO hown6;have hgg:=gTrans (World.grownBy_alloc w5 (.cells #[.int .i64 (kk:Int),.float .f64 xx,.string tt,.int .i64 (rr:Int),.slice aa nn cc,.map mm,.int .i64 (o.place:Int),.int .i64 (o.fin:Int),.bool o.has,.string o.stream] 122) (Value.slice ao (i+1) cpo).ownBlock) hg6;have hown:=World.ownsRow.lt hrow5;have hneD:some D≠(Value.slice ao (i+1) cpo).ownBlock:=(fun e=>hd5.ne.1 (by rw[hlenx];exact e.symm));have hd6:w6.heap[D]?=w5.heap[D]?:=hgg.block D (by have:=hd5.ltD;omega) hneD;have t6:w6.cell? ⟨D,3,none⟩=some (.slice ao (i+1) cpo):=(World.cell?_of_block (w:=w5) hd6).trans t5;have f6:w6.frozen? ⟨D,3,none⟩=false:=(World.frozen?_of_block (w:=w5) hd6).trans (hd5.fr 3)))
       all_goals
        have hz6:=hgg.size;have hDlt:=hd5.ltD;have hsp5:=World.ownsRow.lt hd5.p
        have hv6:∀ k,(Value.slice a6 (i+1+1) c6).ownBlock=some k->(Value.slice ao (i+1) cpo).ownBlock=some k\/w5.heap.size<k:=fun k hk=>by
         rcases hat6 with e|e
         ·exact .inl (e ▸ hk)
         ·rw[hk] at e;simp at e;exact .inr (by omega)
        have hn1:(Value.slice a6 (i+1+1) c6).ownBlock≠some D:=fun e=>by
         rcases hv6 D e with h|h
         ·exact hneD h.symm
         ·omega
        have hn3:∀ k,(Value.slice ap l.length cpp).ownBlock=some k->(Value.slice ao (i+1) cpo).ownBlock≠some k:=fun k hk e=>hd5.ne.2.2 k (by rw[hlenx];exact e) hk
        have hDN:Doc (w6.setCell ⟨D,3,none⟩ (.slice a6 (i+1+1) c6)) D B w.heap.size at_ l root (.slice ap l.length cpp) (.slice a6 (i+1+1) c6) ({}::(acc++[o])) (xs++[.int .i64 (kk:Int),.float .f64 xx,.string tt,.int .i64 (rr:Int),.slice aa nn cc,.map mm,.int .i64 (o.place:Int),.int .i64 (o.fin:Int),.bool o.has,.string o.stream]):=by
         refine⟨?_,?_,?_,?_,hd5.lo,hn1,hd5.ne.2.1,?_⟩
         ·rw[heap_setCell_same w6 D 3 _ _ _ (hd6.trans hd5.d)];simp
         ·exact ownsRow_blockI hd5.p (fun k hk=>(Below.heap_setCell _ _ _ _ (by intro e;exact hd5.ne.2.1 (by rw[hk];congr 1))).trans (hgg.block k (hsp5 k hk).2 (fun e=>hn3 k hk e.symm)))
         ·have e:(({}:Obj1)::(acc++[o])).length=i+1+1:=by simp[unh HA]
          rw[e];exact ownsRow_blockO hown6 (fun k hk=>Below.heap_setCell _ _ _ _ (by intro e;exact hn1 (by rw[hk];congr 1)))
         ·refine RepOs.append (l:={}::acc) (cs:=vC kk xx tt rr (.slice aa nn cc) (.map mm)) (o:=o) (Rep.kept (fun k hk=>?_) o.v hRep) (RepOs.kept (fun k hk=>?_) _ hd5.r)
          ·have k1:wr.heap.size<=k:=hk.1;have k2:=hk.2;have hwz:=hF.size;have kn:some k≠(Value.slice ao (i+1) cpo).ownBlock:=fun e=>by have:=(World.ownsRow.lt hdr.o k (by rw[hlenx];exact e.symm)).2;omega
           refine⟨⟨by omega,by simp;omega,by omega,fun e=>?_,fun e=>by have:=(World.ownsRow.lt hdr.p k e).2;omega⟩,(Below.heap_setCell _ _ _ _ (by show k≠D;omega)).trans (hgg.block k k2 kn)⟩
           rcases hv6 k e with h|h
           ·exact kn h.symm
           ·omega
          ·obtain⟨q1,q2,q3,q4,q5⟩:=hk;have kn:some k≠(Value.slice ao (i+1) cpo).ownBlock:=fun e=>q4 (by rw[hlenx];exact e.symm)
           refine⟨⟨q1,by simp;omega,q3,fun e=>?_,q5⟩,(Below.heap_setCell _ _ _ _ (by exact q3)).trans (hgg.block k q2 kn)⟩
           rcases hv6 k e with h|h
           ·exact kn h.symm
           ·omega
         ·intro k hk e
          rcases hv6 k hk with h|h
          ·exact hn3 k e h
          ·have:=(hsp5 k e).2;omega
        have hneB:∀ k,k<w.heap.size->some k≠(Value.slice ao (i+1) cpo).ownBlock:=fun k hk e=>by have:=(hown k e.symm).1;omega
        have hF5:=hF.trans F5;have hwz:=hF.size;have hF6:Fb B w w6:=⟨hgg.os.trans hF5.os,hgg.tape.trans hF5.tape,hgg.output.trans hF5.output,by omega,fun k hk hb=>(hgg.block k (by omega) (hneB k hk)).trans (hF5.block k hk hb)⟩;have hB6:Bud w6 B b'':=hB5.of_blocks (fun k hk=>hgg.block k (by have:=hB5.lt;omega) (hneB k (by omega)))
        go_wp2_with fail
        go_roundw
        case rel=>
         refine⟨i+1,b'',acc++[o],_,_,by go_num,by omega,by simp[unh HA],?_,hDN,hB6.of_blocks (fun k hk=>Below.heap_setCell _ _ _ _ (by show k≠D;omega)),hF6.setNew _ _ _ (by omega),HE2⟩;intro q hq
         rcases List.mem_append.1 hq with h|h
         ·exact hstr q h
         ·have:q=o:=by simpa using h
          rw[this];omega
        case measure=>simp[intOf];omega
      ·have HN:Hid (docR U f b=.no y):=(unh HE1).trans (by rw[unh HE,unh HC,objsR_cons_no qo];rfl);clear HE
       go_wp2_with fail
       go_region_dies
       all_goals
        refine (PostB.noC RO qo).mono ?_;rintro e w5 ⟨rfl,F5⟩;exact⟨rfl,PostB.no (unh HN) (hF.drew.trans F5)⟩
     ·have hilI:¬ (i:Int)<(l.length:Int):=by omega
      have hlenx:(({}:Obj1)::acc).length=i+1:=by rw[List.length_cons,unh HA]
      have HE3:Hid (docR U f b=match overR ({}::acc) b' with
        | .no y=>.no y
        | .ok _ b3=>match unpL U ({}::acc) 0 b3 with
         | .no y=>.no y
         | .ok os b4=>if tnameAt os root==rootB then .ok (at_,l,root,os) b4 else .no (10,0)):=(unh HE1).trans (by
       have e:objsR f at_ l 1 b1=.ok acc b':=by
        rw[unh HE,List.drop_eq_nil_of_le (by omega)];simp[objsR,pre]
       rw[e])
      have hstr0:∀ o ∈ (({}:Obj1)::acc),o.stream.size<=9000:=fun o ho=>by
       rcases List.mem_cons.1 ho with h|h
       ·rw[h];exact Nat.zero_le _
       ·exact hstr o h
      have HL:=hid hlenx;clear HE hlenx hstr;obtain⟨os,hos⟩:∃ os,(({}:Obj1)::acc)=os:=⟨_,rfl⟩;rw[hos] at hdr HE3 hstr0 HL;clear hos;have hlen:os.length<=100:=by have:=unh HL;omega
      obtain⟨g,cpg,hgo⟩:∃ g c,ao=some ⟨g,0,none⟩/\cpo=c:=by
       rcases hdr.o.2 with⟨_,e2⟩|⟨g,cap,cur,e,_⟩
       ·have:=unh HL;omega
       ·simp at e;exact⟨g,cap,e.1,e.2⟩
      obtain⟨rfl,rfl⟩:=hgo;have hgw:w.heap.size<=g:=(World.ownsRow.lt hdr.o g rfl).1;have OV:=overlaps_any hdr hBr (by omega) hlen
      rcases qv:overR os b' with⟨u7,b7⟩|y
      ·go_wp2_with fail
       refine (PostB.okC OV qv).mono ?_;rintro e w7 ⟨v7,rfl,rfl,hB7,F7⟩;have hd7:=hdr.kept F7 (by omega);have hG7:G w7:=hG g w w7 hgw hw (Fo.of_fb (hF.trans F7));have UT:=unpackTexts_any (fun a b'=>hG g a b' hgw) UC hG7 hd7 hB7 (by omega) hlen hstr0
       rcases qu:unpL U os 0 b7 with⟨os8,b8⟩|y
       ·have UT':Calls Tryz.prog 69 #[.pointer (some ⟨D,0,none⟩)] w7 (fun e w'=>∃ v,e=.returned v/\DQ2 D B w.heap.size at_ l root (.slice ap l.length cpp) (.slice (some ⟨g,0,none⟩) os.length cpo) os8 v w'/\Bud w' B b8/\Fo B g w7 w'):=by rw[qu] at UT;exact UT
        go_wp2_with fail
        refine UT'.mono ?_;rintro e w8 ⟨v8,rfl,⟨rfl,xs8,hd8⟩,hB8,F8⟩;have F78:=(hF.trans F7).fo F8 hgw;have c28:=hd8.c2;have TO:=typeOf_any hd8 root;have hse:=str_eq (tnameAt os8 root) rootB;have hl4:rootB.toList=[82,111,111,116]:=by rw[ba_toList];rfl
        rw[hl4] at hse
        rcases htr:(tnameAt os8 root==rootB) with _|_
        ·have HN:Hid (docR U f b=.no (10,0)):=(unh HE3).trans (by rw[qv];simp only[];rw[qu];simp only[];rw[htr];rfl);rw[htr] at hse;have hne4:¬ (tnameAt os8 root).toList=[82,111,111,116]:=beq_eq_false_iff_ne.1 hse;have hne5:((tnameAt os8 root).toList != [82,111,111,116])=true:=by rw[bne,hse];rfl
         clear htr hl4
         go_wp2_with (go_at_call 70;refine TO.mono ?_;rintro e w9 ⟨rfl,hB9⟩)
         refine (refuse_any _ _ _).mono ?_;rintro e w10 ⟨rfl,rfl⟩;exact⟨rfl,PostB.no (unh HN) (F78.trans (Fb.of_below hB9))⟩
        ·have HN:Hid (docR U f b=.ok (at_,l,root,os8) b8):=(unh HE3).trans (by rw[qv];simp only[];rw[qu];simp only[];rw[htr];rfl);rw[htr] at hse;have heq4:(tnameAt os8 root).toList=[82,111,111,116]:=eq_of_beq hse;have heq5:((tnameAt os8 root).toList != [82,111,111,116])=false:=by rw[bne,hse];rfl
         clear htr hl4
         go_wp2_with (go_at_call 70;refine TO.mono ?_;rintro e w9 ⟨rfl,hB9⟩)
         go_ret
         have F9:Fb B w8 w9:=Fb.of_below hB9;exact PostB.ok (unh HN) ⟨D,_,_,xs8,rfl,hd8.kept F9 (by omega)⟩ (hB8.of_blocks (fun k hk=>hB9.block k (by have:=hB8.lt;omega))) (F78.trans F9)
       ·have HN:Hid (docR U f b=.no y):=(unh HE3).trans (by rw[qv];simp only[];rw[qu]);have UT':Calls Tryz.prog 69 #[.pointer (some ⟨D,0,none⟩)] w7 (fun e w'=>e=.panicked (thrownY y)/\Fo B g w7 w'):=by rw[qu] at UT;exact UT
        go_wp2_with fail
        refine UT'.mono ?_;rintro e w8 ⟨rfl,F8⟩;exact⟨rfl,PostB.no (unh HN) ((hF.trans F7).fo F8 hgw)⟩
      ·have HN:Hid (docR U f b=.no y):=(unh HE3).trans (by rw[qv])
       go_wp2_with fail
       refine (PostB.noC OV qv).mono ?_;rintro e w7 ⟨rfl,F7⟩;exact⟨rfl,PostB.no (unh HN) (hF.trans F7)⟩
   ·have HN:Hid (docR U f b=.no y):=by show docR U f b=_;unfold docR;rw[if_neg h9,if_neg (by rw[hpf];simp),qt]
    go_wp2_with (go_at_call 65;refine HP.mono ?_;rintro e w1 ⟨rfl,rfl⟩)
    refine (PostB.noC RT qt).mono ?_;rintro e w1 ⟨rfl,F1⟩;exact⟨rfl,PostB.no (unh HN) F1⟩
end
section
open Go.RowKit Go.Lib
attribute [local go_sem] Oper.semAt_some
variable {w w':World}{B:Nat}
theorem append_str_at {P:Program}(w:World) (base:Nat) (t u ty e:TypeId) (i:TypeInfo) (ht:P.underlying t=some (.slice e)) (hu:P.underlying u=some .string) (hi:P.info? e=some i) (hz:i.zero=some (.int .u8 0))
  (hsize:i.size=1) (hby:i.bytes=1) (v:Value) (n:Nat) (xs:List Value) (hown:w.ownsRow base e 1 v n xs) (s:ByteArray) (h63:n+s.size<=100000) (hbase:base<=w.heap.size) :
  ∃ v' w',(Builtin.append_ #[t,u] ty #[v,.string s]).run P w=.ok v' w'/\w'.ownsRow base e 1 v' (n+s.size) (xs++strCells s)/\w.grownBy w' v.ownBlock/\(v'.ownBlock=v.ownBlock\/v'.ownBlock=some w.heap.size):=by
 obtain⟨v',w',hr,h1,h2,_⟩:=run_append_own_string (P:=P) w base t u ty e i ht hu hi hz hsize hby v n xs hown s (by unfold maxLen;omega) (by omega) hbase;refine⟨v',w',hr,h1,h2,?_⟩;have hxl:xs.length=n:=by simpa using hown.1
 rcases hown.2 with⟨rfl,rfl⟩|⟨g,cap,cur,rfl,hbg,hg,hnc,hcm,hcs,htake⟩
 ·by_cases hm:s.size=0
  ·left
   rcases h1.2 with⟨rfl,_⟩|⟨g',cap',cur',rfl,_⟩
   ·rfl
   ·exfalso;have hf:=run_firstCells_string (P:=P) w 1 s;rw[hm] at hf
    have:(Builtin.append_ #[t,u] ty #[.slice none 0 0,.string s]).run P w=.ok (.slice none 0 0) w:=by
     simp[Builtin.append_,run_underlying ht,run_underlying hu,sizeOf,typeInfo,hi,hsize,Builtin.lenOf,hm,hf]
    rw[this] at hr;cases hr
  ·right
   have h3:=run_append_nil_string (P:=P) w t u ty e i (.int .u8 0) ht hu hi hz s (by omega) (by omega) (by rw[hby];omega);rw[h3] at hr;cases hr;rfl
 ·by_cases hroom:n+s.size<=cap
  ·left
   have hcs':cur.size=cap:=by simpa using hcs
   have h3:=run_append_room_string (P:=P) w t u ty e i ht hu hi hsize g n cap cur hg s hroom (by omega);rw[h3] at hr;cases hr;rfl
  ·right
   have holds:∀ j u,xs[j]?=some u->w.cell? ((⟨g,0,none⟩:Addr).add j)=some u:=hown.cells (g:=g) rfl;have h3:=run_append_grow_string (P:=P) w t u ty e i (.int .u8 0) ht hu hi hz ⟨g,0,none⟩ n cap xs (by rw[hsize];simpa using hxl) holds s (by omega) (by omega) (by rw[hby];exact growslice_fits (by omega) (by omega));rw[h3] at hr;cases hr;rfl
theorem wpList_append_str {P:Program}{w:World}{ops:Array Oper}{rest:List Oper}{o:Oper}{a:Act}{Q:Exit->Act->World->Prop}(hgd:o.guard=none) (sl x:Operand) (t u:TypeId)
  (ho:o.op=.call { callee:=.builtin .append,args:=#[sl,x],argTypes:=#[t,u] })
  (base:Nat) (e:TypeId) (i:TypeInfo) (ht:P.underlying t=some (.slice e)) (hu:P.underlying u=some .string) (hi:P.info? e=some i) (hz:i.zero=some (.int .u8 0))
  (hsize:i.size=1) (hby:i.bytes=1)
  (v:Value) (n:Nat) (xs:List Value) (hs:a.eval sl=v) (hown:w.ownsRow base e 1 v n xs) (s:ByteArray) (hx:a.eval x=.string s)
  (h63:n+s.size<=100000) (hbase:base<=w.heap.size)
  (h:∀ v' w',w'.ownsRow base e 1 v' (n+s.size) (xs++strCells s)->w.grownBy w' v.ownBlock->(v'.ownBlock=v.ownBlock\/v'.ownBlock=some w.heap.size)->wpList P ops Q rest (a.put o.dst v') w'):wpList P ops Q (o::rest) a w:=by
 refine wpList_plain hgd fun K hK=>?_
 obtain⟨v',w',hr,h2,h3,h4⟩:=append_str_at (P:=P) w base t u o.type e i ht hu hi hz hsize hby v n xs hown s h63 hbase;unfold Oper.wp execOp;simp only[ho,resolve,invoke,builtin,Sem.run_bind,Sem.run_pure,Result.andThen_ok,List.map_toArray,List.map_cons,List.map_nil,hs,hx,hr];exact hK _ _ (h v' w' h2 h3 h4)
end
section
open Go.RowKit Go.Lib
attribute [local go_sem] Oper.semAt_some
variable {w w':World}{Q M B base:Nat}
def putR:List ByteArray->List UInt8->Nat->Res (List UInt8)
 | [],out,b=>.ok out b
 | t::ts,out,b=>if b<t.size then .no (12,0) else if 9000-out.length<t.size then .no (11,0) else putR ts (out++t.data.toList) (b-t.size)
structure Wr (w:World) (Q M B base:Nat) (o:Value) (out:List UInt8) (b:Nat):Prop where
 q:w.heap[Q]?=some (.cells #[o,.func (.func 60) #[] #[.pointer (some ⟨M,0,none⟩),.pointer (some ⟨M+1,0,none⟩)],chg B] 104 (0,0))
 m:w.heap[M]?=some (.cells #[.int .i64 ((9000-out.length:Nat):Int)] 3 (0,0))
 y:w.heap[M+1]?=some (.cells #[.int .i64 11,.int .i64 0] 45 (0,0))
 bud:Bud w B b
 row:w.ownsRow base 5 1 o out.length (out.map byteV)
 hl:out.length<=9000
 lt:Q<base/\M+1<base/\B+1<base/\base<=w.heap.size
 ne:Q≠M/\Q≠M+1/\Q≠B/\Q≠B+1/\M≠B/\M≠B+1/\M+1≠B
structure Fw (Q M B:Nat) (o:Value) (w:World) (o':Value) (w':World):Prop where
 os:w'.os=w.os
 tape:w'.tape=w.tape
 output:w'.output=w.output
 size:w.heap.size<=w'.heap.size
 block:∀ k,k<w.heap.size->k≠Q->k≠M->k≠B->o.ownBlock≠some k->w'.heap[k]?=w.heap[k]?
 own:o'.ownBlock=o.ownBlock\/∃ g,o'.ownBlock=some g/\w.heap.size<=g
theorem Fw.refl (Q M B:Nat) (o:Value) (w:World):Fw Q M B o w o w:=⟨rfl,rfl,rfl,Nat.le_refl _,fun _ _ _ _ _ _=>rfl,.inl rfl⟩
theorem Fw.trans {o o' o'':Value}{w w' w'':World}(h:Fw Q M B o w o' w') (k:Fw Q M B o' w' o'' w''):Fw Q M B o w o'' w'':=by
 refine⟨k.os.trans h.os,k.tape.trans h.tape,k.output.trans h.output,Nat.le_trans h.size k.size,?_,?_⟩
 ·intro b hb h1 h2 h3 h4;rw[k.block b (Nat.lt_of_lt_of_le hb h.size) h1 h2 h3 ?_,h.block b hb h1 h2 h3 h4]
  rcases h.own with e|⟨g,e,hg⟩
  ·rw[e];exact h4
  ·rw[e];intro e';simp at e';omega
 ·rcases k.own with e|⟨g,e,hg⟩
  ·rcases h.own with e' | ⟨g,e',hg⟩
   ·exact .inl (e.trans e')
   ·exact .inr ⟨g,e.trans e',hg⟩
  ·exact .inr ⟨g,e,Nat.le_trans h.size hg⟩
theorem Fw.below (o:Value) (h:Below w.heap.size w w'):Fw Q M B o w o w':=⟨h.os,h.tape,h.output,h.size,fun k hk _ _ _ _=>h.block k hk,.inl rfl⟩
section
variable {o:Value}{out:List UInt8}{b:Nat}
theorem Wr.c0 (h:Wr w Q M B base o out b):w.cell? ⟨Q,0,none⟩=some o:=by simp[World.cell?,h.q]
theorem Wr.c1 (h:Wr w Q M B base o out b):w.cell? ⟨Q,1,none⟩=some (.func (.func 60) #[] #[.pointer (some ⟨M,0,none⟩),.pointer (some ⟨M+1,0,none⟩)]):=by simp[World.cell?,h.q]
theorem Wr.c2 (h:Wr w Q M B base o out b):w.cell? ⟨Q,2,none⟩=some (chg B):=by simp[World.cell?,h.q]
theorem Wr.cm (h:Wr w Q M B base o out b):w.cell? ⟨M,0,none⟩=some (.int .i64 ((9000-out.length:Nat):Int)):=by simp[World.cell?,h.m]
theorem Wr.fm (h:Wr w Q M B base o out b):w.frozen? ⟨M,0,none⟩=false:=by simp[World.frozen?,h.m]
theorem Wr.shape (h:Wr w Q M B base o out b):∃ a c,o=.slice a out.length c:=by
 rcases h.row.2 with⟨rfl,e⟩|⟨g,cap,cur,rfl,_⟩
 ·exact⟨_,_,by rw[e]⟩
 ·exact⟨_,_,rfl⟩
theorem Wr.below (h:Wr w Q M B base o out b) (k:Below w.heap.size w w'):Wr w' Q M B base o out b:=by
 have hl:=h.lt;refine⟨(k.block _ (by omega)).trans h.q,(k.block _ (by omega)).trans h.m,(k.block _ (by omega)).trans h.y,h.bud.of_blocks (fun i hi=>k.block i (by omega)),?_,h.hl,⟨hl.1,hl.2.1,hl.2.2.1,Nat.le_trans hl.2.2.2 k.size⟩,h.ne⟩;refine⟨h.row.1,?_⟩
 rcases h.row.2 with hn|⟨g,cap,cur,e,h1,h2,rest⟩
 ·exact .inl hn
 ·exact .inr ⟨g,cap,cur,e,h1,(k.block g (Array.getElem?_eq_some_iff.1 h2).1).trans h2,rest⟩
end
def PostW (Q M B base:Nat) (o:Value) (w:World) (r:Res (List UInt8)) (e:Ending) (w':World):Prop:=match r with
 | .ok out' b'=>e=.returned (.tuple #[])/\∃ o',Wr w' Q M B base o' out' b'/\Fw Q M B o w o' w'
 | .no y=>e=.panicked (thrownY y)/\∃ o',Fw Q M B o w o' w'
theorem PostW.ok {o o':Value}{r:Res (List UInt8)}{out':List UInt8}{b':Nat}(hr:r=.ok out' b') (h:Wr w' Q M B base o' out' b') (F:Fw Q M B o w o' w'):PostW Q M B base o w r (.returned (.tuple #[])) w':=by
 subst hr;exact⟨rfl,o',h,F⟩
theorem PostW.no {o o':Value}{r:Res (List UInt8)}{y:Why}(hr:r=.no y) (F:Fw Q M B o w o' w'):PostW Q M B base o w r (.panicked (thrownY y)) w':=by
 subst hr;exact⟨rfl,o',F⟩
theorem strCells_byteV (s:ByteArray):strCells s=s.data.toList.map byteV:=by first | rfl | simp[strCells,byteV]
theorem Tryz.undB:Tryz.prog.underlying 102=some (.slice 5):=by kernel_rfl
theorem Tryz.infoB:(Tryz.prog.info? 5).map (fun i=>(i.zero,i.size,i.bytes))=some (some (.int .u8 0),1,1):=by kernel_rfl
end
section
open Go.RowKit
attribute [local go_sem] Oper.semAt_some
variable {w w':World}{Q M B base:Nat}
set_option maxHeartbeats 4000000 in
set_option maxRecDepth 100000 in
theorem wput_any {o:Value}{out:List UInt8}{b g cap:Nat}(ts:List ByteArray) (h:Wr w Q M B base o out b) (hg:g<w.heap.size) (hgn:g≠Q/\g≠M/\g≠B/\o.ownBlock≠some g) (hn:ts.length<=1000) (hts:∀ i t,ts[i]?=some t->w.cell? ⟨g,i,none⟩=some (.string t)) (hsz:∀ t ∈ ts,t.size<=90000) :
  Calls Tryz.prog 61 #[.pointer (some ⟨Q,0,none⟩),.slice (some ⟨g,0,none⟩) ts.length cap] w (PostW Q M B base o w (putR ts out b)):=by
 obtain⟨i0,hi0,hz0,hz1,hz2⟩:=info_parts Tryz.infoB
 go_enter Tryz.func61,Tryz.ntmps61
 go_wp2_with fail
 go_loopw [8] (fun v wr=>∃ (i b':Nat) (o':Value) (out':List UInt8),v=.int .i64 ((i:Nat):Int)/\i<=ts.length/\Wr wr Q M B base o' out' b'/\Fw Q M B o w o' wr/\Hid (putR ts out b=putR (ts.drop i) out' b'))
  (fun v _=>ts.length-(intOf v).toNat)
 case atStart=>exact⟨0,b,o,out,rfl,Nat.zero_le _,h,Fw.refl _ _ _ _ _,rfl⟩
 case round=>
  clear h;obtain⟨i,b',o',out',rfl,hi,h,hF,HE⟩:=hrel;have hlt:=h.lt;have hne:=h.ne
  by_cases hil:i<ts.length
  ·have hilI:(i:Int)<(ts.length:Int):=by omega
   obtain⟨t,ht⟩:∃ t,ts[i]?=some t:=⟨ts[i],List.getElem?_eq_getElem hil⟩;have hts1:=hsz t (List.mem_of_getElem? ht)
   have hcons:ts.drop i=t::ts.drop (i+1):=by
    rw[List.drop_eq_getElem_cons hil];congr 1;exact Option.some.inj ((List.getElem?_eq_getElem hil).symm.trans ht)
   have HC:=hid hcons;clear hcons;have hgb:wr.heap[g]?=w.heap[g]?:=hF.block g hg hgn.1 hgn.2.1 hgn.2.2.1 hgn.2.2.2;have hct:wr.cell? ⟨g,i,none⟩=some (.string t):=(World.cell?_of_block (w:=w) hgb).trans (hts i t ht);have c2:=h.c2;unfold chg at c2;have hb8:=h.bud.hb
   by_cases hb:b'<t.size
   ·have HN:Hid (putR ts out b=.no (12,0)):=(unh HE).trans (by rw[unh HC,putR,if_pos hb])
    go_wp2_with fail
    refine (take_no _ B b' t.size 12 0 h.bud.ca h.bud.y hb).mono ?_;rintro e w1 ⟨rfl,rfl⟩;exact⟨rfl,PostW.no (unh HN) hF⟩
   ·go_wp2_with fail
    refine (take_ok _ B b' t.size h.bud.ca (h.bud.fa 0) (by omega) hb8).mono ?_;rintro e w1 ⟨rfl,hw1⟩;have hB1:=h.bud.take t.size (by omega);rw[hw1] at hB1;have hs1:w1.heap.size=wr.heap.size:=by rw[← hw1];simp
    have hk1:∀ k,k≠B->w1.heap[k]?=wr.heap[k]?:=fun k hk=>by rw[← hw1];exact Below.heap_setCell _ _ _ _ (by exact hk)
    have ho1:w1.os=wr.os/\w1.tape=wr.tape/\w1.output=wr.output:=by rw[← hw1];exact⟨rfl,rfl,rfl⟩
    clear hw1;have hq1:=(hk1 Q (by omega)).trans h.q;have hm1:=(hk1 M (by omega)).trans h.m;have hy1:=(hk1 (M+1) (by omega)).trans h.y;have c1:w1.cell? ⟨Q,1,none⟩=some (.func (.func 60) #[] #[.pointer (some ⟨M,0,none⟩),.pointer (some ⟨M+1,0,none⟩)]):=by simp[World.cell?,hq1]
    have cm:w1.cell? ⟨M,0,none⟩=some (.int .i64 ((9000-out'.length:Nat):Int)):=by simp[World.cell?,hm1]
    have fm:w1.frozen? ⟨M,0,none⟩=false:=by simp[World.frozen?,hm1]
    have hF1:Fw Q M B o w o' w1:=hF.trans ⟨ho1.1,ho1.2.1,ho1.2.2,by omega,fun k hk a b c d=>hk1 k c,.inl rfl⟩
    by_cases hr:9000-out'.length<t.size
    ·have HN:Hid (putR ts out b=.no (11,0)):=(unh HE).trans (by rw[unh HC,putR,if_neg hb,if_pos hr])
     go_wp2_with fail
     refine (take_no _ M (9000-out'.length) t.size 11 0 cm hy1 hr).mono ?_;rintro e w2 ⟨rfl,rfl⟩;exact⟨rfl,PostW.no (unh HN) hF1⟩
    ·have HE2:Hid (putR ts out b=putR (ts.drop (i+1)) (out'++t.data.toList) (b'-t.size)):=(unh HE).trans (by rw[unh HC,putR,if_neg hb,if_neg hr]);clear HE
     go_wp2_with fail
     refine (take_ok _ M (9000-out'.length) t.size cm fm (by omega) (by omega)).mono ?_;rintro e w2 ⟨rfl,hw2⟩
     have hm2:w2.heap[M]?=some (.cells #[.int .i64 ((9000-(out'++t.data.toList).length:Nat):Int)] 3 (0,0)):=by
      rw[← hw2,heap_setCell_same w1 M 0 _ _ _ hm1];have hl:t.data.toList.length=t.size:=Array.length_toList;have e:((9000-out'.length:Nat):Int)-(t.size:Int)=((9000-(out'++t.data.toList).length:Nat):Int):=by rw[List.length_append,hl];omega
      rw[e];simp
     have hs2:w2.heap.size=w1.heap.size:=by rw[← hw2];simp
     have hk2:∀ k,k≠M->w2.heap[k]?=w1.heap[k]?:=fun k hk=>by rw[← hw2];exact Below.heap_setCell _ _ _ _ (by exact hk)
     have ho2:w2.os=w1.os/\w2.tape=w1.tape/\w2.output=w1.output:=by rw[← hw2];exact⟨rfl,rfl,rfl⟩
     clear hw2;have hq2:=(hk2 Q (by omega)).trans hq1;have hy2:=(hk2 (M+1) (by omega)).trans hy1;have c0:w2.cell? ⟨Q,0,none⟩=some o':=by simp[World.cell?,hq2]
     obtain⟨ao,cp,rfl⟩:=h.shape;have hB2:Bud w2 B (b'-t.size):=hB1.of_blocks (fun k hk=>hk2 k (by omega));have hF2:Fw Q M B o w (.slice ao out'.length cp) w2:=hF1.trans ⟨ho2.1,ho2.2.1,ho2.2.2,by omega,fun k hk a b c d=>hk2 k b,.inl rfl⟩;have hown:=World.ownsRow.lt h.row
     have hrow2:w2.ownsRow base 5 1 (.slice ao out'.length cp) out'.length (out'.map byteV):=by
      refine⟨h.row.1,?_⟩
      rcases h.row.2 with hn|⟨g',cap',cur,e,h1,h2,rest⟩
      ·exact .inl hn
      ·exact .inr ⟨g',cap',cur,e,h1,(hk2 g' (by omega)).trans ((hk1 g' (by omega)).trans h2),rest⟩
     have hl9:=h.hl;clear c1 cm fm hm1 hq1 hy1
     go_wp2_with (refine wpList_append_str rfl _ _ 102 9 rfl base 5 i0 Tryz.undB Tryz.undS hi0 hz0 hz1 hz2 _ _ _ rfl hrow2 t rfl (by omega) (by omega) ?_;intro v3 w3 hown3 hg3 hat3;have hne3:∀ k,k<base->some k≠(Value.slice ao out'.length cp).ownBlock:=(fun k hk e=>by have:=(hown k e.symm).1;omega);have hq3:=(hg3.block Q (by omega) (hne3 Q (by omega))).trans hq2;have c03:w3.cell? ⟨Q,0,none⟩=some (.slice ao out'.length cp):=(by simp[World.cell?,hq3]);have f03:w3.frozen? ⟨Q,0,none⟩=false:=(by simp[World.frozen?,hq3]);obtain⟨a3,n3,c3,rfl⟩:∃ a n c,v3=.slice a n c:=(by rcases hown3.2 with⟨e,_⟩ | ⟨g',cap',cur,e,_⟩ <;> exact⟨_,_,_,e⟩))
     go_roundw
     case rel=>
      have hz3:=hg3.size;have hbl:∀ k,k<base->k≠Q->(w3.setCell ⟨Q,0,none⟩ (.slice a3 n3 c3)).heap[k]?=w2.heap[k]?:=fun k hk hq=>(Below.heap_setCell _ _ _ _ (by exact hq)).trans (hg3.block k (by omega) (hne3 k hk))
      have hl:t.data.toList.length=t.size:=Array.length_toList;refine⟨i+1,b'-t.size,.slice a3 n3 c3,out'++t.data.toList,by go_num,by omega,⟨?_,(hbl M (by omega) (by omega)).trans hm2,(hbl (M+1) (by omega) (by omega)).trans hy2,hB2.of_blocks (fun k hk=>hbl k (by omega) (by omega)),?_,by rw[List.length_append,hl];omega,⟨hlt.1,hlt.2.1,hlt.2.2.1,by simp;omega⟩,h.ne⟩,?_,HE2⟩
      ·rw[heap_setCell_same w3 Q 0 _ _ _ hq3];simp[chg]
      ·have e:(out'++t.data.toList).map byteV=out'.map byteV++Lib.strCells t:=by rw[List.map_append,strCells_byteV]
       rw[List.length_append,hl,e];refine⟨hown3.1,?_⟩
       rcases hown3.2 with hn|⟨g',cap',cur,e1,e2,e3,rest⟩
       ·exact .inl hn
       ·exact .inr ⟨g',cap',cur,e1,e2,(Below.heap_setCell _ _ _ _ (by show g'≠Q;omega)).trans e3,rest⟩
      ·refine hF2.trans ⟨hg3.os,hg3.tape,hg3.output,by simp;omega,fun k hk a b c d=>(Below.heap_setCell _ _ _ _ (by exact a)).trans (hg3.block k (by omega) (fun e=>d e.symm)),?_⟩
       rcases hat3 with e|e
       ·exact .inl e
       ·exact .inr ⟨_,e,Nat.le_refl _⟩
     case measure=>simp[intOf];omega
  ·have hilI:¬ (i:Int)<(ts.length:Int):=by omega
   have HN:Hid (putR ts out b=.ok out' b'):=(unh HE).trans (by rw[List.drop_eq_nil_of_le (by omega),putR])
   go_wp2_with fail
   first | go_end0 | refine bodyPost_ret (results_none rfl _ _ _) rfl ?_
   exact PostW.ok (unh HN) h hF
end
end Go.Proofs.YtgffljllfenhkaaGreatDoor
