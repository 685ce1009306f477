import Derived.Deep.DrawnRows
import Derived.Test.YtgffljllfenhkaaGreatDoorHwap
section
namespace Go.Proofs.YtgffljllfenhkaaGreatDoor
open Go.RowKit
attribute [local go_sem] Oper.semAt_some
variable {w w':World} {P B:Nat} {D lo at_ root:Nat} {pl:List Nat} {slp slo:Value} {os:List Obj1} {xs:List Value} {S:Nat→Prop}
def DQ2 (D B lo at_:Nat) (pl:List Nat) (root:Nat) (slp slo:Value):List Obj1→Value→World→Prop:=fun os' v w'=>v=.tuple #[]∧∃ xs',Doc w' D B lo at_ pl root slp slo os' xs'
structure Fo (B g:Nat) (w w':World):Prop where
 os:w'.os=w.os
 tape:w'.tape=w.tape
 output:w'.output=w.output
 size:w.heap.size≤w'.heap.size
 block:∀ k,k < w.heap.size→k≠B→k≠g→w'.heap[k]?=w.heap[k]?
theorem Fo.refl (B g:Nat) (w:World):Fo B g w w:=⟨rfl,rfl,rfl,Nat.le_refl _,fun _ _ _ _=>rfl⟩
theorem Fo.trans {g:Nat} {a b c:World} (h:Fo B g a b) (k:Fo B g b c):Fo B g a c:=
 ⟨k.os.trans h.os,k.tape.trans h.tape,k.output.trans h.output,Nat.le_trans h.size k.size,fun i hi h1 h2=>(k.block i (Nat.lt_of_lt_of_le hi h.size) h1 h2).trans (h.block i hi h1 h2)⟩
theorem Fo.of_fb {g:Nat} (h:Fb B w w'):Fo B g w w':=⟨h.os,h.tape,h.output,h.size,fun k hk h1 _=>h.block k hk h1⟩
theorem Fo.set {g:Nat} (h:Fo B g w w') (i:Nat) (v:Value):Fo B g w (w'.setCell ⟨g,i,none⟩ v):=
 ⟨h.os,h.tape,h.output,by simp [h.size],fun k hk h1 h2=>(Below.heap_setCell _ _ _ _ (by exact h2)).trans (h.block k hk h1 h2)⟩
def PostO (B g:Nat) (w:World) {α:Type} (rep:α→Value→World→Prop) (o:Res α) (e:Ending) (w':World):Prop:=match o with
 | .ok a b'=>∃ v,e=.returned v∧rep a v w'∧Bud w' B b'∧Fo B g w w'
 | .no y=>e=.panicked (thrownY y)∧Fo B g w w'
theorem PostO.ok {g:Nat} {α:Type} {rep:α→Value→World→Prop} {o:Res α} {a:α} {b:Nat} {v:Value} (ho:o=.ok a b) (hr:rep a v w') (hA:Bud w' B b) (hF:Fo B g w w'):PostO B g w rep o (.returned v) w':=by
 subst ho;exact ⟨v,rfl,hr,hA,hF⟩
theorem PostO.no {g:Nat} {α:Type} {rep:α→Value→World→Prop} {o:Res α} {y:Why} (ho:o=.no y) (hF:Fo B g w w'):PostO B g w rep o (.panicked (thrownY y)) w':=by
 subst ho;exact ⟨rfl,hF⟩
set_option maxHeartbeats 4000000 in
set_option maxRecDepth 100000 in
theorem unpackTexts_any {G:World→Prop} {U:ByteArray→Nat→Nat→Res ByteArray} {b g cp:Nat} (hG:∀ w w',G w→Fo B g w w'→G w') (UC:UnpC G B U) (hw:G w) (hd:Doc w D B lo at_ pl root slp (.slice (some ⟨g,0,none⟩) os.length cp) os xs) (hB:Bud w B b) (hlo:B+1 < lo) (hos:os.length≤100) (hst:∀ o ∈ os,o.stream.size≤9000) :
  Calls Tryz.prog 69 #[.pointer (some ⟨D,0,none⟩)] w (PostO B g w (DQ2 D B lo at_ pl root slp (.slice (some ⟨g,0,none⟩) os.length cp)) (unpL U os 0 b)):=by
 have c3:=hd.c3
 go_enter Tryz.func69,Tryz.ntmps69
 go_wp2_with fail
 clear c3
 go_loopw [9] (fun v wr=>∃ i b' os' xs',v=.int .i64 ((i:Nat):Int)∧i≤os.length∧os'.length=os.length∧Doc wr D B lo at_ pl root slp (.slice (some ⟨g,0,none⟩) os.length cp) os' xs'∧os'.drop i=os.drop i∧Bud wr B b'∧Fo B g w wr∧Hid (unpL U os 0 b=pre (os'.take i) (unpL U (os.drop i) i b')))
  (fun v _=>os.length - (intOf v).toNat)
 case atStart=>exact ⟨0,b,os,xs,rfl,Nat.zero_le _,rfl,hd,rfl,hB,Fo.refl _ _ _,by
  show unpL U os 0 b=pre [] (unpL U os 0 b)
  rcases unpL U os 0 b with ⟨l',b''⟩ | y <;> rfl⟩
 case round=>
  clear hB
  obtain ⟨i,b',os',xs',rfl,hi,hlen,hdr,hdrop,hB,hF,HE⟩:=hrel
  have HL:=hid hlen
  clear hlen
  by_cases hlt:i < os.length
  ·have hltI:(i:Int) < (os.length:Int):=by omega
   obtain ⟨o,ho⟩:∃ o,os[i]?=some o:=⟨os[i],List.getElem?_eq_getElem hlt⟩
   have ho':os'[i]?=some o:=by
    have h1:(os'.drop i)[0]?=(os.drop i)[0]?:=by rw [hdrop]
    rw [List.getElem?_drop,List.getElem?_drop,Nat.add_zero] at h1
    rw [h1];exact ho
   have hso:=hst o (List.mem_of_getElem? ho)
   have hcons:os.drop i=o::os.drop (i+1):=by
    rw [List.drop_eq_getElem_cons hlt]
    congr 1
    exact Option.some.inj ((List.getElem?_eq_getElem hlt).symm.trans ho)
   obtain ⟨g2,cp2,kk,xx,tt,rr,aa,nn,cc,mm,e,_,hg,hgl,hr,hR,hfz⟩:=hdr.obj i o ho'
   obtain ⟨rfl,hrest⟩:g=g2∧_:=by simpa using e
   clear e hrest
   have TN:=typeName_any o hR (fun b hb=>hb.2.1)
   have c3:=hdr.c3
   have HC:=hid hcons
   have HD2:=hid hdrop
   clear hcons hdrop
   have hse:=str_eq (tname o) textB
   unfold textB at hse
   have hl4:(⟨#[84,101,120,116]⟩:ByteArray).toList=[84,101,120,116]:=by rw [ba_toList]
   rw [hl4] at hse
   clear hl4
   rcases htx:(tname o == (⟨#[84,101,120,116]⟩:ByteArray)) with _ | _
   ·rw [htx] at hse
    have hne4:¬ (tname o).toList=[84,101,120,116]:=beq_eq_false_iff_ne.1 hse
    have hpk:packed o=false:=by unfold packed textB;rw [htx];rfl
    have HE2:Hid (unpL U os 0 b=pre (os'.take (i+1)) (unpL U (os.drop (i+1)) (i+1) b')):=(unh HE).trans (by
     rw [unh HC,pre_ok (o':=o) (by unfold unpS;rw [hpk];rfl),List.take_add_one,ho'];rfl)
    clear HE hpk htx
    go_wp2_with (first | (go_at_call 107;refine TN.mono ?_;rintro e w2 ⟨rfl,hB2⟩) | (refine load_mid rfl 122 _ rfl g (i * 10) rfl _ hr Tryz.agO Tryz.sizeO ?_))
    have F2:Fb B wr w2:=Fb.of_below hB2
    go_roundw
    case rel=>exact ⟨i+1,b',os',xs',by go_num,by omega,unh HL,hdr.kept F2 (by omega),by rw [← List.drop_drop,unh HD2,List.drop_drop],hB.of_blocks (fun k hk=>hB2.block k (by have:=hB.lt;omega)),hF.trans (Fo.of_fb F2),HE2⟩
    case measure=>simp [intOf];omega
   ·rw [htx] at hse
    have heq4:(tname o).toList=[84,101,120,116]:=eq_of_beq hse
    have hc5:wr.cell? ⟨g,i * 10+5,none⟩=some (.map mm):=hr 5 _ rfl
    have hc9:wr.cell? ⟨g,i * 10+9,none⟩=some (.string o.stream):=hr 9 _ rfl
    have hf9:=hfz 9 (by decide)
    clear hfz
    obtain ⟨pz,hpz⟩:∃ pz,isNameB (vget o.v fB) zB=pz:=⟨_,rfl⟩
    have TN2:Calls Tryz.prog 107 _ wr (fun e w'=>(e=.returned (.string (tname o))∧Below wr.heap.size wr w')∧∃ (k' x':Nat) (t':ByteArray) (r':Nat) (b:Option Addr) (n c:Nat) (m':Option Nat),(Instr.lookup 118 (.map mm) (.string ⟨#[70]⟩) false).run Tryz.prog w'=.ok (.agg #[.int .i64 (k':Int),.float .f64 x',.string t',.int .i64 (r':Int),.slice b n c,.map m']) w'∧(decide (k'=6) && (t' == zB))=pz):=TN.mono (fun e w2 hh=>by
     refine ⟨hh,?_⟩
     have hR2:=Rep.kept (w':=w2) (S':=fun _=>True) (fun b hb=>⟨trivial,hh.2.block b hb.2.1⟩) o.v hR
     obtain ⟨k',x',t',r',b3,n3,c3,m3,h1,h2⟩:=hR2.look fB (by unfold maxLen;decide)
     exact ⟨k',x',t',r',b3,n3,c3,m3,h1,by rw [← h2.name zB];exact hpz⟩)
    have HPZ:=hid hpz
    have HTX:=hid htx
    clear hpz htx hR TN
    have hBl:=hB.lt
    have hDl:=hdr.ltD
    have hDlo:=hdr.lo
    cases pz with
    | false=>
     have HE2:Hid (unpL U os 0 b=pre (os'.take (i+1)) (unpL U (os.drop (i+1)) (i+1) b')):=(unh HE).trans (by
      have hpk:packed o=false:=by unfold packed textB;rw [unh HTX,unh HPZ];rfl
      rw [unh HC,pre_ok (o':=o) (by unfold unpS;rw [hpk];rfl),List.take_add_one,ho'];rfl)
     clear HE
     go_wp2_with (first | (go_at_call 107;refine TN2.mono ?_;rintro e w2 ⟨⟨rfl,hB2⟩,k',x',t',r',b3,n3,c3',m3,hlk,hnm⟩;have d5:w2.cell? ⟨g,i * 10+5,none⟩=some (.map mm):=(hB2.cell (by exact hg)).trans hc5;have IN:=(fun W=>isName_any W k' x' t' r' b3 n3 c3' m3 zB);rw [hnm] at IN;clear hnm;unfold zB at IN) | (go_at_call 108;refine (IN _).mono ?_;rintro e w3 ⟨rfl,hB3⟩) | (refine load_mid rfl 122 _ rfl g (i * 10) rfl _ hr Tryz.agO Tryz.sizeO ?_))
     have hB23:Below wr.heap.size wr w3:=hB2.trans (hB3.mono hB2.size)
     have F2:Fb B wr w3:=Fb.of_below hB23
     go_roundw
     case rel=>exact ⟨i+1,b',os',xs',by go_num,by omega,unh HL,hdr.kept F2 (by omega),by rw [← List.drop_drop,unh HD2,List.drop_drop],hB.of_blocks (fun k hk=>hB23.block k (by omega)),hF.trans (Fo.of_fb F2),HE2⟩
     case measure=>simp [intOf];omega
    | true=>
     have hpk:packed o=true:=by unfold packed textB;rw [unh HTX,unh HPZ];rfl
     have c4:=hdr.c4
     unfold chg at c4
     have hgD:g≠B:=by omega
     have hgne:g≠D:=fun e=>hdr.ne.1 (by rw [e];rfl)
     rcases qu:U o.stream i b' with ⟨t,b''⟩ | y
     ·have HE2:Hid (unpL U os 0 b=pre (os'.take i++[{ o with stream:=t }]) (unpL U (os.drop (i+1)) (i+1) b'')):=(unh HE).trans (by
       rw [unh HC,pre_ok (o':={ o with stream:=t }) (by unfold unpS;rw [if_pos hpk,qu])])
      clear HE hpk
      go_wp2_with (first | (go_at_call 107;refine TN2.mono ?_;rintro e w2 ⟨⟨rfl,hB2⟩,k',x',t',r',b3,n3,c3',m3,hlk,hnm⟩;have d5:w2.cell? ⟨g,i * 10+5,none⟩=some (.map mm):=(hB2.cell (by exact hg)).trans hc5;have IN:=(fun W=>isName_any W k' x' t' r' b3 n3 c3' m3 zB);rw [hnm] at IN;clear hnm;unfold zB at IN) | (go_at_call 108;refine (IN _).mono ?_;rintro e w3 ⟨rfl,hB3⟩) | (refine load_mid rfl 122 _ rfl g (i * 10) rfl _ hr Tryz.agO Tryz.sizeO ?_))
      have hB23:Below wr.heap.size wr w3:=hB2.trans (hB3.mono hB2.size)
      have F2:Fb B wr w3:=Fb.of_below hB23
      have d9:w3.cell? ⟨g,i * 10+9,none⟩=some (.string o.stream):=(hB23.cell (by exact hg)).trans hc9
      have d4:=(hB23.cell (p:=⟨D,4,none⟩) (by exact hDl)).trans c4
      have hBu3:Bud w3 B b':=hB.of_blocks (fun k hk=>hB23.block k (by omega))
      have hF3:=hF.trans (Fo.of_fb (g:=g) F2)
      have hG3:G w3.drew:=hG _ _ hw (hF3.trans (Fo.of_fb (Fb.refl B w3).drew))
      have UA:=UC w3.drew b' i o.stream hG3 hBu3.drew hso (by omega)
      have hdr3:=hdr.kept F2 (by omega)
      unfold chg at UA
      clear IN hlk d5 TN2 hr
      go_region_with (go_at_call 109;refine (PostB.okC UA qu).mono ?_;rintro e w4 ⟨v4,rfl,rfl,hB4,F4⟩;have hz3:=hB23.size;have e9:w4.cell? ⟨g,i * 10+9,none⟩=some (.string o.stream):=(World.cell?_of_block (w:=w3) (F4.block g (by show g < w3.heap.size;omega) hgD)).trans d9;have f9:w4.frozen? ⟨g,i * 10+9,none⟩=false:=(World.frozen?_of_block (w:=w3) (F4.block g (by show g < w3.heap.size;omega) hgD)).trans ((hB23.frozen (p:=⟨g,i * 10+9,none⟩) (by exact hg)).trans hf9))
      all_goals
       have F34:Fb B w3 w4:=(Fb.refl B w3).drew.trans F4
       have hdr4:=(hdr3.kept F34 (by omega)).stream i o ho' t g rfl
       go_wp2_with fail
       go_roundw
       case rel=>
        refine ⟨i+1,b'',os'.set i { o with stream:=t },_,by go_num,by omega,by rw [List.length_set];exact unh HL,hdr4,?_,hB4.of_blocks (fun k hk=>Below.heap_setCell _ _ _ _ (by show k≠g;omega)),(hF3.trans (Fo.of_fb F34)).set _ _,?_⟩
        ·rw [List.drop_set_of_lt (by omega),← List.drop_drop,unh HD2,List.drop_drop]
        ·have hl:=unh HL
         have e:(os'.set i { o with stream:=t }).take (i+1)=os'.take i++[{ o with stream:=t }]:=by
          rw [List.take_add_one,List.take_set_of_le (Nat.le_refl _),List.getElem?_set_self (by omega)];rfl
         rw [e];exact HE2
       case measure=>simp [intOf];omega
     ·have HN:Hid (unpL U os 0 b=.no y):=(unh HE).trans (by rw [unh HC,pre_no (by unfold unpS;rw [if_pos hpk,qu])])
      clear HE hpk
      go_wp2_with (first | (go_at_call 107;refine TN2.mono ?_;rintro e w2 ⟨⟨rfl,hB2⟩,k',x',t',r',b3,n3,c3',m3,hlk,hnm⟩;have d5:w2.cell? ⟨g,i * 10+5,none⟩=some (.map mm):=(hB2.cell (by exact hg)).trans hc5;have IN:=(fun W=>isName_any W k' x' t' r' b3 n3 c3' m3 zB);rw [hnm] at IN;clear hnm;unfold zB at IN) | (go_at_call 108;refine (IN _).mono ?_;rintro e w3 ⟨rfl,hB3⟩) | (refine load_mid rfl 122 _ rfl g (i * 10) rfl _ hr Tryz.agO Tryz.sizeO ?_))
      have hB23:Below wr.heap.size wr w3:=hB2.trans (hB3.mono hB2.size)
      have F2:Fb B wr w3:=Fb.of_below hB23
      have d9:w3.cell? ⟨g,i * 10+9,none⟩=some (.string o.stream):=(hB23.cell (by exact hg)).trans hc9
      have d4:=(hB23.cell (p:=⟨D,4,none⟩) (by exact hDl)).trans c4
      have hBu3:Bud w3 B b':=hB.of_blocks (fun k hk=>hB23.block k (by omega))
      have hF3:=hF.trans (Fo.of_fb (g:=g) F2)
      have hG3:G w3.drew:=hG _ _ hw (hF3.trans (Fo.of_fb (Fb.refl B w3).drew))
      have UA:=UC w3.drew b' i o.stream hG3 hBu3.drew hso (by omega)
      unfold chg at UA
      clear IN hlk d5 TN2 hr
      go_region_dies
      all_goals
       refine (PostB.noC UA qu).mono ?_
       rintro e w4 ⟨rfl,F4⟩
       exact ⟨rfl,PostO.no (unh HN) (hF3.trans (Fo.of_fb ((Fb.refl B w3).drew.trans F4)))⟩
  ·have hltI:¬ (i:Int) < (os.length:Int):=by omega
   have HN:Hid (unpL U os 0 b=.ok os' b'):=(unh HE).trans (by
    rw [List.drop_eq_nil_of_le (by omega),List.take_of_length_le (by rw [unh HL];omega)]
    simp [unpL,pre])
   go_wp2_with fail
   first | go_end0 | refine bodyPost_ret (results_none rfl _ _ _) rfl ?_
   exact PostO.ok (unh HN) ⟨rfl,xs',hdr⟩ hB hF
end Go.Proofs.YtgffljllfenhkaaGreatDoor
end
section
namespace Go.Proofs.YtgffljllfenhkaaGreatDoor
open Go.RowKit
variable {w w':World} {P B:Nat} {E:Env} {s s':St} {D lo at_ root:Nat} {pl:List Nat} {slp slo:Value} {os:List Obj1} {xs:List Value}
theorem stream_inv {t:ByteArray} (h:streamM E s=.ok t s'):t.size≤E.f.size:=by
 unfold streamM at h
 obtain ⟨_,s1,_,k1⟩:=then_inv h
 obtain ⟨_,s2,_,k2⟩:=then_inv k1
 obtain ⟨n,s3,_,k3⟩:=then_inv k2
 obtain ⟨_,s4,_,k4⟩:=then_inv k3
 unfold bytesM at k4
 split at k4
 ·cases k4
 ·cases k4
  rw [ByteArray.size_extract];omega
theorem object_inv {num:Nat} {o:Obj1} (h:objectM E num s=.ok o s'):o.stream.size≤E.f.size:=by
 unfold objectM at h
 obtain ⟨_,s1,_,k1⟩:=then_inv h
 obtain ⟨_,s2,_,k2⟩:=then_inv k1
 obtain ⟨_,s3,_,k3⟩:=then_inv k2
 obtain ⟨_,s4,_,k4⟩:=then_inv k3
 obtain ⟨v,s5,_,k5⟩:=then_inv k4
 obtain ⟨y,s6,_,k6⟩:=then_inv k5
 obtain ⟨hs,s7,hh,k7⟩:=then_inv k6
 obtain ⟨_,s8,_,k8⟩:=then_inv k7
 obtain ⟨_,s9,_,k9⟩:=then_inv k8
 obtain ⟨_,s10,_,k10⟩:=then_inv k9
 obtain ⟨e,_⟩:=ret_inv k10
 rw [e]
 split at hh
 ·obtain ⟨_,t1,_,j1⟩:=then_inv hh
  obtain ⟨t,t2,hst,j2⟩:=then_inv j1
  obtain ⟨e2,_⟩:=ret_inv j2
  rw [e2];exact stream_inv hst
 ·obtain ⟨e2,_⟩:=ret_inv hh
  rw [e2];exact Nat.zero_le _
theorem objR_inv {f:ByteArray} {at_ place num b b':Nat} {o:Obj1} (h:objR f at_ place num b=.ok o b'):o.stream.size≤f.size:=by
 unfold objR at h
 split at h
 ·cases h;exact Nat.zero_le _
 ·split at h
  ·cases h
  ·rcases hq:objectM (objEnv f at_) num ⟨b,place,0,0,0⟩ with ⟨o',s1⟩ | y
   ·rw [hq] at h
    simp only [objFin] at h
    split at h
    ·cases h
    ·split at h
     ·cases h
     ·cases h;exact object_inv hq
   ·rw [hq] at h;cases h
def headB:ByteArray:=⟨#[68,79,67,49,10]⟩
def docR (U:ByteArray→Nat→Nat→Res ByteArray) (f:ByteArray) (b:Nat):Res (Nat×List Nat×Nat×List Obj1):=
 if 9000 < f.size then .no (2,0) else if Lib.hasPrefix f.data.toList headB.data.toList=false then .no (3,0) else
 match tabR f b with
 | .no y=>.no y
 | .ok x b1=>match objsR f x.1 x.2.1 1 b1 with
  | .no y=>.no y
  | .ok l b2=>match overR ({}::l) b2 with
   | .no y=>.no y
   | .ok _ b3=>match unpL U ({}::l) 0 b3 with
    | .no y=>.no y
    | .ok os b4=>if tnameAt os x.2.2 == rootB then .ok (x.1,x.2.1,x.2.2,os) b4 else .no (10,0)
theorem pre_objs {f:ByteArray} {at_ p num b b':Nat} {d:List Obj1} {ps:List Nat} {o:Obj1} (h:objR f at_ p num b=.ok o b'):pre d (objsR f at_ (p::ps) num b)=pre (d++[o]) (objsR f at_ ps (num+1) b'):=by
 rw [objsR_cons_ok h]
 rcases hq:objsR f at_ ps (num+1) b' with ⟨l',b''⟩ | y
 ·simp [pre]
 ·rfl
theorem Tryz.infoO:(Tryz.prog.info? 122).map (fun i=>(i.zero,i.size,i.bytes))=some (some (.agg #[.int .i64 0,.float .f64 0,.string ⟨#[]⟩,.int .i64 0,.slice none 0 0,.map none,.int .i64 0,.int .i64 0,.bool false,.string ⟨#[]⟩]),10,112):=by kernel_rfl
theorem Tryz.undO:Tryz.prog.underlying 99=some (.slice 122):=by kernel_rfl
theorem cell_new (w:World) (l:List Value) (t:TypeId):∀ j u,l[j]?=some u→(w.alloc (.cells l.toArray t)).cell? ((⟨w.heap.size,0,none⟩:Addr).add j)=some u:=by
 intro j u hj
 rw [Addr.add_mid,Nat.zero_add]
 simp only [World.cell?]
 rw [heap_alloc_new]
 simpa using hj
end Go.Proofs.YtgffljllfenhkaaGreatDoor
end
