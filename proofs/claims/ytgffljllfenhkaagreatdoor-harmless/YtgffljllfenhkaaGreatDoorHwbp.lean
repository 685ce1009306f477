import Derived.Test.YtgffljllfenhkaaGreatDoorHwau
import Derived.Test.YtgffljllfenhkaaGreatDoorHwbd
import Derived.Test.YtgffljllfenhkaaGreatDoorHwbo
section
namespace Go.Proofs.YtgffljllfenhkaaGreatDoor
open Go.RowKit
attribute [local go_sem] Oper.semAt_some
variable {w w':World} {X:Nat} {s:ByteArray}
inductive ObT where
 | root (kd:Option (List NumT)) (ti:Option (List UInt8))
 | page (bx:Option (List NumT)) (nx tx:Option (List UInt8))
 | text (ds st:List UInt8)
def ObT.t:ObT→List UInt8→List UInt8
 | .root kd ti,l=>(⟨#[32,60,60,47,84,121,112,101,47,82,111,111,116]⟩:ByteArray).data.toList++(kidsT kd++(titT ti++([62,62]++l)))
 | .page bx nx tx,l=>(⟨#[32,60,60,47,84,121,112,101,47,80,97,103,101]⟩:ByteArray).data.toList++(boxT bx++(refT [47,78,101,120,116,64] nx++(refT [47,84,101,120,116,64] tx++([62,62]++l))))
 | .text ds st,l=>(⟨#[32,60,60,47,84,121,112,101,47,84,101,120,116]⟩:ByteArray).data.toList++((⟨#[62,62,126]⟩:ByteArray).data.toList++(ds++58::(st++l)))
def ObT.ok (n:Nat):ObT→Prop
 | .root kd ti=>n=1∧(∀ es,kd=some es→es.length≤9000∧∀ e ∈ es,e.ok)∧(∀ t,ti=some t→textOk t=true)
 | .page bx nx tx=>(∀ es,bx=some es→es.length=4∧∀ e ∈ es,e.ok)∧refOkT nx∧refOkT tx
 | .text ds st=>digsOk ds∧digV ds 0=st.length
theorem ObT.head (o:ObT) (l:List UInt8):∃ l',o.t l=32::l':=by cases o <;> exact ⟨_,rfl⟩
set_option maxHeartbeats 2000000 in
set_option maxRecDepth 100000 in
theorem object_r (n:Nat) (nd:List UInt8) (o:ObT) (hd:digsOk nd) (hv:digV nd 0=n) (ho:o.ok n) {l:List UInt8} (h:Rest w X s (nd++o.t (59::10::l))) :
  Calls Tryz.prog 28 #[.pointer (some ⟨X,0,none⟩),.int .i64 ((n:Nat):Int)] w fun e w'=>e=.returned (.tuple #[])∧Rest w' X s l∧Fb X w w':=by
 obtain ⟨l',hl'⟩:=o.head (59::10::l)
 rw [hl'] at h
 go_enter Tryz.func28,Tryz.ntmps28
 go_wp2_with fail
 refine (number_r nd 32 h hd.1 hd.2.1 hd.2.2 (by decide)).mono ?_
 rintro _ w1 ⟨rfl,h1,F1⟩
 rw [hv]
 rw [← hl'] at h1
 have c2:=h1.ey.c2
 have f2:=h1.ey.f 2
 have hbd:=h1.bad
 obtain ⟨w2,hw2⟩:∃ w2,w1.setCell ⟨X,2,none⟩ (.bool false)=w2:=⟨_,rfl⟩
 rw [hw2] at hbd
 obtain ⟨h2,F2⟩:=hbd
 go_upto_region 2 with fail
 first | rw [hw2] | skip
 clear c2 f2
 cases o with
 | root kd ti=>
  obtain ⟨rfl,ho1,ho2⟩:=ho
  go_wp2_with fail
  refine (is_r ⟨#[32,60,60,47,84,121,112,101,47,82,111,111,116]⟩ h2).mono ?_
  rintro _ w3 ⟨rfl,h3,F3⟩
  have c2:=h3.ey.c2
  have f2:=h3.ey.f 2
  have hbd:=h3.bad
  obtain ⟨w4,hw4⟩:∃ w4,w3.setCell ⟨X,2,none⟩ (.bool false)=w4:=⟨_,rfl⟩
  rw [hw4] at hbd
  obtain ⟨h4,F4⟩:=hbd
  go_upto_region 4 with fail
  first | rw [hw4] | skip
  clear c2 f2
  go_wp2_with fail
  refine (root_r kd ti ho1 ho2 h4).mono ?_
  rintro _ w5 ⟨rfl,h5,F5⟩
  go_wp2_with fail
  refine (need_r ⟨#[59,10]⟩ (l:=l) h5).mono ?_
  rintro _ w6 ⟨rfl,h6,F6⟩
  go_wp2_with fail
  first | go_end0 | refine bodyPost_ret (results_none rfl _ _ _) rfl ?_
  exact ⟨rfl,h6,F1.trans (F2.trans (F3.trans (F4.trans (F5.trans F6))))⟩
 | page bx nx tx=>
  go_wp2_with fail
  refine (is_np ⟨#[32,60,60,47,84,121,112,101,47,82,111,111,116]⟩ h2 (by decide) (np_of 9 80 82 rfl rfl (by decide))).mono ?_
  rintro _ w3 ⟨rfl,h3,F3⟩
  go_wp2_with fail
  refine (is_r ⟨#[32,60,60,47,84,121,112,101,47,80,97,103,101]⟩ h3).mono ?_
  rintro _ w4 ⟨rfl,h4,F4⟩
  go_wp2_with fail
  refine (page_r bx nx tx ho.1 ho.2.1 ho.2.2 h4).mono ?_
  rintro _ w5 ⟨rfl,h5,F5⟩
  go_wp2_with fail
  refine (need_r ⟨#[59,10]⟩ (l:=l) h5).mono ?_
  rintro _ w6 ⟨rfl,h6,F6⟩
  go_wp2_with fail
  first | go_end0 | refine bodyPost_ret (results_none rfl _ _ _) rfl ?_
  exact ⟨rfl,h6,F1.trans (F2.trans (F3.trans (F4.trans (F5.trans F6))))⟩
 | text ds st=>
  go_wp2_with fail
  refine (is_np ⟨#[32,60,60,47,84,121,112,101,47,82,111,111,116]⟩ h2 (by decide) (np_of 9 84 82 rfl rfl (by decide))).mono ?_
  rintro _ w3 ⟨rfl,h3,F3⟩
  go_wp2_with fail
  refine (is_np ⟨#[32,60,60,47,84,121,112,101,47,80,97,103,101]⟩ h3 (by decide) (np_of 9 84 80 rfl rfl (by decide))).mono ?_
  rintro _ w4 ⟨rfl,h4,F4⟩
  go_wp2_with fail
  refine (need_r ⟨#[32,60,60,47,84,121,112,101,47,84,101,120,116]⟩ h4).mono ?_
  rintro _ w7 ⟨rfl,h7,F7⟩
  go_wp2_with fail
  refine (stream_r ds st ho.1 ho.2 h7).mono ?_
  rintro _ w5 ⟨rfl,h5,F5⟩
  go_wp2_with fail
  refine (need_r ⟨#[59,10]⟩ (l:=l) h5).mono ?_
  rintro _ w6 ⟨rfl,h6,F6⟩
  go_wp2_with fail
  first | go_end0 | refine bodyPost_ret (results_none rfl _ _ _) rfl ?_
  exact ⟨rfl,h6,F1.trans (F2.trans (F3.trans (F4.trans (F7.trans (F5.trans F6)))))⟩
end Go.Proofs.YtgffljllfenhkaaGreatDoor
end
section
namespace Go.Proofs.YtgffljllfenhkaaGreatDoor
open Go.RowKit
attribute [local go_sem] Oper.semAt_some
variable {w w':World} {X:Nat} {s:ByteArray}
def objsT:List (List UInt8×ObT)→List UInt8→List UInt8
 | [],l=>l
 | x::xs,l=>x.1++x.2.t (59::10::objsT xs l)
def tabT:List (List UInt8)→List UInt8→List UInt8
 | [],l=>l
 | d::ds,l=>10::(d++tabT ds l)
def endT (ad:List UInt8):List UInt8:=(⟨#[10,114,111,111,116,32,49,10,97,116,32]⟩:ByteArray).data.toList++(ad++(⟨#[10,101,110,100,10]⟩:ByteArray).data.toList)
def tailX (cnt:List UInt8) (pds:List (List UInt8)) (ad:List UInt8):List UInt8:=(⟨#[120,114,101,102,32]⟩:ByteArray).data.toList++(cnt++tabT pds (endT ad))
theorem tab_head (pds:List (List UInt8)) (ad:List UInt8):∃ l,tabT pds (endT ad)=10::l:=by cases pds <;> exact ⟨_,rfl⟩
def placeT (s:ByteArray) (objs:List (List UInt8×ObT)) (tl:List UInt8) (i:Nat):Nat:=s.size - (objsT (objs.drop i) tl).length
structure KnowT (s:ByteArray) (objs:List (List UInt8×ObT)) (cnt:List UInt8) (pds:List (List UInt8)) (ad:List UInt8):Prop where
 txt:s.data.toList=(⟨#[68,79,67,49,10]⟩:ByteArray).data.toList++objsT objs (tailX cnt pds ad)
 hs:s.size≤9000
 len:objs.length≤1000
 obj:∀ i x,objs[i]?=some x→digsOk x.1∧digV x.1 0=i+1∧x.2.ok (i+1)
 hcnt:digsOk cnt∧digV cnt 0=objs.length
 pln:pds.length=objs.length
 hpds:∀ i d,pds[i]?=some d→digsOk d∧digV d 0=placeT s objs (tailX cnt pds ad) i
 had:digsOk ad∧digV ad 0=s.size - (tailX cnt pds ad).length
set_option maxHeartbeats 8000000 in
set_option maxRecDepth 100000 in
theorem knows_any (w:World) {objs:List (List UInt8×ObT)} {cnt:List UInt8} {pds:List (List UInt8)} {ad:List UInt8} (K:KnowT s objs cnt pds ad) :
  Calls Tryz.prog 19 #[.string s] w fun e w'=>e=.returned (.bool true)∧Below w.heap.size w w':=by
 obtain ⟨i0,hi0,hz0,hz1,hz2⟩:=info_parts Tryz.infoI
 have hs:=K.hs
 have hlen:=K.len
 have hb0:(w.alloc (.cells #[.string s,.int .i64 0,.bool false] 51)).heap[w.heap.size]?=some (.cells #[.string s,.int .i64 ((0:Nat):Int),.bool false] 51 (0,0)):=heap_alloc_new w _
 have hB0:Below w.heap.size w (w.alloc (.cells #[.string s,.int .i64 0,.bool false] 51)):=(Below.refl _ _).alloc (Nat.le_refl _) _
 have hsz0:(w.alloc (.cells #[.string s,.int .i64 0,.bool false] 51)).heap.size=w.heap.size+1:=by simp
 go_enter Tryz.func19,Tryz.ntmps19
 go_upto_region 3 with fail
 obtain ⟨W,hW⟩:∃ W,w.alloc (.cells #[.string s,.int .i64 0,.bool false] 51)=W:=⟨_,rfl⟩
 rw [hW] at hb0 hB0 hsz0
 first | rw [hW] | skip
 clear hW
 obtain ⟨X,hX⟩:∃ X,w.heap.size=X:=⟨_,rfl⟩
 rw [hX] at hb0 hsz0 hB0 ⊢
 have hR0:Rest W X s ((⟨#[68,79,67,49,10]⟩:ByteArray).data.toList++objsT objs (tailX cnt pds ad)):=by
  refine ⟨⟨[],by rw [K.txt];rfl⟩,?_⟩
  have e:s.size - ((⟨#[68,79,67,49,10]⟩:ByteArray).data.toList++objsT objs (tailX cnt pds ad)).length=0:=by rw [← K.txt,len_data];omega
  rw [e]
  exact ⟨hb0,Nat.zero_le _,hs⟩
 go_wp2_with fail
 refine (need_r ⟨#[68,79,67,49,10]⟩ hR0).mono ?_
 rintro _ w1 ⟨rfl,h1,F1⟩
 go_wp2_with fail
 have hs1:X+1≤w1.heap.size:=by have:=F1.size;omega
 have hTl:tailX cnt pds ad=(⟨#[120,114,101,102,32]⟩:ByteArray).data.toList++(cnt++tabT pds (endT ad)):=rfl
 obtain ⟨tl,htl⟩:∃ tl,tailX cnt pds ad=tl:=⟨_,rfl⟩
 rw [htl] at h1
 have hBX:∀ W',Fb X W W'→Below X w W':=fun W' F=>⟨F.os.trans hB0.os,F.tape.trans hB0.tape,F.output.trans hB0.output,by have:=F.size;omega,fun k hk=>(F.block k (by omega) (by omega)).trans (hB0.block k hk)⟩
 have hob:=K.obj
 have HSZ:=hid hsz0
 have HX:=hid hX
 clear hb0 hsz0 hX hR0
 go_loopw [4,5] (fun sl nv wr=>∃ (k:Nat) (a:Option Addr) (c:Nat),sl=.slice a k c∧nv=.int .i64 ((k+1:Nat):Int)∧k≤objs.length∧Rest wr X s (objsT (objs.drop k) tl)∧wr.ownsRow (X+1) 3 1 sl k (intsV ((List.range k).map (placeT s objs tl)))∧Fb X W wr)
  (fun _ nv _=>objs.length+1 - (intOf nv).toNat)
 case atStart=>exact ⟨0,none,0,rfl,rfl,Nat.zero_le _,h1,⟨rfl,.inl ⟨rfl,rfl⟩⟩,F1⟩
 case round=>
  obtain ⟨k,a,c,rfl,rfl,hk,hr,hrow,hF⟩:=hrel
  clear h1 F1
  have c2:=hr.ey.c2
  by_cases hkl:k < objs.length
  ·obtain ⟨x,hx⟩:∃ x,objs[k]?=some x:=⟨objs[k],List.getElem?_eq_getElem hkl⟩
   have hdr:objs.drop k=x::objs.drop (k+1):=by
    rw [List.drop_eq_getElem_cons hkl]
    congr 1
    exact Option.some.inj ((List.getElem?_eq_getElem hkl).symm.trans hx)
   obtain ⟨o1,o2,o3⟩:=hob k x hx
   have hpl:placeT s objs tl k=s.size - (objsT (objs.drop k) tl).length:=rfl
   rw [hdr] at hr hpl
   obtain ⟨cc,l',e,hc⟩:=o1.cons
   have hhd:(objsT (x::objs.drop (k+1)) tl)[0]?=some cc:=by rw [objsT,e];rfl
   have hI:=is_n ⟨#[120,114,101,102,32]⟩ 0 cc 120 hr (by decide) hhd rfl (isDig_ne hc (by decide))
   go_wp2_with fail
   refine hI.mono ?_
   rintro _ w2 ⟨rfl,h2,F2⟩
   have c1:=h2.ey.c1
   rw [← hpl] at c1
   have hrow2:w2.ownsRow (X+1) 3 1 (.slice a k c) k (intsV ((List.range k).map (placeT s objs tl))):=ownsRow_blockI hrow (fun g hg=>F2.block g (World.ownsRow.lt hrow g hg).2 (by have:=(World.ownsRow.lt hrow g hg).1;omega))
   have hF2:=hF.trans F2
   have hzz:X+1≤w2.heap.size:=by have:=hF2.size;have:=unh HSZ;omega
   obtain ⟨q,hq⟩:∃ q,placeT s objs tl k=q:=⟨_,rfl⟩
   rw [hq] at c1
   have HQ:=hid hq
   clear hq hpl hr hrow hF F2 c2
   have hal:=World.grownBy_alloc w2 (.cells #[.int .i64 (q:Int)] 3) (Value.slice a k c).ownBlock
   go_upto_region 8 with (at_builtin;refine wpList_append_own_at _ rfl _ _ 52 rfl (X+1) 3 i0 (.int .i64 0) 1 8 Tryz.undI hi0 hz0 hz1 hz2 rfl (by decide) _ _ _ rfl (World.ownsRow.alloc hrow2 _) ⟨w2.heap.size,0,none⟩ 1 1 [.int .i64 (q:Int)] rfl rfl (cell_one_new _ _ _) (by simp [Value.oneCell']) (by unfold maxLen;omega) (by omega) (by simp;omega) ?_;intro v3 w3 hown3 hg3 _ hat3;obtain ⟨g3,c3,rfl⟩:=ownsRow_succ hown3;have hgg:=gTrans hal hg3)
   have h3:Rest w3 X s (objsT (x::objs.drop (k+1)) tl):=h2.keep ⟨(hgg.block X (by omega) (fun e=>by have:=(World.ownsRow.lt hrow2 X e.symm).1;omega)).trans h2.ey.x,h2.ey.hp,h2.ey.hs⟩
   have F3:Fb X W w3:=⟨hgg.os.trans hF2.os,hgg.tape.trans hF2.tape,hgg.output.trans hF2.output,Nat.le_trans hF2.size hgg.size,fun b hb hne=>(hgg.block b (Nat.lt_of_lt_of_le hb hF2.size) (fun e=>by have:=(World.ownsRow.lt hrow2 b e.symm).1;have:=unh HSZ;omega)).trans (hF2.block b hb hne)⟩
   have hO:=object_r (k+1) x.1 x.2 o1 o2 o3 (l:=objsT (objs.drop (k+1)) tl) h3
   clear c1 hgg hal hat3 hg3
   go_wp2_with fail
   refine hO.mono ?_
   rintro _ w4 ⟨rfl,h4,F4⟩
   go_wp2_with fail
   go_roundw
   case rel=>
    have hq:=unh HQ
    refine ⟨k+1,_,_,rfl,by go_num,by omega,h4,?_,F3.trans F4⟩
    have e1:intsV ((List.range (k+1)).map (placeT s objs tl))=intsV ((List.range k).map (placeT s objs tl))++[.int .i64 (q:Int)]:=by rw [List.range_succ,List.map_append,← hq];unfold intsV;rw [List.map_append];rfl
    rw [e1]
    exact ownsRow_blockI hown3 (fun g hg=>F4.block g (World.ownsRow.lt hown3 g hg).2 (by have:=(World.ownsRow.lt hown3 g hg).1;omega))
   case measure=>simp [intOf];omega
  ·have hke:k=objs.length:=by omega
   subst hke
   rw [List.drop_length] at hr
   have hr':Rest wr X s ((⟨#[120,114,101,102,32]⟩:ByteArray).data.toList++(cnt++tabT pds (endT ad))):=by rw [← hTl,htl];exact hr
   obtain ⟨lC,hlC⟩:=tab_head pds ad
   have hI:=is_r ⟨#[120,114,101,102,32]⟩ hr'
   go_wp2_with fail
   refine hI.mono ?_
   rintro _ w2 ⟨rfl,h2,F2⟩
   have c1:=h2.ey.c1
   have had:=K.had
   have hcn:=K.hcnt
   have hadv:s.size - (cnt++tabT pds (endT ad)).length=digV ad 0+5:=by
    have h5:=hr'.pos
    rw [had.2,hTl]
    have e5:((⟨#[120,114,101,102,32]⟩:ByteArray).data.toList++(cnt++tabT pds (endT ad))).length=5+(cnt++tabT pds (endT ad)).length:=List.length_append
    rw [e5] at h5 ⊢
    omega
   rw [hadv] at c1
   have hv9:digV ad 0≤9000:=by rw [had.2];omega
   obtain ⟨av,hav⟩:∃ av,digV ad 0=av:=⟨_,rfl⟩
   rw [hav] at c1 hv9
   have HAV:=hid hav
   have h2':=h2
   rw [hlC] at h2
   have hrow2:w2.ownsRow (X+1) 3 1 (.slice a objs.length c) objs.length (intsV ((List.range objs.length).map (placeT s objs tl))):=ownsRow_blockI hrow (fun g hg=>F2.block g (World.ownsRow.lt hrow g hg).2 (by have:=(World.ownsRow.lt hrow g hg).1;omega))
   have hF2:=hF.trans F2
   have hNU:=number_r cnt 10 h2 hcn.1.1 hcn.1.2.1 hcn.1.2.2 (by decide)
   have k5:IntKind.i64.wrap (((av+5:Nat):Int) - 5)=(av:Int):=by rw [IntKind.wrap_i64];omega
   have HC:=hid hcn
   clear hr hr' hrow hF F2 c2 hadv hav hcn had
   go_wp2_with fail
   refine hNU.mono ?_
   rintro _ w3 ⟨rfl,h3,F3⟩
   rw [(unh HC).2]
   rw [← hlC] at h3
   have c2:=h3.ey.c2
   have f2:=h3.ey.f 2
   have hbd:=h3.bad
   obtain ⟨w4,hw4⟩:∃ w4,w3.setCell ⟨X,2,none⟩ (.bool false)=w4:=⟨_,rfl⟩
   rw [hw4] at hbd
   obtain ⟨h4,F4⟩:=hbd
   have hrow4:w4.ownsRow (X+1) 3 1 (.slice a objs.length c) objs.length (intsV ((List.range objs.length).map (placeT s objs tl))):=ownsRow_blockI hrow2 (fun g hg=>(F3.trans F4).block g (World.ownsRow.lt hrow2 g hg).2 (by have:=(World.ownsRow.lt hrow2 g hg).1;omega))
   have hF4:=hF2.trans (F3.trans F4)
   clear c1 hrow2 hF2 F3 F4 h2 h2' hNU
   go_upto_region 12 with fail
   first | rw [hw4] | skip
   clear c2 f2 h3 hw4
   go_wp2_with fail
   go_loopw [8] (fun iv wr=>∃ (i:Nat),iv=.int .i64 ((i:Nat):Int)∧i≤objs.length∧Rest wr X s (tabT (pds.drop i) (endT ad))∧wr.ownsRow (X+1) 3 1 (.slice a objs.length c) objs.length (intsV ((List.range objs.length).map (placeT s objs tl)))∧Fb X W wr)
    (fun iv _=>objs.length - (intOf iv).toNat)
   case atStart=>exact ⟨0,rfl,Nat.zero_le _,h4,hrow4,hF4⟩
   case round=>
    obtain ⟨i,rfl,hi,hr,hrow,hF⟩:=hrel
    clear h4 hrow4 hF4
    have c2:=hr.ey.c2
    by_cases hil:i < objs.length
    ·have hilI:(i:Int) < (objs.length:Int):=by omega
     obtain ⟨d,hd⟩:∃ d,pds[i]?=some d:=⟨pds[i]'(by rw [K.pln];exact hil),List.getElem?_eq_getElem _⟩
     have hdr:pds.drop i=d::pds.drop (i+1):=by
      have hl:i < pds.length:=by rw [K.pln];exact hil
      rw [List.drop_eq_getElem_cons hl]
      congr 1
      exact Option.some.inj ((List.getElem?_eq_getElem hl).symm.trans hd)
     obtain ⟨d1,d2⟩:=K.hpds i d hd
     rw [htl] at d2
     rw [hdr] at hr
     obtain ⟨lD,hlD⟩:=tab_head (pds.drop (i+1)) ad
     go_wp2_with fail
     refine (need_r ⟨#[10]⟩ (l:=d++tabT (pds.drop (i+1)) (endT ad)) hr).mono ?_
     rintro _ w5 ⟨rfl,h5,F5⟩
     rw [hlD] at h5
     go_wp2_with fail
     refine (number_r d 10 h5 d1.1 d1.2.1 d1.2.2 (by decide)).mono ?_
     rintro _ w6 ⟨rfl,h6,F6⟩
     rw [← hlD] at h6
     have hrow6:w6.ownsRow (X+1) 3 1 (.slice a objs.length c) objs.length (intsV ((List.range objs.length).map (placeT s objs tl))):=ownsRow_blockI hrow (fun g hg=>(F5.trans F6).block g (World.ownsRow.lt hrow g hg).2 (by have:=(World.ownsRow.lt hrow g hg).1;omega))
     rcases hrow6.2 with ⟨_,hn⟩ | ⟨g,cap,cur,e,hg1,hg2,hcap,_,_,hcl⟩
     ·omega
     ·have ea:a=some ⟨g,0,none⟩∧c=cap:=by simpa using e
      obtain ⟨rfl,rfl⟩:=ea
      have hcell:w6.cell? ⟨g,i,none⟩=some (.int .i64 ((digV d 0:Nat):Int)):=by
       have:=World.ownsRow.cells hrow6 (g:=g) rfl i (.int .i64 ((digV d 0:Nat):Int)) (by
        unfold intsV
        rw [List.getElem?_map,List.getElem?_map,List.getElem?_range hil,d2];rfl)
       rw [Addr.add_mid,Nat.zero_add] at this
       exact this
      have c2':=h6.ey.c2
      have f2:=h6.ey.f 2
      have hbd:=h6.bad
      obtain ⟨w7,hw7⟩:∃ w7,w6.setCell ⟨X,2,none⟩ (.bool false)=w7:=⟨_,rfl⟩
      rw [hw7] at hbd
      obtain ⟨h7,F7⟩:=hbd
      have hF7:=hF.trans (F5.trans (F6.trans F7))
      have hrow7:=ownsRow_blockI hrow6 (fun g hg=>F7.block g (World.ownsRow.lt hrow6 g hg).2 (by have:=(World.ownsRow.lt hrow6 g hg).1;omega))
      go_wp2_with fail
      go_roundw
      case rel=>exact ⟨i+1,by go_num,by omega,by first | exact h7 | (rw [hw7];exact h7),by first | exact hrow7 | (rw [hw7];exact hrow7),by first | exact hF7 | (rw [hw7];exact hF7)⟩
      case measure=>simp [intOf];omega
    ·have hilI:¬ (i:Int) < (objs.length:Int):=by omega
     have hie:i=pds.length:=by have:=K.pln;omega
     subst hie
     rw [List.drop_length] at hr
     have had:=K.had
     go_wp2_with fail
     refine (need_r ⟨#[10,114,111,111,116,32,49,10,97,116,32]⟩ (l:=ad++(⟨#[10,101,110,100,10]⟩:ByteArray).data.toList) hr).mono ?_
     rintro _ w5 ⟨rfl,h5,F5⟩
     go_wp2_with fail
     refine (number_r ad 10 (l:=[101,110,100,10]) h5 had.1.1 had.1.2.1 had.1.2.2 (by decide)).mono ?_
     rintro _ w6 ⟨rfl,h6,F6⟩
     rw [unh HAV]
     go_wp2_with fail
     refine (need_r ⟨#[10,101,110,100,10]⟩ (l:=[]) h6).mono ?_
     rintro _ w7 ⟨rfl,h7,F7⟩
     have c1:=h7.ey.c1
     have c2':=h7.ey.c2
     rw [show s.size - ([]:List UInt8).length=s.size from rfl] at c1
     go_wp2_with fail
     go_ret
     refine ⟨rfl,?_⟩
     rw [unh HX]
     exact hBX _ (hF.trans (F5.trans (F6.trans F7)))
end Go.Proofs.YtgffljllfenhkaaGreatDoor
end
section
namespace Go.Proofs.YtgffljllfenhkaaGreatDoor
theorem dec_digs (u:Nat):(∀ c ∈ Lib.decDigits u,isDig c=true)∧Lib.decDigits u≠[]∧digV (Lib.decDigits u) 0=u:=by
 induction u using Nat.strongRecOn with
 | _ u ih=>
  have hdig:∀ d,d < 10→isDig (UInt8.ofNat (48+d))=true∧(UInt8.ofNat (48+d)).toNat - 48=d:=by decide
  by_cases h:u < 10
  ·rw [Lib.decDigits,dif_pos h]
   refine ⟨fun c hc=>?_,by simp,?_⟩
   ·have:c=UInt8.ofNat (48+u):=by simpa using hc
    rw [this];exact (hdig u h).1
   ·simp only [digV]
    rw [(hdig u h).2];omega
  ·rw [Lib.decDigits,dif_neg h]
   obtain ⟨h1,h2,h3⟩:=ih (u / 10) (by omega)
   refine ⟨fun c hc=>?_,by simp,?_⟩
   ·rcases List.mem_append.1 hc with h4 | h4
    ·exact h1 c h4
    ·have:c=UInt8.ofNat (48+u % 10):=by simpa using h4
     rw [this];exact (hdig _ (Nat.mod_lt _ (by decide))).1
   ·rw [digV_app,h3]
    simp only [digV]
    rw [(hdig _ (Nat.mod_lt _ (by decide))).2]
    omega
theorem itoaB_list (n:Nat):(itoaB n).data.toList=Lib.decDigits n:=by
 unfold itoaB Lib.itoa
 rw [if_neg (by omega)]
 simp
theorem itoaB_digs (n:Nat) (h:n < 1000000):digsOk (itoaB n).data.toList∧digV (itoaB n).data.toList 0=n:=by
 rw [itoaB_list]
 obtain ⟨h1,h2,h3⟩:=dec_digs n
 refine ⟨⟨h1,h2,?_⟩,h3⟩
 rw [decDigits_len]
 exact nDigits_up 5 n h
theorem ntB_txt (neg:Bool) (m k:Nat) (h:leafOk (.num neg m k)):∃ e:NumT,e.ok∧(ntB neg m k).data.toList=e.b:=by
 obtain ⟨h1,h2⟩:m < 10 ^ 6 * 10 ^ k∧k≤3:=h
 unfold ntB
 by_cases hm:m=0
 ·rw [if_pos hm]
  exact ⟨⟨false,[48],none⟩,⟨⟨by decide,by simp,by decide⟩,fun fs e=>by cases e⟩,rfl⟩
 ·rw [if_neg hm]
  have hnd:Lib.nDigits m≤6+k:=by
   rw [← Nat.pow_add,show 6+k=5+k+1 by omega] at h1
   have:=nDigits_up (5+k) m h1
   omega
  unfold numT
  obtain ⟨t,ht⟩:∃ t,(Lib.decDigits m).take (sl (Lib.decDigits m) (Lib.nDigits m))=t:=⟨_,rfl⟩
  have hdg:∀ c ∈ t,isDig c=true:=fun c hc=>(dec_digs m).1 c (by rw [← ht] at hc;exact List.mem_of_mem_take hc)
  have htl:t.length≤Lib.nDigits m:=by rw [← ht,List.length_take,decDigits_len];omega
  rw [ht]
  obtain ⟨dp,hdp⟩:∃ dp:Int,(Lib.nDigits m:Int) - (k:Int)=dp:=⟨_,rfl⟩
  rw [hdp]
  have hrep:∀ n (c:UInt8),c ∈ List.replicate n (48:UInt8)→isDig c=true:=fun n c hc=>by rw [(List.mem_replicate.1 hc).2];decide
  refine ⟨⟨neg,if 0 < dp then t.take dp.toNat++List.replicate (dp.toNat - t.length) 48 else [48],if dp < t.length then some (List.replicate (-dp).toNat 48++t.drop dp.toNat) else none⟩,⟨?_,?_⟩,?_⟩
  ·show digsOk (if 0 < dp then t.take dp.toNat++List.replicate (dp.toNat - t.length) 48 else [48])
   split
   ·refine ⟨fun c hc=>?_,fun e=>?_,?_⟩
    ·rcases List.mem_append.1 hc with h4 | h4
     ·exact hdg c (List.mem_of_mem_take h4)
     ·exact hrep _ c h4
    ·have:=congrArg List.length e
     rw [List.length_append,List.length_take,List.length_replicate,List.length_nil] at this
     omega
    ·rw [List.length_append,List.length_take,List.length_replicate]
     omega
   ·exact ⟨by decide,by simp,by decide⟩
  ·intro fs e
   have e':(if dp < t.length then some (List.replicate (-dp).toNat 48++t.drop dp.toNat) else none)=some fs:=e
   split at e'
   ·cases e'
    refine ⟨fun c hc=>?_,fun e=>?_,?_⟩
    ·rcases List.mem_append.1 hc with h4 | h4
     ·exact hrep _ c h4
     ·exact hdg c (List.mem_of_mem_drop h4)
    ·have:=congrArg List.length e
     rw [List.length_append,List.length_replicate,List.length_drop] at this
     simp at this
     omega
    ·rw [List.length_append,List.length_replicate,List.length_drop]
     omega
   ·cases e'
  ·show (bstr (textF neg t dp)).data.toList=_
   unfold bstr textF NumT.b
   rw [List.append_assoc]
   by_cases hx:dp < (t.length:Int)
   ·simp only [if_pos hx]
   ·simp only [if_neg hx]
theorem putR_out:∀ (ts:List ByteArray) {out out':List UInt8} {b b':Nat},putR ts out b=.ok out' b'→out'=out++ts.flatMap (fun t=>t.data.toList)∧(out.length≤9000→out'.length≤9000)
 | [],out,out',b,b',h=>by simp only [putR,Res.ok.injEq] at h;rw [← h.1];simp
 | t::ts,out,out',b,b',h=>by
  simp only [putR] at h
  split at h
  ·cases h
  ·split at h
   ·cases h
   ·rename_i h1 h2
    obtain ⟨e,hl⟩:=putR_out ts h
    refine ⟨by rw [e,List.flatMap_cons,List.append_assoc],fun ho=>hl ?_⟩
    rw [List.length_append,len_data];omega
def leafB (nt:Bool→Nat→Nat→ByteArray) (v:Val):List UInt8:=((leafT nt v).getD []).flatMap (fun t=>t.data.toList)
def elT (nt:Bool→Nat→Nat→ByteArray):Bool→List Val→List UInt8
 | _,[]=>[]
 | f,v::l=>(if f then [] else [32])++(leafB nt v++elT nt false l)
theorem elemsW_out (nt:Bool→Nat→Nat→ByteArray):∀ (l:List Val) (i:Nat) {out out':List UInt8} {b b':Nat},elemsW nt i l out b=.ok out' b'→out'=out++elT nt (decide (i=0)) l∧(out.length≤9000→out'.length≤9000)
 | [],i,out,out',b,b',h=>by simp only [elemsW,Res.ok.injEq] at h;rw [← h.1];simp [elT]
 | v::l,i,out,out',b,b',h=>by
  simp only [elemsW] at h
  rcases hq:(if 0 < i then putR [spB] out b else .ok out b) with ⟨o1,b1⟩ | y
  ·rw [hq] at h
   simp only at h
   rcases hq2:putR ((leafT nt v).getD []) o1 b1 with ⟨o2,b2⟩ | y
   ·rw [hq2] at h
    obtain ⟨e1,l1⟩:=elemsW_out nt l (i+1) h
    obtain ⟨e2,l2⟩:=putR_out _ hq2
    by_cases hi:0 < i
    ·rw [if_pos hi] at hq
     obtain ⟨e3,l3⟩:=putR_out _ hq
     refine ⟨?_,fun ho=>l1 (l2 (l3 ho))⟩
     rw [e1,e2,e3]
     have e4:decide (i=0)=false:=by simp;omega
     have e5:decide (i+1=0)=false:=by simp
     rw [e4,e5]
     simp [elT,leafB,spB,List.append_assoc]
    ·rw [if_neg hi] at hq
     simp only [Res.ok.injEq] at hq
     refine ⟨?_,fun ho=>l1 (l2 (by rw [← hq.1];exact ho))⟩
     rw [e1,e2,← hq.1]
     have e4:decide (i=0)=true:=by simp;omega
     have e5:decide (i+1=0)=false:=by simp
     rw [e4,e5]
     simp [elT,leafB,List.append_assoc]
   ·rw [hq2] at h;cases h
  ·rw [hq] at h;cases h
def valB (nt:Bool→Nat→Nat→ByteArray):Val→List UInt8
 | .arr l=>91::(elT nt true l++[93])
 | v=>leafB nt v
theorem valW_out (nt:Bool→Nat→Nat→ByteArray) (v:Val) {out out':List UInt8} {b b':Nat} (h:valW nt v out b=.ok out' b'):out'=out++valB nt v∧(out.length≤9000→out'.length≤9000):=by
 cases v
 case arr l=>
  simp only [valW,arrW] at h
  rcases hq:putR [⟨#[91]⟩] out b with ⟨o1,b1⟩ | y
  ·rw [hq] at h
   simp only at h
   rcases hq2:elemsW nt 0 l o1 b1 with ⟨o2,b2⟩ | y
   ·rw [hq2] at h
    simp only at h
    obtain ⟨e1,l1⟩:=putR_out _ hq
    obtain ⟨e2,l2⟩:=elemsW_out nt l 0 hq2
    obtain ⟨e3,l3⟩:=putR_out _ h
    refine ⟨?_,fun ho=>l3 (l2 (l1 ho))⟩
    rw [e3,e2,e1]
    simp [valB,List.append_assoc]
   ·rw [hq2] at h;cases h
  ·rw [hq] at h;cases h
 all_goals (simp only [valW] at h;exact putR_out _ h)
def fldB (nt:Bool→Nat→Nat→ByteArray):List (ByteArray×Val)→List UInt8
 | []=>[]
 | f::l=>47::(f.1.data.toList++(valB nt f.2++fldB nt l))
theorem fieldsW_out (nt:Bool→Nat→Nat→ByteArray):∀ (l:List (ByteArray×Val)) {out out':List UInt8} {b b':Nat},fieldsW nt l out b=.ok out' b'→out'=out++fldB nt l∧(out.length≤9000→out'.length≤9000)
 | [],out,out',b,b',h=>by simp only [fieldsW,Res.ok.injEq] at h;rw [← h.1];simp [fldB]
 | (k,v)::l,out,out',b,b',h=>by
  simp only [fieldsW] at h
  rcases hq:putR [⟨#[47]⟩,k] out b with ⟨o1,b1⟩ | y
  ·rw [hq] at h
   simp only at h
   rcases hq2:valW nt v o1 b1 with ⟨o2,b2⟩ | y
   ·rw [hq2] at h
    obtain ⟨e1,l1⟩:=putR_out _ hq
    obtain ⟨e2,l2⟩:=valW_out nt v hq2
    obtain ⟨e3,l3⟩:=fieldsW_out nt l h
    refine ⟨?_,fun ho=>l3 (l2 (l1 ho))⟩
    rw [e3,e2,e1]
    simp [fldB,List.append_assoc]
   ·rw [hq2] at h;cases h
  ·rw [hq] at h;cases h
def stmB (ty st:ByteArray):List UInt8:=if ty=textB then 126::((itoaB st.size).data.toList++58::st.data.toList) else []
theorem objW_out (nt:Bool→Nat→Nat→ByteArray) {n:Nat} {ty st:ByteArray} {l:List (ByteArray×Val)} {out out':List UInt8} {b b':Nat} (h:objW nt n ty l st out b=.ok out' b') :
  out'=out++((itoaB n).data.toList++([32,60,60,47,84,121,112,101,47]++(ty.data.toList++(fldB nt l++(62::62::(stmB ty st++[59,10]))))))∧(out.length≤9000→out'.length≤9000):=by
 unfold objW at h
 rcases hq:putR [itoaB n,⟨#[32,60,60,47,84,121,112,101,47]⟩,ty] out b with ⟨o1,b1⟩ | y
 ·rw [hq] at h
  simp only at h
  rcases hq2:fieldsW nt l o1 b1 with ⟨o2,b2⟩ | y
  ·rw [hq2] at h
   simp only at h
   rcases hq3:putR [⟨#[62,62]⟩] o2 b2 with ⟨o3,b3⟩ | y
   ·rw [hq3] at h
    simp only at h
    obtain ⟨e1,l1⟩:=putR_out _ hq
    obtain ⟨e2,l2⟩:=fieldsW_out nt l hq2
    obtain ⟨e3,l3⟩:=putR_out _ hq3
    rcases hq4:(if ty=textB then putR [⟨#[126]⟩,itoaB st.size,⟨#[58]⟩,st] o3 b3 else .ok o3 b3) with ⟨o4,b4⟩ | y
    ·rw [hq4] at h
     simp only at h
     obtain ⟨e5,l5⟩:=putR_out _ h
     have h4:o4=o3++stmB ty st∧(o3.length≤9000→o4.length≤9000):=by
      unfold stmB
      split at hq4
      ·rename_i ht
       obtain ⟨e4,l4⟩:=putR_out _ hq4
       rw [if_pos ht]
       exact ⟨by rw [e4];simp,l4⟩
      ·rename_i ht
       simp only [Res.ok.injEq] at hq4
       rw [if_neg ht,← hq4.1]
       exact ⟨by simp,id⟩
     refine ⟨?_,fun ho=>l5 (h4.2 (l3 (l2 (l1 ho))))⟩
     rw [e5,h4.1,e3,e2,e1]
     simp [List.append_assoc]
    ·rw [hq4] at h;cases h
   ·rw [hq3] at h;cases h
  ·rw [hq2] at h;cases h
 ·rw [hq] at h;cases h
end Go.Proofs.YtgffljllfenhkaaGreatDoor
end
