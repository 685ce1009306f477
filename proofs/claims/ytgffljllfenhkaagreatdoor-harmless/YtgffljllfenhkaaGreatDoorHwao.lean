import Derived.Test.YtgffljllfenhkaaGreatDoorHwan
section
namespace Go.Proofs.YtgffljllfenhkaaGreatDoor
open Go.RowKit
attribute [local go_sem] Oper.semAt_some
variable {w w':World} {P B:Nat} {E:Env} {s s':St}
def objEnv (f:ByteArray) (at_:Nat):Env:=⟨false,f,at_⟩
def objFin:Out Obj1→Res Obj1
 | .no y=>.no y
 | .ok o s=>if 0 < s.d then .no (6,s.d) else if 0 < s.t then .no (7,s.t) else .ok o s.b
def objR (f:ByteArray) (at_ place num b:Nat):Res Obj1:=
 if place=0 then .ok {} b else if place < 5∨at_≤place then .no (5,place) else objFin (objectM (objEnv f at_) num ⟨b,place,0,0,0⟩)
theorem Tryz.sizeP:(Tryz.prog.info? 154).map (·.size)=some 8:=by kernel_rfl
theorem one_ps (f:ByteArray) (a b:Int) (B:Nat):(#[.string f,.int .i64 a,.int .i64 b,.func (.func 105) #[] #[],.func (.func 60) #[] #[.pointer (some ⟨B,0,none⟩),.pointer (some ⟨B+1,0,none⟩)],.int .i64 0,.int .i64 0,.int .i64 0]:Array Value).all (·.oneCell')=true:=by simp [Value.oneCell']
theorem At.new_obj {f:ByteArray} {b k at_:Nat} (hB:Bud w B b) (hP:w.heap.size=P) (hk:k≤at_) (ha:at_≤f.size) (hf:f.size≤9000) :
  At (w.alloc (.cells #[.string f,.int .i64 (k:Int),.int .i64 (at_:Int),.func (.func 105) #[] #[],.func (.func 60) #[] #[.pointer (some ⟨B,0,none⟩),.pointer (some ⟨B+1,0,none⟩)],.int .i64 0,.int .i64 0,.int .i64 0] 154)) P B (objEnv f at_) ⟨b,k,0,0,0⟩:=by
 have hlt:=hB.lt
 subst hP
 exact ⟨heap_alloc_new w _,(Below.heap_alloc _ _ _ (by omega)).trans hB.a,(Below.heap_alloc _ _ _ (by omega)).trans hB.y,by omega,hk,ha,hf,hB.hb⟩
theorem row_int {sl:Value} {base:Nat} {l:List Nat} (h:w.ownsRow base 3 1 sl l.length (intsV l)) (i p:Nat) (hi:l[i]?=some p) :
  ∃ g c,sl=.slice (some ⟨g,0,none⟩) l.length c∧w.cell? ⟨g,i,none⟩=some (.int .i64 (p:Int))∧g < w.heap.size:=by
 have hil:i < l.length:=(List.getElem?_eq_some_iff.1 hi).1
 have hc:∀ g,sl.ownBlock=some g→w.cell? ⟨g,i,none⟩=some (.int .i64 (p:Int)):=fun g hg=>
  by have:=World.ownsRow.cells h hg i _ (by unfold intsV;rw [List.getElem?_map,hi];rfl);rw [Addr.add_mid,Nat.zero_add] at this;exact this
 rcases h.2 with ⟨_,hn⟩ | ⟨g,cap,cur,e,_,hg,_⟩
 ·omega
 ·refine ⟨g,cap,e,hc g (by rw [e];rfl),(Array.getElem?_eq_some_iff.1 hg).1⟩
def z10O:Obj:=.cells #[.int .i64 0,.float .f64 0,.string ⟨#[]⟩,.int .i64 0,.slice none 0 0,.map none,.int .i64 0,.int .i64 0,.bool false,.string ⟨#[]⟩] 122
set_option maxHeartbeats 4000000 in
set_option maxRecDepth 100000 in
theorem readObject_any {T:Nat} {f:ByteArray} {b at_ root num place base:Nat} {sl:Value} {l:List Nat} (hFT:FT T w) (hTB:T≠B) (h22:22 < B) (hB:Bud w B b) (hf:f.size≤9000) (ha:at_≤f.size)
  (hrow:w.ownsRow base 3 1 sl l.length (intsV l)) (hl:l.length≤30) (hnum:1≤num) (hpl:l[num - 1]?=some place) (hp9:place≤9999) :
  Calls Tryz.prog 67 #[.string f,.agg #[.int .i64 (at_:Int),sl,.int .i64 (root:Int)],.int .i64 (num:Int),chg B] w (PostB B w (OQ w) (objR f at_ place num b)):=by
 unfold chg
 obtain ⟨g,cp,rfl,hcell,hg⟩:=row_int hrow (num - 1) place hpl
 have hnl:num - 1 < l.length:=(List.getElem?_eq_some_iff.1 hpl).1
 have hlt:=hB.lt
 have hTlt:=hFT.lt
 obtain ⟨dO,hd1,hd2⟩:=isStruct Tryz.agO
 obtain ⟨i9,hi9⟩:∃ i9,num - 1=i9:=⟨_,rfl⟩
 have hiI:(num:Int) - 1=(i9:Int):=by omega
 have hwr:IntKind.i64.wrap ((num:Int) - 1)=(i9:Int):=by rw [hiI];exact wraps_i64 _ (by omega) (by omega)
 have hlI:(i9:Int) < (l.length:Int):=by omega
 have hlN:i9 < l.length:=by omega
 rw [hi9] at hcell
 have HB1:=(hB.alloc (.cells #[.int .i64 (at_:Int),.slice (some ⟨g,0,none⟩) l.length cp,.int .i64 (root:Int)] 98)).alloc z10O
 have HF1:Fb B w ((w.alloc (.cells #[.int .i64 (at_:Int),.slice (some ⟨g,0,none⟩) l.length cp,.int .i64 (root:Int)] 98)).alloc z10O):=((Fb.refl _ _).alloc _).alloc _
 have hsz1:((w.alloc (.cells #[.int .i64 (at_:Int),.slice (some ⟨g,0,none⟩) l.length cp,.int .i64 (root:Int)] 98)).alloc z10O).heap.size=w.heap.size+2:=by simp
 have hT1:Tb ((w.alloc (.cells #[.int .i64 (at_:Int),.slice (some ⟨g,0,none⟩) l.length cp,.int .i64 (root:Int)] 98)).alloc z10O) w.heap.size at_ (.slice (some ⟨g,0,none⟩) l.length cp) root:=(Below.heap_alloc _ _ _ (by simp)).trans (heap_alloc_new w _)
 have hR1:((w.alloc (.cells #[.int .i64 (at_:Int),.slice (some ⟨g,0,none⟩) l.length cp,.int .i64 (root:Int)] 98)).alloc z10O).heap[w.heap.size+1]?=some z10O:=heap_alloc2_new w _ _
 have hc1:((w.alloc (.cells #[.int .i64 (at_:Int),.slice (some ⟨g,0,none⟩) l.length cp,.int .i64 (root:Int)] 98)).alloc z10O).cell? ⟨g,i9,none⟩=some (.int .i64 (place:Int)):=by
  rw [World.cell?_of_block (w:=w) ((Below.heap_alloc _ _ _ (by simp;omega)).trans (Below.heap_alloc _ _ _ hg))]
  exact hcell
 have t0:=hT1.c0
 have t1:=hT1.c1
 have hFT1:FT T _:=hFT.kept (w':=(w.alloc (.cells #[.int .i64 (at_:Int),.slice (some ⟨g,0,none⟩) l.length cp,.int .i64 (root:Int)] 98)).alloc z10O) (fun k hk=>(Below.heap_alloc _ _ _ (by simp;omega)).trans (Below.heap_alloc _ _ _ (by omega)))
 go_enter Tryz.func67,Tryz.ntmps67
 unfold z10O at t0 t1 hc1 hR1 hsz1 HB1 HF1 hFT1
 obtain ⟨w1,hw1⟩:∃ w1,(w.alloc (.cells #[.int .i64 (at_:Int),.slice (some ⟨g,0,none⟩) l.length cp,.int .i64 (root:Int)] 98)).alloc (.cells #[.int .i64 0,.float .f64 0,.string ⟨#[]⟩,.int .i64 0,.slice none 0 0,.map none,.int .i64 0,.int .i64 0,.bool false,.string ⟨#[]⟩] 122)=w1:=⟨_,rfl⟩
 rw [hw1] at t0 t1 hc1 hR1 hsz1 HB1 HF1 hFT1
 clear hT1 hi9 hcell
 by_cases hp0:place=0
 ·have HN:Hid (objR f at_ place num b=.ok {} b):=by show objR f at_ place num b=_;unfold objR;rw [if_pos hp0]
  have ip:((place:Int) == 0)=true:=by rw [hp0];rfl
  clear hp0
  go_wp2_with (refine wpList_store_row rfl 122 _ _ rfl (w.heap.size+1) _ rfl rfl 122 _ hR1 Tryz.sizeO rfl (one_ten0 0) ?_)
  refine bodyPost_ret (results_cell_row rfl _ _ (w.heap.size+1) 122 _ (0,0) dO rfl (setRow_heap _ _ _ _ _ _ hR1) hd1 (by cases dO <;> first | rfl | cases hd2) Tryz.sizeO) rfl ?_
  refine PostB.ok (unh HN) ⟨vC 0 0 ⟨#[]⟩ 0 (.slice none 0 0) (.map none),rfl,by unfold Rep;rfl⟩ (HB1.of_blocks (fun k hk=>setRow_other _ _ _ _ (by omega))) (HF1.setRow _ _ (by omega))
 ·have ip:((place:Int) == 0)=false:=by rw [beq_eq_false_iff_ne];omega
  by_cases hpb:place < 5∨at_≤place
  ·have HN:Hid (objR f at_ place num b=.no (5,place)):=by show objR f at_ place num b=_;unfold objR;rw [if_neg hp0,if_pos hpb]
   clear hp0
   have GU:=gobj_any (E:=objEnv f at_) w1 place rfl
   by_cases hp5:place < 5
   ·have i5:(place:Int) < 5:=by omega
    have i5':decide ((place:Int) < 5)=true:=by simp;omega
    clear hpb
    go_wp2_with fail
    refine GU.mono ?_
    rintro e w2 ⟨rfl,rfl⟩
    exact ⟨rfl,PostB.no (unh HN) HF1⟩
   ·have i5:¬ (place:Int) < 5:=by omega
    have i5':decide ((place:Int) < 5)=false:=by simp;omega
    have i6:(at_:Int)≤(place:Int):=by omega
    have i6':at_≤place:=by omega
    clear hpb
    go_wp2_with fail
    refine GU.mono ?_
    rintro e w2 ⟨rfl,rfl⟩
    exact ⟨rfl,PostB.no (unh HN) HF1⟩
  ·have i5:¬ (place:Int) < 5:=by omega
   have i5':decide ((place:Int) < 5)=false:=by simp;omega
   have i6:¬ (at_:Int)≤(place:Int):=by omega
   have i6':decide ((at_:Int)≤(place:Int))=false:=by simp;omega
   have i6'':decide (at_≤place)=false:=by simp;omega
   have HE0:Hid (objR f at_ place num b=objFin (objectM (objEnv f at_) num ⟨b,place,0,0,0⟩)):=by show objR f at_ place num b=_;unfold objR;rw [if_neg hp0,if_neg hpb]
   have hA2:=At.new_obj (k:=place) (at_:=at_) HB1 hsz1 (by omega) ha hf
   have F2:=HF1.alloc (.cells #[.string f,.int .i64 (place:Int),.int .i64 (at_:Int),.func (.func 105) #[] #[],.func (.func 60) #[] #[.pointer (some ⟨B,0,none⟩),.pointer (some ⟨B+1,0,none⟩)],.int .i64 0,.int .i64 0,.int .i64 0] 154)
   have hFT2:FT T _:=hFT1.kept (w':=w1.alloc (.cells #[.string f,.int .i64 (place:Int),.int .i64 (at_:Int),.func (.func 105) #[] #[],.func (.func 60) #[] #[.pointer (some ⟨B,0,none⟩),.pointer (some ⟨B+1,0,none⟩)],.int .i64 0,.int .i64 0,.int .i64 0] 154)) (fun k hk=>Below.heap_alloc _ _ _ (by omega))
   obtain ⟨w2,hw2⟩:∃ w2,w1.alloc (.cells #[.string f,.int .i64 (place:Int),.int .i64 (at_:Int),.func (.func 105) #[] #[],.func (.func 60) #[] #[.pointer (some ⟨B,0,none⟩),.pointer (some ⟨B+1,0,none⟩)],.int .i64 0,.int .i64 0,.int .i64 0] 154)=w2:=⟨_,rfl⟩
   have hs2:w2.heap.size=w.heap.size+3:=by rw [← hw2];simp;omega
   have hR2:w2.heap[w.heap.size+1]?=some (.cells #[.int .i64 0,.float .f64 0,.string ⟨#[]⟩,.int .i64 0,.slice none 0 0,.map none,.int .i64 0,.int .i64 0,.bool false,.string ⟨#[]⟩] 122):=by rw [← hw2];exact (Below.heap_alloc _ _ _ (by omega)).trans hR1
   rw [hw2] at hA2 F2 hFT2
   have HNEW:Hid (∀ x,(w1.alloc x).heap[w.heap.size+2]?=some x):=fun x=>by rw [← hsz1];exact heap_alloc_new w1 x
   have HS1:=hid hsz1
   have HW2:=hid hw2
   have OB:=object_any (P:=w.heap.size+2) (B:=B) (G:=FT T) (fun a b h1 h2=>h1.fz h2 ⟨by omega,hTB⟩ ⟨by omega,h22⟩) (number_any T ⟨by omega,hTB⟩ ⟨by omega,h22⟩) num (by omega) hFT2 rfl hA2 (Nat.zero_le _)
   clear hw2 hp0 hpb hA2 hFT2 hFT1
   rcases q3:objectM (objEnv f at_) num ⟨b,place,0,0,0⟩ with ⟨o,s3⟩ | y
   ·go_wp2_with (refine wpList_store_row rfl 154 _ _ rfl (w.heap.size+2) _ rfl rfl 154 _ (unh HNEW _) Tryz.sizeP rfl (one_ps _ _ _ _) ?_;rw [setRow_at w1 _ (unh HS1),unh HW2])
    refine (Post.okC OB q3).mono ?_
    rintro e w3 ⟨v3,rfl,⟨cs,rfl,hRep⟩,h3,G3⟩
    obtain ⟨kk,xx,tt,rr,aa,nn,cc,mm,rfl⟩:=hRep.shape
    have hz3:=G3.size
    have F3:=F2.fz G3 (by omega)
    have hR3:w3.heap[w.heap.size+1]?=some (.cells #[.int .i64 0,.float .f64 0,.string ⟨#[]⟩,.int .i64 0,.slice none 0 0,.map none,.int .i64 0,.int .i64 0,.bool false,.string ⟨#[]⟩] 122):=(G3.block _ (by omega) (by omega) (by omega)).trans hR2
    have h4:=h3.alloc (.cells #[.int .i64 (kk:Int),.float .f64 xx,.string tt,.int .i64 (rr:Int),.slice aa nn cc,.map mm,.int .i64 (o.place:Int),.int .i64 (o.fin:Int),.bool o.has,.string o.stream] 122)
    have d6:=h4.c6 rfl
    have d7:=h4.c7 rfl
    have F4:=F3.alloc (.cells #[.int .i64 (kk:Int),.float .f64 xx,.string tt,.int .i64 (rr:Int),.slice aa nn cc,.map mm,.int .i64 (o.place:Int),.int .i64 (o.fin:Int),.bool o.has,.string o.stream] 122)
    have hO4:(w3.alloc (.cells #[.int .i64 (kk:Int),.float .f64 xx,.string tt,.int .i64 (rr:Int),.slice aa nn cc,.map mm,.int .i64 (o.place:Int),.int .i64 (o.fin:Int),.bool o.has,.string o.stream] 122)).heap[w3.heap.size]?=some (.cells #[.int .i64 (kk:Int),.float .f64 xx,.string tt,.int .i64 (rr:Int),.slice aa nn cc,.map mm,.int .i64 (o.place:Int),.int .i64 (o.fin:Int),.bool o.has,.string o.stream] 122 (0,0)):=heap_alloc_new w3 _
    have hR4:(w3.alloc (.cells #[.int .i64 (kk:Int),.float .f64 xx,.string tt,.int .i64 (rr:Int),.slice aa nn cc,.map mm,.int .i64 (o.place:Int),.int .i64 (o.fin:Int),.bool o.has,.string o.stream] 122)).heap[w.heap.size+1]?=some (.cells #[.int .i64 0,.float .f64 0,.string ⟨#[]⟩,.int .i64 0,.slice none 0 0,.map none,.int .i64 0,.int .i64 0,.bool false,.string ⟨#[]⟩] 122):=(Below.heap_alloc _ _ _ (by omega)).trans hR3
    have hRep4:Rep (w3.alloc (.cells #[.int .i64 (kk:Int),.float .f64 xx,.string tt,.int .i64 (rr:Int),.slice aa nn cc,.map mm,.int .i64 (o.place:Int),.int .i64 (o.fin:Int),.bool o.has,.string o.stream] 122)) (fun b=>w.heap.size+3≤b∧b < w3.heap.size) o.v (vC kk xx tt rr (.slice aa nn cc) (.map mm)):=Rep.kept (fun b hb=>⟨⟨by have:=hb.1;omega,hb.2⟩,Below.heap_alloc _ _ _ hb.2⟩) o.v hRep
    have hz4:(w3.alloc (.cells #[.int .i64 (kk:Int),.float .f64 xx,.string tt,.int .i64 (rr:Int),.slice aa nn cc,.map mm,.int .i64 (o.place:Int),.int .i64 (o.fin:Int),.bool o.has,.string o.stream] 122)).heap.size=w3.heap.size+1:=by simp
    obtain ⟨w4,hw4⟩:∃ w4,w3.alloc (.cells #[.int .i64 (kk:Int),.float .f64 xx,.string tt,.int .i64 (rr:Int),.slice aa nn cc,.map mm,.int .i64 (o.place:Int),.int .i64 (o.fin:Int),.bool o.has,.string o.stream] 122)=w4:=⟨_,rfl⟩
    rw [hw4] at h4 d6 d7 F4 hO4 hR4 hRep4 hz4
    have HW4:=hid hw4
    clear hw4 hRep hR3 hR2 hR1
    simp only [vC,List.cons_append,List.nil_append]
    by_cases hd:0 < s3.d
    ·have HN:Hid (objR f at_ place num b=.no (6,s3.d)):=(unh HE0).trans (by rw [q3];simp [objFin,hd])
     have id:(0:Int) < (s3.d:Int):=by omega
     go_wp2_with (refine wpList_store_row rfl 122 _ _ rfl w3.heap.size _ rfl rfl 122 _ (heap_alloc_new w3 _) Tryz.sizeO rfl (one_ten _ _ _ _ rfl rfl rfl rfl _ _ _ _ _ _ _ _) ?_;rw [setRow_alloc,unh HW4])
     refine (refuse_any _ _ _).mono ?_
     rintro e w5 ⟨rfl,rfl⟩
     exact ⟨rfl,PostB.no (unh HN) F4⟩
    ·have id:¬ (0:Int) < (s3.d:Int):=by omega
     by_cases htw:0 < s3.t
     ·have HN:Hid (objR f at_ place num b=.no (7,s3.t)):=(unh HE0).trans (by rw [q3];simp [objFin,hd,htw])
      have it:(0:Int) < (s3.t:Int):=by omega
      go_wp2_with (refine wpList_store_row rfl 122 _ _ rfl w3.heap.size _ rfl rfl 122 _ (heap_alloc_new w3 _) Tryz.sizeO rfl (one_ten _ _ _ _ rfl rfl rfl rfl _ _ _ _ _ _ _ _) ?_;rw [setRow_alloc,unh HW4])
      refine (refuse_any _ _ _).mono ?_
      rintro e w5 ⟨rfl,rfl⟩
      exact ⟨rfl,PostB.no (unh HN) F4⟩
     ·have HN:Hid (objR f at_ place num b=.ok o s3.b):=(unh HE0).trans (by rw [q3];simp [objFin,hd,htw])
      have it:¬ (0:Int) < (s3.t:Int):=by omega
      go_wp2_with (first | (refine wpList_store_row rfl 122 _ _ rfl w3.heap.size _ rfl rfl 122 _ (heap_alloc_new w3 _) Tryz.sizeO rfl (one_ten _ _ _ _ rfl rfl rfl rfl _ _ _ _ _ _ _ _) ?_;rw [setRow_alloc,unh HW4]) | (refine load_row rfl 122 _ rfl w3.heap.size rfl 122 _ (0,0) hO4 Tryz.agO Tryz.sizeO ?_) | (refine wpList_store_row rfl 122 _ _ rfl (w.heap.size+1) _ rfl rfl 122 _ hR4 Tryz.sizeO rfl (one_ten _ _ _ _ rfl rfl rfl rfl _ _ _ _ _ _ _ _) ?_))
      refine bodyPost_ret (results_cell_row rfl _ _ (w.heap.size+1) 122 _ (0,0) dO rfl (setRow_heap _ _ _ _ _ _ hR4) hd1 (by cases dO <;> first | rfl | cases hd2) Tryz.sizeO) rfl ?_
      refine PostB.ok (unh HN) ⟨vC kk xx tt rr (.slice aa nn cc) (.map mm),rfl,Rep.kept (fun b hb=>?_) o.v hRep4⟩ (h4.bud.of_blocks (fun k hk=>setRow_other _ _ _ _ (by omega))) (F4.setRow _ _ (by omega))
      exact ⟨⟨by have:=hb.1;omega,by rw [setRow_size];have:=hb.2;omega⟩,setRow_other _ _ _ _ (by have:=hb.1;omega)⟩
   ·have HN:Hid (objR f at_ place num b=.no y):=(unh HE0).trans (by rw [q3];rfl)
    go_wp2_with (refine wpList_store_row rfl 154 _ _ rfl (w.heap.size+2) _ rfl rfl 154 _ (unh HNEW _) Tryz.sizeP rfl (one_ps _ _ _ _) ?_;rw [setRow_at w1 _ (unh HS1),unh HW2])
    refine (Post.noC OB q3).mono ?_
    rintro e w3 ⟨rfl,G3⟩
    exact ⟨rfl,PostB.no (unh HN) (F2.fz G3 (by omega))⟩
end Go.Proofs.YtgffljllfenhkaaGreatDoor
end
section
namespace Go.Proofs.YtgffljllfenhkaaGreatDoor
open Go.RowKit
attribute [local go_sem] Oper.semAt_some
variable {w w':World} {S:Nat→Prop}
theorem ba_loop (bs:ByteArray):∀ (n i:Nat) (r:List UInt8),bs.size - i=n→ByteArray.toList.loop bs i r=r.reverse++bs.data.toList.drop i
 | 0,i,r,h=>by
  unfold ByteArray.toList.loop
  rw [if_neg (by omega),List.drop_eq_nil_of_le (by rw [Array.length_toList];show bs.size≤i;omega),List.append_nil]
 | n+1,i,r,h=>by
  unfold ByteArray.toList.loop
  rw [if_pos (by omega),ba_loop bs n (i+1) _ (by omega)]
  have hl:i < bs.data.toList.length:=by rw [Array.length_toList];show i < bs.size;omega
  rw [List.drop_eq_getElem_cons hl,List.reverse_cons,List.append_assoc]
  have hs:i < bs.data.size:=by rw [← Array.length_toList];exact hl
  have e:bs.get! i=bs.data.toList[i]:=by
   show bs.data[i]! = _
   rw [getElem!_pos bs.data i hs];rfl
  rw [e];rfl
theorem ba_toList (bs:ByteArray):bs.toList=bs.data.toList:=by
 unfold ByteArray.toList
 rw [ba_loop bs _ 0 [] rfl];rfl
theorem str_eq (t u:ByteArray):(t.toList == u.toList)=(t == u):=by
 rw [ba_toList,ba_toList]
 by_cases h:t=u
 ·rw [h,beqB rfl];simp
 ·rw [beqB' h,beq_eq_false_iff_ne]
  intro e
  apply h
  obtain ⟨x⟩:=t
  obtain ⟨y⟩:=u
  simp only [] at e
  rw [Array.toList_inj.1 e]
def vget:Val→ByteArray→Val
 | .dict l,a=>(dget l a).getD .none
 | _,_=>.none
def isNameB:Val→ByteArray→Bool
 | .name u,t=>u == t
 | _,_=>false
theorem Tryz.nilLook (w:World) (a:ByteArray) (c:Bool):(Instr.lookup 118 (.map none) (.string a) c).run Tryz.prog w=.ok (if c then .tuple #[zeroV,.bool false] else zeroV) w:=by
 cases c <;> first | kernel_rfl | rfl
theorem vC_m {k k' x x':Nat} {t t':ByteArray} {r r':Nat} {sl sl' m m':Value} (h:vC k x t r sl m=vC k' x' t' r' sl' m'):k=k'∧x=x'∧t=t'∧r=r'∧sl=sl'∧m=m':=by
 unfold vC at h
 simp at h
 obtain ⟨h1,h2,h3,h4,h5,h6⟩:=h
 exact ⟨by omega,h2,h3,by omega,h5,h6⟩
theorem Rep.look {v:Val} {k x:Nat} {t:ByteArray} {r:Nat} {sl m:Value} (h:Rep w S v (vC k x t r sl m)) (a:ByteArray) (ha:a.size≤maxLen) :
  ∃ (k' x':Nat) (t':ByteArray) (r':Nat) (b:Option Addr) (n c:Nat) (m':Option Nat),(Instr.lookup 118 m (.string a) false).run Tryz.prog w=.ok (.agg #[.int .i64 (k':Int),.float .f64 x',.string t',.int .i64 (r':Int),.slice b n c,.map m']) w∧Rep w S (vget v a) (vC k' x' t' r' (.slice b n c) (.map m')):=by
 have nil:m=.map none→vget v a=.none→∃ (k' x':Nat) (t':ByteArray) (r':Nat) (b:Option Addr) (n c:Nat) (m':Option Nat),(Instr.lookup 118 m (.string a) false).run Tryz.prog w=.ok (.agg #[.int .i64 (k':Int),.float .f64 x',.string t',.int .i64 (r':Int),.slice b n c,.map m']) w∧Rep w S (vget v a) (vC k' x' t' r' (.slice b n c) (.map m')):=by
  intro e1 e2
  rw [e1,e2]
  exact ⟨0,0,⟨#[]⟩,0,none,0,0,none,Tryz.nilLook w a false,by unfold Rep;rfl⟩
 cases v
 case dict l=>
  unfold Rep at h
  obtain ⟨M,n,f,e,hM,hV,hk,hD⟩:=h
  obtain ⟨_,_,_,_,_,rfl⟩:=vC_m e
  have hl:=hV.look a ha false
  show ∃ (k' x':Nat) (t':ByteArray) (r':Nat) (b:Option Addr) (n c:Nat) (m':Option Nat),_∧Rep w S ((dget l a).getD .none) _
  rcases hg:dget l a with _ | y
  ·have h1:=dget_some a l
   rw [hg,← hk a] at h1
   rcases hf:f a with _ | u
   ·rw [hf] at hl
    exact ⟨0,0,⟨#[]⟩,0,none,0,0,none,hl,by unfold Rep;rfl⟩
   ·rw [hf] at h1;cases h1
  ·obtain ⟨cs,hf,hr⟩:=RepD.get l hD y hg
   obtain ⟨k',x',t',r',b,n',c,m',rfl⟩:=hr.shape
   rw [hf] at hl
   exact ⟨k',x',t',r',b,n',c,m',hl,hr⟩
 case arr l=>
  unfold Rep at h
  obtain ⟨sl',xs,e,_⟩:=h
  exact nil (vC_m e).2.2.2.2.2 rfl
 all_goals
  unfold Rep at h
  exact nil (vC_m h).2.2.2.2.2 rfl
theorem Rep.name {v:Val} {k x:Nat} {t:ByteArray} {r:Nat} {sl m:Value} (h:Rep w S v (vC k x t r sl m)) (u:ByteArray):isNameB v u=(decide (k=6) && (t == u)):=by
 cases v <;> unfold Rep at h
 case arr l=>obtain ⟨_,_,e,_⟩:=h;rw [(vC_m e).1];rfl
 case dict l=>obtain ⟨_,_,_,e,_⟩:=h;rw [(vC_m e).1];rfl
 case name y=>rw [(vC_m h).1,(vC_m h).2.2.1];rfl
 all_goals (rw [(vC_m h).1];rfl)
set_option maxHeartbeats 1000000 in
theorem isName_any (w:World) (k x:Nat) (t:ByteArray) (r:Nat) (b:Option Addr) (n c:Nat) (m:Option Nat) (u:ByteArray) :
  Calls Tryz.prog 108 #[.agg #[.int .i64 (k:Int),.float .f64 x,.string t,.int .i64 (r:Int),.slice b n c,.map m],.string u] w fun e w'=>e=.returned (.bool (decide (k=6) && (t == u)))∧Below w.heap.size w w':=by
 have hB:Below w.heap.size w (w.alloc (.cells #[.int .i64 (k:Int),.float .f64 x,.string t,.int .i64 (r:Int),.slice b n c,.map m] 120)):=(Below.refl _ _).alloc (Nat.le_refl _) _
 have c0:(w.alloc (.cells #[.int .i64 (k:Int),.float .f64 x,.string t,.int .i64 (r:Int),.slice b n c,.map m] 120)).cell? ⟨w.heap.size,0,none⟩=some (.int .i64 (k:Int)):=by simp only [World.cell?];rw [heap_alloc_new];rfl
 have c2:(w.alloc (.cells #[.int .i64 (k:Int),.float .f64 x,.string t,.int .i64 (r:Int),.slice b n c,.map m] 120)).cell? ⟨w.heap.size,2,none⟩=some (.string t):=by simp only [World.cell?];rw [heap_alloc_new];rfl
 by_cases hk:k=6
 ·have ik:((k:Int) == 6)=true:=beqI hk
  have hse:=str_eq t u
  obtain ⟨q,hq⟩:∃ q,(t == u)=q:=⟨_,rfl⟩
  rw [hq] at hse
  have e:(decide (k=6) && (t == u))=q:=by rw [hq];simp [hk]
  rw [e]
  clear e hk hq
  go_enter Tryz.func108,Tryz.ntmps108
  go_wp2_with fail
  go_ret
  exact ⟨rfl,hB⟩
 ·have ik:((k:Int) == 6)=false:=beqI' hk
  have e:(decide (k=6) && (t == u))=false:=by simp [hk]
  rw [e]
  clear e hk
  go_enter Tryz.func108,Tryz.ntmps108
  go_wp2_with fail
  go_ret
  exact ⟨rfl,hB⟩
end Go.Proofs.YtgffljllfenhkaaGreatDoor
end
section
namespace Go.Proofs.YtgffljllfenhkaaGreatDoor
open Go.RowKit
attribute [local go_sem] Oper.semAt_some
variable {w w':World} {S:Nat→Prop}
def rootB:ByteArray:=⟨#[82,111,111,116]⟩
def pageB:ByteArray:=⟨#[80,97,103,101]⟩
def textB:ByteArray:=⟨#[84,101,120,116]⟩
def typeB:ByteArray:=⟨#[84,121,112,101]⟩
def matchT (o:Obj1) (t:ByteArray) (st:Bool):Bool:=isNameB (vget o.v typeB) t && (o.has == st)
def tname (o:Obj1):ByteArray:=if matchT o rootB false then rootB else if matchT o pageB false then pageB else if matchT o textB true then textB else ByteArray.empty
set_option maxHeartbeats 4000000 in
set_option maxRecDepth 100000 in
theorem typeName_any (o : Obj1) {kk xx : Nat} {tt : ByteArray} {rr : Nat} {aa : Option Addr} {nn cc : Nat} {mm : Option Nat} (hR : Rep w S o.v (vC kk xx tt rr (.slice aa nn cc) (.map mm))) (hS : ∀ b, S b → b < w.heap.size) :
    Calls Tryz.prog 107 #[.agg #[.int .i64 (kk : Int), .float .f64 xx, .string tt, .int .i64 (rr : Int), .slice aa nn cc, .map mm, .int .i64 (o.place : Int), .int .i64 (o.fin : Int), .bool o.has, .string o.stream]] w fun e w' => e = .returned (.string (tname o)) ∧ Below w.heap.size w w' := by
  have hR1 : Rep (w.alloc (.cells #[.int .i64 (kk : Int), .float .f64 xx, .string tt, .int .i64 (rr : Int), .slice aa nn cc, .map mm, .int .i64 (o.place : Int), .int .i64 (o.fin : Int), .bool o.has, .string o.stream] 122)) S o.v (vC kk xx tt rr (.slice aa nn cc) (.map mm)) := Rep.kept (fun b hb => ⟨hb, Below.heap_alloc _ _ _ (hS b hb)⟩) o.v hR
  obtain ⟨k2, x2, t2, r2, b2, n2, c2, m2, hlk, hR2⟩ := hR1.look typeB (by unfold maxLen; decide)
  have hnm := fun u => hR2.name u
  unfold typeB at hlk
  have c5 : (w.alloc (.cells #[.int .i64 (kk : Int), .float .f64 xx, .string tt, .int .i64 (rr : Int), .slice aa nn cc, .map mm, .int .i64 (o.place : Int), .int .i64 (o.fin : Int), .bool o.has, .string o.stream] 122)).cell? ⟨w.heap.size, 5, none⟩ = some (.map mm) := by simp only [World.cell?]; rw [heap_alloc_new]; rfl
  have hB2 : Below w.heap.size w (((w.alloc (.cells #[.int .i64 (kk : Int), .float .f64 xx, .string tt, .int .i64 (rr : Int), .slice aa nn cc, .map mm, .int .i64 (o.place : Int), .int .i64 (o.fin : Int), .bool o.has, .string o.stream] 122)).alloc (.cells #[.int .i64 (k2 : Int), .float .f64 x2, .string t2, .int .i64 (r2 : Int), .slice b2 n2 c2, .map m2] 120)).alloc (.cells #[.string ⟨#[82, 111, 111, 116]⟩, .string ⟨#[80, 97, 103, 101]⟩, .string ⟨#[84, 101, 120, 116]⟩] 9)) := (((Below.refl _ _).alloc (Nat.le_refl _) _).alloc (by simp) _).alloc (by simp; omega) _
  have hz2 : (((w.alloc (.cells #[.int .i64 (kk : Int), .float .f64 xx, .string tt, .int .i64 (rr : Int), .slice aa nn cc, .map mm, .int .i64 (o.place : Int), .int .i64 (o.fin : Int), .bool o.has, .string o.stream] 122)).alloc (.cells #[.int .i64 (k2 : Int), .float .f64 x2, .string t2, .int .i64 (r2 : Int), .slice b2 n2 c2, .map m2] 120)).alloc (.cells #[.string ⟨#[82, 111, 111, 116]⟩, .string ⟨#[80, 97, 103, 101]⟩, .string ⟨#[84, 101, 120, 116]⟩] 9)).heap.size = w.heap.size + 3 := by simp
  have hb0 : (((w.alloc (.cells #[.int .i64 (kk : Int), .float .f64 xx, .string tt, .int .i64 (rr : Int), .slice aa nn cc, .map mm, .int .i64 (o.place : Int), .int .i64 (o.fin : Int), .bool o.has, .string o.stream] 122)).alloc (.cells #[.int .i64 (k2 : Int), .float .f64 x2, .string t2, .int .i64 (r2 : Int), .slice b2 n2 c2, .map m2] 120)).alloc (.cells #[.string ⟨#[82, 111, 111, 116]⟩, .string ⟨#[80, 97, 103, 101]⟩, .string ⟨#[84, 101, 120, 116]⟩] 9)).heap[w.heap.size]? = some (.cells #[.int .i64 (kk : Int), .float .f64 xx, .string tt, .int .i64 (rr : Int), .slice aa nn cc, .map mm, .int .i64 (o.place : Int), .int .i64 (o.fin : Int), .bool o.has, .string o.stream] 122 (0, 0)) := (Below.heap_alloc _ _ _ (by simp; omega)).trans ((Below.heap_alloc _ _ _ (by simp)).trans (heap_alloc_new w _))
  have hb1 : (((w.alloc (.cells #[.int .i64 (kk : Int), .float .f64 xx, .string tt, .int .i64 (rr : Int), .slice aa nn cc, .map mm, .int .i64 (o.place : Int), .int .i64 (o.fin : Int), .bool o.has, .string o.stream] 122)).alloc (.cells #[.int .i64 (k2 : Int), .float .f64 x2, .string t2, .int .i64 (r2 : Int), .slice b2 n2 c2, .map m2] 120)).alloc (.cells #[.string ⟨#[82, 111, 111, 116]⟩, .string ⟨#[80, 97, 103, 101]⟩, .string ⟨#[84, 101, 120, 116]⟩] 9)).heap[w.heap.size + 1]? = some (.cells #[.int .i64 (k2 : Int), .float .f64 x2, .string t2, .int .i64 (r2 : Int), .slice b2 n2 c2, .map m2] 120 (0, 0)) := (Below.heap_alloc _ _ _ (by simp)).trans (heap_alloc2_new w _ _)
  have hb2 : (((w.alloc (.cells #[.int .i64 (kk : Int), .float .f64 xx, .string tt, .int .i64 (rr : Int), .slice aa nn cc, .map mm, .int .i64 (o.place : Int), .int .i64 (o.fin : Int), .bool o.has, .string o.stream] 122)).alloc (.cells #[.int .i64 (k2 : Int), .float .f64 x2, .string t2, .int .i64 (r2 : Int), .slice b2 n2 c2, .map m2] 120)).alloc (.cells #[.string ⟨#[82, 111, 111, 116]⟩, .string ⟨#[80, 97, 103, 101]⟩, .string ⟨#[84, 101, 120, 116]⟩] 9)).heap[w.heap.size + 2]? = some (.cells #[.string ⟨#[82, 111, 111, 116]⟩, .string ⟨#[80, 97, 103, 101]⟩, .string ⟨#[84, 101, 120, 116]⟩] 9 (0, 0)) := by
    have := heap_alloc_new ((w.alloc (.cells #[.int .i64 (kk : Int), .float .f64 xx, .string tt, .int .i64 (rr : Int), .slice aa nn cc, .map mm, .int .i64 (o.place : Int), .int .i64 (o.fin : Int), .bool o.has, .string o.stream] 122)).alloc (.cells #[.int .i64 (k2 : Int), .float .f64 x2, .string t2, .int .i64 (r2 : Int), .slice b2 n2 c2, .map m2] 120)) (.cells #[.string ⟨#[82, 111, 111, 116]⟩, .string ⟨#[80, 97, 103, 101]⟩, .string ⟨#[84, 101, 120, 116]⟩] 9)
    simpa using this
  clear hR hR1 hR2
  go_enter Tryz.func107, Tryz.ntmps107
  go_wp2_with (refine wpList_store_row rfl 120 _ _ rfl (w.heap.size + 1) _ rfl rfl 120 _ (heap_alloc2_new w _ _) Tryz.sizeV rfl (one_six _ _ _ _ _ _ _ _) ?_; rw [setRow_alloc2])
  obtain ⟨W2, hW2⟩ : ∃ W2, ((w.alloc (.cells #[.int .i64 (kk : Int), .float .f64 xx, .string tt, .int .i64 (rr : Int), .slice aa nn cc, .map mm, .int .i64 (o.place : Int), .int .i64 (o.fin : Int), .bool o.has, .string o.stream] 122)).alloc (.cells #[.int .i64 (k2 : Int), .float .f64 x2, .string t2, .int .i64 (r2 : Int), .slice b2 n2 c2, .map m2] 120)).alloc (.cells #[.string ⟨#[82, 111, 111, 116]⟩, .string ⟨#[80, 97, 103, 101]⟩, .string ⟨#[84, 101, 120, 116]⟩] 9) = W2 := ⟨_, rfl⟩
  rw [hW2] at hB2 hz2 hb0 hb1 hb2 ⊢
  clear hW2 hlk c5
  go_loopw [12] (fun v wr => ∃ i : Nat, v = .int .i64 (i : Int) ∧ i ≤ 3 ∧ Below (w.heap.size + 3) W2 wr ∧ (0 < i → Hid (matchT o rootB false = false)) ∧ (1 < i → Hid (matchT o pageB false = false)) ∧ (2 < i → Hid (matchT o textB true = false)))
    (fun v _ => 3 - (intOf v).toNat)
  case atStart => exact ⟨0, rfl, by omega, Below.refl _ _, by omega, by omega, by omega⟩
  case round =>
    obtain ⟨i, rfl, hi3, hB, e0, e1, e2⟩ := hrel
    have hg0 := (hB.block w.heap.size (by omega)).trans hb0
    have hg1 := (hB.block (w.heap.size + 1) (by omega)).trans hb1
    have hg2 := (hB.block (w.heap.size + 2) (by omega)).trans hb2
    have s0 : wr.cell? ⟨w.heap.size + 2, 0, none⟩ = some (.string ⟨#[82, 111, 111, 116]⟩) := by simp [World.cell?, hg2]
    have s1 : wr.cell? ⟨w.heap.size + 2, 1, none⟩ = some (.string ⟨#[80, 97, 103, 101]⟩) := by simp [World.cell?, hg2]
    have s2 : wr.cell? ⟨w.heap.size + 2, 2, none⟩ = some (.string ⟨#[84, 101, 120, 116]⟩) := by simp [World.cell?, hg2]
    have hsr := hB.size
    have r0 : ((⟨#[82, 111, 111, 116]⟩ : ByteArray).toList == (⟨#[84, 101, 120, 116]⟩ : ByteArray).toList) = false := by rw [str_eq]; decide
    have r1 : ((⟨#[80, 97, 103, 101]⟩ : ByteArray).toList == (⟨#[84, 101, 120, 116]⟩ : ByteArray).toList) = false := by rw [str_eq]; decide
    have r2' : ((⟨#[84, 101, 120, 116]⟩ : ByteArray).toList == (⟨#[84, 101, 120, 116]⟩ : ByteArray).toList) = true := by rw [str_eq]; decide
    rcases (by omega : i = 0 ∨ i = 1 ∨ i = 2 ∨ i = 3) with rfl | rfl | rfl | rfl
    · have hq := hnm rootB
      rcases hqb : (decide (k2 = 6) && (t2 == rootB)) with _ | _
      · have hm : Hid (matchT o rootB false = false) := by show matchT o rootB false = false; unfold matchT; rw [hq, hqb]; rfl
        have IN := fun W => isName_any W k2 x2 t2 r2 b2 n2 c2 m2 rootB
        rw [hqb] at IN
        unfold rootB at IN
        clear hq hqb hnm
        go_wp2_with (first | (go_at_call 108; refine (IN _).mono ?_; rintro e w3 ⟨rfl, hB3⟩) | (refine load_row rfl 120 _ rfl (w.heap.size + 1) rfl 120 _ (0, 0) hg1 Tryz.agV Tryz.sizeV ?_))
        go_roundw
        case rel => exact ⟨1, rfl, by omega, hB.trans (hB3.mono (by omega)), fun _ => hm, fun h => by omega, fun h => by omega⟩
        case measure => simp [intOf]
      · have IN := fun W => isName_any W k2 x2 t2 r2 b2 n2 c2 m2 rootB
        rw [hqb] at IN
        unfold rootB at IN
        rcases hh : o.has with _ | _
        all_goals
          have hm0 := hq.trans hqb
          clear hq hqb hnm
          go_wp2_with (first | (go_at_call 108; refine (IN _).mono ?_; rintro e w3 ⟨rfl, hB3⟩; have hg3 := (hB3.block w.heap.size (by omega)).trans hg0; have h8 : w3.cell? ⟨w.heap.size, 8, none⟩ = some (.bool o.has) := (by simp only [World.cell?]; rw [hg3]; rfl); rw [hh] at h8) | (refine load_row rfl 120 _ rfl (w.heap.size + 1) rfl 120 _ (0, 0) hg1 Tryz.agV Tryz.sizeV ?_))
          have hBw : Below w.heap.size w w3 := hB2.trans ((hB.mono (by omega)).trans (hB3.mono (by omega)))
          first
          | (go_ret; have hm : matchT o rootB false = true := (by unfold matchT; rw [hm0, hh]; rfl); exact ⟨congrArg (fun t => Ending.returned (Value.string t)) (Eq.symm (by unfold tname; rw [if_pos hm]; rfl)), hBw⟩)
          | (have hm : Hid (matchT o rootB false = false) := (by show matchT o rootB false = false; unfold matchT; rw [hm0, hh]; rfl)
             go_roundw
             case rel => exact ⟨1, rfl, by omega, hB.trans (hB3.mono (by omega)), fun _ => hm, fun h => by omega, fun h => by omega⟩
             case measure => simp [intOf])
    · have hq := hnm pageB
      rcases hqb : (decide (k2 = 6) && (t2 == pageB)) with _ | _
      · have hm : Hid (matchT o pageB false = false) := by show matchT o pageB false = false; unfold matchT; rw [hq, hqb]; rfl
        have IN := fun W => isName_any W k2 x2 t2 r2 b2 n2 c2 m2 pageB
        rw [hqb] at IN
        unfold pageB at IN
        clear hq hqb hnm
        go_wp2_with (first | (go_at_call 108; refine (IN _).mono ?_; rintro e w3 ⟨rfl, hB3⟩) | (refine load_row rfl 120 _ rfl (w.heap.size + 1) rfl 120 _ (0, 0) hg1 Tryz.agV Tryz.sizeV ?_))
        go_roundw
        case rel => exact ⟨2, rfl, by omega, hB.trans (hB3.mono (by omega)), fun _ => e0 (by omega), fun _ => hm, fun h => by omega⟩
        case measure => simp [intOf]
      · have IN := fun W => isName_any W k2 x2 t2 r2 b2 n2 c2 m2 pageB
        rw [hqb] at IN
        unfold pageB at IN
        rcases hh : o.has with _ | _
        all_goals
          have hm0 := hq.trans hqb
          clear hq hqb hnm
          go_wp2_with (first | (go_at_call 108; refine (IN _).mono ?_; rintro e w3 ⟨rfl, hB3⟩; have hg3 := (hB3.block w.heap.size (by omega)).trans hg0; have h8 : w3.cell? ⟨w.heap.size, 8, none⟩ = some (.bool o.has) := (by simp only [World.cell?]; rw [hg3]; rfl); rw [hh] at h8) | (refine load_row rfl 120 _ rfl (w.heap.size + 1) rfl 120 _ (0, 0) hg1 Tryz.agV Tryz.sizeV ?_))
          have hBw : Below w.heap.size w w3 := hB2.trans ((hB.mono (by omega)).trans (hB3.mono (by omega)))
          first
          | (go_ret; have hm : matchT o pageB false = true := (by unfold matchT; rw [hm0, hh]; rfl); exact ⟨congrArg (fun t => Ending.returned (Value.string t)) (Eq.symm (by unfold tname; rw [if_neg (by rw [unh (e0 (by omega))]; simp), if_pos hm]; rfl)), hBw⟩)
          | (have hm : Hid (matchT o pageB false = false) := (by show matchT o pageB false = false; unfold matchT; rw [hm0, hh]; rfl)
             go_roundw
             case rel => exact ⟨2, rfl, by omega, hB.trans (hB3.mono (by omega)), fun _ => e0 (by omega), fun _ => hm, fun h => by omega⟩
             case measure => simp [intOf])
    · have hq := hnm textB
      rcases hqb : (decide (k2 = 6) && (t2 == textB)) with _ | _
      · have hm : Hid (matchT o textB true = false) := by show matchT o textB true = false; unfold matchT; rw [hq, hqb]; rfl
        have IN := fun W => isName_any W k2 x2 t2 r2 b2 n2 c2 m2 textB
        rw [hqb] at IN
        unfold textB at IN
        clear hq hqb hnm
        go_wp2_with (first | (go_at_call 108; refine (IN _).mono ?_; rintro e w3 ⟨rfl, hB3⟩) | (refine load_row rfl 120 _ rfl (w.heap.size + 1) rfl 120 _ (0, 0) hg1 Tryz.agV Tryz.sizeV ?_))
        go_roundw
        case rel => exact ⟨3, rfl, by omega, hB.trans (hB3.mono (by omega)), fun _ => e0 (by omega), fun _ => e1 (by omega), fun _ => hm⟩
        case measure => simp [intOf]
      · have IN := fun W => isName_any W k2 x2 t2 r2 b2 n2 c2 m2 textB
        rw [hqb] at IN
        unfold textB at IN
        rcases hh : o.has with _ | _
        all_goals
          have hm0 := hq.trans hqb
          clear hq hqb hnm
          go_wp2_with (first | (go_at_call 108; refine (IN _).mono ?_; rintro e w3 ⟨rfl, hB3⟩; have hg3 := (hB3.block w.heap.size (by omega)).trans hg0; have h8 : w3.cell? ⟨w.heap.size, 8, none⟩ = some (.bool o.has) := (by simp only [World.cell?]; rw [hg3]; rfl); rw [hh] at h8) | (refine load_row rfl 120 _ rfl (w.heap.size + 1) rfl 120 _ (0, 0) hg1 Tryz.agV Tryz.sizeV ?_))
          have hBw : Below w.heap.size w w3 := hB2.trans ((hB.mono (by omega)).trans (hB3.mono (by omega)))
          first
          | (go_ret; have hm : matchT o textB true = true := (by unfold matchT; rw [hm0, hh]; rfl); exact ⟨congrArg (fun t => Ending.returned (Value.string t)) (Eq.symm (by unfold tname; rw [if_neg (by rw [unh (e0 (by omega))]; simp), if_neg (by rw [unh (e1 (by omega))]; simp), if_pos hm]; rfl)), hBw⟩)
          | (have hm : Hid (matchT o textB true = false) := (by show matchT o textB true = false; unfold matchT; rw [hm0, hh]; rfl)
             go_roundw
             case rel => exact ⟨3, rfl, by omega, hB.trans (hB3.mono (by omega)), fun _ => e0 (by omega), fun _ => e1 (by omega), fun _ => hm⟩
             case measure => simp [intOf])
    · have ht : tname o = ByteArray.empty := by unfold tname; rw [if_neg (by rw [unh (e0 (by omega))]; simp), if_neg (by rw [unh (e1 (by omega))]; simp), if_neg (by rw [unh (e2 (by omega))]; simp)]
      have HT := hid ht
      clear ht
      go_wp2_with fail
      go_ret
      exact ⟨congrArg (fun t => Ending.returned (Value.string t)) (Eq.symm (unh HT)), hB2.trans (hB.mono (by omega))⟩
end Go.Proofs.YtgffljllfenhkaaGreatDoor
end
