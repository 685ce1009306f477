import Derived.Deep.DrawnRows
import Derived.Test.YtgffljllfenhkaaGreatDoorGwal
namespace Go.Proofs.YtgffljllfenhkaaGreatDoor
section
open Go.RowKit
attribute [local go_sem] Oper.semAt_some
attribute [local go_sem ↓] app_aside Go.wp_at_zero Go.wp_at_succ
variable {w w':World}{P B:Nat}{E:Env}{s s':St}
theorem Tryz.infoI:(Tryz.prog.info? 3).map (fun i=>(i.zero,i.size,i.bytes))=some (some (.int .i64 0),1,8):=by kernel_rfl
theorem Tryz.undI:Tryz.prog.underlying 52=some (.slice 3):=by kernel_rfl
theorem Tryz.sizeS:(Tryz.prog.info? 150).map (·.size)=some 5:=by kernel_rfl
theorem Tryz.sizeT:(Tryz.prog.info? 98).map (·.size)=some 3:=by kernel_rfl
theorem Tryz.agT:(Tryz.prog.underlying 98).map isAg=some true:=by kernel_rfl
theorem one_sc (f:ByteArray) (a b:Int) (B:Nat):(#[.string f,.int .i64 a,.int .i64 b,.func (.func 100) #[] #[],.func (.func 60) #[] #[.pointer (some ⟨B,0,none⟩),.pointer (some ⟨B+1,0,none⟩)]]:Array Value).all (·.oneCell')=true:=by simp[Value.oneCell']
theorem one_tb (a b:Int) (o:Option Addr) (n c:Nat):(#[.int .i64 a,.slice o n c,.int .i64 b]:Array Value).all (·.oneCell')=true:=by simp[Value.oneCell']
theorem setRow_at (w:World) (R:Nat) (hR:w.heap.size=R) (old cs:Array Value) (t:TypeId):(w.alloc (.cells old t)).setRow R cs=w.alloc (.cells cs t):=by subst hR;exact setRow_alloc w old cs t
theorem At.new_tab {f:ByteArray}{b k:Nat}(hB:Bud w B b) (hP:w.heap.size=P) (hk:k<=f.size) (hf:f.size<=9000) :
  At (w.alloc (.cells #[.string f,.int .i64 (k:Int),.int .i64 (f.size:Int),.func (.func 100) #[] #[],.func (.func 60) #[] #[.pointer (some ⟨B,0,none⟩),.pointer (some ⟨B+1,0,none⟩)]] 150)) P B (tabEnv f) ⟨b,k,0,0,0⟩:=by
 have hlt:=hB.lt;subst hP;exact⟨heap_alloc_new w _,(Below.heap_alloc _ _ _ (by omega)).trans hB.a,(Below.heap_alloc _ _ _ (by omega)).trans hB.y,by omega,hk,Nat.le_refl _,hf,hB.hb⟩
def Tb (w:World) (R at_:Nat) (sl:Value) (root:Nat):Prop:=w.heap[R]?=some (.cells #[.int .i64 (at_:Int),sl,.int .i64 (root:Int)] 98 (0,0))
theorem line_inv {t:List Nat}{least most n:Nat}(h:lineM E t least most s=.ok n s'):least<=n/\n<=most:=by
 unfold lineM at h;obtain⟨_,s1,_,k1⟩:=then_inv h;obtain⟨m,s2,_,k2⟩:=then_inv k1;obtain⟨_,s3,hn,k3⟩:=then_inv k2;obtain⟨_,s4,_,k4⟩:=then_inv k3;obtain⟨e,_⟩:=ret_inv k4;obtain⟨_,hb⟩:=need_inv hn;rw[e];simpa using hb
theorem ownsRow_shapeI {sl:Value}{base n:Nat}{xs:List Value}(h:w.ownsRow base 3 1 sl n xs):∃ a c,sl=.slice a n c:=by
 rcases h.2 with⟨rfl,rfl⟩|⟨g,cap,cur,rfl,_⟩
 ·exact⟨_,_,rfl⟩
 ·exact⟨_,_,rfl⟩
theorem ownsRow_blockI {sl:Value}{base n:Nat}{xs:List Value}(h:w.ownsRow base 3 1 sl n xs) (hb:∀ g,sl.ownBlock=some g->w'.heap[g]?=w.heap[g]?):w'.ownsRow base 3 1 sl n xs:=by
 refine⟨h.1,?_⟩
 rcases h.2 with hn|⟨g,cap,cur,rfl,h1,h2,rest⟩
 ·exact .inl hn
 ·exact .inr ⟨g,cap,cur,rfl,h1,(hb g rfl).trans h2,rest⟩
section
variable {R at_ root:Nat}{sl:Value}
theorem Tb.of_block (h:Tb w R at_ sl root) (hb:w'.heap[R]?=w.heap[R]?):Tb w' R at_ sl root:=hb.trans h
theorem Tb.kept (h:Tb w R at_ sl root) (F:Fz P B w w') (hP:R≠P) (hB:R≠B):Tb w' R at_ sl root:=h.of_block (F.block R (Array.getElem?_eq_some_iff.1 h).1 hP hB)
theorem Tb.c1 (h:Tb w R at_ sl root):w.cell? ⟨R,1,none⟩=some sl:=by unfold Tb at h;simp[World.cell?,h]
theorem Tb.c2 (h:Tb w R at_ sl root):w.cell? ⟨R,2,none⟩=some (.int .i64 (root:Int)):=by unfold Tb at h;simp[World.cell?,h]
theorem Tb.c0 (h:Tb w R at_ sl root):w.cell? ⟨R,0,none⟩=some (.int .i64 (at_:Int)):=by unfold Tb at h;simp[World.cell?,h]
theorem Tb.fr (h:Tb w R at_ sl root) (i:Nat):w.frozen? ⟨R,i,none⟩=false:=by unfold Tb at h;simp[World.frozen?,h]
theorem Tb.set1 (h:Tb w R at_ sl root) (v:Value):Tb (w.setCell ⟨R,1,none⟩ v) R at_ v root:=by unfold Tb at h ⊢;rw[heap_setCell_same _ R 1 _ _ _ h];simp
theorem Tb.set2 (h:Tb w R at_ sl root) (r:Nat):Tb (w.setCell ⟨R,2,none⟩ (.int .i64 (r:Int))) R at_ sl r:=by unfold Tb at h ⊢;rw[heap_setCell_same _ R 2 _ _ _ h];simp
end
set_option maxHeartbeats 4000000 in
set_option maxRecDepth 100000 in
theorem readTable_any {f:ByteArray}{b:Nat}(hB:Bud w B b) (hf:f.size<=9000) :
  Calls Tryz.prog 66 #[.string f,chg B] w (PostB B w (TQ w) (tabR f b)):=by
 unfold chg;have hlt:=hB.lt;have hb8:=hB.hb;have hBa:=hB.alloc (.cells #[.int .i64 0,.slice none 0 0,.int .i64 0] 98);have F0:Fb B w (w.alloc (.cells #[.int .i64 0,.slice none 0 0,.int .i64 0] 98)):=(Fb.refl _ _).alloc _
 go_enter Tryz.func66,Tryz.ntmps66
 by_cases hbf:b<f.size
 ·have HN:Hid (tabR f b=.no (12,0)):=by show tabR f b=_;unfold tabR;rw[if_pos hbf]
  go_wp2_with fail
  refine (take_no _ B b f.size 12 0 hBa.ca hBa.y hbf).mono ?_;rintro e w1 ⟨rfl,rfl⟩;exact⟨rfl,PostB.no (unh HN) F0⟩
 ·go_wp2_with fail
  refine (take_ok _ B b f.size hBa.ca (hBa.fa 0) (by omega) hb8).mono ?_;rintro e w1 ⟨rfl,hw1⟩;have hB1:=hBa.take f.size (by omega);have F1:=F0.setB 0 (.int .i64 ((b:Int)-(f.size:Int)));have hs1:((w.alloc (.cells #[.int .i64 0,.slice none 0 0,.int .i64 0] 98)).setCell ⟨B,0,none⟩ (.int .i64 ((b:Int)-(f.size:Int)))).heap.size=w.heap.size+1:=by simp
  have hR01:((w.alloc (.cells #[.int .i64 0,.slice none 0 0,.int .i64 0] 98)).setCell ⟨B,0,none⟩ (.int .i64 ((b:Int)-(f.size:Int)))).heap[w.heap.size]?=_:=(Below.heap_setCell _ _ _ _ (by show w.heap.size≠B;omega)).trans (heap_alloc_new w _);rw[hw1] at hB1 F1 hs1 hR01;clear hw1 hBa F0;have LI:Calls Tryz.prog 101 #[.string f,.string ⟨#[120,114,101,102,32]⟩] w1 fun e w'=>e=.returned (.int .i64 (Lib.lastIndex f.data.toList (⟨#[120,114,101,102,32]⟩:ByteArray).data.toList))/\w1=w':=(Tryz.strings_LastIndex f ⟨#[120,114,101,102,32]⟩ (by omega) w1).mono (fun e w' h=>⟨h.1,h.2.symm⟩)
  have hxl:=xrefAt_le f;obtain⟨ix,hix⟩:∃ ix,xrefAt f=ix:=⟨_,rfl⟩;rw[show Lib.lastIndex f.data.toList (⟨#[120,114,101,102,32]⟩:ByteArray).data.toList=ix from hix] at LI
  by_cases hneg:ix<0
  ·have HN:Hid (tabR f b=.no (4,0)):=by show tabR f b=_;unfold tabR;rw[if_neg hbf,hix,if_pos hneg]
   clear hix hxl
   go_wp2_with (go_at_call 101;refine LI.mono ?_;rintro e w2 ⟨rfl,rfl⟩)
   refine (gtab_any _ 0 (E:=tabEnv f) rfl).mono ?_;rintro e w3 ⟨rfl,rfl⟩;exact⟨rfl,PostB.no (unh HN) F1⟩
  ·obtain⟨at_,rfl⟩:∃ n:Nat,ix=n:=⟨ix.toNat,by omega⟩;rw[hix] at hxl;have hat:at_<=f.size:=by omega
   have HE0:Hid (tabR f b=Out.res (Rdr.then (tableM (tabEnv f) at_) (fun x=>Rdr.ret (at_,x.1,x.2)) ⟨b-f.size,at_,0,0,0⟩)):=by
    show tabR f b=_;unfold tabR;rw[if_neg hbf,hix,if_neg hneg,Int.toNat_natCast]
   clear hix hxl hneg;have hA2:=At.new_tab (k:=at_) hB1 hs1 hat hf;have F2:=F1.alloc (.cells #[.string f,.int .i64 (at_:Int),.int .i64 (f.size:Int),.func (.func 100) #[] #[],.func (.func 60) #[] #[.pointer (some ⟨B,0,none⟩),.pointer (some ⟨B+1,0,none⟩)]] 150);obtain⟨w2,hw2⟩:∃ w2,w1.alloc (.cells #[.string f,.int .i64 (at_:Int),.int .i64 (f.size:Int),.func (.func 100) #[] #[],.func (.func 60) #[] #[.pointer (some ⟨B,0,none⟩),.pointer (some ⟨B+1,0,none⟩)]] 150)=w2:=⟨_,rfl⟩;have hs2:w2.heap.size=w.heap.size+2:=by rw[← hw2];simp;omega
   have hR02:w2.heap[w.heap.size]?=some (.cells #[.int .i64 0,.slice none 0 0,.int .i64 0] 98):=by rw[← hw2];exact (Below.heap_alloc _ _ _ (by omega)).trans hR01
   rw[hw2] at hA2 F2;have hA3:=hA2.alloc (.cells #[.int .i64 (at_:Int),.slice none 0 0,.int .i64 0] 98);have F3:=F2.alloc (.cells #[.int .i64 (at_:Int),.slice none 0 0,.int .i64 0] 98);have hT3:Tb (w2.alloc (.cells #[.int .i64 (at_:Int),.slice none 0 0,.int .i64 0] 98)) (w.heap.size+2) at_ (.slice none 0 0) 0:=by rw[← hs2];exact heap_alloc_new w2 _
   have hR03:(w2.alloc (.cells #[.int .i64 (at_:Int),.slice none 0 0,.int .i64 0] 98)).heap[w.heap.size]?=_:=(Below.heap_alloc _ _ _ (by omega)).trans hR02;have HNEW1:Hid (∀ x,(w1.alloc x).heap[w.heap.size+1]?=some x):=fun x=>by rw[← hs1];exact heap_alloc_new w1 x
   have HNEW2:Hid (∀ x,(w2.alloc x).heap[w.heap.size+2]?=some x):=fun x=>by rw[← hs2];exact heap_alloc_new w2 x
   have HS1:=hid hs1;have HS2:=hid hs2;have HW2:=hid hw2;clear hw2
   go_wp2_with (first | (go_at_call 101;refine LI.mono ?_;rintro e w2' ⟨rfl,rfl⟩) | (refine wpList_store_row rfl 150 _ _ rfl (w.heap.size+1) _ rfl rfl 150 _ (unh HNEW1 _) Tryz.sizeS rfl (one_sc _ _ _ _) ?_;rw[setRow_at w1 _ (unh HS1),unh HW2]) | (refine wpList_store_row rfl 98 _ _ rfl (w.heap.size+2) _ rfl rfl 98 _ (unh HNEW2 _) Tryz.sizeT rfl (one_tb _ _ _ _ _) ?_;rw[setRow_at w2 _ (unh HS2)]))
   have q0r:=unh HE0;clear hA2 hR01 hR02 F1 F2;obtain⟨W3,hW3⟩:∃ W3,w2.alloc (.cells #[.int .i64 (at_:Int),.slice none 0 0,.int .i64 0] 98)=W3:=⟨_,rfl⟩;have hs3:W3.heap.size=w.heap.size+3:=by rw[← hW3];simp;omega
   rw[hW3] at hA3 F3 hT3 hR03 ⊢;clear hW3 HW2 HNEW1 HNEW2 HS1 HS2 q0r LI;clear hs1 hs2
   rcases q4:lineM (tabEnv f) [120,114,101,102,32] 1 30 ⟨b-f.size,at_,0,0,0⟩ with⟨n,s4⟩|y
   ·have hn:=line_inv q4;have HE4:Hid (tabR f b=Out.res (Rdr.then ((placesM (tabEnv f) n).then fun l=>tabEnd (tabEnv f) at_ n l) (fun x=>Rdr.ret (at_,x.1,x.2)) s4)):=(unh HE0).trans (by simp[tableM,tabEnd,Rdr.then,q4]);refine (Post.okC (line_any ⟨#[120,114,101,102,32]⟩ (by decide) 1 30 hA3) (show lineM (tabEnv f) (bl ⟨#[120,114,101,102,32]⟩) 1 30 _=_ from q4)).mono ?_;rintro e w4 ⟨v4,rfl,rfl,h4,G4⟩;have hz4:=G4.size;have hT4:=hT3.kept G4 (by omega) (by omega);have hR04:w4.heap[w.heap.size]?=some (.cells #[.int .i64 0,.slice none 0 0,.int .i64 0] 98):=(G4.block _ (by omega) (by omega) (by omega)).trans hR03;have F4:=F3.fz G4 (by omega);clear q4 HE0 hA3 hT3 hR03 F3 G4
    go_wp2_with fail
    go_loopw [31] (fun v wr=>∃ (i:Nat) (si:St) (l:List Nat) (sl:Value),v=.int .i64 (i:Int)/\i<=n/\l.length=i/\At wr (w.heap.size+1) B (tabEnv f) si/\Fb B w wr/\w.heap.size+3<=wr.heap.size/\wr.heap[w.heap.size]?=some (.cells #[.int .i64 0,.slice none 0 0,.int .i64 0] 98) /\
      Tb wr (w.heap.size+2) at_ sl 0/\wr.ownsRow (w.heap.size+3) 3 1 sl l.length (intsV l)/\Hid (tabR f b=Out.res (Rdr.then ((placesM (tabEnv f) (n-i)).then fun l'=>tabEnd (tabEnv f) at_ n (l++l')) (fun x=>Rdr.ret (at_,x.1,x.2)) si)))
     (fun v _=>n-(intOf v).toNat)
    case atStart=>exact⟨0,s4,[],.slice none 0 0,rfl,Nat.zero_le _,rfl,h4,F4,by omega,hR04,hT4,World.ownsRow_nil _ _ _ _,HE4⟩
    case round=>
     clear h4 F4 hR04 hT4 HE4 hz4 hs3;obtain⟨i,si,l,sl,rfl,hin,hli,hA,hF,hsz,hR0,hT,hrow,HE⟩:=hrel;obtain⟨ao,cp,rfl⟩:=ownsRow_shapeI hrow;have hlB:=hA.lt;have t1:=hT.c1
     by_cases hlt:i<n
     ·have hltI:(i:Int)<(n:Int):=by omega
      obtain⟨m,hm⟩:∃ m,n-i=m+1:=⟨n-i-1,by omega⟩
      rcases q5:lineM (tabEnv f) [] 0 9999 si with⟨p,s5⟩|y
      ·have hp5:=line_inv q5
       have HE5:Hid (tabR f b=Out.res (Rdr.then ((placesM (tabEnv f) (n-(i+1))).then fun l'=>tabEnd (tabEnv f) at_ n (l++[p]++l')) (fun x=>Rdr.ret (at_,x.1,x.2)) s5)):=(unh HE).trans (by
        rw[hm,show n-(i+1)=m by omega];have e:placesM (tabEnv f) (m+1)=(lineM (tabEnv f) [] 0 9999).then fun p=>(placesM (tabEnv f) m).then fun l=>Rdr.ret (p::l):=rfl
        rw[e];simp only[then_assoc,ret_then];rw[Rdr.then_ok q5]
        simp only[List.append_assoc,List.cons_append,List.nil_append])
       obtain⟨i0,hi,hz0,hz1,hz2⟩:=info_parts Tryz.infoI;clear HE hm;have HLI:=hid hli;clear hli;have hl30:l.length<=30:=by rw[unh HLI];omega
       go_wp2_with fail
       go_region_with (first | (go_at_call 102;refine (Post.okC (line_any ⟨#[]⟩ (by decide) 0 9999 (by exact hA.drew)) (show lineM (tabEnv f) (bl ⟨#[]⟩) 0 9999 _=_ from q5)).mono ?_;rintro e w5 ⟨v5,rfl,rfl,h5,G5'⟩;have G5:Fz (w.heap.size+1) B wr w5:=(Fz.refl _ _ _).drew.trans G5';have hT5:=hT.kept G5 (by omega) (by omega);have t5:=hT5.c1;have t5a:=(hT5.of_block (Below.heap_alloc w5 (.cells #[.int .i64 (p:Int)] 3) (w.heap.size+2) (Array.getElem?_eq_some_iff.1 hT5).1)).c1;have hrow5:=ownsRow_blockI hrow (w':=w5) (fun g hg=>G5.block g (World.ownsRow.lt hrow g hg).2 (by have:=(World.ownsRow.lt hrow g hg).1;omega) (by have:=(World.ownsRow.lt hrow g hg).1;omega));have hs5:=G5.size) | (refine AppWp.own _ _ 52 rfl (w.heap.size+3) 3 i0 (.int .i64 0) 1 8 Tryz.undI hi hz0 hz1 hz2 rfl (by decide) _ _ _ rfl (World.ownsRow.alloc hrow5 _) ⟨w5.heap.size,0,none⟩ 1 1 [.int .i64 (p:Int)] rfl rfl (cell_one_new _ _ _) (by simp[Value.oneCell']) (by unfold maxLen;omega) (by omega) (by simp;omega) ?_;intro v6 w6 hown6 hg6 hat6;obtain⟨a6,c6,rfl⟩:=ownsRow_shapeI hown6;have hgg:=gTrans (World.grownBy_alloc w5 (.cells #[.int .i64 (p:Int)] 3) (Value.slice ao l.length cp).ownBlock) hg6;have hne:∀ k,k<w.heap.size+3->some k≠(Value.slice ao l.length cp).ownBlock:=(fun k hk e=>by have:=(World.ownsRow.lt hrow k e.symm).1;omega);have hT6:=hT5.of_block (hgg.block (w.heap.size+2) (by omega) (hne _ (by omega)));have t6:=hT6.c1;have f6:=hT6.fr 1))
       all_goals
        go_wp2_with fail
        go_roundw
        case rel=>
         have hz6:=hgg.size;have h6:At w6 (w.heap.size+1) B (tabEnv f) s5:=h5.of_blocks (fun k hk=>hgg.block k (by have:=h5.ltP;omega) (hne k (by omega)));have hF5:=hF.fz G5 (by omega);have hF6:Fb B w w6:=⟨hgg.os.trans hF5.os,hgg.tape.trans hF5.tape,hgg.output.trans hF5.output,by omega,fun k hk hb=>(hgg.block k (by omega) (hne k (by omega))).trans (hF5.block k hk hb)⟩;have hR6:w6.heap[w.heap.size]?=_:=(hgg.block _ (by omega) (hne _ (by omega))).trans ((G5.block _ (by omega) (by omega) (by omega)).trans hR0);refine⟨i+1,s5,l++[p],_,by go_num,by omega,by rw[List.length_append,unh HLI];rfl,h6.setNew _ _ _ (by omega),hF6.setNew _ _ _ (by omega),by simp;omega,(Below.heap_setCell _ _ _ _ (by show w.heap.size≠w.heap.size+2;omega)).trans hR6,hT6.set1 _,?_,HE5⟩
         have hr6:w6.ownsRow (w.heap.size+3) 3 1 (.slice a6 (l.length+1) c6) (l++[p]).length (intsV (l++[p])):=by
          rw[List.length_append];have e:intsV (l++[p])=intsV l++[.int .i64 (p:Int)]:=by simp[intsV]
          rw[e];exact hown6
         exact ownsRow_blockI hr6 (fun g hg=>Below.heap_setCell _ _ _ _ (by have:=(World.ownsRow.lt hr6 g hg).1;show g≠w.heap.size+2;omega))
        case measure=>simp[intOf];omega
      ·have HN:Hid (tabR f b=.no y):=(unh HE).trans (by
        rw[hm];have e:placesM (tabEnv f) (m+1)=(lineM (tabEnv f) [] 0 9999).then fun p=>(placesM (tabEnv f) m).then fun l=>Rdr.ret (p::l):=rfl
        rw[e];simp only[then_assoc]
        rw[Rdr.then_no q5];rfl)
       clear HE hm hli
       go_wp2_with fail
       go_region_dies
       all_goals
        refine (Post.noC (line_any ⟨#[]⟩ (by decide) 0 9999 (by exact hA.drew)) (show lineM (tabEnv f) (bl ⟨#[]⟩) 0 9999 _=_ from q5)).mono ?_;rintro e w5 ⟨rfl,G5⟩;exact⟨rfl,PostB.no (unh HN) (hF.drew.fz G5 (by omega))⟩
     ·have hltI:¬ (i:Int)<(n:Int):=by omega
      have HE6:Hid (tabR f b=Out.res (Rdr.then (tabEnd (tabEnv f) at_ n l) (fun x=>Rdr.ret (at_,x.1,x.2)) si)):=(unh HE).trans (by
       rw[show n-i=0 by omega];have e:placesM (tabEnv f) 0=Rdr.ret []:=rfl
       rw[e,ret_then,List.append_nil])
      clear HE hli t1
      go_wp2_with fail
      rcases q6:lineM (tabEnv f) [114,111,111,116,32] 1 n si with⟨r,s6⟩|y
      ·refine (Post.okC (line_any ⟨#[114,111,111,116,32]⟩ (by decide) 1 n hA) (show lineM (tabEnv f) (bl ⟨#[114,111,111,116,32]⟩) 1 n _=_ from q6)).mono ?_;rintro e w6 ⟨v6,rfl,rfl,h6,G6⟩;have hT6:=hT.kept G6 (by omega) (by omega);have c2:=hT6.c2;have f2:=hT6.fr 2;have hT7:=hT6.set2 r;have h7:=h6.setNew (w.heap.size+2) 2 (.int .i64 (r:Int)) (by omega);have F7:=(hF.fz G6 (by omega)).setNew (w.heap.size+2) 2 (.int .i64 (r:Int)) (by omega);have hz6:=G6.size;have hR7:(w6.setCell ⟨w.heap.size+2,2,none⟩ (.int .i64 (r:Int))).heap[w.heap.size]?=some (.cells #[.int .i64 0,.slice none 0 0,.int .i64 0] 98):=(Below.heap_setCell _ _ _ _ (by show w.heap.size≠w.heap.size+2;omega)).trans ((G6.block _ (by omega) (by omega) (by omega)).trans hR0);have hrow7:(w6.setCell ⟨w.heap.size+2,2,none⟩ (.int .i64 (r:Int))).ownsRow (w.heap.size+3) 3 1 (.slice ao l.length cp) l.length (intsV l):=ownsRow_blockI hrow (fun g hg=>(Below.heap_setCell _ _ _ _ (by have:=(World.ownsRow.lt hrow g hg).1;show g≠w.heap.size+2;omega)).trans (G6.block g (World.ownsRow.lt hrow g hg).2 (by have:=(World.ownsRow.lt hrow g hg).1;omega) (by have:=(World.ownsRow.lt hrow g hg).1;omega)));obtain⟨w7,hw7⟩:∃ w7,w6.setCell ⟨w.heap.size+2,2,none⟩ (.int .i64 (r:Int))=w7:=⟨_,rfl⟩;rw[hw7] at hT7 h7 F7 hR7 hrow7;have hz7:w.heap.size+3<=w7.heap.size:=by rw[← hw7];simp;omega
       clear hT6 hT hrow hR0 hA
       rcases q7:lineM (tabEnv f) [97,116,32] at_ at_ s6 with⟨r7,s7⟩|y
       ·rcases q8:wordM (tabEnv f) [101,110,100,10] s7 with⟨u8,s8⟩|y
        ·go_wp2_with fail
         refine (Post.okC (line_any ⟨#[97,116,32]⟩ (by decide) at_ at_ h7) (show lineM (tabEnv f) (bl ⟨#[97,116,32]⟩) at_ at_ _=_ from q7)).mono ?_;rintro e w8 ⟨v8,rfl,rfl,h8,G8⟩
         go_wp2_with fail
         refine (Post.okC (word_any ⟨#[101,110,100,10]⟩ (by decide) h8) (show wordM (tabEnv f) (bl ⟨#[101,110,100,10]⟩) s7=_ from q8)).mono ?_;rintro e w9 ⟨v9,rfl,rfl,h9,G9⟩;have G89:=G8.trans G9;have hz9:=G89.size;have d1:=h9.c1;have d2:=h9.c2;have F9:=F7.fz G89 (by omega);have hT9:=(hT7.kept G89 (by omega) (by omega));have hR9:w9.heap[w.heap.size]?=some (.cells #[.int .i64 0,.slice none 0 0,.int .i64 0] 98):=(G89.block _ (by omega) (by omega) (by omega)).trans hR7;have hrow9:w9.ownsRow (w.heap.size+3) 3 1 (.slice ao l.length cp) l.length (intsV l):=ownsRow_blockI hrow7 (fun g hg=>G89.block g (World.ownsRow.lt hrow7 g hg).2 (by have:=(World.ownsRow.lt hrow7 g hg).1;omega) (by have:=(World.ownsRow.lt hrow7 g hg).1;omega));clear hT7 hR7 hrow7 hw7 c2 f2;have hee:(tabEnv f).e=f.size:=rfl
         by_cases hke:s8.k=(tabEnv f).e
         ·have HN:Hid (tabR f b=.ok (at_,l,r) s8.b):=(unh HE6).trans (by simp[tabEnd,Rdr.then,q6,q7,q8,hke,needM,Rdr.ret,Out.res]);have ib:((s8.k:Int)==((tabEnv f).e:Int))=true:=by rw[hke];simp
          have hrow:=hT9;unfold Tb at hrow;obtain⟨dT,hd1,hd2⟩:=isStruct Tryz.agT;clear hke hee
          go_wp2_with (first | (go_at_call 104;refine (need_ok _).mono ?_;rintro e w10 ⟨rfl,rfl⟩) | (refine load_row rfl 98 _ rfl (w.heap.size+2) rfl 98 _ (0,0) hrow Tryz.agT Tryz.sizeT ?_) | (refine wpList_store_row rfl 98 _ _ rfl w.heap.size _ rfl rfl 98 _ hR9 Tryz.sizeT rfl (one_tb _ _ _ _ _) ?_))
          refine bodyPost_ret (results_cell_row rfl _ _ w.heap.size 98 _ (0,0) dT rfl (setRow_heap _ _ _ _ _ _ hR9) hd1 (by cases dT <;> first | rfl | cases hd2) Tryz.sizeT) rfl ?_;refine PostB.ok (unh HN) ⟨.slice ao l.length cp,rfl,?_⟩ (h9.bud.of_blocks (fun k hk=>setRow_other _ _ _ _ (by omega))) (F9.setRow _ _ (Nat.le_refl _));have hr:=ownsRow_blockI hrow9 (w':=w9.setRow w.heap.size #[.int .i64 (at_:Int),.slice ao l.length cp,.int .i64 (r:Int)]) (fun g hg=>setRow_other _ _ _ _ (by have:=(World.ownsRow.lt hrow9 g hg).1;omega));refine⟨hr.1,?_⟩
          rcases hr.2 with hn' | ⟨g,cap,cur,e1,e2,e3⟩
          ·exact .inl hn'
          ·exact .inr ⟨g,cap,cur,e1,by omega,e3⟩
         ·have HN:Hid (tabR f b=.no ((tabEnv f).why s8.k)):=(unh HE6).trans (by simp[tabEnd,Rdr.then,q6,q7,q8,hke,needM,Out.res]);have ib:((s8.k:Int)==((tabEnv f).e:Int))=false:=by rw[beq_eq_false_iff_ne];omega
          clear hke hee
          go_wp2_with fail
          refine (need_no h9).mono ?_;rintro e w10 ⟨rfl,rfl⟩;exact⟨rfl,PostB.no (unh HN) F9.drew⟩
        ·have HN:Hid (tabR f b=.no y):=(unh HE6).trans (by simp[tabEnd,Rdr.then,q6,q7,q8,Out.res])
         go_wp2_with fail
         refine (Post.okC (line_any ⟨#[97,116,32]⟩ (by decide) at_ at_ h7) (show lineM (tabEnv f) (bl ⟨#[97,116,32]⟩) at_ at_ _=_ from q7)).mono ?_;rintro e w8 ⟨v8,rfl,rfl,h8,G8⟩
         go_wp2_with fail
         refine (Post.noC (word_any ⟨#[101,110,100,10]⟩ (by decide) h8) (show wordM (tabEnv f) (bl ⟨#[101,110,100,10]⟩) s7=_ from q8)).mono ?_;rintro e w9 ⟨rfl,G9⟩;exact⟨rfl,PostB.no (unh HN) (F7.fz (G8.trans G9) (by omega))⟩
       ·have HN:Hid (tabR f b=.no y):=(unh HE6).trans (by simp[tabEnd,Rdr.then,q6,q7,Out.res])
        go_wp2_with fail
        refine (Post.noC (line_any ⟨#[97,116,32]⟩ (by decide) at_ at_ h7) (show lineM (tabEnv f) (bl ⟨#[97,116,32]⟩) at_ at_ _=_ from q7)).mono ?_;rintro e w8 ⟨rfl,G8⟩;exact⟨rfl,PostB.no (unh HN) (F7.fz G8 (by omega))⟩
      ·have HN:Hid (tabR f b=.no y):=(unh HE6).trans (by simp[tabEnd,Rdr.then,q6,Out.res]);refine (Post.noC (line_any ⟨#[114,111,111,116,32]⟩ (by decide) 1 n hA) (show lineM (tabEnv f) (bl ⟨#[114,111,111,116,32]⟩) 1 n _=_ from q6)).mono ?_;rintro e w6 ⟨rfl,G6⟩;exact⟨rfl,PostB.no (unh HN) (hF.fz G6 (by omega))⟩
   ·have HN:Hid (tabR f b=.no y):=(unh HE0).trans (by simp[tableM,Rdr.then,q4,Out.res]);refine (Post.noC (line_any ⟨#[120,114,101,102,32]⟩ (by decide) 1 30 hA3) (show lineM (tabEnv f) (bl ⟨#[120,114,101,102,32]⟩) 1 30 _=_ from q4)).mono ?_;rintro e w4 ⟨rfl,G4⟩;exact⟨rfl,PostB.no (unh HN) (F3.fz G4 (by omega))⟩
end
section
open Go.RowKit
attribute [local go_sem] Oper.semAt_some
variable {w w':World}{P B:Nat}{E:Env}{s s':St}
def objEnv (f:ByteArray) (at_:Nat):Env:=⟨false,f,at_⟩
def objFin:Out Obj1->Res Obj1
 | .no y=>.no y
 | .ok o s=>if 0<s.d then .no (6,s.d) else if 0<s.t then .no (7,s.t) else .ok o s.b
def objR (f:ByteArray) (at_ place num b:Nat):Res Obj1:=
 if place=0 then .ok {} b else if place<5\/at_<=place then .no (5,place) else objFin (objectM (objEnv f at_) num ⟨b,place,0,0,0⟩)
theorem Tryz.sizeP:(Tryz.prog.info? 154).map (·.size)=some 8:=by kernel_rfl
theorem one_ps (f:ByteArray) (a b:Int) (B:Nat):(#[.string f,.int .i64 a,.int .i64 b,.func (.func 105) #[] #[],.func (.func 60) #[] #[.pointer (some ⟨B,0,none⟩),.pointer (some ⟨B+1,0,none⟩)],.int .i64 0,.int .i64 0,.int .i64 0]:Array Value).all (·.oneCell')=true:=by simp[Value.oneCell']
theorem At.new_obj {f:ByteArray}{b k at_:Nat}(hB:Bud w B b) (hP:w.heap.size=P) (hk:k<=at_) (ha:at_<=f.size) (hf:f.size<=9000) :
  At (w.alloc (.cells #[.string f,.int .i64 (k:Int),.int .i64 (at_:Int),.func (.func 105) #[] #[],.func (.func 60) #[] #[.pointer (some ⟨B,0,none⟩),.pointer (some ⟨B+1,0,none⟩)],.int .i64 0,.int .i64 0,.int .i64 0] 154)) P B (objEnv f at_) ⟨b,k,0,0,0⟩:=by
 have hlt:=hB.lt;subst hP;exact⟨heap_alloc_new w _,(Below.heap_alloc _ _ _ (by omega)).trans hB.a,(Below.heap_alloc _ _ _ (by omega)).trans hB.y,by omega,hk,ha,hf,hB.hb⟩
theorem row_int {sl:Value}{base:Nat}{l:List Nat}(h:w.ownsRow base 3 1 sl l.length (intsV l)) (i p:Nat) (hi:l[i]?=some p) :
  ∃ g c,sl=.slice (some ⟨g,0,none⟩) l.length c/\w.cell? ⟨g,i,none⟩=some (.int .i64 (p:Int))/\g<w.heap.size:=by
 have hil:i<l.length:=(List.getElem?_eq_some_iff.1 hi).1
 have hc:∀ g,sl.ownBlock=some g->w.cell? ⟨g,i,none⟩=some (.int .i64 (p:Int)):=fun g hg=>
  by have:=World.ownsRow.cells h hg i _ (by unfold intsV;rw[List.getElem?_map,hi];rfl);rw[Addr.add_mid,Nat.zero_add] at this;exact this
 rcases h.2 with⟨_,hn⟩|⟨g,cap,cur,e,_,hg,_⟩
 ·omega
 ·refine⟨g,cap,e,hc g (by rw[e];rfl),(Array.getElem?_eq_some_iff.1 hg).1⟩
def z10O:Obj:=.cells #[.int .i64 0,.float .f64 0,.string ⟨#[]⟩,.int .i64 0,.slice none 0 0,.map none,.int .i64 0,.int .i64 0,.bool false,.string ⟨#[]⟩] 122
set_option maxHeartbeats 4000000 in
set_option maxRecDepth 100000 in
theorem readObject_any {T:Nat}{f:ByteArray}{b at_ root num place base:Nat}{sl:Value}{l:List Nat}(hFT:FT T w) (hTB:T≠B) (h22:22<B) (hB:Bud w B b) (hf:f.size<=9000) (ha:at_<=f.size)
  (hrow:w.ownsRow base 3 1 sl l.length (intsV l)) (hl:l.length<=30) (hnum:1<=num) (hpl:l[num-1]?=some place) (hp9:place<=9999) :
  Calls Tryz.prog 67 #[.string f,.agg #[.int .i64 (at_:Int),sl,.int .i64 (root:Int)],.int .i64 (num:Int),chg B] w (PostB B w (OQ w) (objR f at_ place num b)):=by
 unfold chg;obtain⟨g,cp,rfl,hcell,hg⟩:=row_int hrow (num-1) place hpl;have hnl:num-1<l.length:=(List.getElem?_eq_some_iff.1 hpl).1;have hlt:=hB.lt;have hTlt:=hFT.lt;obtain⟨dO,hd1,hd2⟩:=isStruct Tryz.agO;obtain⟨i9,hi9⟩:∃ i9,num-1=i9:=⟨_,rfl⟩;have hiI:(num:Int)-1=(i9:Int):=by omega
 have hwr:IntKind.i64.wrap ((num:Int)-1)=(i9:Int):=by rw[hiI];exact wraps_i64 _ (by omega) (by omega)
 have hlI:(i9:Int)<(l.length:Int):=by omega
 have hlN:i9<l.length:=by omega
 rw[hi9] at hcell;have HB1:=(hB.alloc (.cells #[.int .i64 (at_:Int),.slice (some ⟨g,0,none⟩) l.length cp,.int .i64 (root:Int)] 98)).alloc z10O;have HF1:Fb B w ((w.alloc (.cells #[.int .i64 (at_:Int),.slice (some ⟨g,0,none⟩) l.length cp,.int .i64 (root:Int)] 98)).alloc z10O):=((Fb.refl _ _).alloc _).alloc _;have hsz1:((w.alloc (.cells #[.int .i64 (at_:Int),.slice (some ⟨g,0,none⟩) l.length cp,.int .i64 (root:Int)] 98)).alloc z10O).heap.size=w.heap.size+2:=by simp
 have hT1:Tb ((w.alloc (.cells #[.int .i64 (at_:Int),.slice (some ⟨g,0,none⟩) l.length cp,.int .i64 (root:Int)] 98)).alloc z10O) w.heap.size at_ (.slice (some ⟨g,0,none⟩) l.length cp) root:=(Below.heap_alloc _ _ _ (by simp)).trans (heap_alloc_new w _);have hR1:((w.alloc (.cells #[.int .i64 (at_:Int),.slice (some ⟨g,0,none⟩) l.length cp,.int .i64 (root:Int)] 98)).alloc z10O).heap[w.heap.size+1]?=some z10O:=heap_alloc2_new w _ _
 have hc1:((w.alloc (.cells #[.int .i64 (at_:Int),.slice (some ⟨g,0,none⟩) l.length cp,.int .i64 (root:Int)] 98)).alloc z10O).cell? ⟨g,i9,none⟩=some (.int .i64 (place:Int)):=by
  rw[World.cell?_of_block (w:=w) ((Below.heap_alloc _ _ _ (by simp;omega)).trans (Below.heap_alloc _ _ _ hg))];exact hcell
 have t0:=hT1.c0;have t1:=hT1.c1;have hFT1:FT T _:=hFT.kept (w':=(w.alloc (.cells #[.int .i64 (at_:Int),.slice (some ⟨g,0,none⟩) l.length cp,.int .i64 (root:Int)] 98)).alloc z10O) (fun k hk=>(Below.heap_alloc _ _ _ (by simp;omega)).trans (Below.heap_alloc _ _ _ (by omega)))
 go_enter Tryz.func67,Tryz.ntmps67
 unfold z10O at t0 t1 hc1 hR1 hsz1 HB1 HF1 hFT1;obtain⟨w1,hw1⟩:∃ w1,(w.alloc (.cells #[.int .i64 (at_:Int),.slice (some ⟨g,0,none⟩) l.length cp,.int .i64 (root:Int)] 98)).alloc (.cells #[.int .i64 0,.float .f64 0,.string ⟨#[]⟩,.int .i64 0,.slice none 0 0,.map none,.int .i64 0,.int .i64 0,.bool false,.string ⟨#[]⟩] 122)=w1:=⟨_,rfl⟩;rw[hw1] at t0 t1 hc1 hR1 hsz1 HB1 HF1 hFT1;clear hT1 hi9 hcell
 by_cases hp0:place=0
 ·have HN:Hid (objR f at_ place num b=.ok {} b):=by show objR f at_ place num b=_;unfold objR;rw[if_pos hp0]
  have ip:((place:Int)==0)=true:=by rw[hp0];rfl
  clear hp0
  go_wp2_with (refine wpList_store_row rfl 122 _ _ rfl (w.heap.size+1) _ rfl rfl 122 _ hR1 Tryz.sizeO rfl (one_ten0 0) ?_)
  refine bodyPost_ret (results_cell_row rfl _ _ (w.heap.size+1) 122 _ (0,0) dO rfl (setRow_heap _ _ _ _ _ _ hR1) hd1 (by cases dO <;> first | rfl | cases hd2) Tryz.sizeO) rfl ?_;refine PostB.ok (unh HN) ⟨vC 0 0 ⟨#[]⟩ 0 (.slice none 0 0) (.map none),rfl,by unfold Rep;rfl⟩ (HB1.of_blocks (fun k hk=>setRow_other _ _ _ _ (by omega))) (HF1.setRow _ _ (by omega))
 ·have ip:((place:Int)==0)=false:=by rw[beq_eq_false_iff_ne];omega
  by_cases hpb:place<5\/at_<=place
  ·have HN:Hid (objR f at_ place num b=.no (5,place)):=by show objR f at_ place num b=_;unfold objR;rw[if_neg hp0,if_pos hpb]
   clear hp0;have GU:=gobj_any (E:=objEnv f at_) w1 place rfl
   by_cases hp5:place<5
   ·have i5:(place:Int)<5:=by omega
    have i5':decide ((place:Int)<5)=true:=by simp;omega
    clear hpb
    go_wp2_with fail
    refine GU.mono ?_;rintro e w2 ⟨rfl,rfl⟩;exact⟨rfl,PostB.no (unh HN) HF1⟩
   ·have i5:¬ (place:Int)<5:=by omega
    have i5':decide ((place:Int)<5)=false:=by simp;omega
    have i6:(at_:Int)<=(place:Int):=by omega
    have i6':at_<=place:=by omega
    clear hpb
    go_wp2_with fail
    refine GU.mono ?_;rintro e w2 ⟨rfl,rfl⟩;exact⟨rfl,PostB.no (unh HN) HF1⟩
  ·have i5:¬ (place:Int)<5:=by omega
   have i5':decide ((place:Int)<5)=false:=by simp;omega
   have i6:¬ (at_:Int)<=(place:Int):=by omega
   have i6':decide ((at_:Int)<=(place:Int))=false:=by simp;omega
   have i6'':decide (at_<=place)=false:=by simp;omega
   have HE0:Hid (objR f at_ place num b=objFin (objectM (objEnv f at_) num ⟨b,place,0,0,0⟩)):=by show objR f at_ place num b=_;unfold objR;rw[if_neg hp0,if_neg hpb]
   have hA2:=At.new_obj (k:=place) (at_:=at_) HB1 hsz1 (by omega) ha hf;have F2:=HF1.alloc (.cells #[.string f,.int .i64 (place:Int),.int .i64 (at_:Int),.func (.func 105) #[] #[],.func (.func 60) #[] #[.pointer (some ⟨B,0,none⟩),.pointer (some ⟨B+1,0,none⟩)],.int .i64 0,.int .i64 0,.int .i64 0] 154);have hFT2:FT T _:=hFT1.kept (w':=w1.alloc (.cells #[.string f,.int .i64 (place:Int),.int .i64 (at_:Int),.func (.func 105) #[] #[],.func (.func 60) #[] #[.pointer (some ⟨B,0,none⟩),.pointer (some ⟨B+1,0,none⟩)],.int .i64 0,.int .i64 0,.int .i64 0] 154)) (fun k hk=>Below.heap_alloc _ _ _ (by omega));obtain⟨w2,hw2⟩:∃ w2,w1.alloc (.cells #[.string f,.int .i64 (place:Int),.int .i64 (at_:Int),.func (.func 105) #[] #[],.func (.func 60) #[] #[.pointer (some ⟨B,0,none⟩),.pointer (some ⟨B+1,0,none⟩)],.int .i64 0,.int .i64 0,.int .i64 0] 154)=w2:=⟨_,rfl⟩;have hs2:w2.heap.size=w.heap.size+3:=by rw[← hw2];simp;omega
   have hR2:w2.heap[w.heap.size+1]?=some (.cells #[.int .i64 0,.float .f64 0,.string ⟨#[]⟩,.int .i64 0,.slice none 0 0,.map none,.int .i64 0,.int .i64 0,.bool false,.string ⟨#[]⟩] 122):=by rw[← hw2];exact (Below.heap_alloc _ _ _ (by omega)).trans hR1
   rw[hw2] at hA2 F2 hFT2;have HNEW:Hid (∀ x,(w1.alloc x).heap[w.heap.size+2]?=some x):=fun x=>by rw[← hsz1];exact heap_alloc_new w1 x
   have HS1:=hid hsz1;have HW2:=hid hw2;have OB:=object_any (P:=w.heap.size+2) (B:=B) (G:=FT T) (fun a b h1 h2=>h1.fz h2 ⟨by omega,hTB⟩ ⟨by omega,h22⟩) (number_any T ⟨by omega,hTB⟩ ⟨by omega,h22⟩) num (by omega) hFT2 rfl hA2 (Nat.zero_le _);clear hw2 hp0 hpb hA2 hFT2 hFT1
   rcases q3:objectM (objEnv f at_) num ⟨b,place,0,0,0⟩ with⟨o,s3⟩|y
   ·go_wp2_with (refine wpList_store_row rfl 154 _ _ rfl (w.heap.size+2) _ rfl rfl 154 _ (unh HNEW _) Tryz.sizeP rfl (one_ps _ _ _ _) ?_;rw[setRow_at w1 _ (unh HS1),unh HW2])
    refine (Post.okC OB q3).mono ?_;rintro e w3 ⟨v3,rfl,⟨cs,rfl,hRep⟩,h3,G3⟩;obtain⟨kk,xx,tt,rr,aa,nn,cc,mm,rfl⟩:=hRep.shape;have hz3:=G3.size;have F3:=F2.fz G3 (by omega);have hR3:w3.heap[w.heap.size+1]?=some (.cells #[.int .i64 0,.float .f64 0,.string ⟨#[]⟩,.int .i64 0,.slice none 0 0,.map none,.int .i64 0,.int .i64 0,.bool false,.string ⟨#[]⟩] 122):=(G3.block _ (by omega) (by omega) (by omega)).trans hR2;have h4:=h3.alloc (.cells #[.int .i64 (kk:Int),.float .f64 xx,.string tt,.int .i64 (rr:Int),.slice aa nn cc,.map mm,.int .i64 (o.place:Int),.int .i64 (o.fin:Int),.bool o.has,.string o.stream] 122);have d6:=h4.c6 rfl;have d7:=h4.c7 rfl;have F4:=F3.alloc (.cells #[.int .i64 (kk:Int),.float .f64 xx,.string tt,.int .i64 (rr:Int),.slice aa nn cc,.map mm,.int .i64 (o.place:Int),.int .i64 (o.fin:Int),.bool o.has,.string o.stream] 122);have hO4:(w3.alloc (.cells #[.int .i64 (kk:Int),.float .f64 xx,.string tt,.int .i64 (rr:Int),.slice aa nn cc,.map mm,.int .i64 (o.place:Int),.int .i64 (o.fin:Int),.bool o.has,.string o.stream] 122)).heap[w3.heap.size]?=some (.cells #[.int .i64 (kk:Int),.float .f64 xx,.string tt,.int .i64 (rr:Int),.slice aa nn cc,.map mm,.int .i64 (o.place:Int),.int .i64 (o.fin:Int),.bool o.has,.string o.stream] 122 (0,0)):=heap_alloc_new w3 _;have hR4:(w3.alloc (.cells #[.int .i64 (kk:Int),.float .f64 xx,.string tt,.int .i64 (rr:Int),.slice aa nn cc,.map mm,.int .i64 (o.place:Int),.int .i64 (o.fin:Int),.bool o.has,.string o.stream] 122)).heap[w.heap.size+1]?=some (.cells #[.int .i64 0,.float .f64 0,.string ⟨#[]⟩,.int .i64 0,.slice none 0 0,.map none,.int .i64 0,.int .i64 0,.bool false,.string ⟨#[]⟩] 122):=(Below.heap_alloc _ _ _ (by omega)).trans hR3;have hRep4:Rep (w3.alloc (.cells #[.int .i64 (kk:Int),.float .f64 xx,.string tt,.int .i64 (rr:Int),.slice aa nn cc,.map mm,.int .i64 (o.place:Int),.int .i64 (o.fin:Int),.bool o.has,.string o.stream] 122)) (fun b=>w.heap.size+3<=b/\b<w3.heap.size) o.v (vC kk xx tt rr (.slice aa nn cc) (.map mm)):=Rep.kept (fun b hb=>⟨⟨by have:=hb.1;omega,hb.2⟩,Below.heap_alloc _ _ _ hb.2⟩) o.v hRep;have hz4:(w3.alloc (.cells #[.int .i64 (kk:Int),.float .f64 xx,.string tt,.int .i64 (rr:Int),.slice aa nn cc,.map mm,.int .i64 (o.place:Int),.int .i64 (o.fin:Int),.bool o.has,.string o.stream] 122)).heap.size=w3.heap.size+1:=by simp
    obtain⟨w4,hw4⟩:∃ w4,w3.alloc (.cells #[.int .i64 (kk:Int),.float .f64 xx,.string tt,.int .i64 (rr:Int),.slice aa nn cc,.map mm,.int .i64 (o.place:Int),.int .i64 (o.fin:Int),.bool o.has,.string o.stream] 122)=w4:=⟨_,rfl⟩;rw[hw4] at h4 d6 d7 F4 hO4 hR4 hRep4 hz4;have HW4:=hid hw4;clear hw4 hRep hR3 hR2 hR1;simp only[vC,List.cons_append,List.nil_append]
    by_cases hd:0<s3.d
    ·have HN:Hid (objR f at_ place num b=.no (6,s3.d)):=(unh HE0).trans (by rw[q3];simp[objFin,hd]);have id:(0:Int)<(s3.d:Int):=by omega
     go_wp2_with (refine wpList_store_row rfl 122 _ _ rfl w3.heap.size _ rfl rfl 122 _ (heap_alloc_new w3 _) Tryz.sizeO rfl (one_ten _ _ _ _ rfl rfl rfl rfl _ _ _ _ _ _ _ _) ?_;rw[setRow_alloc,unh HW4])
     refine (refuse_any _ _ _).mono ?_;rintro e w5 ⟨rfl,rfl⟩;exact⟨rfl,PostB.no (unh HN) F4⟩
    ·have id:¬ (0:Int)<(s3.d:Int):=by omega
     by_cases htw:0<s3.t
     ·have HN:Hid (objR f at_ place num b=.no (7,s3.t)):=(unh HE0).trans (by rw[q3];simp[objFin,hd,htw]);have it:(0:Int)<(s3.t:Int):=by omega
      go_wp2_with (refine wpList_store_row rfl 122 _ _ rfl w3.heap.size _ rfl rfl 122 _ (heap_alloc_new w3 _) Tryz.sizeO rfl (one_ten _ _ _ _ rfl rfl rfl rfl _ _ _ _ _ _ _ _) ?_;rw[setRow_alloc,unh HW4])
      refine (refuse_any _ _ _).mono ?_;rintro e w5 ⟨rfl,rfl⟩;exact⟨rfl,PostB.no (unh HN) F4⟩
     ·have HN:Hid (objR f at_ place num b=.ok o s3.b):=(unh HE0).trans (by rw[q3];simp[objFin,hd,htw]);have it:¬ (0:Int)<(s3.t:Int):=by omega
      go_wp2_with (first | (refine wpList_store_row rfl 122 _ _ rfl w3.heap.size _ rfl rfl 122 _ (heap_alloc_new w3 _) Tryz.sizeO rfl (one_ten _ _ _ _ rfl rfl rfl rfl _ _ _ _ _ _ _ _) ?_;rw[setRow_alloc,unh HW4]) | (refine load_row rfl 122 _ rfl w3.heap.size rfl 122 _ (0,0) hO4 Tryz.agO Tryz.sizeO ?_) | (refine wpList_store_row rfl 122 _ _ rfl (w.heap.size+1) _ rfl rfl 122 _ hR4 Tryz.sizeO rfl (one_ten _ _ _ _ rfl rfl rfl rfl _ _ _ _ _ _ _ _) ?_))
      refine bodyPost_ret (results_cell_row rfl _ _ (w.heap.size+1) 122 _ (0,0) dO rfl (setRow_heap _ _ _ _ _ _ hR4) hd1 (by cases dO <;> first | rfl | cases hd2) Tryz.sizeO) rfl ?_;refine PostB.ok (unh HN) ⟨vC kk xx tt rr (.slice aa nn cc) (.map mm),rfl,Rep.kept (fun b hb=>?_) o.v hRep4⟩ (h4.bud.of_blocks (fun k hk=>setRow_other _ _ _ _ (by omega))) (F4.setRow _ _ (by omega));exact⟨⟨by have:=hb.1;omega,by rw[setRow_size];have:=hb.2;omega⟩,setRow_other _ _ _ _ (by have:=hb.1;omega)⟩
   ·have HN:Hid (objR f at_ place num b=.no y):=(unh HE0).trans (by rw[q3];rfl)
    go_wp2_with (refine wpList_store_row rfl 154 _ _ rfl (w.heap.size+2) _ rfl rfl 154 _ (unh HNEW _) Tryz.sizeP rfl (one_ps _ _ _ _) ?_;rw[setRow_at w1 _ (unh HS1),unh HW2])
    refine (Post.noC OB q3).mono ?_;rintro e w3 ⟨rfl,G3⟩;exact⟨rfl,PostB.no (unh HN) (F2.fz G3 (by omega))⟩
end
end Go.Proofs.YtgffljllfenhkaaGreatDoor
