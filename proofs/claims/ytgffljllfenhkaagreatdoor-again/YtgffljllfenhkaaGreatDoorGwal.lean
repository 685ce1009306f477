import Derived.Lib.LastIndexLaws
import Derived.Test.YtgffljllfenhkaaGreatDoorGwaa
import Derived.Test.YtgffljllfenhkaaGreatDoorGwag
import Derived.Test.YtgffljllfenhkaaGreatDoorGwak
namespace Go.Proofs.YtgffljllfenhkaaGreatDoor
section
open Go.RowKit
attribute [local go_sem] Oper.semAt_some
variable {w w':World}{P B:Nat}{E:Env}{s s':St}
theorem vI_congr {a b:ByteArray}{o p:Nat}:∀ n,(∀ j,j<n->bt a (o+j)=bt b (p+j))->vI a o n=vI b p n
 | 0,_=>rfl
 | n+1,h=>by unfold vI;rw[vI_congr n (fun j hj=>h j (by omega)),h n (by omega)]
theorem bt_append (a b:ByteArray) (j:Nat):bt (a++b) j=if j<a.size then bt a j else bt b (j-a.size):=by
 unfold bt;have e:(a++b).data.toList=a.data.toList++b.data.toList:=by simp
 have hl:a.data.toList.length=a.size:=Array.length_toList;rw[e,List.getD_eq_getElem?_getD,List.getD_eq_getElem?_getD,List.getD_eq_getElem?_getD,List.getElem?_append,hl];split <;> rfl
theorem vF_append {t ti tf:ByteArray}{o ni:Nat}(hi:ti.size=ni) (h1:∀ j,j<ni->bt t (o+j)=bt ti j):∀ nf,(∀ j,j<nf->bt t (o+ni+1+j)=bt tf j)->vF t o ni nf=vI (ti++tf) 0 (ni+nf)
 | 0,_=>by
  unfold vF;exact vI_congr _ (fun j hj=>by rw[Nat.zero_add,bt_append,if_pos (by omega)];exact h1 j hj)
 | n+1,h=>by
  show 10*vF t o ni n+(bt t (o+ni+1+n)-48)=10*vI (ti++tf) 0 (ni+n)+(bt (ti++tf) (0+(ni+n))-48);rw[vF_append hi h1 n (fun j hj=>h j (by omega)),h n (by omega),Nat.zero_add,bt_append,if_neg (by omega),show ni+n-ti.size=n by omega]
theorem digP_iff {x:Nat}:digP x=true ↔ 48<=x/\x<=57:=by simp[digP]
theorem numTx_whole {x:Nat}{sA sB:St}{ti:ByteArray}(hA:At w P B E sB) (hx:x=bt E.f s.k) (hkA:sA.k=s.k+(x==45).toNat) (h:someM E digP 6 sA=.ok ti sB) :
  NumTx (E.f.extract s.k sB.k) (x==45) ti.size 0/\vF (E.f.extract s.k sB.k) (x==45).toNat ti.size 0=vI ti 0 ti.size/\ti.size=sB.k-sA.k/\sA.k<sB.k:=by
 obtain⟨ht,h1,h2,h3⟩:=some_inv (by decide) h;have hk:=hA.hk;have he:=hA.he;have hsz:ti.size=sB.k-sA.k:=by rw[ht,ByteArray.size_extract];omega
 have hb:∀ j,j<sB.k-s.k->bt (E.f.extract s.k sB.k) j=bt E.f (s.k+j):=fun j hj=>bt_extract _ _ _ _ hj
 have hbi:∀ j,j<ti.size->bt ti j=bt E.f (sA.k+j):=fun j hj=>by rw[ht];exact bt_extract _ _ _ _ (by omega)
 refine⟨⟨by omega,by omega,by omega,?_,?_,?_,by omega,by omega⟩,?_,hsz,h1⟩
 ·rw[ByteArray.size_extract,if_pos rfl];omega
 ·intro hn;rw[hb 0 (by omega),Nat.add_zero,← hx];simpa using hn
 ·intro j hj;rw[hb _ (by omega),show s.k+((x==45).toNat+j)=sA.k+j by omega];exact digP_iff.1 (h3 _ (by omega) (by omega)).1
 ·unfold vF;exact vI_congr _ (fun j hj=>by rw[hb _ (by omega),Nat.zero_add,hbi j hj];congr 1;omega)
theorem numTx_point {x:Nat}{sA sB sC sD:St}{ti tf:ByteArray}(hA:At w P B E sD) (hx:x=bt E.f s.k) (hkA:sA.k=s.k+(x==45).toNat) (h:someM E digP 6 sA=.ok ti sB) (hp:bt E.f sB.k=46) (hC:sC.k=sB.k+1) (hf:someM E digP 3 sC=.ok tf sD) :
  NumTx (E.f.extract s.k sD.k) (x==45) ti.size tf.size/\vF (E.f.extract s.k sD.k) (x==45).toNat ti.size tf.size=vI (ti++tf) 0 (ti.size+tf.size)/\sA.k<sB.k/\sC.k<sD.k:=by
 obtain⟨ht,h1,h2,h3⟩:=some_inv (by decide) h;obtain⟨gt,g1,g2,g3⟩:=some_inv (by decide) hf;have hk:=hA.hk;have he:=hA.he;have hsz:ti.size=sB.k-sA.k:=by rw[ht,ByteArray.size_extract];omega
 have gsz:tf.size=sD.k-sC.k:=by rw[gt,ByteArray.size_extract];omega
 have hb:∀ j,j<sD.k-s.k->bt (E.f.extract s.k sD.k) j=bt E.f (s.k+j):=fun j hj=>bt_extract _ _ _ _ hj
 have hbi:∀ j,j<ti.size->bt ti j=bt E.f (sA.k+j):=fun j hj=>by rw[ht];exact bt_extract _ _ _ _ (by omega)
 have hbf:∀ j,j<tf.size->bt tf j=bt E.f (sC.k+j):=fun j hj=>by rw[gt];exact bt_extract _ _ _ _ (by omega)
 refine⟨⟨by omega,by omega,by omega,?_,?_,?_,?_,?_⟩,?_,h1,g1⟩
 ·rw[ByteArray.size_extract,if_neg (by omega)];omega
 ·intro hn;rw[hb 0 (by omega),Nat.add_zero,← hx];simpa using hn
 ·intro j hj;rw[hb _ (by omega),show s.k+((x==45).toNat+j)=sA.k+j by omega];exact digP_iff.1 (h3 _ (by omega) (by omega)).1
 ·intro _;rw[hb _ (by omega),show s.k+((x==45).toNat+ti.size)=sB.k by omega];exact hp
 ·intro j hj;rw[hb _ (by omega),show s.k+((x==45).toNat+ti.size+1+j)=sC.k+j by omega];exact digP_iff.1 (g3 _ (by omega) (by omega)).1
 ·refine vF_append rfl (fun j hj=>?_) tf.size (fun j hj=>?_)
  ·rw[hb _ (by omega),hbi j hj];congr 1;omega
  ·rw[hb _ (by omega),hbf j hj];congr 1;omega
end
section
open Go.RowKit
attribute [local go_sem] Oper.semAt_some
variable {w w':World}{P B:Nat}{E:Env}{s s':St}
theorem FT.fz {T:Nat}(h:FT T w) (F:Fz P B w w') (hT:T≠P/\T≠B) (hP:22<P/\22<B):FT T w':=
 h.kept (fun k hk=>F.block k (by have:=h.lt;omega) (by omega) (by omega))
theorem FT.drew {T:Nat}(h:FT T w):FT T w.drew:=h.kept (fun _ _=>rfl)
theorem Fz.of_grown (hg:w.grownBy w' none):Fz P B w w':=⟨hg.os,hg.tape,hg.output,hg.size,fun k hk _ _=>hg.block k hk (by simp)⟩
theorem At.grown (h:At w P B E s) (hg:w.grownBy w' none):At w' P B E s:=h.of_blocks (fun k hk=>hg.block k (by have:=h.ltP;have:=h.lt;omega) (by simp))
set_option maxHeartbeats 4000000 in
set_option maxRecDepth 100000 in
theorem number_any (T:Nat) (hTP:T≠P/\T≠B) (hP:22<P/\22<B):NumC (FT T) P B:=by
 intro w E s hT ht h;have hG:∀ {W W':World},FT T W->Fz P B W W'->FT T W':=fun a b=>a.fz b hTP hP
 have hs9:=h.hs;have he9:=h.he;have c1:=h.c1
 go_enter Tryz.func151,Tryz.ntmps151
 rcases q1:peekM E s with⟨x,s1⟩|y
 ·obtain⟨e1,hx,hne,_⟩:=peek_inv q1;have hk1:s1.k<=s.k/\s.k<=s1.k:=by rw[e1];exact⟨Nat.le_refl _,Nat.le_refl _⟩
  clear e1;have HX:=hid hx;clear hx
  go_wp2_with fail
  refine (Post.okC (peek_any h) q1).mono ?_;rintro e w1 ⟨v1,rfl,rfl,h1,F1⟩;have hke1:=h1.hk
  by_cases hx45:x=45
  ·have i1:((x:Int)==45)=true:=beqI hx45;have HB:Hid ((x==45)=true):=by show (x==45)=true;rw[hx45];rfl
   have QA:Hid ((if (x==45)=true then advM else Rdr.ret ()) s1=.ok () { s1 with k:=s1.k+1 }):=by show (if (x==45)=true then advM else Rdr.ret ()) s1=_;rw[if_pos (unh HB)];rfl
   have g1:=h1.c1;have gf:=h1.fr 1;have hA:=h1.go (s1.k+1) (by omega);have FA:Fz P B w (w1.setCell ⟨P,1,none⟩ (.int .i64 ((s1.k+1:Nat):Int))):=F1.setP _ _;have e1:((s1.k+1:Nat):Int)=(s1.k:Int)+1:=by omega
   rw[e1] at hA FA;obtain⟨wA,hwA⟩:∃ wA,w1.setCell ⟨P,1,none⟩ (.int .i64 ((s1.k:Int)+1))=wA:=⟨_,rfl⟩;rw[hwA] at hA FA;obtain⟨sA,hsA⟩:∃ sA:St,{ s1 with k:=s1.k+1 }=sA:=⟨_,rfl⟩;have hkA:sA.k=s.k+(x==45).toNat:=by rw[← hsA,unh HB];show s1.k+1=s.k+1;omega
   rw[hsA] at hA QA;have HKA:=hid hkA;clear hsA e1 hkA hx45
   rcases q2:someM E digP 6 sA with⟨ti,sB⟩|y
   ·go_wp2_with fail
    refine (Post.okC (someD_any 6 (by decide) hA) q2).mono ?_;rintro e wB ⟨vB,rfl,rfl,hB,FB⟩;have FwB:=FA.trans FB
    rcases q3:peekM E sB with⟨y3,s3⟩|y
    ·obtain⟨e3,hy3,hne3,_⟩:=peek_inv q3;have hk3:s3.k<=sB.k/\sB.k<=s3.k:=by rw[e3];exact⟨Nat.le_refl _,Nat.le_refl _⟩
     have HY3:=hid hy3;clear e3 hy3
     go_wp2_with fail
     refine (Post.okC (peek_any hB) q3).mono ?_;rintro e w3 ⟨v3,rfl,rfl,h3,F3⟩;have hke3:=h3.hk;have Fw3:=FwB.trans F3
     by_cases hy46:y3=46
     ·have i3:((y3:Int)==46)=true:=beqI hy46;have g3:=h3.c1;have gf3:=h3.fr 1;have hC:=h3.go (s3.k+1) (by omega);have FC:Fz P B w (w3.setCell ⟨P,1,none⟩ (.int .i64 ((s3.k+1:Nat):Int))):=Fw3.setP _ _;have e3:((s3.k+1:Nat):Int)=(s3.k:Int)+1:=by omega
      rw[e3] at hC FC;obtain⟨wC,hwC⟩:∃ wC,w3.setCell ⟨P,1,none⟩ (.int .i64 ((s3.k:Int)+1))=wC:=⟨_,rfl⟩;rw[hwC] at hC FC;clear e3
      rcases q4:someM E digP 3 { s3 with k:=s3.k+1 } with⟨tf,sD⟩|y
      ·have HN:Hid (numM E s=.ok (x==45,vI (ti++tf) 0 (ti.size+tf.size),tf.size) sD):=by show numM E s=_;unfold numM;rw[Rdr.then_ok q1,Rdr.then_ok (unh QA),Rdr.then_ok q2,Rdr.then_ok q3,if_pos (by rw[hy46];rfl)];simp[Rdr.then,advM,q4,Rdr.ret]
       have hp46:bt E.f sB.k=46:=by rw[← unh HY3];exact hy46
       clear hy46
       go_wp2_with fail
       refine (Post.okC (someD_any 3 (by decide) hC) q4).mono ?_;rintro e wD ⟨vD,rfl,rfl,hD,FD⟩;have FwD:=FC.trans FD;have hTF:FT T _:=hG hT FwD;have hN:=numTx_point hD (unh HX) (unh HKA) q2 hp46 (show ({ s3 with k:=s3.k+1 }:St).k=sB.k+1 by show s3.k+1=sB.k+1;omega) q4;have PF:=fun (W:World) (hW:FT T W)=>parse_any W T hW _ _ _ _ hN.1
       rw[hN.2.1] at PF;have l1:((s.k:Nat):Int)<=(sD.k:Int):=by have h5:=(some_inv (by decide) q2).2.1;have h6:=(some_inv (by decide) q4).2.1;have:=unh HKA;simp only[] at h6;omega
       have l2:(sD.k:Int)<=(E.f.size:Int):=by have:=hD.hk;omega
       have d0:=hD.c0;have d1:=hD.c1;obtain⟨bb,hbb⟩:∃ bb,fb (x==45) (vI (ti++tf) 0 (ti.size+tf.size)) tf.size=bb:=⟨_,rfl⟩;rw[hbb] at PF;have HBB:=hid hbb;clear hN hbb
       go_wp2_with fail
       go_region_with (go_at_call 172;refine (PF _ (by exact hTF.drew)).mono ?_;rintro e w9 ⟨rfl,hg9⟩)
       all_goals
        go_wp2_with fail
        go_ret
        refine Post.ok (unh HN) ?_ (hD.drew.grown hg9) (FwD.drew.trans (Fz.of_grown hg9));show _=Value.float .f64 (fb (x==45) (vI (ti++tf) 0 (ti.size+tf.size)) tf.size);rw[unh HBB];rfl
      ·have HN:Hid (numM E s=.no y):=by show numM E s=_;unfold numM;rw[Rdr.then_ok q1,Rdr.then_ok (unh QA),Rdr.then_ok q2,Rdr.then_ok q3,if_pos (by rw[hy46];rfl)];simp[Rdr.then,advM,q4]
       clear hy46
       go_wp2_with fail
       refine (Post.noC (someD_any 3 (by decide) hC) q4).mono ?_;rintro e wD ⟨rfl,FD⟩;exact⟨rfl,Post.no (unh HN) (FC.trans FD)⟩
     ·have i3:((y3:Int)==46)=false:=beqI' hy46;have HN:Hid (numM E s=.ok (x==45,vI ti 0 ti.size,0) s3):=by show numM E s=_;unfold numM;rw[Rdr.then_ok q1,Rdr.then_ok (unh QA),Rdr.then_ok q2,Rdr.then_ok q3,if_neg (by simpa using hy46)];rfl
      have ek3:s3.k=sB.k:=by omega
      have NW:=numTx_whole hB (unh HX) (unh HKA) q2;rw[← ek3] at NW;clear hy46 ek3;have hTF:FT T _:=hG hT Fw3;have hN:=NW;have PF:=fun (W:World) (hW:FT T W)=>parse_any W T hW _ _ _ _ hN.1
      rw[hN.2.1] at PF;have l1:((s.k:Nat):Int)<=(s3.k:Int):=by have h5:=(some_inv (by decide) q2).2.1;have:=unh HKA;omega
      have l2:(s3.k:Int)<=(E.f.size:Int):=by have:=h3.hk;omega
      have d0:=h3.c0;have d1:=h3.c1;obtain⟨bb,hbb⟩:∃ bb,fb (x==45) (vI ti 0 ti.size) 0=bb:=⟨_,rfl⟩;rw[hbb] at PF;have HBB:=hid hbb;clear hN hbb
      go_wp2_with fail
      go_region_with (go_at_call 172;refine (PF _ (by exact hTF.drew)).mono ?_;rintro e w9 ⟨rfl,hg9⟩)
      all_goals
       go_wp2_with fail
       go_ret
       refine Post.ok (unh HN) ?_ (h3.drew.grown hg9) (Fw3.drew.trans (Fz.of_grown hg9));show _=Value.float .f64 (fb (x==45) (vI ti 0 ti.size) 0);rw[unh HBB];rfl
    ·have HN:Hid (numM E s=.no y):=by show numM E s=_;unfold numM;rw[Rdr.then_ok q1,Rdr.then_ok (unh QA),Rdr.then_ok q2,Rdr.then_no q3]
     go_wp2_with fail
     refine (Post.noC (peek_any hB) q3).mono ?_;rintro e w3 ⟨rfl,F3⟩;exact⟨rfl,Post.no (unh HN) (FwB.trans F3)⟩
   ·have HN:Hid (numM E s=.no y):=by show numM E s=_;unfold numM;rw[Rdr.then_ok q1,Rdr.then_ok (unh QA),Rdr.then_no q2]
    go_wp2_with fail
    refine (Post.noC (someD_any 6 (by decide) hA) q2).mono ?_;rintro e wB ⟨rfl,FB⟩;exact⟨rfl,Post.no (unh HN) (FA.trans FB)⟩
  ·have i1:((x:Int)==45)=false:=beqI' hx45;have HB:Hid ((x==45)=false):=by show (x==45)=false;rw[beq_eq_false_iff_ne];exact hx45
   obtain⟨sA,hsA⟩:∃ sA:St,s1=sA:=⟨_,rfl⟩;have QA:Hid ((if (x==45)=true then advM else Rdr.ret ()) s1=.ok () sA):=by show (if (x==45)=true then advM else Rdr.ret ()) s1=_;rw[unh HB,← hsA];rfl
   have hkA:sA.k=s.k+(x==45).toNat:=by rw[← hsA,unh HB];show s1.k=s.k+0;omega
   obtain⟨wA,hwA⟩:∃ wA,w1=wA:=⟨_,rfl⟩;have hA:At wA P B E sA:=by rw[← hwA,← hsA];exact h1
   have FA:Fz P B w wA:=by rw[← hwA];exact F1
   have HKA:=hid hkA;clear hsA hkA hx45
   rcases q2:someM E digP 6 sA with⟨ti,sB⟩|y
   ·go_wp2_with fail
    refine (Post.okC (someD_any 6 (by decide) hA) q2).mono ?_;rintro e wB ⟨vB,rfl,rfl,hB,FB⟩;have FwB:=FA.trans FB
    rcases q3:peekM E sB with⟨y3,s3⟩|y
    ·obtain⟨e3,hy3,hne3,_⟩:=peek_inv q3;have hk3:s3.k<=sB.k/\sB.k<=s3.k:=by rw[e3];exact⟨Nat.le_refl _,Nat.le_refl _⟩
     have HY3:=hid hy3;clear e3 hy3
     go_wp2_with fail
     refine (Post.okC (peek_any hB) q3).mono ?_;rintro e w3 ⟨v3,rfl,rfl,h3,F3⟩;have hke3:=h3.hk;have Fw3:=FwB.trans F3
     by_cases hy46:y3=46
     ·have i3:((y3:Int)==46)=true:=beqI hy46;have g3:=h3.c1;have gf3:=h3.fr 1;have hC:=h3.go (s3.k+1) (by omega);have FC:Fz P B w (w3.setCell ⟨P,1,none⟩ (.int .i64 ((s3.k+1:Nat):Int))):=Fw3.setP _ _;have e3:((s3.k+1:Nat):Int)=(s3.k:Int)+1:=by omega
      rw[e3] at hC FC;obtain⟨wC,hwC⟩:∃ wC,w3.setCell ⟨P,1,none⟩ (.int .i64 ((s3.k:Int)+1))=wC:=⟨_,rfl⟩;rw[hwC] at hC FC;clear e3
      rcases q4:someM E digP 3 { s3 with k:=s3.k+1 } with⟨tf,sD⟩|y
      ·have HN:Hid (numM E s=.ok (x==45,vI (ti++tf) 0 (ti.size+tf.size),tf.size) sD):=by show numM E s=_;unfold numM;rw[Rdr.then_ok q1,Rdr.then_ok (unh QA),Rdr.then_ok q2,Rdr.then_ok q3,if_pos (by rw[hy46];rfl)];simp[Rdr.then,advM,q4,Rdr.ret]
       have hp46:bt E.f sB.k=46:=by rw[← unh HY3];exact hy46
       clear hy46
       go_wp2_with fail
       refine (Post.okC (someD_any 3 (by decide) hC) q4).mono ?_;rintro e wD ⟨vD,rfl,rfl,hD,FD⟩;have FwD:=FC.trans FD;have hTF:FT T _:=hG hT FwD;have hN:=numTx_point hD (unh HX) (unh HKA) q2 hp46 (show ({ s3 with k:=s3.k+1 }:St).k=sB.k+1 by show s3.k+1=sB.k+1;omega) q4;have PF:=fun (W:World) (hW:FT T W)=>parse_any W T hW _ _ _ _ hN.1
       rw[hN.2.1] at PF;have l1:((s.k:Nat):Int)<=(sD.k:Int):=by have h5:=(some_inv (by decide) q2).2.1;have h6:=(some_inv (by decide) q4).2.1;have:=unh HKA;simp only[] at h6;omega
       have l2:(sD.k:Int)<=(E.f.size:Int):=by have:=hD.hk;omega
       have d0:=hD.c0;have d1:=hD.c1;obtain⟨bb,hbb⟩:∃ bb,fb (x==45) (vI (ti++tf) 0 (ti.size+tf.size)) tf.size=bb:=⟨_,rfl⟩;rw[hbb] at PF;have HBB:=hid hbb;clear hN hbb
       go_wp2_with fail
       go_region_with (go_at_call 172;refine (PF _ (by exact hTF.drew)).mono ?_;rintro e w9 ⟨rfl,hg9⟩)
       all_goals
        go_wp2_with fail
        go_ret
        refine Post.ok (unh HN) ?_ (hD.drew.grown hg9) (FwD.drew.trans (Fz.of_grown hg9));show _=Value.float .f64 (fb (x==45) (vI (ti++tf) 0 (ti.size+tf.size)) tf.size);rw[unh HBB];rfl
      ·have HN:Hid (numM E s=.no y):=by show numM E s=_;unfold numM;rw[Rdr.then_ok q1,Rdr.then_ok (unh QA),Rdr.then_ok q2,Rdr.then_ok q3,if_pos (by rw[hy46];rfl)];simp[Rdr.then,advM,q4]
       clear hy46
       go_wp2_with fail
       refine (Post.noC (someD_any 3 (by decide) hC) q4).mono ?_;rintro e wD ⟨rfl,FD⟩;exact⟨rfl,Post.no (unh HN) (FC.trans FD)⟩
     ·have i3:((y3:Int)==46)=false:=beqI' hy46;have HN:Hid (numM E s=.ok (x==45,vI ti 0 ti.size,0) s3):=by show numM E s=_;unfold numM;rw[Rdr.then_ok q1,Rdr.then_ok (unh QA),Rdr.then_ok q2,Rdr.then_ok q3,if_neg (by simpa using hy46)];rfl
      have ek3:s3.k=sB.k:=by omega
      have NW:=numTx_whole hB (unh HX) (unh HKA) q2;rw[← ek3] at NW;clear hy46 ek3;have hTF:FT T _:=hG hT Fw3;have hN:=NW;have PF:=fun (W:World) (hW:FT T W)=>parse_any W T hW _ _ _ _ hN.1
      rw[hN.2.1] at PF;have l1:((s.k:Nat):Int)<=(s3.k:Int):=by have h5:=(some_inv (by decide) q2).2.1;have:=unh HKA;omega
      have l2:(s3.k:Int)<=(E.f.size:Int):=by have:=h3.hk;omega
      have d0:=h3.c0;have d1:=h3.c1;obtain⟨bb,hbb⟩:∃ bb,fb (x==45) (vI ti 0 ti.size) 0=bb:=⟨_,rfl⟩;rw[hbb] at PF;have HBB:=hid hbb;clear hN hbb
      go_wp2_with fail
      go_region_with (go_at_call 172;refine (PF _ (by exact hTF.drew)).mono ?_;rintro e w9 ⟨rfl,hg9⟩)
      all_goals
       go_wp2_with fail
       go_ret
       refine Post.ok (unh HN) ?_ (h3.drew.grown hg9) (Fw3.drew.trans (Fz.of_grown hg9));show _=Value.float .f64 (fb (x==45) (vI ti 0 ti.size) 0);rw[unh HBB];rfl
    ·have HN:Hid (numM E s=.no y):=by show numM E s=_;unfold numM;rw[Rdr.then_ok q1,Rdr.then_ok (unh QA),Rdr.then_ok q2,Rdr.then_no q3]
     go_wp2_with fail
     refine (Post.noC (peek_any hB) q3).mono ?_;rintro e w3 ⟨rfl,F3⟩;exact⟨rfl,Post.no (unh HN) (FwB.trans F3)⟩
   ·have HN:Hid (numM E s=.no y):=by show numM E s=_;unfold numM;rw[Rdr.then_ok q1,Rdr.then_ok (unh QA),Rdr.then_no q2]
    go_wp2_with fail
    refine (Post.noC (someD_any 6 (by decide) hA) q2).mono ?_;rintro e wB ⟨rfl,FB⟩;exact⟨rfl,Post.no (unh HN) (FA.trans FB)⟩
 ·have HN:Hid (numM E s=.no y):=by show numM E s=_;simp[numM,Rdr.then,q1]
  go_wp2_with fail
  refine (Post.noC (peek_any h) q1).mono ?_;rintro e w1 ⟨rfl,F1⟩;exact⟨rfl,Post.no (unh HN) F1⟩
end
section
open Go.RowKit
attribute [local go_sem] Oper.semAt_some
variable {w w':World}{P B:Nat}{E:Env}{s s':St}
structure Bud (w:World) (B b:Nat):Prop where
 a:w.heap[B]?=some (.cells #[.int .i64 (b:Int)] 3 (0,0))
 y:w.heap[B+1]?=some (.cells #[.int .i64 12,.int .i64 0] 45 (0,0))
 hb:b<=100000000
theorem Bud.lt {b:Nat}(h:Bud w B b):B+1<w.heap.size:=(Array.getElem?_eq_some_iff.1 h.y).1
theorem Bud.ca {b:Nat}(h:Bud w B b):w.cell? ⟨B,0,none⟩=some (.int .i64 (b:Int)):=by simp[World.cell?,h.a]
theorem Bud.fa {b:Nat}(h:Bud w B b) (i:Nat):w.frozen? ⟨B,i,none⟩=false:=by simp[World.frozen?,h.a]
theorem Bud.of_blocks {b:Nat}(h:Bud w B b) (hb:∀ k,(k=B\/k=B+1)->w'.heap[k]?=w.heap[k]?):Bud w' B b:=⟨(hb B (.inl rfl)).trans h.a,(hb (B+1) (.inr rfl)).trans h.y,h.hb⟩
theorem Bud.alloc {b:Nat}(h:Bud w B b) (x:Obj):Bud (w.alloc x) B b:=h.of_blocks (fun k hk=>Below.heap_alloc _ _ _ (by have:=h.lt;omega))
theorem Bud.drew {b:Nat}(h:Bud w B b):Bud w.drew B b:=⟨h.a,h.y,h.hb⟩
theorem Bud.take {b:Nat}(h:Bud w B b) (n:Nat) (hn:n<=b):Bud (w.setCell ⟨B,0,none⟩ (.int .i64 ((b:Int)-(n:Int)))) B (b-n):=by
 refine⟨?_,?_,by have:=h.hb;omega⟩
 ·rw[heap_setCell_same w B 0 _ _ _ h.a];have e:(b:Int)-(n:Int)=((b-n:Nat):Int):=by omega
  rw[e];simp
 ·exact (Below.heap_setCell _ _ _ _ (by show B+1≠B;omega)).trans h.y
theorem At.bud (h:At w P B E s):Bud w B s.b:=⟨h.a,h.y,h.hb⟩
structure Fb (B:Nat) (w w':World):Prop where
 os:w'.os=w.os
 tape:w'.tape=w.tape
 output:w'.output=w.output
 size:w.heap.size<=w'.heap.size
 block:∀ k,k<w.heap.size->k≠B->w'.heap[k]?=w.heap[k]?
theorem Fb.refl (B:Nat) (w:World):Fb B w w:=⟨rfl,rfl,rfl,Nat.le_refl _,fun _ _ _=>rfl⟩
theorem Fb.trans {a b c:World}(h:Fb B a b) (k:Fb B b c):Fb B a c:=
 ⟨k.os.trans h.os,k.tape.trans h.tape,k.output.trans h.output,Nat.le_trans h.size k.size,fun i hi h1=>(k.block i (Nat.lt_of_lt_of_le hi h.size) h1).trans (h.block i hi h1)⟩
theorem Fb.setB (h:Fb B w w') (i:Nat) (v:Value):Fb B w (w'.setCell ⟨B,i,none⟩ v):=
 ⟨h.os,h.tape,h.output,by simp[h.size],fun k hk h1=>(Below.heap_setCell _ _ _ _ (by exact h1)).trans (h.block k hk h1)⟩
theorem Fb.setNew (h:Fb B w w') (R i:Nat) (v:Value) (hR:w.heap.size<=R):Fb B w (w'.setCell ⟨R,i,none⟩ v):=
 ⟨h.os,h.tape,h.output,by simp[h.size],fun k hk h1=>(Below.heap_setCell _ _ _ _ (by show k≠R;omega)).trans (h.block k hk h1)⟩
theorem Fb.setRow (h:Fb B w w') (R:Nat) (cs:Array Value) (hR:w.heap.size<=R):Fb B w (w'.setRow R cs):=
 ⟨h.os,h.tape,h.output,by rw[setRow_size];exact h.size,fun k hk a=>(setRow_other _ _ _ _ (by omega)).trans (h.block k hk a)⟩
theorem Fb.drew (h:Fb B w w'):Fb B w w'.drew:=⟨h.os,h.tape,h.output,h.size,h.block⟩
theorem Fb.drewN (h:Fb B w w') (n:Nat):Fb B w (w'.drewN n):=⟨h.os,h.tape,h.output,h.size,h.block⟩
theorem Fb.alloc (h:Fb B w w') (x:Obj):Fb B w (w'.alloc x):=
 ⟨h.os,h.tape,h.output,by simp;exact Nat.le_succ_of_le h.size,fun k hk h1=>(Below.heap_alloc _ _ _ (Nat.lt_of_lt_of_le hk h.size)).trans (h.block k hk h1)⟩
theorem Fb.of_below (k:Below w.heap.size w w'):Fb B w w':=⟨k.os,k.tape,k.output,k.size,fun i hi _=>k.block i hi⟩
theorem Fb.fz {w1:World}(h:Fb B w w1) (F:Fz P B w1 w') (hP:w.heap.size<=P):Fb B w w':=
 ⟨F.os.trans h.os,F.tape.trans h.tape,F.output.trans h.output,Nat.le_trans h.size F.size,fun k hk hb=>(F.block k (Nat.lt_of_lt_of_le hk h.size) (by omega) hb).trans (h.block k hk hb)⟩
inductive Res (α:Type) where
 | ok (a:α) (b:Nat)
 | no (y:Why)
def Out.res {α:Type}:Out α->Res α
 | .ok a s=>.ok a s.b
 | .no y=>.no y
def PostB (B:Nat) (w:World) {α:Type}(rep:α->Value->World->Prop) (o:Res α) (e:Ending) (w':World):Prop:=match o with
 | .ok a b'=>∃ v,e=.returned v/\rep a v w'/\Bud w' B b'/\Fb B w w'
 | .no y=>e=.panicked (thrownY y)/\Fb B w w'
theorem PostB.ok {α:Type}{rep:α->Value->World->Prop}{o:Res α}{a:α}{b:Nat}{v:Value}(ho:o=.ok a b) (hr:rep a v w') (hA:Bud w' B b) (hF:Fb B w w'):PostB B w rep o (.returned v) w':=by
 subst ho;exact⟨v,rfl,hr,hA,hF⟩
theorem PostB.no {α:Type}{rep:α->Value->World->Prop}{o:Res α}{y:Why}(ho:o=.no y) (hF:Fb B w w'):PostB B w rep o (.panicked (thrownY y)) w':=by
 subst ho;exact⟨rfl,hF⟩
theorem PostB.okC {w W:World}{α:Type}{rep:α->Value->World->Prop}{o:Res α}{a:α}{b:Nat}{p:Program}{f:Nat}{args:Array Value}(h:Calls p f args W (PostB B w rep o)) (ho:o=.ok a b) :
  Calls p f args W fun e w'=>∃ v,e=.returned v/\rep a v w'/\Bud w' B b/\Fb B w w':=by subst ho;exact h
theorem PostB.noC {w W:World}{α:Type}{rep:α->Value->World->Prop}{o:Res α}{y:Why}{p:Program}{f:Nat}{args:Array Value}(h:Calls p f args W (PostB B w rep o)) (ho:o=.no y) :
  Calls p f args W fun e w'=>e=.panicked (thrownY y)/\Fb B w w':=by subst ho;exact h
end
section
open Go.RowKit
attribute [local go_sem] Oper.semAt_some
variable {w w':World}{P B:Nat}{E:Env}{s s':St}
def xrefB:List UInt8:=[120,114,101,102,32]
def xrefAt (f:ByteArray):Int:=Lib.lastIndex f.data.toList xrefB
theorem xrefAt_le (f:ByteArray):xrefAt f<=f.size:=by
 unfold xrefAt Lib.lastIndex;have hl:f.data.toList.length=f.size:=Array.length_toList;split
 ·rcases Lib.lastOcc_spec f.data.toList xrefB (f.data.toList.length-xrefB.length+1) with⟨h,_⟩|⟨i,hi,h,_⟩
  ·rw[h];omega
  ·rw[h];have:xrefB.length=5:=rfl;omega
 ·omega
def tabEnv (f:ByteArray):Env:=⟨true,f,f.size⟩
def tabEnd (E:Env) (at_ n:Nat) (l:List Nat):Rdr (List Nat×Nat):=
 (lineM E [114,111,111,116,32] 1 n).then fun r=>(lineM E [97,116,32] at_ at_).then fun _=>(wordM E [101,110,100,10]).then fun _=>fun s=>(needM E (s.k==E.e)).then (fun _=>Rdr.ret (l,r)) s
def tabR (f:ByteArray) (b:Nat):Res (Nat×List Nat×Nat):=
 if b<f.size then .no (12,0) else if xrefAt f<0 then .no (4,0) else
  Out.res (Rdr.then (tableM (tabEnv f) (xrefAt f).toNat) (fun x=>Rdr.ret ((xrefAt f).toNat,x.1,x.2)) ⟨b-f.size,(xrefAt f).toNat,0,0,0⟩)
def intsV (l:List Nat):List Value:=l.map fun (n:Nat)=>Value.int .i64 (n:Int)
def TQ (w:World):Nat×List Nat×Nat->Value->World->Prop:=fun x v w'=>∃ sl,v=.agg #[.int .i64 (x.1:Int),sl,.int .i64 (x.2.2:Int)]/\w'.ownsRow w.heap.size 3 1 sl x.2.1.length (intsV x.2.1)
def AppWp (P:Program) (o:Oper) (a:Act) (w:World) (K:Act->World->Prop) (Q:Exit->Act->World->Prop):Prop:=o.wp P a w K Q
theorem AppWp.own {P:Program}{o:Oper}{a:Act}{w:World}{K:Act->World->Prop}{Q:Exit->Act->World->Prop}(s x:Operand) (t:TypeId)
  (ho:o.op=.call { callee:=.builtin .append,args:=#[s,x],argTypes:=#[t,t] })
  (base:Nat) (e:TypeId) (i:TypeInfo) (z:Value) (size bytes:Nat) (ht:P.underlying t=some (.slice e)) (hi:P.info? e=some i) (hz:i.zero=some z)
  (hsize:i.size=size) (hby:i.bytes=bytes) (hzs:z.cells.size=size) (hsz:0<size)
  (v:Value) (n:Nat) (xs:List Value) (hs:a.eval s=v) (hown:w.ownsRow base e size v n xs)
  (ad:Addr) (m c:Nat) (news:List Value) (hx:a.eval x=.slice (some ad) m c) (hl:news.length=m*size) (hnews:∀ j u,news[j]?=some u->w.cell? (ad.add j)=some u) (h1:∀ u ∈ news,u.oneCell'=true)
  (h63:n+m<=maxLen) (hbytes:(n+m)*bytes<=140737488355328) (hbase:base<=w.heap.size)
  (h:∀ v' w',w'.ownsRow base e size v' (n+m) (xs++news)->w.grownBy w' v.ownBlock->(v'.ownBlock=v.ownBlock\/v'.ownBlock=some w.heap.size)->K (a.put o.dst v') w') :
  AppWp P o a w K Q:=by
 obtain⟨v',w',hr,h2,h3,_,h5⟩:=run_append_own_at (P:=P) w base t o.type e i z size bytes ht hi hz hsize hby hzs hsz v n xs hown ad m c news hl hnews h1 h63 hbytes hbase;unfold AppWp Oper.wp execOp;simp only[ho,resolve,invoke,builtin,Sem.run_bind,Sem.run_pure,Result.andThen_ok,List.map_toArray,List.map_cons,List.map_nil,hs,hx,hr];exact h v' w' h2 h3 h5
theorem app_aside {P:Program}{d:Option Tmp}{x y:Operand}{t u ty:TypeId}{ps:String}{af:Array Edge}{gd:Option (Nat×Bool)}{a:Act}{w:World}{K:Act->World->Prop}{Q:Exit->Act->World->Prop} :
  Oper.wp P { dst:=d,op:=.call { callee:=.builtin .append,args:=#[x,y],argTypes:=#[t,u] },type:=ty,pos:=ps,after:=af,guard:=gd } a w K Q=AppWp P { dst:=d,op:=.call { callee:=.builtin .append,args:=#[x,y],argTypes:=#[t,u] },type:=ty,pos:=ps,after:=af,guard:=gd } a w K Q:=rfl
end
end Go.Proofs.YtgffljllfenhkaaGreatDoor
