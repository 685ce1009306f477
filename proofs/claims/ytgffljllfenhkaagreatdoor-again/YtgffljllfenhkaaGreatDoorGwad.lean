import Derived.Maps.Own
import Derived.Maps.Views
import Derived.Maps.AppendAt
import Ieee.Arith
import Derived.Laws.FloatArith
import Derived.Test.YtgffljllfenhkaaGreatDoorGwac
namespace Go.Proofs.YtgffljllfenhkaaGreatDoor
section
open Go.RowKit
attribute [local go_sem] Oper.semAt_some
variable {w:World}{P B:Nat}{E:Env}{s s':St}
theorem textL_succ (n:Nat):textL E (n+1) s=((peekM E).then fun x=>if x==41 then Rdr.ret () else
   (peekM E).then fun x=>(needM E (!(x==40))).then fun _=>(peekM E).then fun x=>
   (if x==92 then advM.then fun _=>(peekM E).then fun x=>needM E (escP x) else Rdr.ret ()).then fun _=>advM.then fun _=>textL E n) s:=rfl
def textEnd (E:Env) (i:Nat):Rdr ByteArray:=(wordM E [41]).then fun _=>atM.then fun j=>Rdr.ret (E.f.extract i (j-1))
set_option maxHeartbeats 4000000 in
set_option maxRecDepth 100000 in
theorem text_any (h:At w P B E s):Calls Tryz.prog 147 #[.pointer (some ⟨P,0,none⟩)] w (Post P B E w (fun t v _=>v=.string t) (textM E s)):=by
 have hs:=h.hs;have he:=h.he
 go_enter Tryz.func147,Tryz.ntmps147
 rcases q0:wordM E [40] s with⟨u0,s0⟩|y
 ·have HE0:Hid (textM E s=((textL E 9001).then fun _=>textEnd E s0.k) s0):=by show textM E s=_;simp[textM,textEnd,Rdr.then,q0,atM]
  go_wp2_with fail
  refine (Post.okC (word_any ⟨#[40]⟩ (by decide) h) (show wordM E (bl ⟨#[40]⟩) s=_ from q0)).mono ?_;rintro e w0 ⟨v0,rfl,rfl,h0,F0⟩;have c1:=h0.c1
  go_wp2_with fail
  clear c1
  go_loopw [13] (fun _ wr=>∃ (n:Nat) (si:St),E.e+1<=n+si.k/\s0.k<=si.k/\At wr P B E si/\Fz P B w wr/\Hid (textM E s=((textL E n).then fun _=>textEnd E s0.k) si))
   (fun _ wr=>E.e-kOf P wr)
  case atStart=>exact⟨9001,s0,by omega,Nat.le_refl _,h0,F0,HE0⟩
  case round=>
   clear h0 HE0;obtain⟨n,si,hn,hki,hA,hF,HE⟩:=hrel;have hk:=hA.hk;obtain⟨n',rfl⟩:∃ n',n=n'+1:=⟨n-1,by omega⟩
   rcases q1:peekM E si with⟨x1,s1⟩|y
   ·obtain⟨e1,ex1,hne1,_⟩:=peek_inv q1;have hk1:s1.k<=si.k/\si.k<=s1.k:=by rw[e1];exact⟨Nat.le_refl _,Nat.le_refl _⟩
    clear e1 ex1
    by_cases hx:x1=41
    ·have i1:((x1:Int)==41)=true:=beqI hx;have i1':((x1:Int) != 41)=false:=by rw[bne,i1];rfl
     have HE1:Hid (textM E s=textEnd E s0.k s1):=(unh HE).trans (by simp[textL_succ,Rdr.then,q1,hx,Rdr.ret]);clear HE hx
     go_wp2_with fail
     refine (Post.okC (peek_any hA) q1).mono ?_;rintro e w1 ⟨v1,rfl,rfl,h1,F1⟩
     go_wp2_with fail
     rcases q2:wordM E [41] s1 with⟨u2,s2⟩|y
     ·have HN:Hid (textM E s=.ok (E.f.extract s0.k (s2.k-1)) s2):=(unh HE1).trans (by simp[textEnd,Rdr.then,q2,atM,Rdr.ret]);refine (Post.okC (word_any ⟨#[41]⟩ (by decide) h1) (show wordM E (bl ⟨#[41]⟩) s1=_ from q2)).mono ?_;rintro e w2 ⟨v2,rfl,rfl,h2,F2⟩;have hk2:=(word_inv _ q2).1;have d0:=h2.c0;have d1:=h2.c1;have hke2:=h2.hk;obtain⟨m,hm⟩:∃ m,s2.k-1=m:=⟨_,rfl⟩;have hmI:(s2.k:Int)-1=(m:Int):=by simp at hk2;omega
      have hwr:IntKind.i64.wrap ((s2.k:Int)-1)=(m:Int):=by rw[hmI];exact wraps_i64 _ (by omega) (by omega)
      have l1:((s0.k:Nat):Int)<=(m:Int):=by simp at hk2;omega
      have l2:(m:Int)<=(E.f.size:Int):=by omega
      have HM:=hid hm;clear hm hk2
      go_wp2_with fail
      go_quiet (fail)
      go_wp2_with fail
      go_ret
      refine Post.ok (a:=E.f.extract s0.k m) (s':=s2) (by rw[unh HN,unh HM]) ?_ (h2.drewN _) (((hF.trans F1).trans F2).drewN _)
      first | rfl | simp[hmI]
     ·have HN:Hid (textM E s=.no y):=(unh HE1).trans (by simp[textEnd,Rdr.then,q2]);refine (Post.noC (word_any ⟨#[41]⟩ (by decide) h1) (show wordM E (bl ⟨#[41]⟩) s1=_ from q2)).mono ?_;rintro e w2 ⟨rfl,F2⟩;exact⟨rfl,Post.no (unh HN) ((hF.trans F1).trans F2)⟩
    ·have i1:((x1:Int)==41)=false:=beqI' hx;have i1':((x1:Int) != 41)=true:=by rw[bne,i1];rfl
     rcases q2:peekM E s1 with⟨x2,s2⟩|y
     ·have hk2:s2.k<=s1.k/\s1.k<=s2.k:=by obtain⟨e2,_⟩:=peek_inv q2;rw[e2];exact⟨Nat.le_refl _,Nat.le_refl _⟩
      by_cases hx2:x2=40
      ·have i2:((x2:Int)==40)=true:=beqI hx2;have i2':((x2:Int) != 40)=false:=by rw[bne,i2];rfl
       have HN:Hid (textM E s=.no (E.why s2.k)):=(unh HE).trans (by simp[textL_succ,Rdr.then,q1,hx,q2,hx2,needM]);clear HE hx hx2
       go_wp2_with fail
       refine (Post.okC (peek_any hA) q1).mono ?_;rintro e w1 ⟨v1,rfl,rfl,h1,F1⟩
       go_wp2_with fail
       go_region_with (first | (go_at_call 128;refine (Post.okC (peek_any (by exact h1.drew)) q2).mono ?_;rintro e w2 ⟨v2,rfl,rfl,h2,F2⟩) | (go_at_call 104;refine (need_no h2).mono ?_;rintro e w3 ⟨rfl,rfl⟩;refine dead_end ⟨#[],[]⟩ w (show _ from ⟨rfl,Post.no (unh HN) ((hF.trans F1).drew.trans F2).drew⟩) ?_))
       all_goals trivial
      ·have i2:((x2:Int)==40)=false:=beqI' hx2;have i2':((x2:Int) != 40)=true:=by rw[bne,i2];rfl
       rcases q3:peekM E s2 with⟨x3,s3⟩|y
       ·have hk3:s3.k<=s2.k/\s2.k<=s3.k/\s3.k≠E.e:=by obtain⟨e2,_,hne,_⟩:=peek_inv q3;rw[e2];exact⟨Nat.le_refl _,Nat.le_refl _,hne⟩
        by_cases hx3:x3=92
        ·have i3:((x3:Int)==92)=true:=beqI hx3
         rcases q4:peekM E { s3 with k:=s3.k+1 } with⟨x4,s4⟩|y
         ·have hk4:s4.k<=s3.k+1/\s3.k+1<=s4.k/\s4.k≠E.e:=by obtain⟨e2,_,hne,_⟩:=peek_inv q4;rw[e2];exact⟨Nat.le_refl _,Nat.le_refl _,hne⟩
          rcases hes:escP x4 with _|_
          ·have HN:Hid (textM E s=.no (E.why s4.k)):=(unh HE).trans (by simp[textL_succ,Rdr.then,q1,hx,q2,hx2,needM,q3,hx3,advM,q4,hes]);clear HE hx hx2 hx3
           go_wp2_with fail
           refine (Post.okC (peek_any hA) q1).mono ?_;rintro e w1 ⟨v1,rfl,rfl,h1,F1⟩
           go_wp2_with fail
           go_region_with (first | (go_at_call 128;refine (Post.okC (peek_any (by exact h1.drew)) q2).mono ?_;rintro e w2 ⟨v2,rfl,rfl,h2,F2⟩) | (go_at_call 104;refine (need_ok _).mono ?_;rintro e w3 ⟨rfl,rfl⟩))
           all_goals
            go_wp2_with fail
            refine (Post.okC (peek_any h2) q3).mono ?_;rintro e w3 ⟨v3,rfl,rfl,h3,F3⟩;have d1:=h3.c1;have df:=h3.fr 1;have h3':=h3.go (s3.k+1) (by omega)
            go_wp2_with fail
            go_region_with (first | (go_at_call 128;refine (Post.okC (peek_any (by exact h3'.drew)) q4).mono ?_;rintro e w4 ⟨v4,rfl,rfl,h4,F4⟩) | (go_at_call 169;refine (isEscaped_any _ x4).mono ?_;rw[hes];rintro e w5 ⟨rfl,rfl⟩) | (go_at_call 104;refine (need_no h4).mono ?_;rintro e w5 ⟨rfl,rfl⟩;refine dead_end ⟨#[],[]⟩ w (show _ from ⟨rfl,Post.no (unh HN) (((((hF.trans F1).drew.trans F2).trans F3).setP _ _).drew.trans F4).drew⟩) ?_))
            all_goals trivial
          ·have HE2:Hid (textM E s=((textL E n').then fun _=>textEnd E s0.k) { s4 with k:=s4.k+1 }):=(unh HE).trans (by simp[textL_succ,Rdr.then,q1,hx,q2,hx2,needM,q3,hx3,advM,q4,hes]);clear HE hx hx2 hx3
           go_wp2_with fail
           refine (Post.okC (peek_any hA) q1).mono ?_;rintro e w1 ⟨v1,rfl,rfl,h1,F1⟩
           go_wp2_with fail
           go_region_with (first | (go_at_call 128;refine (Post.okC (peek_any (by exact h1.drew)) q2).mono ?_;rintro e w2 ⟨v2,rfl,rfl,h2,F2⟩) | (go_at_call 104;refine (need_ok _).mono ?_;rintro e w3 ⟨rfl,rfl⟩))
           all_goals
            go_wp2_with fail
            refine (Post.okC (peek_any h2) q3).mono ?_;rintro e w3 ⟨v3,rfl,rfl,h3,F3⟩;have d1:=h3.c1;have df:=h3.fr 1;have h3':=h3.go (s3.k+1) (by omega)
            go_wp2_with fail
            go_region_with (first | (go_at_call 128;refine (Post.okC (peek_any (by exact h3'.drew)) q4).mono ?_;rintro e w4 ⟨v4,rfl,rfl,h4,F4⟩;have g1:=h4.c1;have gf:=h4.fr 1) | (go_at_call 169;refine (isEscaped_any _ x4).mono ?_;rw[hes];rintro e w5 ⟨rfl,rfl⟩) | (go_at_call 104;refine (need_ok _).mono ?_;rintro e w5 ⟨rfl,rfl⟩))
            all_goals
             have hke4:=h4.hk;have h5:=h4.go (s4.k+1) (by omega)
             go_wp2_with fail
             go_roundw
             case rel=>exact⟨n',{ s4 with k:=s4.k+1 },by show E.e+1<=n'+(s4.k+1);omega,by show s0.k<=s4.k+1;omega,h5,(((((hF.trans F1).drew.trans F2).trans F3).setP _ _).drew.trans F4).setP _ _,HE2⟩
             case measure=>
              have e1:=hA.kOf;have e3:kOf P (w4.setCell ⟨P,1,none⟩ (.int .i64 ((s4.k:Int)+1)))=s4.k+1:=h5.kOf;simp only[e1,e3];omega
         ·have HN:Hid (textM E s=.no y):=(unh HE).trans (by simp[textL_succ,Rdr.then,q1,hx,q2,hx2,needM,q3,hx3,advM,q4]);clear HE hx hx2 hx3
          go_wp2_with fail
          refine (Post.okC (peek_any hA) q1).mono ?_;rintro e w1 ⟨v1,rfl,rfl,h1,F1⟩
          go_wp2_with fail
          go_region_with (first | (go_at_call 128;refine (Post.okC (peek_any (by exact h1.drew)) q2).mono ?_;rintro e w2 ⟨v2,rfl,rfl,h2,F2⟩) | (go_at_call 104;refine (need_ok _).mono ?_;rintro e w3 ⟨rfl,rfl⟩))
          all_goals
           go_wp2_with fail
           refine (Post.okC (peek_any h2) q3).mono ?_;rintro e w3 ⟨v3,rfl,rfl,h3,F3⟩;have d1:=h3.c1;have df:=h3.fr 1;have h3':=h3.go (s3.k+1) (by omega)
           go_wp2_with fail
           go_region_dies
           all_goals
            refine (Post.noC (peek_any (by exact h3'.drew)) q4).mono ?_;rintro e w4 ⟨rfl,F4⟩;exact⟨rfl,Post.no (unh HN) ((((hF.trans F1).drew.trans F2).trans F3).setP _ _ |>.drew.trans F4)⟩
        ·have i3:((x3:Int)==92)=false:=beqI' hx3;have HE2:Hid (textM E s=((textL E n').then fun _=>textEnd E s0.k) { s3 with k:=s3.k+1 }):=(unh HE).trans (by simp[textL_succ,Rdr.then,q1,hx,q2,hx2,needM,q3,hx3,advM,Rdr.ret]);clear HE hx hx2 hx3
         go_wp2_with fail
         refine (Post.okC (peek_any hA) q1).mono ?_;rintro e w1 ⟨v1,rfl,rfl,h1,F1⟩
         go_wp2_with fail
         go_region_with (first | (go_at_call 128;refine (Post.okC (peek_any (by exact h1.drew)) q2).mono ?_;rintro e w2 ⟨v2,rfl,rfl,h2,F2⟩) | (go_at_call 104;refine (need_ok _).mono ?_;rintro e w3 ⟨rfl,rfl⟩))
         all_goals
          go_wp2_with fail
          refine (Post.okC (peek_any h2) q3).mono ?_;rintro e w3 ⟨v3,rfl,rfl,h3,F3⟩;have d1:=h3.c1;have df:=h3.fr 1;have h3':=h3.go (s3.k+1) (by omega)
          go_wp2_with fail
          go_roundw
          case rel=>exact⟨n',{ s3 with k:=s3.k+1 },by show E.e+1<=n'+(s3.k+1);omega,by show s0.k<=s3.k+1;omega,h3',(((hF.trans F1).drew.trans F2).trans F3).setP _ _,HE2⟩
          case measure=>
           have e1:=hA.kOf;have e3:kOf P (w3.setCell ⟨P,1,none⟩ (.int .i64 ((s3.k:Int)+1)))=s3.k+1:=h3'.kOf;simp only[e1,e3];omega
       ·have HN:Hid (textM E s=.no y):=(unh HE).trans (by simp[textL_succ,Rdr.then,q1,hx,q2,hx2,needM,q3]);clear HE hx hx2
        go_wp2_with fail
        refine (Post.okC (peek_any hA) q1).mono ?_;rintro e w1 ⟨v1,rfl,rfl,h1,F1⟩
        go_wp2_with fail
        go_region_with (first | (go_at_call 128;refine (Post.okC (peek_any (by exact h1.drew)) q2).mono ?_;rintro e w2 ⟨v2,rfl,rfl,h2,F2⟩) | (go_at_call 104;refine (need_ok _).mono ?_;rintro e w3 ⟨rfl,rfl⟩))
        all_goals
         go_wp2_with fail
         refine (Post.noC (peek_any h2) q3).mono ?_;rintro e w3 ⟨rfl,F3⟩;exact⟨rfl,Post.no (unh HN) (((hF.trans F1).drew.trans F2).trans F3)⟩
     ·have HN:Hid (textM E s=.no y):=(unh HE).trans (by simp[textL_succ,Rdr.then,q1,hx,q2]);clear HE hx
      go_wp2_with fail
      refine (Post.okC (peek_any hA) q1).mono ?_;rintro e w1 ⟨v1,rfl,rfl,h1,F1⟩
      go_wp2_with fail
      go_region_dies
      all_goals
       refine (Post.noC (peek_any (by exact h1.drew)) q2).mono ?_;rintro e w2 ⟨rfl,F2⟩;exact⟨rfl,Post.no (unh HN) ((hF.trans F1).drew.trans F2)⟩
   ·have HN:Hid (textM E s=.no y):=(unh HE).trans (by simp[textL_succ,Rdr.then,q1]);clear HE
    go_wp2_with fail
    refine (Post.noC (peek_any hA) q1).mono ?_;rintro e w1 ⟨rfl,F1⟩;exact⟨rfl,Post.no (unh HN) (hF.trans F1)⟩
 ·have HN:Hid (textM E s=.no y):=by show textM E s=_;simp[textM,Rdr.then,q0]
  go_wp2_with fail
  refine (Post.noC (word_any ⟨#[40]⟩ (by decide) h) (show wordM E (bl ⟨#[40]⟩) s=_ from q0)).mono ?_;rintro e w0 ⟨rfl,F0⟩;exact⟨rfl,Post.no (unh HN) F0⟩
end
section
open Go.RowKit
attribute [local go_sem] Oper.semAt_some
variable {w w':World}{P B:Nat}{E:Env}{s s':St}
theorem At.c5 (ht:E.tab=false) (h:At w P B E s):w.cell? ⟨P,5,none⟩=some (.int .i64 (s.o:Int)):=by simp[World.cell?,h.r,scExt,ht]
theorem At.c6 (ht:E.tab=false) (h:At w P B E s):w.cell? ⟨P,6,none⟩=some (.int .i64 (s.d:Int)):=by simp[World.cell?,h.r,scExt,ht]
theorem At.c7 (ht:E.tab=false) (h:At w P B E s):w.cell? ⟨P,7,none⟩=some (.int .i64 (s.t:Int)):=by simp[World.cell?,h.r,scExt,ht]
theorem At.setO (ht:E.tab=false) (h:At w P B E s) (q:Nat):At (w.setCell ⟨P,5,none⟩ (.int .i64 (q:Int))) P B E { s with o:=q }:=by
 have hl:=h.lt;refine⟨?_,?_,?_,h.lt,h.hk,h.he,h.hs,h.hb⟩
 ·rw[heap_setCell_same w P 5 _ _ _ h.r];simp[scExt,ht]
 ·exact (Below.heap_setCell _ _ _ _ (by show B≠P;omega)).trans h.a
 ·exact (Below.heap_setCell _ _ _ _ (by show B+1≠P;omega)).trans h.y
theorem At.setD (ht:E.tab=false) (h:At w P B E s) (q:Nat):At (w.setCell ⟨P,6,none⟩ (.int .i64 (q:Int))) P B E { s with d:=q }:=by
 have hl:=h.lt;refine⟨?_,?_,?_,h.lt,h.hk,h.he,h.hs,h.hb⟩
 ·rw[heap_setCell_same w P 6 _ _ _ h.r];simp[scExt,ht]
 ·exact (Below.heap_setCell _ _ _ _ (by show B≠P;omega)).trans h.a
 ·exact (Below.heap_setCell _ _ _ _ (by show B+1≠P;omega)).trans h.y
theorem At.setT (ht:E.tab=false) (h:At w P B E s) (q:Nat):At (w.setCell ⟨P,7,none⟩ (.int .i64 (q:Int))) P B E { s with t:=q }:=by
 have hl:=h.lt;refine⟨?_,?_,?_,h.lt,h.hk,h.he,h.hs,h.hb⟩
 ·rw[heap_setCell_same w P 7 _ _ _ h.r];simp[scExt,ht]
 ·exact (Below.heap_setCell _ _ _ _ (by show B≠P;omega)).trans h.a
 ·exact (Below.heap_setCell _ _ _ _ (by show B+1≠P;omega)).trans h.y
set_option maxHeartbeats 1000000 in
theorem enter_any (ht:E.tab=false) (ho:s.o<=100000) (h:At w P B E s):Calls Tryz.prog 171 #[.pointer (some ⟨P,0,none⟩)] w (Post P B E w (fun _ v _=>v=.tuple #[]) (enterM s)):=by
 have c5:=h.c5 ht;have f5:=h.fr 5;have h1:=h.setO ht (s.o+1);have F1:Fz P B w (w.setCell ⟨P,5,none⟩ (.int .i64 ((s.o+1:Nat):Int))):=(Fz.refl _ _ _).setP _ _;have e1:((s.o+1:Nat):Int)=(s.o:Int)+1:=by omega
 rw[e1] at h1 F1;obtain⟨w1,hw1⟩:∃ w1,w.setCell ⟨P,5,none⟩ (.int .i64 ((s.o:Int)+1))=w1:=⟨_,rfl⟩;have d5:=h1.c5 ht;have d6:=h1.c6 ht;have d1:=h1.c1;have f6:=h1.fr 6;rw[hw1] at h1 F1 d5 d6 d1 f6;simp only[] at d5 d6 d1;rw[e1] at d5
 by_cases hd:6<s.o+1
 ·have i1:(6:Int)<(s.o:Int)+1:=by omega
  by_cases hz:s.d=0
  ·have HN:Hid (enterM s=.ok () { s with o:=s.o+1,d:=s.k }):=by show enterM s=_;simp[enterM,hd,hz]
   have i2:((s.d:Int)==0)=true:=by rw[hz];rfl
   clear hz hd e1
   go_enter Tryz.func171,Tryz.ntmps171
   go_wp2_with fail
   first | go_end0 | refine bodyPost_ret (results_none rfl _ _ _) rfl ?_
   exact Post.ok (unh HN) rfl (h1.setD ht s.k) (F1.setP _ _)
  ·have HN:Hid (enterM s=.ok () { s with o:=s.o+1 }):=by show enterM s=_;simp[enterM,hz]
   have i2:((s.d:Int)==0)=false:=by rw[beq_eq_false_iff_ne];omega
   clear hz hd e1
   go_enter Tryz.func171,Tryz.ntmps171
   go_wp2_with fail
   first | go_end0 | refine bodyPost_ret (results_none rfl _ _ _) rfl ?_
   exact Post.ok (unh HN) rfl h1 F1
 ·have HN:Hid (enterM s=.ok () { s with o:=s.o+1 }):=by
   show enterM s=_;unfold enterM;rw[if_neg (by omega)]
  have i1:¬ (6:Int)<(s.o:Int)+1:=by omega
  clear hd e1
  go_enter Tryz.func171,Tryz.ntmps171
  go_wp2_with fail
  first | go_end0 | refine bodyPost_ret (results_none rfl _ _ _) rfl ?_
  exact Post.ok (unh HN) rfl h1 F1
def heldR:Value->Option (DataW Value×List MemPlace):=fun v=>some (.held v,[])
def litOf (a:ByteArray):Lit:=.string a.data.toList
theorem Tryz.undS:Tryz.prog.underlying 9=some .string:=by kernel_rfl
theorem Tryz.undM:Tryz.prog.underlying 118=some (.map 9 120):=by kernel_rfl
theorem Tryz.keyed:Maps.Keyed Tryz.prog 9:=Maps.string_keyed Tryz.undS
def MapV (w:World) (M n:Nat) (f:ByteArray->Option Value):Prop:=
 ∃ D:DataW Value,w.ownsMap Tryz.prog 9 heldR M n D/\∀ a zd,D.atKey (litOf a) zd=match f a with
  | some v=>.held v
  | none=>zd
def zeroV:Value:=.agg #[.int .i64 0,.float .f64 0,.string ⟨#[]⟩,.int .i64 0,.slice none 0 0,.map none]
theorem Tryz.zeroRun (w:World):(zeroValue 120).run Tryz.prog w=.ok zeroV w:=by kernel_rfl
theorem MapV.made (w:World):MapV (w.alloc (.map #[] 0)) w.heap.size 0 (fun _=>none):=
 ⟨.map [],World.ownsMap_made w _ _ _,fun _ _=>rfl⟩
theorem MapV.lt {M n:Nat}{f:ByteArray->Option Value}(h:MapV w M n f):M<w.heap.size:=by obtain⟨D,h,_⟩:=h;exact h.lt
theorem MapV.of_block {M n:Nat}{f:ByteArray->Option Value}(h:MapV w M n f) (hb:w'.heap[M]?=w.heap[M]?):MapV w' M n f:=by
 obtain⟨D,⟨es,clock,h1,h2⟩,h3⟩:=h;exact⟨D,⟨es,clock,hb.trans h1,h2⟩,h3⟩
theorem MapV.look {M n:Nat}{f:ByteArray->Option Value}(h:MapV w M n f) (a:ByteArray) (ha:a.size<=maxLen) (c:Bool) :
  (Instr.lookup 118 (.map (some M)) (.string a) c).run Tryz.prog w=.ok (match f a with
   | some v=>if c then .tuple #[v,.bool true] else v
   | none=>if c then .tuple #[YtgffljllfenhkaaGreatDoor.zeroV,.bool false] else YtgffljllfenhkaaGreatDoor.zeroV) w:=by
 obtain⟨D,⟨es,clock,hb,F,hs,hD⟩,hf⟩:=h;have hfa:=hf a;subst hD
 rcases Maps.fit_look c Tryz.keyed Tryz.undM (Tryz.zeroRun w) hb F (WideMaps.keyOf_string_mk Tryz.undS ha) with⟨hr,_,hat⟩|⟨e0,y,_,_,hr,hy,hat,_⟩
 ·rw[hr]
  rcases hfv:f a with _|v
  ·rfl
  ·exfalso;rw[hfv] at hfa;have h1:=(hat .nil).symm.trans (hfa .nil);cases h1
 ·rw[hr];have hy1:y.1=.held e0.val:=by have:=hy;unfold heldR at this;cases this;rfl
  rcases hfv:f a with _|v
  ·exfalso;rw[hfv] at hfa;have h1:=(hat .nil).symm.trans (hfa .nil);rw[hy1] at h1;cases h1
  ·rw[hfv] at hfa;have h1:=(hat .nil).symm.trans (hfa .nil);rw[hy1] at h1;cases h1;rfl
theorem litOf_inj {a b:ByteArray}(h:litOf a=litOf b):a=b:=by
 unfold litOf at h;have h1:a.data.toList=b.data.toList:=by injection h
 cases a;cases b;simp only[] at h1;congr 1;exact Array.toList_inj.1 h1
theorem MapV.update {M n:Nat}{f:ByteArray->Option Value}(h:MapV w M n f) (a:ByteArray) (ha:a.size<=maxLen) (hn:n<maxLen) (v:Value) :
  ∃ w',(Instr.mapUpdate 118 (.map (some M)) (.string a) v).run Tryz.prog w=.ok () w'/\MapV w' M (n+1) (fun b=>if b=a then some v else f b)/\w.grownBy w' (some M):=by
 obtain⟨D,hO,hf⟩:=h;have hk:Go.keyOf Tryz.prog 9 (.string a)=some (litOf a):=WideMaps.keyOf_string_mk Tryz.undS ha;obtain⟨w2,hr,hO2,hg⟩:=hO.update Tryz.keyed Tryz.undM hn hk (show heldR v=some (.held v,[]) from rfl);refine⟨w2,hr,⟨_,hO2,fun b zd=>?_⟩,hg⟩;simp only[]
 by_cases hb:b=a
 ·rw[if_pos hb,hb];obtain⟨es,clock,_,_,_,hD⟩:=hO;exact Maps.atKey_put_same ⟨_,hD⟩ (Tryz.keyed.key hk) _ _
 ·rw[if_neg hb,Maps.atKey_put_other (fun e=>hb (litOf_inj e))];exact hf b zd
end
section
open Ieee
theorem cut_zero (neg:Bool) (n:Nat):Toward.even.cut neg n 0=n:=by
 simp[Toward.cut,Nat.mod_one]
theorem log2_eq {n L:Nat}(h1:2^L<=n) (h2:n<2^(L+1)):n.log2=L:=by
 have hn:n≠0:=by have:=Nat.two_pow_pos L;omega
 exact (Nat.log2_eq_iff hn).2 ⟨h1,h2⟩
theorem nearest_fit (neg:Bool) (m:Nat) (a:Nat) (h1:2^52<=m*2^a) (h2:m*2^a<2^53) (ha:a<=52) :
  double.nearest neg m 0=double.word neg ((1074-a)*2^52+m*2^a):=by
 have hm:m≠0:=by rintro rfl;simp at h1
 have hp:2^(52-a)*2^a=2^52:=by rw[← Nat.pow_add];congr 1;omega
 have hp':2^(52-a+1)*2^a=2^53:=by rw[← Nat.pow_add];congr 1;omega
 have hpos:=Nat.two_pow_pos a
 have hl:m.log2=52-a:=by
  refine log2_eq ?_ ?_
  ·refine Nat.le_of_mul_le_mul_right ?_ hpos;omega
  ·refine Nat.lt_of_mul_lt_mul_right (a:=2^a) ?_;omega
 unfold Format.nearest;rw[if_neg hm,hl];simp only[double,Format.leastPlace,Format.binade,Format.infRung];have e1:max ((0:Int)+((52-a:Nat):Int)-((52:Nat):Int)) (2-2^(11-1)-((52:Nat):Int))=-(a:Int):=by omega
 rw[e1];have e2:((0:Int) - -(a:Int)).toNat=a:=by omega
 have e3:(-(a:Int)-0).toNat=0:=by omega
 have e4:(-(a:Int)-(2-2^(11-1)-((52:Nat):Int))).toNat=1074-a:=by omega
 rw[e2,e3,e4,cut_zero,Nat.shiftLeft_eq,Nat.min_eq_left (by omega)]
theorem read_word (neg:Bool) (e m:Nat) (h1:2^52<=m) (h2:m<2^53) (he:e<=2000) :
  double.read (double.word neg (e*2^52+m))=.number neg m (-1074+(e:Int)):=by
 have hw:double.word neg (e*2^52+m)/double.signWeight%2=(if neg then 1 else 0)/\double.word neg (e*2^52+m)%double.signWeight=e*2^52+m:=by
  simp only[Format.word,Format.signWeight,double];cases neg
  ·simp only[Bool.false_eq_true,if_false];omega
  ·simp only[if_true];omega
 unfold Format.read;simp only[hw.1,hw.2];have hb:double.binade=2^52:=rfl;have hi:double.infRung=2047*2^52:=rfl;have hlp:double.leastPlace=-1074:=rfl;rw[hb,hi,hlp,if_neg (by omega),if_pos (by omega)];have e1:2^52+(e*2^52+m)%2^52=m:=by omega
 have e2:(e*2^52+m)/2^52-1=e:=by omega
 rw[e1,e2];cases neg <;> rfl
end
section
open Ieee
def pw:Nat->Nat
 | 0=>4607182418800017408
 | 1=>4621819117588971520
 | 2=>4636737291354636288
 | 3=>4652007308841189376
 | _=>0
structure Near (mt t X:Nat):Prop where
 lo:2^52<=mt
 hi:mt<2^53
 up:2*(mt*t)<=2*X+t
 dn:2*X<=2*(mt*t)+t
 upe:2*(mt*t)=2*X+t->mt%2=0
 dne:2*X=2*(mt*t)+t->mt%2=0
 sk:mt=2^52->4*(mt*t)<=4*X+t
theorem cut_even (neg:Bool) (Q d:Nat) (hd:d=2\/d=3) (h1:2^(52+d)<=Q) :
  ∃ kept,Toward.even.cut neg Q d=kept/\2*(kept*2^d)<=2*Q+2^d/\2*Q<=2*(kept*2^d)+2^d/\(2*(kept*2^d)=2*Q+2^d->kept%2=0)/\(2*Q=2*(kept*2^d)+2^d->kept%2=0):=by
 have hQ:Q≠0:=by have:=Nat.two_pow_pos (52+d);omega
 have hl:52+d<=Q.log2:=(Nat.le_log2 hQ).2 h1;unfold Toward.cut;rw[Nat.min_eq_left (by omega)]
 rcases hd with rfl|rfl
 ·simp only[Nat.shiftLeft_eq,Nat.one_mul];refine⟨_,rfl,?_⟩
  by_cases c1:2^2<2*(Q%2^2)
  ·rw[decide_eq_true c1];simp only[Bool.true_or,Bool.toNat_true];omega
  ·rw[decide_eq_false c1];simp only[Bool.false_or]
   by_cases c2:(2^2==2*(Q%2^2)&&Q/2^2%2==1)=true
   ·rw[c2];simp only[Bool.toNat_true];simp at c2;omega
   ·rw[Bool.not_eq_true] at c2;rw[c2];simp only[Bool.toNat_false];simp at c2;omega
 ·simp only[Nat.shiftLeft_eq,Nat.one_mul];refine⟨_,rfl,?_⟩
  by_cases c1:2^3<2*(Q%2^3)
  ·rw[decide_eq_true c1];simp only[Bool.true_or,Bool.toNat_true];omega
  ·rw[decide_eq_false c1];simp only[Bool.false_or]
   by_cases c2:(2^3==2*(Q%2^3)&&Q/2^3%2==1)=true
   ·rw[c2];simp only[Bool.toNat_true];simp at c2;omega
   ·rw[Bool.not_eq_true] at c2;rw[c2];simp only[Bool.toNat_false];simp at c2;omega
theorem nearest_round (neg:Bool) (Q d q:Nat) (hd:d=2\/d=3) (h1:2^(52+d)<=Q) (h2:Q<2^(53+d)) (hq:q<=200) (place:Int) (hp:place=-((q+d:Nat):Int)) :
  double.nearest neg Q place=double.word neg ((1074-q)*2^52+Toward.even.cut neg Q d):=by
 have hQ:Q≠0:=by have:=Nat.two_pow_pos (52+d);omega
 have hl:Q.log2=52+d:=log2_eq h1 (by rw[show 52+d+1=53+d by omega];exact h2);obtain⟨kept,hk,hk1,hk2,_⟩:=cut_even neg Q d hd h1;unfold Format.nearest;rw[if_neg hQ,hl];simp only[double,Format.leastPlace,Format.binade,Format.infRung];have e1:max (place+((52+d:Nat):Int)-((52:Nat):Int)) (2-2^(11-1)-((52:Nat):Int))=-(q:Int):=by omega
 rw[e1];have e2:(place - -(q:Int)).toNat=0:=by omega
 have e3:(-(q:Int)-place).toNat=d:=by omega
 have e4:(-(q:Int)-(2-2^(11-1)-((52:Nat):Int))).toNat=1074-q:=by omega
 rw[e2,e3,e4,Nat.shiftLeft_eq,Nat.pow_zero,Nat.mul_one,hk];rw[Nat.min_eq_left]
 rcases hd with rfl|rfl <;> omega
set_option maxHeartbeats 2000000 in
theorem quot_near (neg:Bool) (m0 a jj t:Nat) (hk:(t=10/\jj=49)\/(t=100/\jj=46)\/(t=1000/\jj=43)) (h1:2^52<=m0) (h2:m0<2^53) (ha:a<=52) :
  ∃ mt q,((Datum.number neg m0 (-(a:Int))).quotient 54 (.number false (t*2^jj) (-(jj:Int)))).map double.write=some (double.word neg ((1074-q)*2^52+mt))/\a<=q/\q<=a+10/\Near mt t (m0*2^(q-a)):=by
 have hn2:2^52<=t*2^jj/\t*2^jj<2^53:=by rcases hk with⟨rfl,rfl⟩ | ⟨rfl,rfl⟩ | ⟨rfl,rfl⟩ <;> decide
 have hln:(t*2^jj).log2=52:=log2_eq hn2.1 hn2.2;have hlm:m0.log2=52:=log2_eq h1 h2;have hn0:t*2^jj≠0:=by omega
 unfold Datum.quotient;simp only;rw[if_neg hn0,hln,hlm];simp only[Option.map_some,Format.write,Nat.shiftLeft_eq,Bool.xor_false,show 54+52-52=54 from rfl];obtain⟨qd,hqd⟩:∃ qd,m0*2^54/(t*2^jj)=qd:=⟨_,rfl⟩;obtain⟨rm,hrm⟩:∃ rm,m0*2^54%(t*2^jj)=rm:=⟨_,rfl⟩;have hdm:=Nat.div_add_mod (m0*2^54) (t*2^jj);have hml:=Nat.mod_lt (m0*2^54) (Nat.pos_of_ne_zero hn0);rw[hqd,hrm] at hdm;rw[hrm] at hml;rw[hqd,hrm];obtain⟨r,hr⟩:∃ r,(rm != 0).toNat=r:=⟨_,rfl⟩
 have hr':(r=0/\rm=0)\/(r=1/\rm≠0):=by
  rw[← hr];by_cases e:rm=0
  ·left;simp[e]
  ·right;simp[e]
 rw[hr];clear hqd hrm hr
 by_cases hmn:t*2^jj<=m0
 ·have hQ1:2^(52+3)<=2*qd+r:=by
   rcases hk with⟨rfl,rfl⟩|⟨rfl,rfl⟩|⟨rfl,rfl⟩ <;> omega
  have hQ2:2*qd+r<2^(53+3):=by
   rcases hk with⟨rfl,rfl⟩|⟨rfl,rfl⟩|⟨rfl,rfl⟩ <;> omega
  have hnr:=nearest_round neg (2*qd+r) 3 (a+52-jj) (.inr rfl) hQ1 hQ2 (by rcases hk with⟨rfl,rfl⟩ | ⟨rfl,rfl⟩ | ⟨rfl,rfl⟩ <;> omega) (-(a:Int) - -(jj:Int)-((54:Nat):Int)-1) (by rcases hk with⟨rfl,rfl⟩ | ⟨rfl,rfl⟩ | ⟨rfl,rfl⟩ <;> omega);obtain⟨kept,hc,hc1,hc2,hc3,hc4⟩:=cut_even neg (2*qd+r) 3 (.inr rfl) hQ1;rw[hc] at hnr
  by_cases hcar:kept<2^53
  ·refine⟨kept,a+52-jj,by rw[hnr],by rcases hk with⟨rfl,rfl⟩ | ⟨rfl,rfl⟩ | ⟨rfl,rfl⟩ <;> omega,by rcases hk with⟨rfl,rfl⟩ | ⟨rfl,rfl⟩ | ⟨rfl,rfl⟩ <;> omega,?_⟩;rw[show a+52-jj-a=52-jj by omega]
   rcases hk with⟨rfl,rfl⟩|⟨rfl,rfl⟩|⟨rfl,rfl⟩ <;> constructor <;> omega
  ·refine⟨2^52,a+51-jj,?_,by rcases hk with⟨rfl,rfl⟩ | ⟨rfl,rfl⟩ | ⟨rfl,rfl⟩ <;> omega,by rcases hk with⟨rfl,rfl⟩ | ⟨rfl,rfl⟩ | ⟨rfl,rfl⟩ <;> omega,?_⟩
   ·have hkp:kept=2^53:=by omega
    have e:(1074-(a+52-jj))*2^52+kept=(1074-(a+51-jj))*2^52+2^52:=by rcases hk with⟨rfl,rfl⟩ | ⟨rfl,rfl⟩ | ⟨rfl,rfl⟩ <;> omega
    rw[hnr,e]
   ·rw[show a+51-jj-a=51-jj by omega]
    rcases hk with⟨rfl,rfl⟩|⟨rfl,rfl⟩|⟨rfl,rfl⟩ <;> constructor <;> omega
 ·have hQ1:2^(52+2)<=2*qd+r:=by
   rcases hk with⟨rfl,rfl⟩|⟨rfl,rfl⟩|⟨rfl,rfl⟩ <;> omega
  have hQ2:2*qd+r<2^(53+2):=by
   rcases hk with⟨rfl,rfl⟩|⟨rfl,rfl⟩|⟨rfl,rfl⟩ <;> omega
  have hnr:=nearest_round neg (2*qd+r) 2 (a+53-jj) (.inl rfl) hQ1 hQ2 (by rcases hk with⟨rfl,rfl⟩ | ⟨rfl,rfl⟩ | ⟨rfl,rfl⟩ <;> omega) (-(a:Int) - -(jj:Int)-((54:Nat):Int)-1) (by rcases hk with⟨rfl,rfl⟩ | ⟨rfl,rfl⟩ | ⟨rfl,rfl⟩ <;> omega);obtain⟨kept,hc,hc1,hc2,hc3,hc4⟩:=cut_even neg (2*qd+r) 2 (.inl rfl) hQ1;rw[hc] at hnr
  by_cases hcar:kept<2^53
  ·refine⟨kept,a+53-jj,by rw[hnr],by rcases hk with⟨rfl,rfl⟩ | ⟨rfl,rfl⟩ | ⟨rfl,rfl⟩ <;> omega,by rcases hk with⟨rfl,rfl⟩ | ⟨rfl,rfl⟩ | ⟨rfl,rfl⟩ <;> omega,?_⟩;rw[show a+53-jj-a=53-jj by omega]
   rcases hk with⟨rfl,rfl⟩|⟨rfl,rfl⟩|⟨rfl,rfl⟩ <;> constructor <;> omega
  ·refine⟨2^52,a+52-jj,?_,by rcases hk with⟨rfl,rfl⟩ | ⟨rfl,rfl⟩ | ⟨rfl,rfl⟩ <;> omega,by rcases hk with⟨rfl,rfl⟩ | ⟨rfl,rfl⟩ | ⟨rfl,rfl⟩ <;> omega,?_⟩
   ·have hkp:kept=2^53:=by omega
    have e:(1074-(a+53-jj))*2^52+kept=(1074-(a+52-jj))*2^52+2^52:=by rcases hk with⟨rfl,rfl⟩ | ⟨rfl,rfl⟩ | ⟨rfl,rfl⟩ <;> omega
    rw[hnr,e]
   ·rw[show a+52-jj-a=52-jj by omega]
    rcases hk with⟨rfl,rfl⟩|⟨rfl,rfl⟩|⟨rfl,rfl⟩ <;> constructor <;> omega
end
section
open Ieee
theorem full_shift (M:Nat) (h1:1<=M) (h2:M<2^30):∃ a,23<=a/\a<=52/\2^52<=M*2^a/\M*2^a<2^53:=by
 have hM:M≠0:=by omega
 have hl1:2^M.log2<=M:=Nat.log2_self_le hM;have hl2:M<2^(M.log2+1):=Nat.lt_log2_self;have hl3:M.log2<30:=(Nat.log2_lt hM).2 h2;refine⟨52-M.log2,by omega,by omega,?_,?_⟩
 ·calc 2^52=2^M.log2*2^(52-M.log2):=by rw[← Nat.pow_add];congr 1;omega
   _<=M*2^(52-M.log2):=Nat.mul_le_mul_right _ hl1
 ·calc M*2^(52-M.log2)<2^(M.log2+1)*2^(52-M.log2):=Nat.mul_lt_mul_of_pos_right hl2 (Nat.two_pow_pos _)
   _=2^53:=by rw[← Nat.pow_add];congr 1;omega
def f0 (neg:Bool) (M:Nat):Nat:=double.nearest neg M 0
def fb (neg:Bool) (M k:Nat):Nat:=if k=0 then f0 neg M else (double.div (f0 neg M) (pw k)).getD 0
theorem f0_word (neg:Bool) (M a:Nat) (h1:2^52<=M*2^a) (h2:M*2^a<2^53) (ha:a<=52):f0 neg M=double.word neg ((1074-a)*2^52+M*2^a):=nearest_fit neg M a h1 h2 ha
theorem pw_read (k:Nat) (hk:k=1\/k=2\/k=3):∃ jj:Nat,((10^k=10/\jj=49)\/(10^k=100/\jj=46)\/(10^k=1000/\jj=43))/\double.read (pw k)=.number false (10^k*2^jj) (-(jj:Int)):=by
 rcases hk with rfl|rfl|rfl
 ·exact⟨49,by decide,by decide⟩
 ·exact⟨46,by decide,by decide⟩
 ·exact⟨43,by decide,by decide⟩
theorem fb_near (neg:Bool) (M k:Nat) (hM:1<=M) (hM2:M<10^6*10^k) (hk:k<=3) :
  ∃ mt q,fb neg M k=double.word neg ((1074-q)*2^52+mt)/\33<=q/\q<=62/\Near mt (10^k) (M*2^q)/\(k≠0->double.div (f0 neg M) (pw k)=some (fb neg M k)):=by
 have hM3:M<2^30:=by
  have:10^k<=10^3:=Nat.pow_le_pow_right (by decide) hk;have:=Nat.mul_le_mul_left (10^6) this;omega
 obtain⟨a,ha1,ha2,h1,h2⟩:=full_shift M hM hM3;have hw:=f0_word neg M a h1 h2 ha2
 have main:∃ mt q,fb neg M k=double.word neg ((1074-q)*2^52+mt)/\a<=q/\q<=a+10/\Near mt (10^k) (M*2^q)/\(k≠0->double.div (f0 neg M) (pw k)=some (fb neg M k)):=by
  by_cases hk0:k=0
  ·subst hk0;refine⟨M*2^a,a,by unfold fb;rw[if_pos rfl,hw],Nat.le_refl _,by omega,⟨h1,h2,by omega,by omega,by omega,by omega,by omega⟩,by omega⟩
  ·obtain⟨jj,hj,hr⟩:=pw_read k (by omega);obtain⟨mt,q,hq,hq1,hq2,hn⟩:=quot_near neg (M*2^a) a jj (10^k) hj h1 h2 ha2
   have hd:double.div (f0 neg M) (pw k)=some (double.word neg ((1074-q)*2^52+mt)):=by
    unfold Format.div;rw[hw,read_word neg (1074-a) _ h1 h2 (by omega),hr];have e:(-1074+((1074-a:Nat):Int))=-(a:Int):=by omega
    rw[e];exact hq
   have hf:fb neg M k=double.word neg ((1074-q)*2^52+mt):=by unfold fb;rw[if_neg hk0,hd];rfl
   refine⟨mt,q,hf,hq1,hq2,?_,fun _=>by rw[hf];exact hd⟩;have e:M*2^a*2^(q-a)=M*2^q:=by rw[Nat.mul_assoc,← Nat.pow_add];congr 2;omega
   rw[e] at hn;exact hn
 obtain⟨mt,q,hf,hq1,hq2,hn,hd⟩:=main;have ht:1<=10^k:=Nat.one_le_pow _ _ (by decide);have ht2:10^k<=1000:=by have:=Nat.pow_le_pow_right (n:=10) (by decide) hk;simpa using this
 obtain⟨t,htt⟩:∃ t,10^k=t:=⟨_,rfl⟩;rw[htt] at hn hM2 ht ht2;refine⟨mt,q,hf,?_,?_,by rw[htt];exact hn,hd⟩
 ·by_cases hc:33<=q
  ·exact hc
  ·exfalso;have hp:2^q<=2^32:=Nat.pow_le_pow_right (by decide) (by omega);have hx:=Nat.mul_le_mul_left M hp;have hlo:=Nat.mul_le_mul_right t hn.lo;have hu:=hn.up;have hm2:M*2^32<=10^6*t*2^32:=Nat.mul_le_mul_right _ (Nat.le_of_lt hM2);omega
 ·by_cases hc:q<=62
  ·exact hc
  ·exfalso;have hp:2^63<=2^q:=Nat.pow_le_pow_right (by decide) (by omega);have hx:=Nat.mul_le_mul hM hp;have hhi:=Nat.mul_le_mul_right t (Nat.le_of_lt hn.hi);have hu:=hn.dn;omega
end
end Go.Proofs.YtgffljllfenhkaaGreatDoor
