import Derived.Lib.ConvBytes
import Derived.Test.YtgffljllfenhkaaGreatDoorGwaa
import Derived.Test.YtgffljllfenhkaaGreatDoorGwab
namespace Go.Proofs.YtgffljllfenhkaaGreatDoor
section
open Go.RowKit
variable {w w':World}{P B:Nat}{E:Env}{s s':St}
theorem At.of_blocks (h:At w P B E s) (hb:∀ k,(k=P\/k=B\/k=B+1)->w'.heap[k]?=w.heap[k]?):At w' P B E s:=
 ⟨(hb P (.inl rfl)).trans h.r,(hb B (.inr (.inl rfl))).trans h.a,(hb (B+1) (.inr (.inr rfl))).trans h.y,h.lt,h.hk,h.he,h.hs,h.hb⟩
theorem At.below (h:At w P B E s) (k:Below w.heap.size w w'):At w' P B E s:=
 h.of_blocks (fun i hi=>k.block i (by have:=h.ltP;have:=h.lt;omega))
theorem Fz.of_below {P B:Nat}(k:Below w.heap.size w w'):Fz P B w w':=⟨k.os,k.tape,k.output,k.size,fun i hi _ _=>k.block i hi⟩
theorem below_bytes (w:World) (e:TypeId) (s:ByteArray):Below w.heap.size w (Lib.bytesWorld w e s):=⟨rfl,rfl,rfl,by rw[Lib.bytesWorld_size];omega,fun k hk=>Lib.bytesWorld_at_old w e s k hk⟩
theorem peek_b {x:Nat}(h:peekM E s=.ok x s'):s'.b<=s.b/\s'.k=s.k/\s'.o=s.o/\s'.d=s.d/\s'.t=s.t:=by
 obtain⟨rfl,_⟩:=peek_inv h;exact⟨Nat.sub_le _ _,rfl,rfl,rfl,rfl⟩
theorem then_inv {α β:Type}{m:Rdr α}{f:α->Rdr β}{b:β}(h:Rdr.then m f s=.ok b s'):∃ a s1,m s=.ok a s1/\f a s1=.ok b s':=by
 unfold Rdr.then at h
 rcases hm:m s with⟨a,s1⟩|y
 ·rw[hm] at h;exact⟨a,s1,rfl,h⟩
 ·rw[hm] at h;cases h
theorem need_inv {ok:Bool}{u:Unit}(h:needM E ok s=.ok u s'):s'=s/\ok=true:=by
 unfold needM at h;split at h
 ·cases h;exact⟨rfl,by assumption⟩
 ·cases h
theorem at_inv {a:Nat}(h:atM s=.ok a s'):a=s.k/\s'=s:=by unfold atM at h;cases h;exact⟨rfl,rfl⟩
theorem ret_inv {α:Type}{a b:α}(h:Rdr.ret a s=.ok b s'):b=a/\s'=s:=by unfold Rdr.ret at h;cases h;exact⟨rfl,rfl⟩
theorem adv_inv {u:Unit}(h:advM s=.ok u s'):s'={ s with k:=s.k+1 }:=by unfold advM at h;cases h;rfl
theorem someL_inv {p:Nat->Bool}:∀ (n:Nat) {s s':St}{u:Unit},someL E p n s=.ok u s'->s.k<=s'.k/\s'.k<=s.k+n/\(∀ j,s.k<=j->j<s'.k->p (bt E.f j)=true/\j≠E.e)
 | 0,s,s',u,h=>by cases h;exact⟨Nat.le_refl _,Nat.le_refl _,fun j h1 h2=>by omega⟩
 | n+1,s,s',u,h=>by
  unfold someL at h;obtain⟨x,s1,hp,h⟩:=then_inv h;obtain⟨rfl,rfl,hne,_⟩:=peek_inv hp;split at h
  ·rename_i hpx;obtain⟨_,s2,h2,h⟩:=then_inv h;have e2:=adv_inv h2;subst e2;obtain⟨a,b,c⟩:=someL_inv n h;simp only[] at a b c;refine⟨by omega,by omega,fun j h1 h2=>?_⟩
   by_cases e:j=s.k
   ·rw[e];exact⟨hpx,hne⟩
   ·exact c j (by omega) h2
  ·obtain⟨_,rfl⟩:=ret_inv h;exact⟨Nat.le_refl _,by simp,fun j h1 h2=>by simp only[] at h2;omega⟩
theorem some_inv {p:Nat->Bool}{most:Nat}{t:ByteArray}(hm:1<=most) (h:someM E p most s=.ok t s'):t=E.f.extract s.k s'.k/\s.k<s'.k/\s'.k<=s.k+most/\(∀ j,s.k<=j->j<s'.k->p (bt E.f j)=true/\j≠E.e):=by
 unfold someM at h;obtain⟨a0,s0,h0,k0⟩:=then_inv h;obtain⟨e1,e2⟩:=at_inv h0
 subst e1 e2;obtain⟨x,s1,hp,k1⟩:=then_inv k0;obtain⟨_,s2,hn,k2⟩:=then_inv k1;obtain⟨e3,hpx⟩:=need_inv hn;subst e3;obtain⟨_,s3,hl,k3⟩:=then_inv k2;obtain⟨a4,s4,h4,k4⟩:=then_inv k3;obtain⟨e5,e6⟩:=at_inv h4
 subst e5 e6;obtain⟨e7,e8⟩:=ret_inv k4;subst e7 e8;obtain⟨e9,e10,hne,hb⟩:=peek_inv hp;obtain⟨n,rfl⟩:∃ n,most=n+1:=⟨most-1,by omega⟩;obtain⟨a,b,c⟩:=someL_inv _ hl;have ek:s2.k=s0.k:=by rw[e9]
 rw[ek] at a b c;refine⟨rfl,?_,b,c⟩;unfold someL at hl;obtain⟨x2,s5,hp2,k5⟩:=then_inv hl;obtain⟨e11,e12,_,_⟩:=peek_inv hp2;have hpx2:p x2=true:=by rw[e12,ek,← e10];exact hpx
 rw[if_pos hpx2] at k5;obtain⟨_,s6,h6,k6⟩:=then_inv k5;have e13:=adv_inv h6;have:=(someL_inv n k6).1;have e14:s6.k=s0.k+1:=by rw[e13,e11,e9]
 omega
theorem bt_extract (f:ByteArray) (i j k:Nat) (hk:k<j-i):bt (f.extract i j) k=bt f (i+k):=by
 unfold bt;simp only[ByteArray.data_extract,Array.toList_extract,List.getD_eq_getElem?_getD,List.extract_eq_take_drop,List.getElem?_take,List.getElem?_drop];rw[if_pos hk]
theorem digitVal_of (b:UInt8) (h:digP b.toNat=true):Lib.digitVal b=some (b.toNat-48):=by
 simp only[digP,Bool.and_eq_true,decide_eq_true_eq] at h;unfold Lib.digitVal;rw[if_pos h]
theorem decFrom_vI (t:ByteArray):∀ n,n<=t.size->(∀ j,j<n->digP (bt t j)=true)->Lib.decFrom 0 (t.data.toList.take n)=some (vI t 0 n)
 | 0,_,_=>rfl
 | n+1,hn,h=>by
  have hl:n<t.data.toList.length:=by rw[Array.length_toList];exact hn
  have ih:=decFrom_vI t n (by omega) (fun j hj=>h j (by omega));have hb:bt t n=(t.data.toList[n]).toNat:=by unfold bt;rw[List.getD_eq_getElem?_getD,List.getElem?_eq_getElem hl];rfl
  have hd:=digitVal_of (t.data.toList[n]) (by rw[← hb];exact h n (by omega));rw[Lib.decFrom_take _ n 0 _ _ _ ih (List.getElem?_eq_getElem hl) hd,← hb];show some (vI t 0 n*10+(bt t n-48))=some (10*vI t 0 n+(bt t (0+n)-48));rw[Nat.zero_add,Nat.mul_comm]
theorem atoi_vI (t:ByteArray) (h1:1<=t.size) (h:∀ j,j<t.size->digP (bt t j)=true):Lib.atoi t.data.toList=some ((vI t 0 t.size:Nat):Int):=by
 have hd:=decFrom_vI t t.size (Nat.le_refl _) h;have hl:t.data.toList.length=t.size:=Array.length_toList;rw[← hl,List.take_length,hl] at hd
 rcases hq:t.data.toList with _|⟨b,r⟩
 ·rw[hq] at hl;simp at hl;omega
 ·have h0:=h 0 (by omega);have hb:bt t 0=b.toNat:=by unfold bt;rw[hq];rfl
  rw[hb] at h0;simp only[digP,Bool.and_eq_true,decide_eq_true_eq] at h0;have n1:(b==45)=false:=by rw[beq_eq_false_iff_ne];intro e;rw[e] at h0;simp at h0
  have n2:(b==43)=false:=by rw[beq_eq_false_iff_ne];intro e;rw[e] at h0;simp at h0
  rw[hq] at hd;simp only[Lib.atoi,n1,n2,Bool.false_eq_true,if_false,Lib.decNat,List.isEmpty_cons,hd,Option.map_some]
theorem vI_le (t:ByteArray) (o:Nat):∀ n,(∀ j,j<n->digP (bt t (o+j))=true)->vI t o n<10^n
 | 0,_=>by unfold vI;decide
 | n+1,h=>by
  have:=vI_le t o n (fun j hj=>h j (by omega));have hd:=h n (by omega);simp only[digP,Bool.and_eq_true,decide_eq_true_eq] at hd;rw[Nat.pow_succ];unfold vI;omega
set_option maxHeartbeats 1000000 in
theorem whole_any (most:Nat) (h1:1<=most) (hm:most<=18) (h:At w P B E s):Calls Tryz.prog 146 #[.pointer (some ⟨P,0,none⟩),.int .i64 (most:Int)] w (Post P B E w (fun x v _=>v=.int .i64 ((x:Nat):Int)) (wholeM E most s)):=by
 go_enter Tryz.func146,Tryz.ntmps146
 rcases hp:someM E digP most s with⟨t,s1⟩|y
 ·obtain⟨ht,hlt,hle,hd⟩:=some_inv h1 hp;have HN:Hid (wholeM E most s=.ok (vI t 0 t.size) s1):=by show wholeM E most s=_;unfold wholeM;rw[Rdr.then_ok hp];rfl
  go_wp2_with fail
  refine (Post.okC (someD_any most (by omega) h) hp).mono ?_;rintro e w2 ⟨v2,rfl,rfl,h2,F2⟩;have hk2:=h2.hk;have he2:=h2.he;have hsz:t.size=s1.k-s.k:=by rw[ht,ByteArray.size_extract];omega
  have hall:∀ j,j<t.size->digP (bt t j)=true:=fun j hj=>by
   rw[ht,bt_extract _ _ _ _ (by omega)];exact (hd _ (by omega) (by omega)).1
  have AT:=Tryz.strconv_Atoi t _ (by omega) (atoi_vI t (by omega) hall);clear ht hd hall hsz
  go_wp2_with fail
  refine (AT w2).mono ?_;rintro e w3 ⟨rfl,t3,rfl⟩;have hB:=below_bytes w2 5 t3
  go_wp2_with fail
  go_ret
  exact Post.ok (unh HN) rfl (h2.below hB) (F2.trans (Fz.of_below hB))
 ·have HN:Hid (wholeM E most s=.no y):=by show wholeM E most s=_;unfold wholeM;rw[Rdr.then_no hp]
  go_wp2_with fail
  refine (Post.noC (someD_any most (by omega) h) hp).mono ?_;rintro e w2 ⟨rfl,F2⟩;exact⟨rfl,Post.no (unh HN) F2⟩
end
section
open Go.RowKit
attribute [local go_sem] Oper.semAt_some
variable {w:World}{P B:Nat}{E:Env}{s:St}
set_option maxHeartbeats 1000000 in
theorem count_any (h:At w P B E s):Calls Tryz.prog 127 #[.pointer (some ⟨P,0,none⟩)] w (Post P B E w (fun x v _=>v=.int .i64 ((x:Nat):Int)) (countM E s)):=by
 go_enter Tryz.func127,Tryz.ntmps127
 rcases hp:peekM E s with⟨x,s1⟩|y
 ·by_cases hx:x=48
  ·have hbe:((x:Int)==48)=true:=by rw[hx];rfl
   rcases hw:wholeM E 1 s1 with⟨n,s2⟩|y
   ·have HN:Hid (countM E s=.ok n s2):=by show countM E s=_;unfold countM;rw[Rdr.then_ok hp,if_pos (by rw[hx];rfl)];exact hw
    clear hx
    go_wp2_with fail
    refine (Post.okC (peek_any h) hp).mono ?_;rintro e w2 ⟨v2,rfl,rfl,h2,F2⟩
    go_wp2_with fail
    refine (Post.okC (whole_any 1 (by decide) (by decide) h2) hw).mono ?_;rintro e w3 ⟨v3,rfl,rfl,h3,F3⟩
    go_wp2_with fail
    go_ret
    exact Post.ok (unh HN) rfl h3 (F2.trans F3)
   ·have HN:Hid (countM E s=.no y):=by show countM E s=_;unfold countM;rw[Rdr.then_ok hp,if_pos (by rw[hx];rfl)];exact hw
    clear hx
    go_wp2_with fail
    refine (Post.okC (peek_any h) hp).mono ?_;rintro e w2 ⟨v2,rfl,rfl,h2,F2⟩
    go_wp2_with fail
    refine (Post.noC (whole_any 1 (by decide) (by decide) h2) hw).mono ?_;rintro e w3 ⟨rfl,F3⟩;exact⟨rfl,Post.no (unh HN) (F2.trans F3)⟩
  ·have hbe:((x:Int)==48)=false:=by rw[beq_eq_false_iff_ne];omega
   have hxb:¬ (x==48)=true:=by rw[beq_iff_eq];exact hx
   rcases hw:wholeM E 4 s1 with⟨n,s2⟩|y
   ·have HN:Hid (countM E s=.ok n s2):=by show countM E s=_;unfold countM;rw[Rdr.then_ok hp,if_neg hxb];exact hw
    clear hx hxb
    go_wp2_with fail
    refine (Post.okC (peek_any h) hp).mono ?_;rintro e w2 ⟨v2,rfl,rfl,h2,F2⟩
    go_wp2_with fail
    refine (Post.okC (whole_any 4 (by decide) (by decide) h2) hw).mono ?_;rintro e w3 ⟨v3,rfl,rfl,h3,F3⟩
    go_wp2_with fail
    go_ret
    exact Post.ok (unh HN) rfl h3 (F2.trans F3)
   ·have HN:Hid (countM E s=.no y):=by show countM E s=_;unfold countM;rw[Rdr.then_ok hp,if_neg hxb];exact hw
    clear hx hxb
    go_wp2_with fail
    refine (Post.okC (peek_any h) hp).mono ?_;rintro e w2 ⟨v2,rfl,rfl,h2,F2⟩
    go_wp2_with fail
    refine (Post.noC (whole_any 4 (by decide) (by decide) h2) hw).mono ?_;rintro e w3 ⟨rfl,F3⟩;exact⟨rfl,Post.no (unh HN) (F2.trans F3)⟩
 ·have HN:Hid (countM E s=.no y):=by show countM E s=_;unfold countM;rw[Rdr.then_no hp]
  go_wp2_with fail
  refine (Post.noC (peek_any h) hp).mono ?_;rintro e w2 ⟨rfl,F2⟩;exact⟨rfl,Post.no (unh HN) F2⟩
set_option maxHeartbeats 1000000 in
set_option maxRecDepth 100000 in
theorem bytes_any (n:Nat) (hn:n<=100000) (h:At w P B E s):Calls Tryz.prog 153 #[.pointer (some ⟨P,0,none⟩),.int .i64 (n:Int)] w (Post P B E w (fun t v _=>v=.string t) (bytesM E n s)):=by
 have c1:=h.c1;have c2:=h.c2;have c3:=h.c3;have c0:=h.c0;have hk:=h.hk;have he:=h.he;have hs:=h.hs
 go_enter Tryz.func153,Tryz.ntmps153
 by_cases hlt:E.e-s.k<n
 ·have HN:Hid (bytesM E n s=.no (E.why E.e)):=by show bytesM E n s=_;unfold bytesM;rw[if_pos hlt]
  have hI:(E.e:Int)-(s.k:Int)<(n:Int):=by omega
  go_wp2_with fail
  go_quiet (fail)
  go_wp2_with fail
  rcases htab:E.tab with _|_
  ·rw[gup_obj htab] at c3
   go_region_dies
   all_goals
    refine (gobj_any _ E.e htab).mono ?_;rintro e w2 ⟨rfl,rfl⟩;exact⟨rfl,Post.no (unh HN) ((Fz.refl _ _ _).drewN _).drew⟩
  ·rw[gup_tab htab] at c3
   go_region_dies
   all_goals
    refine (gtab_any _ E.e htab).mono ?_;rintro e w2 ⟨rfl,rfl⟩;exact⟨rfl,Post.no (unh HN) ((Fz.refl _ _ _).drewN _).drew⟩
 ·have HN:Hid (bytesM E n s=.ok (E.f.extract s.k (s.k+n)) { s with k:=s.k+n }):=by show bytesM E n s=_;unfold bytesM;rw[if_neg hlt]
  have hI:¬ (E.e:Int)-(s.k:Int)<(n:Int):=by omega
  have hf:=h.fr 1;have hfin:∀ m,At ((w.drewN m).setCell ⟨P,1,none⟩ (.int .i64 ((s.k+n:Nat):Int))) P B E { s with k:=s.k+n }:=fun m=>(h.drewN m).go (s.k+n) (by omega)
  clear c3
  go_wp2_with fail
  go_quiet (fail)
  go_wp2_with fail
  have h2:=hfin nq;obtain⟨q,hq⟩:∃ q:Nat,s.k+n=q:=⟨_,rfl⟩;have hqI:(s.k:Int)+(n:Int)=(q:Int):=by omega
  rw[hq] at h2;rw[hqI];have HQ:=hid hq;have d0:=h2.c0;have d1:=h2.c1;simp only[] at d1;have hsub:(q:Int)-(n:Int)=(s.k:Int):=by omega
  have hwr:IntKind.i64.wrap ((q:Int)-(n:Int))=(s.k:Int):=by rw[hsub];exact wraps_i64 _ (by omega) (by omega)
  have l1:((s.k:Nat):Int)<=(q:Int):=by omega
  have l2:(q:Int)<=(E.f.size:Int):=by omega
  clear hq hqI hfin c0 c1 c2
  go_quiet (fail)
  go_wp2_with fail
  go_ret
  refine Post.ok (a:=E.f.extract s.k q) (s':={ s with k:=q }) (by rw[unh HN,unh HQ]) ?_ (h2.drewN _) ?_
  ·first | rfl | simp[hsub]
  ·exact (((Fz.refl _ _ _).drewN _).setP _ _).drewN _
set_option maxHeartbeats 1000000 in
set_option maxRecDepth 100000 in
theorem line_any (t:ByteArray) (ht:t.size<=9000) (least most:Nat) (h:At w P B E s):Calls Tryz.prog 102 #[.pointer (some ⟨P,0,none⟩),.string t,.int .i64 (least:Int),.int .i64 (most:Int)] w (Post P B E w (fun x v _=>v=.int .i64 ((x:Nat):Int)) (lineM E (bl t) least most s)):=by
 go_enter Tryz.func102,Tryz.ntmps102
 rcases hp:wordM E (bl t) s with⟨u,s1⟩|y
 ·go_wp2_with fail
  refine (Post.okC (word_any t ht h) hp).mono ?_;rintro e w1 ⟨v1,rfl,rfl,h1,F1⟩
  rcases hc:countM E s1 with⟨n,s2⟩|y
  ·go_wp2_with fail
   refine (Post.okC (count_any h1) hc).mono ?_;rintro e w2 ⟨v2,rfl,rfl,h2,F2⟩
   by_cases hb:least<=n/\n<=most
   ·have i1:(least:Int)<=(n:Int):=by omega
    have i2:(n:Int)<=(most:Int):=by omega
    have hneed:needM E (decide (least<=n)&&decide (n<=most)) s2=.ok () s2:=by unfold needM;simp[hb.1,hb.2]
    rcases hl:wordM E [10] s2 with⟨u3,s3⟩|y
    ·have HN:Hid (lineM E (bl t) least most s=.ok n s3):=by show lineM E (bl t) least most s=_;unfold lineM;rw[Rdr.then_ok hp,Rdr.then_ok hc,Rdr.then_ok hneed,Rdr.then_ok hl];rfl
     clear hneed
     go_wp2_with (go_at_call 104;refine (need_ok _).mono ?_;rintro e w3 ⟨rfl,rfl⟩)
     refine (Post.okC (word_any ⟨#[10]⟩ (by decide) h2) (show wordM E (bl ⟨#[10]⟩) s2=_ from hl)).mono ?_;rintro e w4 ⟨v4,rfl,rfl,h4,F4⟩
     go_wp2_with fail
     go_ret
     exact Post.ok (unh HN) rfl h4 ((F1.trans F2).trans F4)
    ·have HN:Hid (lineM E (bl t) least most s=.no y):=by show lineM E (bl t) least most s=_;unfold lineM;rw[Rdr.then_ok hp,Rdr.then_ok hc,Rdr.then_ok hneed,Rdr.then_no hl]
     clear hneed
     go_wp2_with (go_at_call 104;refine (need_ok _).mono ?_;rintro e w3 ⟨rfl,rfl⟩)
     refine (Post.noC (word_any ⟨#[10]⟩ (by decide) h2) (show wordM E (bl ⟨#[10]⟩) s2=_ from hl)).mono ?_;rintro e w4 ⟨rfl,F4⟩;exact⟨rfl,Post.no (unh HN) ((F1.trans F2).trans F4)⟩
   ·have hneed:needM E (decide (least<=n)&&decide (n<=most)) s2=.no (E.why s2.k):=by unfold needM;rw[if_neg (by simpa using hb)]
    have HN:Hid (lineM E (bl t) least most s=.no (E.why s2.k)):=by show lineM E (bl t) least most s=_;unfold lineM;rw[Rdr.then_ok hp,Rdr.then_ok hc,Rdr.then_no hneed]
    clear hneed
    by_cases hb1:least<=n
    ·have i1:(least:Int)<=(n:Int):=by omega
     have i2:decide ((n:Int)<=(most:Int))=false:=by simp;omega
     have i3:decide (n<=most)=false:=by simp;omega
     clear hb
     go_wp2_with fail
     refine (need_no h2).mono ?_;rintro e w3 ⟨rfl,rfl⟩;exact⟨rfl,Post.no (unh HN) (F1.trans F2).drew⟩
    ·have i1:decide ((least:Int)<=(n:Int))=false:=by simp;omega
     have i3:decide (least<=n)=false:=by simp;omega
     clear hb hb1
     go_wp2_with fail
     refine (need_no h2).mono ?_;rintro e w3 ⟨rfl,rfl⟩;exact⟨rfl,Post.no (unh HN) (F1.trans F2).drew⟩
  ·have HN:Hid (lineM E (bl t) least most s=.no y):=by show lineM E (bl t) least most s=_;unfold lineM;rw[Rdr.then_ok hp,Rdr.then_no hc]
   go_wp2_with fail
   refine (Post.noC (count_any h1) hc).mono ?_;rintro e w2 ⟨rfl,F2⟩;exact⟨rfl,Post.no (unh HN) (F1.trans F2)⟩
 ·have HN:Hid (lineM E (bl t) least most s=.no y):=by show lineM E (bl t) least most s=_;unfold lineM;rw[Rdr.then_no hp]
  go_wp2_with fail
  refine (Post.noC (word_any t ht h) hp).mono ?_;rintro e w1 ⟨rfl,F1⟩;exact⟨rfl,Post.no (unh HN) F1⟩
end
section
open Go.RowKit
attribute [local go_sem] Oper.semAt_some
variable {w:World}{P B:Nat}{E:Env}{s s':St}
theorem beqI {x c:Nat}(h:x=c):((x:Int)==(c:Int))=true:=by rw[h];simp
theorem beqI' {x c:Nat}(h:x≠c):((x:Int)==(c:Int))=false:=by rw[beq_eq_false_iff_ne];omega
set_option maxHeartbeats 400000 in
theorem isBlank_any (w:World) (x:Nat):Calls Tryz.prog 152 #[.int .u8 (x:Int)] w fun e w'=>e=.returned (.bool (blkP x))/\w=w':=by
 by_cases h1:x=32
 ·have hd:blkP x=true:=by simp[blkP,h1]
  have i1:((x:Int)==32)=true:=beqI h1;rw[hd];clear h1 hd
  go_enter Tryz.func152,Tryz.ntmps152
  go_wp2_with fail
  go_ret
  exact⟨rfl,rfl⟩
 ·have i1:((x:Int)==32)=false:=beqI' h1
  by_cases h2:x=10
  ·have i2:((x:Int)==10)=true:=beqI h2;have hd:blkP x=true:=by simp[blkP,h2]
   rw[hd];clear h1 h2 hd
   go_enter Tryz.func152,Tryz.ntmps152
   go_wp2_with fail
   go_ret
   exact⟨rfl,rfl⟩
  ·have i2:((x:Int)==10)=false:=beqI' h2;have hd:blkP x=false:=by simp[blkP,h1,h2]
   rw[hd];clear h1 h2 hd
   go_enter Tryz.func152,Tryz.ntmps152
   go_wp2_with fail
   go_ret
   exact⟨rfl,rfl⟩
set_option maxHeartbeats 400000 in
theorem isEscaped_any (w:World) (x:Nat):Calls Tryz.prog 169 #[.int .u8 (x:Int)] w fun e w'=>e=.returned (.bool (escP x))/\w=w':=by
 obtain⟨b,hb⟩:∃ b,escP x=b:=⟨_,rfl⟩;rw[hb];have HB:=hid hb;clear hb
 by_cases h1:x=40
 ·have i1:((x:Int)==40)=true:=beqI h1
  go_enter Tryz.func169,Tryz.ntmps169
  go_wp2_with fail
  go_ret
  exact⟨by rw[← unh HB];simp[escP,h1],rfl⟩
 ·have i1:((x:Int)==40)=false:=beqI' h1
  by_cases h2:x=41
  ·have i2:((x:Int)==41)=true:=beqI h2
   go_enter Tryz.func169,Tryz.ntmps169
   go_wp2_with fail
   go_ret
   exact⟨by rw[← unh HB];simp[escP,h2],rfl⟩
  ·have i2:((x:Int)==41)=false:=beqI' h2
   by_cases h3:x=92
   ·have i3:((x:Int)==92)=true:=beqI h3
    go_enter Tryz.func169,Tryz.ntmps169
    go_wp2_with fail
    go_ret
    exact⟨by rw[← unh HB];simp[escP,h3],rfl⟩
   ·have i3:((x:Int)==92)=false:=beqI' h3
    go_enter Tryz.func169,Tryz.ntmps169
    go_wp2_with fail
    go_ret
    exact⟨by rw[← unh HB];simp[escP,h1,h2,h3],rfl⟩
theorem word_inv:∀ (l:List Nat) {s s':St}{u:Unit},wordM E l s=.ok u s'->s'.k=s.k+l.length/\s'.b<=s.b
 | [],s,s',u,h=>by cases h;exact⟨rfl,Nat.le_refl _⟩
 | c::l,s,s',u,h=>by
  unfold wordM at h;obtain⟨x,s1,hp,k1⟩:=then_inv h;obtain⟨_,s2,hn,k2⟩:=then_inv k1;obtain⟨e3,_⟩:=need_inv hn;subst e3;obtain⟨_,s3,ha,k3⟩:=then_inv k2;have e4:=adv_inv ha;obtain⟨hb,hk,_⟩:=peek_b hp;have:=word_inv l k3;rw[e4] at this;simp only[List.length_cons] at this ⊢;omega
set_option maxHeartbeats 2000000 in
set_option maxRecDepth 100000 in
theorem next_any (h:At w P B E s):Calls Tryz.prog 131 #[.pointer (some ⟨P,0,none⟩)] w (Post P B E w (fun x v _=>v=.int .u8 ((x:Nat):Int)) (nextM E s)):=by
 have hs:=h.hs;have he:=h.he
 go_enter Tryz.func131,Tryz.ntmps131
 go_wp2_with fail
 go_loopw [3] (fun _ wr=>∃ (n:Nat) (si:St),E.e+1<=n+si.k/\At wr P B E si/\Fz P B w wr/\Hid (nextM E s=((blanksM E n).then fun _=>peekM E) si))
  (fun _ wr=>E.e-kOf P wr)
 case atStart=>exact⟨9001,s,by omega,h,Fz.refl _ _ _,rfl⟩
 case round=>
  obtain⟨n,si,hn,hA,hF,HE⟩:=hrel;have hk:=hA.hk;obtain⟨n',rfl⟩:∃ n',n=n'+1:=⟨n-1,by omega⟩
  rcases hq:peekM E si with⟨x,s2⟩|y
  ·obtain⟨hs2,hx',hne',hb2⟩:=peek_inv hq;have hk2:s2.k<=si.k/\si.k<=s2.k:=by rw[hs2];exact⟨Nat.le_refl _,Nat.le_refl _⟩
   clear hs2 hx'
   rcases hpx:blkP x with _|_
   ·have HE2:Hid (nextM E s=peekM E s2):=(unh HE).trans (by simp[blanksM,Rdr.then,hq,hpx,Rdr.ret]);clear HE
    go_wp2_with (first | (go_at_call 152;refine (isBlank_any _ x).mono ?_;rw[hpx];rintro e w3 ⟨rfl,rfl⟩) | (have tok:=hA;go_at_call 128;refine (Post.okC (peek_any tok) hq).mono ?_;rintro e w2 ⟨v2,rfl,rfl,h2,F2⟩;clear hA))
    rcases hq2:peekM E s2 with⟨x3,s3⟩|y
    ·refine (Post.okC (peek_any h2) hq2).mono ?_;rintro e w4 ⟨v4,rfl,rfl,h4,F4⟩
     go_wp2_with fail
     go_ret
     exact Post.ok ((unh HE2).trans hq2) rfl h4 ((hF.trans F2).trans F4)
    ·refine (Post.noC (peek_any h2) hq2).mono ?_;rintro e w4 ⟨rfl,F4⟩;exact⟨rfl,Post.no ((unh HE2).trans hq2) ((hF.trans F2).trans F4)⟩
   ·have HE2:Hid (nextM E s=((blanksM E n').then fun _=>peekM E) { s2 with k:=s2.k+1 }):=(unh HE).trans (by simp[blanksM,Rdr.then,hq,hpx,advM]);clear HE
    go_wp2_with (first | (go_at_call 152;refine (isBlank_any _ x).mono ?_;rw[hpx];rintro e w3 ⟨rfl,rfl⟩) | (have tok:=hA;go_at_call 128;refine (Post.okC (peek_any tok) hq).mono ?_;rintro e w2 ⟨v2,rfl,rfl,h2,F2⟩;have g1:=h2.c1;have gf:=h2.fr 1))
    have h3:=h2.go (s2.k+1) (by omega)
    go_roundw
    case rel=>exact⟨n',{ s2 with k:=s2.k+1 },by show E.e+1<=n'+(s2.k+1);omega,h3,(hF.trans F2).setP _ _,HE2⟩
    case measure=>
     have e1:=hA.kOf;have e3:kOf P (w2.setCell ⟨P,1,none⟩ (.int .i64 ((s2.k:Int)+1)))=s2.k+1:=h3.kOf;simp only[e1,e3];omega
  ·have HN:Hid (nextM E s=.no y):=(unh HE).trans (by simp[blanksM,Rdr.then,hq]);clear HE
   go_wp2_with fail
   refine (Post.noC (peek_any hA) hq).mono ?_;rintro e w2 ⟨rfl,F2⟩;exact⟨rfl,Post.no (unh HN) (hF.trans F2)⟩
end
section
open Go.RowKit
attribute [local go_sem] Oper.semAt_some
variable {w:World}{P B:Nat}{E:Env}{s s':St}
theorem whole_inv {most n:Nat}(h1:1<=most) (h:wholeM E most s=.ok n s'):n<10^most/\s.k<s'.k/\s'.k<=s.k+most:=by
 unfold wholeM at h;obtain⟨t,s1,hp,k1⟩:=then_inv h;obtain⟨e1,e2⟩:=ret_inv k1;subst e1 e2;obtain⟨ht,a,b,c⟩:=some_inv h1 hp;refine⟨?_,a,b⟩;have hz:t.size<=s'.k-s.k:=by rw[ht,ByteArray.size_extract];omega
 have:=vI_le t 0 t.size (fun j hj=>by
  rw[Nat.zero_add,ht,bt_extract _ _ _ _ (by omega)]
  exact (c _ (by omega) (by omega)).1)
 exact Nat.lt_of_lt_of_le this (Nat.pow_le_pow_right (by decide) (by omega))
theorem count_inv {n:Nat}(h:countM E s=.ok n s'):n<10000/\s.k<s'.k:=by
 unfold countM at h;obtain⟨x,s1,hp,k1⟩:=then_inv h;obtain⟨_,hk,_⟩:=peek_b hp;split at k1
 ·have:=whole_inv (by decide) k1;omega
 ·have:=whole_inv (by decide) k1;omega
set_option maxHeartbeats 1000000 in
theorem name_any (h:At w P B E s):Calls Tryz.prog 148 #[.pointer (some ⟨P,0,none⟩)] w (Post P B E w (fun t v _=>v=.string t) (nameM E s)):=by
 go_enter Tryz.func148,Tryz.ntmps148
 rcases q1:wordM E [47] s with⟨u1,s1⟩|y
 ·go_wp2_with fail
  refine (Post.okC (word_any ⟨#[47]⟩ (by decide) h) (show wordM E (bl ⟨#[47]⟩) s=_ from q1)).mono ?_;rintro e w1 ⟨v1,rfl,rfl,h1,F1⟩
  rcases q2:someM E letP 8 s1 with⟨t2,s2⟩|y
  ·go_wp2_with fail
   refine (Post.okC (someL_any 8 (by decide) h1) q2).mono ?_;rintro e w2 ⟨v2,rfl,rfl,h2,F2⟩;have HN:Hid (nameM E s=.ok t2 s2):=by show nameM E s=_;simp[nameM,Rdr.then,q1,q2]
   go_wp2_with fail
   go_ret
   exact Post.ok (unh HN) rfl h2 (F1.trans F2)
  ·have HN:Hid (nameM E s=.no y):=by show nameM E s=_;simp[nameM,Rdr.then,q1,q2]
   go_wp2_with fail
   refine (Post.noC (someL_any 8 (by decide) h1) q2).mono ?_;rintro e w2 ⟨rfl,F2⟩;exact⟨rfl,Post.no (unh HN) (F1.trans F2)⟩
 ·have HN:Hid (nameM E s=.no y):=by show nameM E s=_;simp[nameM,Rdr.then,q1]
  go_wp2_with fail
  refine (Post.noC (word_any ⟨#[47]⟩ (by decide) h) (show wordM E (bl ⟨#[47]⟩) s=_ from q1)).mono ?_;rintro e w1 ⟨rfl,F1⟩;exact⟨rfl,Post.no (unh HN) F1⟩
set_option maxHeartbeats 1000000 in
theorem stream_any (h:At w P B E s):Calls Tryz.prog 132 #[.pointer (some ⟨P,0,none⟩)] w (Post P B E w (fun t v _=>v=.string t) (streamM E s)):=by
 go_enter Tryz.func132,Tryz.ntmps132
 rcases q1:wordM E [126] s with⟨u1,s1⟩|y
 ·go_wp2_with fail
  refine (Post.okC (word_any ⟨#[126]⟩ (by decide) h) (show wordM E (bl ⟨#[126]⟩) s=_ from q1)).mono ?_;rintro e w1 ⟨v1,rfl,rfl,h1,F1⟩
  rcases q2:nextM E s1 with⟨x2,s2⟩|y
  ·go_wp2_with fail
   refine (Post.okC (next_any h1) q2).mono ?_;rintro e w2 ⟨v2,rfl,rfl,h2,F2⟩
   rcases q3:countM E s2 with⟨n3,s3⟩|y
   ·go_wp2_with fail
    refine (Post.okC (count_any h2) q3).mono ?_;rintro e w3 ⟨v3,rfl,rfl,h3,F3⟩;have hn3:=(count_inv q3).1
    rcases q4:wordM E [58] s3 with⟨u4,s4⟩|y
    ·go_wp2_with fail
     refine (Post.okC (word_any ⟨#[58]⟩ (by decide) h3) (show wordM E (bl ⟨#[58]⟩) s3=_ from q4)).mono ?_;rintro e w4 ⟨v4,rfl,rfl,h4,F4⟩
     rcases q5:bytesM E n3 s4 with⟨t5,s5⟩|y
     ·go_wp2_with fail
      refine (Post.okC (bytes_any n3 (by omega) h4) q5).mono ?_;rintro e w5 ⟨v5,rfl,rfl,h5,F5⟩;have HN:Hid (streamM E s=.ok t5 s5):=by show streamM E s=_;simp[streamM,Rdr.then,q1,q2,q3,q4,q5]
      go_wp2_with fail
      go_ret
      exact Post.ok (unh HN) rfl h5 ((((F1.trans F2).trans F3).trans F4).trans F5)
     ·have HN:Hid (streamM E s=.no y):=by show streamM E s=_;simp[streamM,Rdr.then,q1,q2,q3,q4,q5]
      go_wp2_with fail
      refine (Post.noC (bytes_any n3 (by omega) h4) q5).mono ?_;rintro e w5 ⟨rfl,F5⟩;exact⟨rfl,Post.no (unh HN) ((((F1.trans F2).trans F3).trans F4).trans F5)⟩
    ·have HN:Hid (streamM E s=.no y):=by show streamM E s=_;simp[streamM,Rdr.then,q1,q2,q3,q4]
     go_wp2_with fail
     refine (Post.noC (word_any ⟨#[58]⟩ (by decide) h3) (show wordM E (bl ⟨#[58]⟩) s3=_ from q4)).mono ?_;rintro e w4 ⟨rfl,F4⟩;exact⟨rfl,Post.no (unh HN) (((F1.trans F2).trans F3).trans F4)⟩
   ·have HN:Hid (streamM E s=.no y):=by show streamM E s=_;simp[streamM,Rdr.then,q1,q2,q3]
    go_wp2_with fail
    refine (Post.noC (count_any h2) q3).mono ?_;rintro e w3 ⟨rfl,F3⟩;exact⟨rfl,Post.no (unh HN) ((F1.trans F2).trans F3)⟩
  ·have HN:Hid (streamM E s=.no y):=by show streamM E s=_;simp[streamM,Rdr.then,q1,q2]
   go_wp2_with fail
   refine (Post.noC (next_any h1) q2).mono ?_;rintro e w2 ⟨rfl,F2⟩;exact⟨rfl,Post.no (unh HN) (F1.trans F2)⟩
 ·have HN:Hid (streamM E s=.no y):=by show streamM E s=_;simp[streamM,Rdr.then,q1]
  go_wp2_with fail
  refine (Post.noC (word_any ⟨#[126]⟩ (by decide) h) (show wordM E (bl ⟨#[126]⟩) s=_ from q1)).mono ?_;rintro e w1 ⟨rfl,F1⟩;exact⟨rfl,Post.no (unh HN) F1⟩
end
end Go.Proofs.YtgffljllfenhkaaGreatDoor
