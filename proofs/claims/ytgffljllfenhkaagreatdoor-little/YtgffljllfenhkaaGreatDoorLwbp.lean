import Derived.ProofKit
import Derived.LaidMore
import Derived.OpenShut
import Derived.MakeChecks
import Derived.Stop.Joined
import Derived.Lib.LaidTab
import Derived.Lay
import Derived.Test.YtgffljllfenhkaaGreatDoorLwbo
import Derived.Test.YtgffljllfenhkaaGreatDoorRows
section
namespace Go.Proofs.YtgffljllfenhkaaGreatDoor
variable {os:List Obj1} {nt:Bool→Nat→Nat→ByteArray}
def TyR (os:List Obj1) (n:Nat):Prop:=tnameAt os n=pageB∨tnameAt os n=textB
def ExtR (os:List Obj1) (olds olds':List Nat):Prop:=∃ ext,olds'=olds++ext∧∀ n ∈ ext,TyR os n
theorem ExtR.refl (os:List Obj1) (olds:List Nat):ExtR os olds olds:=⟨[],by simp,by simp⟩
theorem ExtR.trans {a c d:List Nat} (h:ExtR os a c) (k:ExtR os c d):ExtR os a d:=by
 obtain ⟨x,rfl,hx⟩:=h
 obtain ⟨y,rfl,hy⟩:=k
 refine ⟨x++y,by rw [List.append_assoc],fun n hn=>?_⟩
 rcases List.mem_append.1 hn with h1 | h1
 ·exact hx n h1
 ·exact hy n h1
theorem numR_x {olds olds' : List Nat} {old b m b' : Nat} (ht : TyR os old) (h : numR olds old b = .ok (m, olds') b') : ExtR os olds olds' := by
  unfold numR at h
  split at h
  · cases h
  · split at h
    · cases h; exact ExtR.refl _ _
    · cases h
      exact ⟨[old], rfl, fun n hn => by have : n = old := by simpa using hn
                                        rw [this]; exact ht⟩
def leafTy (os:List Obj1) (v:Val):Prop:=∀ n,v=.ref n→TyR os n
theorem renLeaf_x {olds olds':List Nat} {b b':Nat} {v v':Val} (hr:leafTy os v) (h:renLeaf olds v b=.ok (v',olds') b'):ExtR os olds olds':=by
 cases v
 case ref n=>
  simp only [renLeaf] at h
  rcases hq:numR olds n b with ⟨⟨m,o2⟩,b2⟩ | y
  ·rw [hq] at h
   simp only [Res.ok.injEq,Prod.mk.injEq] at h
   rw [← h.1.2]
   exact numR_x (hr n rfl) hq
  ·rw [hq] at h;cases h
 all_goals (simp only [renLeaf,Res.ok.injEq,Prod.mk.injEq] at h;rw [← h.1.2];exact ExtR.refl _ _)
theorem renL_x:∀ (l acc:List Val) {olds o':List Nat} {b b':Nat} {l':List Val},(∀ v ∈ l,leafTy os v)→renL l acc olds b=.ok (l',o') b'→ExtR os olds o'
 | [],acc,_,_,_,_,_,_,h=>by simp only [renL,Res.ok.injEq,Prod.mk.injEq] at h;rw [← h.1.2];exact ExtR.refl _ _
 | v::l,acc,olds,o',b,b',l',hr,h=>by
  simp only [renL] at h
  rcases hq:renLeaf olds v b with ⟨⟨v',o2⟩,b2⟩ | y
  ·rw [hq] at h
   exact (renLeaf_x (hr v (by simp)) hq).trans (renL_x l _ (fun u hu=>hr u (by simp [hu])) h)
  ·rw [hq] at h;cases h
def refsTy (os:List Obj1):Val→Prop
 | .arr l=>∀ v ∈ l,leafTy os v
 | v=>leafTy os v
theorem renV_x {olds o':List Nat} {b b':Nat} {v v':Val} (hr:refsTy os v) (h:renV olds v b=.ok (v',o') b'):ExtR os olds o':=by
 cases v
 case arr l=>
  simp only [renV] at h
  rcases hq:renL l [] olds b with ⟨⟨l',o2⟩,b2⟩ | y
  ·rw [hq] at h
   simp only [Res.ok.injEq,Prod.mk.injEq] at h
   rw [← h.1.2]
   exact renL_x l [] hr hq
  ·rw [hq] at h;cases h
 all_goals (simp only [renV] at h;exact renLeaf_x hr h)
theorem refTo_ty {ty:ByteArray} {v:Val} (ht:ty=pageB∨ty=textB) (h:refTo os ty v=true):leafTy os v:=by
 cases v
 case ref n=>
  intro m e
  cases e
  have h1:tnameAt os n=ty:=by haveI:=lawfulB;unfold refTo at h;exact eq_of_beq h
  unfold TyR
  rw [h1]
  exact ht
 all_goals simp [refTo] at h
theorem right_ty {r:Rule} {v x:Val} {b b':Nat} (h:r.right os v b=.ok (x,true) b'):refsTy os x:=by
 cases r
 case kids=>
  simp only [Rule.right,kidsR] at h
  split at h
  ·cases h
  ·simp only [Res.ok.injEq,Prod.mk.injEq] at h
   obtain ⟨⟨rfl,_⟩,_⟩:=h
   exact fun e he=>refTo_ty (.inl rfl) (List.mem_filter.1 he).2
 case title=>
  simp only [Rule.right,Res.ok.injEq,Prod.mk.injEq] at h
  obtain ⟨⟨rfl,h2⟩,_⟩:=h
  cases v <;> first | (simp [isStr] at h2;done) | exact fun m e=>by cases e
 case box=>
  simp only [Rule.right,Res.ok.injEq,Prod.mk.injEq] at h
  obtain ⟨⟨rfl,h2⟩,_⟩:=h
  rw [Bool.and_eq_true] at h2
  cases v
  case arr l=>
   have hm:∀ e ∈ l,isNum e=true:=List.all_eq_true.1 h2.2
   intro e he m em
   have:=hm e he
   rw [em] at this
   cases this
  all_goals (simp [elemsOf] at h2)
 case next=>
  simp only [Rule.right,refR] at h
  split at h
  ·cases h
  ·simp only [Res.ok.injEq,Prod.mk.injEq] at h
   obtain ⟨⟨rfl,h2⟩,_⟩:=h
   have:=refTo_ty (.inl rfl) h2
   cases v <;> first | (simp [refTo] at h2;done) | exact this
 case text=>
  simp only [Rule.right,refR] at h
  split at h
  ·cases h
  ·simp only [Res.ok.injEq,Prod.mk.injEq] at h
   obtain ⟨⟨rfl,h2⟩,_⟩:=h
   have:=refTo_ty (.inr rfl) h2
   cases v <;> first | (simp [refTo] at h2;done) | exact this
theorem keepL_x {o:Obj1}:∀ (rs:List Rule) (acc:List (ByteArray×Val)) {olds o':List Nat} {b b':Nat} {fs:List (ByteArray×Val)},keepL os o rs acc olds b=.ok (fs,o') b'→ExtR os olds o'
 | [],acc,_,_,_,_,_,h=>by simp only [keepL,Res.ok.injEq,Prod.mk.injEq] at h;rw [← h.1.2];exact ExtR.refl _ _
 | r::rs,acc,olds,o',b,b',fs,h=>by
  rcases keepL_cons h with ⟨b1,h1⟩ | ⟨x,x',o2,b1,b2,h1,h2,h3⟩
  ·exact keepL_x rs acc h1
  ·exact (renV_x (right_ty h1) h2).trans (keepL_x rs _ h3)
theorem ObT.t_app (o:ObT) (l:List UInt8):o.t l=o.t []++l:=by cases o <;> simp [ObT.t,List.append_assoc]
theorem objsT_app:∀ (xs:List (List UInt8×ObT)) (l:List UInt8),objsT xs l=objsT xs []++l
 | [],l=>rfl
 | x::xs,l=>by
  rw [objsT,objsT,objsT_app xs l,ObT.t_app,ObT.t_app x.2 (59::10::objsT xs [])]
  simp [List.append_assoc]
def plcs:Nat→List (List UInt8×ObT)→List Nat
 | _,[]=>[]
 | p,x::xs=>p::plcs (p+(objsT [x] []).length) xs
theorem objsT_cons (x:List UInt8×ObT) (xs:List (List UInt8×ObT)) (l:List UInt8):objsT (x::xs) l=objsT [x] []++objsT xs l:=by
 rw [← objsT_app [x] (objsT xs l)];rfl
theorem plcs_get:∀ (xs:List (List UInt8×ObT)) (p i q:Nat),(plcs p xs)[i]?=some q→q+(objsT (xs.drop i) []).length=p+(objsT xs []).length
 | [],p,i,q,h=>by simp [plcs] at h
 | x::xs,p,0,q,h=>by
  have:p=q:=by simpa [plcs] using h
  rw [this];rfl
 | x::xs,p,i+1,q,h=>by
  rw [plcs,List.getElem?_cons_succ] at h
  have:=plcs_get xs _ i q h
  rw [List.drop_succ_cons,this,objsT_cons x xs [],List.length_append]
  omega
theorem plcs_len:∀ (xs:List (List UInt8×ObT)) (p:Nat),(plcs p xs).length=xs.length
 | [],_=>rfl
 | x::xs,p=>by rw [plcs,List.length_cons,plcs_len,List.length_cons]
theorem reach_txt (hnt:∀ neg m k,leafOk (.num neg m k)→∃ e:NumT,e.ok∧(nt neg m k).data.toList=e.b) (hos:os.length≤31) (hV:∀ o ∈ os,VO o.v∧o.stream.size≤9000) :
  ∀ (f i:Nat) (olds places:List Nat) (out:List UInt8) (b:Nat) {pl:List Nat} {out':List UInt8} {b':Nat},reachW nt os f i olds places out b=.ok (pl,out') b'→OldsLt os.length olds→(∀ j n,olds[j]?=some n→(j=0∧tnameAt os n=rootB)∨TyR os n) →
   ∃ objs:List (List UInt8×ObT),out'=out++objsT objs []∧pl=places++plcs out.length objs∧(∀ j x,objs[j]?=some x→digsOk x.1∧digV x.1 0=i+j+1∧x.2.ok (i+j+1))∧(objs=[]∨i+objs.length≤os.length)∧(out.length≤9000→out'.length≤9000)
 | 0,i,olds,places,out,b,pl,out',b',h,ho,hty=>by cases h
 | f+1,i,olds,places,out,b,pl,out',b',h,ho,hty=>by
  rw [reachW] at h
  rcases hn:olds[i]? with _ | n
  ·rw [hn] at h
   simp only [Res.ok.injEq,Prod.mk.injEq] at h
   exact ⟨[],by rw [← h.1.2];simp [objsT],by rw [← h.1.1];simp [plcs],by simp,.inl rfl,by rw [← h.1.2];exact id⟩
  ·rw [hn] at h
   simp only at h
   have hil:=(List.getElem?_eq_some_iff.1 hn).1
   have hol:=ho.len
   rcases hob:os[n]? with _ | o
   ·rw [hob] at h;cases h
   ·rw [hob] at h
    simp only at h
    have hom:o ∈ os:=List.mem_of_getElem? hob
    have htn:tnameAt os n=tname o:=by unfold tnameAt;rw [hob]
    rcases hk:keepL os o (rulesOf (tname o)) [] olds b with ⟨⟨fs,olds'⟩,b1⟩ | y
    ·rw [hk] at h
     simp only at h
     rcases hw:objW nt (i+1) (tname o) fs o.stream out b1 with ⟨o2,b2⟩ | y
     ·rw [hw] at h
      simp only at h
      have hty':(i+1=1∧tname o=rootB)∨tname o=pageB∨tname o=textB:=by
       rcases hty i n hn with ⟨h1,h2⟩ | h1
       ·exact .inl ⟨by omega,by rw [← htn];exact h2⟩
       ·unfold TyR at h1;rw [htn] at h1;exact .inr h1
      obtain ⟨ob,ho1,ho2⟩:=obj_txt hnt (by omega) (hV o hom).1 (hV o hom).2 hty' ho hk
      obtain ⟨e1,l1⟩:=objW_out nt hw
      have hok':OldsLt os.length olds':=(keepL_lt (by omega) (fun r=>vget_ok (hV o hom).1 r.key) _ [] hk ho (by simp)).1
      obtain ⟨ext,hext,hte⟩:=keepL_x _ _ hk
      have hty2:∀ j n,olds'[j]?=some n→(j=0∧tnameAt os n=rootB)∨TyR os n:=fun j m hj=>by
       rw [hext] at hj
       by_cases hjl:j < olds.length
       ·rw [List.getElem?_append_left hjl] at hj;exact hty j m hj
       ·rw [List.getElem?_append_right (by omega)] at hj
        exact .inr (hte m (List.mem_of_getElem? hj))
      obtain ⟨objs,h1,h2,h3,h4,h5⟩:=reach_txt hnt hos hV f (i+1) olds' (places++[out.length]) o2 b2 h hok' hty2
      have hdg:=itoaB_digs (i+1) (by omega)
      have eo:o2=out++objsT [((itoaB (i+1)).data.toList,ob)] []:=by
       rw [e1,objsT,objsT,← ho2 []]
      refine ⟨((itoaB (i+1)).data.toList,ob)::objs,?_,?_,?_,.inr ?_,fun hl=>h5 (l1 hl)⟩
      ·rw [h1,eo,List.append_assoc,← objsT_cons]
      ·rw [h2,plcs,eo,List.length_append];simp [List.append_assoc]
      ·intro j x hj
       cases j with
       | zero=>
        have:x=((itoaB (i+1)).data.toList,ob):=by simpa using hj.symm
        rw [this]
        exact ⟨hdg.1,hdg.2,ho1⟩
       | succ j=>
        rw [List.getElem?_cons_succ] at hj
        have:=h3 j x hj
        rw [show i+(j+1)+1=i+1+j+1 by omega]
        exact this
      ·rcases h4 with h4 | h4
       ·rw [h4];simp;omega
       ·rw [List.length_cons];omega
     ·rw [hw] at h;cases h
    ·rw [hk] at h;cases h
theorem rowsW_out:∀ (l:List Nat) {out out':List UInt8} {b b':Nat},rowsW l out b=.ok out' b'→out'=out++l.flatMap (fun p=>(itoaB p).data.toList++[10])∧(out.length≤9000→out'.length≤9000)
 | [],out,out',b,b',h=>by simp only [rowsW,Res.ok.injEq] at h;rw [← h.1];simp
 | p::l,out,out',b,b',h=>by
  simp only [rowsW] at h
  rcases hq:putR [itoaB p,⟨#[10]⟩] out b with ⟨o1,b1⟩ | y
  ·rw [hq] at h
   obtain ⟨e1,l1⟩:=putR_out _ hq
   obtain ⟨e2,l2⟩:=rowsW_out l h
   refine ⟨?_,fun ho=>l2 (l1 ho)⟩
   rw [e2,e1];simp [List.append_assoc]
  ·rw [hq] at h;cases h
theorem rows_tab:∀ (l:List Nat) (r:List UInt8),10::(l.flatMap (fun p=>(itoaB p).data.toList++[10])++r)=tabT (l.map (fun p=>(itoaB p).data.toList)) (10::r)
 | [],r=>rfl
 | p::l,r=>by
  rw [List.map_cons,tabT,← rows_tab l r]
  simp [List.append_assoc]
theorem tabW_out {l:List Nat} {out t:List UInt8} {b b':Nat} (h:tabW l out b=.ok t b'):t=out++tailX (itoaB l.length).data.toList (l.map (fun p=>(itoaB p).data.toList)) (itoaB out.length).data.toList∧(out.length≤9000→t.length≤9000):=by
 unfold tabW at h
 rcases hq:putR [⟨#[120,114,101,102,32]⟩,itoaB l.length,⟨#[10]⟩] out b with ⟨o1,b1⟩ | y
 ·rw [hq] at h
  simp only at h
  rcases hq2:rowsW l o1 b1 with ⟨o2,b2⟩ | y
  ·rw [hq2] at h
   simp only at h
   obtain ⟨e1,l1⟩:=putR_out _ hq
   obtain ⟨e2,l2⟩:=rowsW_out l hq2
   obtain ⟨e3,l3⟩:=putR_out _ h
   refine ⟨?_,fun ho=>l3 (l2 (l1 ho))⟩
   rw [e3,e2,e1]
   unfold tailX
   rw [show endT (itoaB out.length).data.toList=10::([114,111,111,116,32,49,10,97,116,32]++((itoaB out.length).data.toList++[10,101,110,100,10])) from rfl,← rows_tab]
   simp [List.append_assoc]
  ·rw [hq2] at h;cases h
 ·rw [hq] at h;cases h
theorem write_know (hnt:∀ neg m k,leafOk (.num neg m k)→∃ e:NumT,e.ok∧(nt neg m k).data.toList=e.b) {root b b':Nat} {t:List UInt8} (hd:os.length≤31∧root < os.length∧tnameAt os root=rootB∧∀ o ∈ os,VO o.v∧o.stream.size≤9000) (h:writeR nt os root b=.ok t b') :
  t.length≤9000∧∃ objs cnt pds ad,KnowT (bstr t) objs cnt pds ad:=by
 obtain ⟨h31,hr,hrt,hV⟩:=hd
 unfold writeR at h
 rcases hq:putR [headB] [] b with ⟨o1,b1⟩ | y
 ·rw [hq] at h
  simp only at h
  obtain ⟨e1,l1⟩:=putR_out _ hq
  have e1':o1=headB.data.toList:=by rw [e1];simp
  rcases hq2:reachW nt os 40 0 [root] [] o1 b1 with ⟨⟨pl,o2⟩,b2⟩ | y
  ·rw [hq2] at h
   simp only at h
   have hone:OldsLt os.length [root]:=by
    refine ⟨by simp,fun n hn=>?_⟩
    have:n=root:=by simpa using hn
    rw [this];exact hr
   have hfst:∀ j n,[root][j]?=some n→(j=0∧tnameAt os n=rootB)∨TyR os n:=by
    intro j n hj
    cases j with
    | zero=>
     have:n=root:=by simpa using hj.symm
     rw [this];exact .inl ⟨rfl,hrt⟩
    | succ j=>simp at hj
   obtain ⟨objs,r1,r2,r3,r4,r5⟩:=reach_txt hnt h31 hV 40 0 [root] [] o1 b1 hq2 hone hfst
   obtain ⟨e3,l3⟩:=tabW_out h
   have hl5:o1.length=5:=by rw [e1'];rfl
   have ho2:=r5 (by omega)
   have ht9:=l3 ho2
   rw [List.nil_append] at r2
   have hpl:pl.length=objs.length:=by rw [r2,plcs_len]
   have hol:objs.length≤31:=by
    rcases r4 with h4 | h4
    ·rw [h4];simp
    ·omega
   obtain ⟨tl,htl⟩:∃ tl,tailX (itoaB pl.length).data.toList (pl.map (fun p=>(itoaB p).data.toList)) (itoaB o2.length).data.toList=tl:=⟨_,rfl⟩
   have hsz:(bstr t).size=t.length:=by unfold bstr;simp [ByteArray.size]
   have ht:t=headB.data.toList++objsT objs tl:=by rw [e3,htl,r1,e1',objsT_app objs tl];simp [List.append_assoc]
   have hto:t.length=o2.length+tl.length:=by rw [e3,htl,List.length_append]
   have ho2l:o2.length=5+(objsT objs []).length:=by rw [r1,List.length_append,hl5]
   refine ⟨ht9,objs,(itoaB pl.length).data.toList,pl.map (fun p=>(itoaB p).data.toList),(itoaB o2.length).data.toList,?_,by rw [hsz];exact ht9,by omega,?_,?_,by rw [List.length_map,hpl],?_,?_⟩
   ·rw [htl];unfold bstr;simpa [headB] using ht
   ·intro i x hx
    have:=r3 i x hx
    rw [Nat.zero_add] at this
    exact this
   ·have:=itoaB_digs pl.length (by omega)
    exact ⟨this.1,by rw [this.2,hpl]⟩
   ·intro i d hd
    rw [List.getElem?_map] at hd
    rcases hp:pl[i]? with _ | p
    ·rw [hp] at hd;cases hd
    ·rw [hp] at hd
     have ed:d=(itoaB p).data.toList:=by simpa using hd.symm
     rw [r2,hl5] at hp
     have hg:=plcs_get objs 5 i p hp
     have hdg:=itoaB_digs p (by omega)
     rw [ed]
     refine ⟨hdg.1,?_⟩
     rw [hdg.2,htl]
     unfold placeT
     rw [hsz,objsT_app,List.length_append]
     omega
   ·have hdg:=itoaB_digs o2.length (by omega)
    refine ⟨hdg.1,?_⟩
    rw [hdg.2,htl,hsz]
    omega
  ·rw [hq2] at h;cases h
 ·rw [hq] at h;cases h
end Go.Proofs.YtgffljllfenhkaaGreatDoor
end
section
namespace Go.Proofs.YtgffljllfenhkaaGreatDoor
open Go.RowKit
theorem num_any (w:World) (n:Int):Calls Tryz.prog 11 #[.int .i64 n] w fun e w'=>e=.returned (.int .i64 n)∧w=w':=by
 go_enter Tryz.func11,Tryz.ntmps11
 go_wp2
 go_ret
 exact ⟨rfl,rfl⟩
theorem Rinse_all {w:World} {T:Nat} (hA:AllT w T) (f:ByteArray) (hf:f.size < 9223372036854775808) (st ou:Int) :
  Calls Tryz.prog 12 #[.string f,.agg #[.int .i64 st,.int .i64 ou]] w fun e w'=>e=.returned (ansOf (rinseR unpackU ntB f st ou))∧Below w.heap.size w w':=Rinse_any w (rinse_all hA f hf st ou)
set_option maxHeartbeats 1000000 in
set_option maxRecDepth 100000 in
theorem alive_any {w:World} {T:Nat} (hA:AllT w T):Calls Tryz.prog 17 #[] w fun e w'=>e=.returned (.bool true)∧Below w.heap.size w w':=by
 obtain ⟨b1,e1⟩:=isOk_of least_ok
 obtain ⟨b2,e2⟩:=isOk_of evil_ok
 have R1:=Rinse_all hA ⟨#[68,79,67,49,10,49,32,60,60,47,84,121,112,101,47,82,111,111,116,62,62,59,10,120,114,101,102,32,49,10,53,10,114,111,111,116,32,49,10,97,116,32,50,51,10,101,110,100,10]⟩ (by decide) 100000000 9000
 have R2:=fun (W:World) (hW:Below w.heap.size w W)=>Rinse_all (hA.below hW) ⟨#[68,79,67,49,10,49,32,60,60,47,69,118,105,108,40,120,41,47,84,121,112,101,47,82,111,111,116,62,62,59,120,114,101,102,32,49,10,53,10,114,111,111,116,32,49,10,97,116,32,51,48,10,101,110,100,10]⟩ (by decide) 100000000 9000
 have e1':rinseR unpackU ntB ⟨#[68,79,67,49,10,49,32,60,60,47,84,121,112,101,47,82,111,111,116,62,62,59,10,120,114,101,102,32,49,10,53,10,114,111,111,116,32,49,10,97,116,32,50,51,10,101,110,100,10]⟩ 100000000 9000=.ok leastL b1:=e1
 have e2':rinseR unpackU ntB ⟨#[68,79,67,49,10,49,32,60,60,47,69,118,105,108,40,120,41,47,84,121,112,101,47,82,111,111,116,62,62,59,120,114,101,102,32,49,10,53,10,114,111,111,116,32,49,10,97,116,32,51,48,10,101,110,100,10]⟩ 100000000 9000=.ok leastL b2:=e2
 rw [e1'] at R1
 simp only [e2'] at R2
 have eb:∀ b:Nat,ansOf (.ok leastL b)=.tuple #[.string ⟨#[68,79,67,49,10,49,32,60,60,47,84,121,112,101,47,82,111,111,116,62,62,59,10,120,114,101,102,32,49,10,53,10,114,111,111,116,32,49,10,97,116,32,50,51,10,101,110,100,10]⟩,.int .i64 0,.int .i64 0]:=fun _=>rfl
 rw [eb] at R1
 simp only [eb] at R2
 clear e1 e2 e1' e2' eb
 go_enter Tryz.func17,Tryz.ntmps17
 go_wp2_with fail
 refine R1.mono ?_
 rintro e w1 ⟨rfl,hB1⟩
 have R2':=R2 w1 hB1
 clear R1 R2
 go_wp2_with fail
 refine R2'.mono ?_
 rintro e w2 ⟨rfl,hB2⟩
 have hB3:=hB1.trans (hB2.mono hB1.size)
 clear R2'
 go_wp2_with (first | (go_at_call 11;refine (num_any _ _).mono ?_;rintro e w3 ⟨rfl,rfl⟩))
 go_ret
 exact ⟨rfl,hB3⟩
set_option maxHeartbeats 1000000 in
theorem most_any {w:World} {T:Nat} (hA:AllT w T) (f:ByteArray) (hf:f.size < 9223372036854775808) :
  Calls Tryz.prog 18 #[.string f] w fun e w'=>e=.returned (ansOf (rinseR unpackU ntB f 100000000 9000))∧Below w.heap.size w w':=by
 have R1:=Rinse_all hA f hf 100000000 9000
 obtain ⟨s,e,p,hans⟩:∃ (s:ByteArray) (e p:Int),ansOf (rinseR unpackU ntB f 100000000 9000)=.tuple #[.string s,.int .i64 e,.int .i64 p]:=by
  cases rinseR unpackU ntB f 100000000 9000 with
  | ok t b=>exact ⟨_,_,_,rfl⟩
  | no y=>exact ⟨_,_,_,rfl⟩
 rw [hans] at R1 ⊢
 clear hans
 go_enter Tryz.func18,Tryz.ntmps18
 go_wp2_with fail
 refine R1.mono ?_
 rintro e w1 ⟨rfl,hB1⟩
 clear R1
 go_wp2_with (first | (go_at_call 11;refine (num_any _ _).mono ?_;rintro e w3 ⟨rfl,rfl⟩))
 first | refine bodyPost_ret (results_tmp3 rfl _ _ _) rfl ?_ | go_ret
 exact ⟨rfl,hB1⟩
end Go.Proofs.YtgffljllfenhkaaGreatDoor
end
section
namespace Go.Proofs.YtgffljllfenhkaaGreatDoor
open Go.ChangeShapes Go.WideShapes Go.ChangeAt Go.WideMaps Go.WideElems Go.RowKit
theorem Tryz.own:ownKnob Tryz.prog.godebug=none:=by kernel_rfl
theorem Tryz.cellsInt:Tryz.prog.cellsOf 3=1:=by kernel_rfl
theorem Tryz.arr19:Tryz.prog.underlying 163=some (.array 19 3):=by kernel_rfl
theorem Tryz.arr29:Tryz.prog.underlying 184=some (.array 29 3):=by kernel_rfl
theorem Tryz.arr30:Tryz.prog.underlying 185=some (.array 30 3):=by kernel_rfl
theorem Tryz.arr20:Tryz.prog.underlying 231=some (.array 20 211):=by kernel_rfl
theorem Tryz.undU:Tryz.prog.underlying 211=some (.int .u64):=by kernel_rfl
theorem Tryz.undF:Tryz.prog.underlying 116=some (.float .f64):=by kernel_rfl
theorem Tryz.undFs:Tryz.prog.underlying 329=some (.slice 116):=by kernel_rfl
def laidL:List (String×DataW Unit):=Rows.harmlessRow.laid
theorem tab_of {H:Type} {enc:TypeId×Value→H} {sp:Nat→Bool} {held:Bool} {base:Nat} {name:String} {n t G G' t' fuel:Nat} {T:List Nat} {W:World} {cs:Array Value} {d:DataW H} {p:List MemPlace} (ht:Tryz.prog.underlying t=some (.array n 3)) (hn:T.length≤n)
  (hG:Tryz.prog.globalNamed name=some G) (hty:(Tryz.prog.globals[G]?).map (·.type)=some t) (hg:Tryz.prog.globalNamed name=some G') (ht':(Tryz.prog.globals[G']?).map (·.type)=some t') (hv:W.var? Tryz.prog name=some cs)
  (hd:DataW.trod enc Tryz.prog W base sp held fuel t' cs.toList=some (d,p)) (hdT:d=.agg (T.map fun x:Nat=>.lit (.int .i64 (x:Int)))):Tab W G T:=by
 obtain rfl:=Option.some.inj (hG.symm.trans hg)
 obtain rfl:=Option.some.inj (hty.symm.trans ht')
 subst hdT
 obtain ⟨xs,m,rfl,hx,hlen,hxn,hel⟩:=DataW.trod_array ht hd
 intro i hi
 have h1:=hel i (by omega)
 rw [Tryz.cellsInt,Nat.mul_one] at h1
 rw [List.getElem?_eq_getElem (show i < xs.length by omega)] at h1
 obtain ⟨k,hk1,hk2,_⟩:=DataW.trod_int Tryz.underlying3 h1
 simp only [Prod.mk.injEq,DataW.agg.injEq] at hx
 have h2:(T.map fun x:Nat=>DataW.lit (H:=H) (.int .i64 (x:Int)))[i]?=(xs.map (·.1))[i]?:=by rw [hx.1]
 rw [List.getElem?_map,List.getElem?_map,List.getElem?_eq_getElem hi,List.getElem?_eq_getElem (show i < xs.length by omega),hk2] at h2
 simp at h2
 have h3:cs.toList[i]?=some (.int .i64 k):=by
  have:((cs.toList.drop i).take 1)[0]?=some (.int .i64 k):=by rw [hk1];rfl
  rw [List.getElem?_take,if_pos (by omega),List.getElem?_drop] at this
  exact this
 rw [World.var?_cell hG hv i,← Array.getElem?_toList,h3,← h2]
 unfold nth
 rw [List.getD_eq_getElem?_getD,List.getElem?_eq_getElem hi];rfl
theorem var_lt {W:World} {name:String} {G:Nat} {cs:Array Value} (hG:Tryz.prog.globalNamed name=some G) (hv:W.var? Tryz.prog name=some cs):G < W.heap.size:=by
 simp only [World.var?,hG,Option.bind_some] at hv
 refine Nat.lt_of_not_le fun h=>?_
 rw [Array.getElem?_eq_none h] at hv
 cases hv
theorem trod_float {H:Type} {enc:TypeId×Value→H} {P:Program} {w:World} {base:Nat} {spare:Nat→Bool} {held:Bool} {fuel:Nat} {t:TypeId} {cs:List Value} {x:DataW H×List MemPlace} {k:FloatKind} (ht:P.underlying t=some (.float k)) (h:DataW.trod enc P w base spare held fuel t cs=some x):∃ b,cs=[.float k b]∧x=(.lit (.float k b),[]):=by
 cases fuel with
 | zero=>simp [DataW.trod] at h
 | succ n=>
  unfold DataW.trod at h
  rw [ht] at h
  split at h <;> simp_all
def structF (P:Program) (t:TypeId):List (TypeId×Nat):=match P.underlying t with
 | some (.struct fs)=>fs.toList.map fun f=>(f.type,f.offset)
 | _=>[]
theorem structF_get {P:Program} {t:TypeId} {l:List (TypeId×Nat)} (h:structF P t=l) (hl:l≠[]):∃ fs:Array Field,P.underlying t=some (.struct fs)∧fs.toList.map (fun f=>(f.type,f.offset))=l:=by
 unfold structF at h
 split at h
 ·rename_i fs hf
  exact ⟨fs,hf,h⟩
 ·exact absurd h.symm hl
theorem field_at {fs:Array Field} {l:List (TypeId×Nat)} (h:fs.toList.map (fun f=>(f.type,f.offset))=l) {i:Nat} {a:TypeId×Nat} (hi:l[i]?=some a):∃ f,fs[i]?=some f∧f.type=a.1∧f.offset=a.2:=by
 rw [← h,List.getElem?_map,Array.getElem?_toList] at hi
 rcases hf:fs[i]? with _ | f
 ·rw [hf] at hi;cases hi
 ·rw [hf] at hi
  have:(f.type,f.offset)=a:=by simpa using hi
  exact ⟨f,rfl,by rw [← this],by rw [← this]⟩
theorem Tryz.hiLo:structF Tryz.prog 294=[(211,0),(211,1)]:=by kernel_rfl
theorem Tryz.arr696:Tryz.prog.underlying 295=some (.array 696 294):=by kernel_rfl
theorem Tryz.cellsHL:Tryz.prog.cellsOf 294=2:=by kernel_rfl
theorem Tryz.cellsU:Tryz.prog.cellsOf 211=1:=by kernel_rfl
theorem pow_rows:((List.range 10).all fun j=>Go.Pinned.pow10Rows[j+10+348]? == some (10 ^ (j+10) * 2 ^ (63 - lpf (j+10)),0))=true:=by decide +kernel
theorem one_cell {l:List Value} {i:Nat} {v:Value} (h:(l.drop i).take 1=[v]):l[i]?=some v:=by
 have:((l.drop i).take 1)[0]?=some v:=by rw [h];rfl
 rw [List.getElem?_take,if_pos (by omega),List.getElem?_drop] at this
 exact this
theorem pow_of {sp:Nat→Bool} {held:Bool} {base:Nat} {G' t' fuel:Nat} {W:World} {cs:Array Value} {p:List MemPlace}
  (hg : Tryz.prog.globalNamed "internal/strconv.pow10Tab" = some G') (ht' : (Tryz.prog.globals[G']?).map (·.type) = some t') (hv : W.var? Tryz.prog "internal/strconv.pow10Tab" = some cs)
  (hd:DataW.trod (fun _=>()) Tryz.prog W base sp held fuel t' cs.toList=some (Go.Pinned.pow10Tab,p)):PowTab W:=by
 have hG : Tryz.prog.globalNamed "internal/strconv.pow10Tab" = some 16 := by kernel_rfl
 have hty:(Tryz.prog.globals[16]?).map (·.type)=some 295:=by kernel_rfl
 obtain rfl:=Option.some.inj (hG.symm.trans hg)
 obtain rfl:=Option.some.inj (hty.symm.trans ht')
 obtain ⟨xs,m,rfl,hx,hlen,hxn,hel⟩:=DataW.trod_array Tryz.arr696 hd
 obtain ⟨fs,hfs,hfl⟩:=structF_get Tryz.hiLo (by simp)
 intro q hq1 hq2
 have h1:=hel (q+348) (by omega)
 rw [Tryz.cellsHL,List.getElem?_eq_getElem (show q+348 < xs.length by omega)] at h1
 obtain ⟨ys,m2,rfl,hy,_,hyn,hyl⟩:=DataW.trod_struct hfs h1
 have hrow:=List.all_eq_true.1 pow_rows (q - 10) (by simp;omega)
 rw [show q - 10+10=q by omega] at hrow
 have hrow':Go.Pinned.pow10Rows[q+348]?=some (10 ^ q * 2 ^ (63 - lpf q),0):=by simpa using hrow
 have hdat:(xs[q+348]'(by omega)).1=.agg [.lit (.int .u64 ((10 ^ q * 2 ^ (63 - lpf q):Nat):Int)),.lit (.int .u64 0)]:=by
  have h2:=congrArg Prod.fst hx
  have h3:Go.Pinned.pow10Tab=.agg (xs.map (·.1)):=h2
  unfold Go.Pinned.pow10Tab at h3
  have h4:(Go.Pinned.pow10Rows.map fun x=>(DataW.agg [.lit (.int .u64 (x.1:Int)),.lit (.int .u64 (x.2:Int))]:DataW Unit))=xs.map (·.1):=by injection h3
  have h5:=congrArg (fun l=>l[q+348]?) h4
  simp only [List.getElem?_map,hrow',List.getElem?_eq_getElem (show q+348 < xs.length by omega),Option.map_some,Option.some.injEq] at h5
  rw [← h5];rfl
 obtain ⟨f0,hf0,ht0,hof0⟩:=field_at hfl (i:=0) rfl
 obtain ⟨f1,hf1,ht1,hof1⟩:=field_at hfl (i:=1) rfl
 have g0:=hyl 0 f0 hf0
 have g1:=hyl 1 f1 hf1
 rw [ht0,hof0,Tryz.cellsU] at g0
 rw [ht1,hof1,Tryz.cellsU] at g1
 have hfs2:fs.size=2:=by have:=congrArg List.length hfl;simpa using this
 rw [List.getElem?_eq_getElem (show 0 < ys.length by omega)] at g0
 rw [List.getElem?_eq_getElem (show 1 < ys.length by omega)] at g1
 obtain ⟨n0,e0,x0,_⟩:=DataW.trod_int Tryz.undU g0
 obtain ⟨n1,e1,x1,_⟩:=DataW.trod_int Tryz.undU g1
 have hyy:(xs[q+348]'(by omega)).1=.agg (ys.map (·.1)):=by rw [hy]
 rw [hdat] at hyy
 have hya:[DataW.lit (H:=Unit) (.int .u64 ((10 ^ q * 2 ^ (63 - lpf q):Nat):Int)),.lit (.int .u64 0)]=ys.map (·.1):=by injection hyy
 have z0:=congrArg (fun l=>l[0]?) hya
 have z1:=congrArg (fun l=>l[1]?) hya
 simp only [List.getElem?_map,List.getElem?_eq_getElem (show 0 < ys.length by omega),x0] at z0
 simp only [List.getElem?_map,List.getElem?_eq_getElem (show 1 < ys.length by omega),x1] at z1
 have z0':DataW.lit (H:=Unit) (.int .u64 ((10 ^ q * 2 ^ (63 - lpf q):Nat):Int))=.lit (.int .u64 n0):=Option.some.inj z0
 have z1':DataW.lit (H:=Unit) (.int .u64 0)=.lit (.int .u64 n1):=Option.some.inj z1
 injection z0' with z0''
 injection z0'' with _ z0a
 injection z1' with z1''
 injection z1'' with _ z1a
 have k0:cs.toList[(q+348) * 2]?=some (.int .u64 n0):=by
  have h0:((cs.toList.drop ((q+348) * 2)).take 2)[0]?=some (.int .u64 n0):=one_cell e0
  rw [List.getElem?_take,if_pos (by omega),List.getElem?_drop,Nat.add_zero] at h0
  exact h0
 have k1:cs.toList[(q+348) * 2+1]?=some (.int .u64 n1):=by
  have h0:((cs.toList.drop ((q+348) * 2)).take 2)[1]?=some (.int .u64 n1):=one_cell e1
  rw [List.getElem?_take,if_pos (by omega),List.getElem?_drop] at h0
  exact h0
 rw [Array.getElem?_toList,← z0a] at k0
 rw [Array.getElem?_toList,← z1a] at k1
 exact ⟨(World.var?_cell hG hv _).trans k0,(World.var?_cell hG hv _).trans k1⟩
end Go.Proofs.YtgffljllfenhkaaGreatDoor
end
section
namespace Go.Proofs.YtgffljllfenhkaaGreatDoor
open Go.ChangeShapes Go.WideShapes Go.ChangeAt Go.WideMaps Go.WideElems Go.RowKit
theorem Tryz.finfo:structF Tryz.prog 313=[(183,0),(183,1),(3,2)]:=by kernel_rfl
theorem Tryz.undUi:Tryz.prog.underlying 183=some (.int .u64):=by kernel_rfl
theorem Tryz.cellsUi:Tryz.prog.cellsOf 183=1:=by kernel_rfl
theorem addr_zero (x:Addr):x.add 0=x:=by unfold Addr.add;exact if_pos rfl
theorem Tryz.cellsF:Tryz.prog.cellsOf 116=1:=by kernel_rfl
theorem Tryz.undBo:Tryz.prog.underlying 4=some .bool:=by kernel_rfl
theorem opt_of {sp:Nat→Bool} {held:Bool} {base:Nat} {G' t' fuel:Nat} {W:World} {cs:Array Value} {p:List MemPlace}
  (hg : Tryz.prog.globalNamed "internal/strconv.optimize" = some G') (ht' : (Tryz.prog.globals[G']?).map (·.type) = some t') (hv : W.var? Tryz.prog "internal/strconv.optimize" = some cs)
  (hd:DataW.trod (fun _=>()) Tryz.prog W base sp held fuel t' cs.toList=some (.lit (.bool true),p)):W.cell? ⟨11,0,none⟩=some (.bool true):=by
 have hG : Tryz.prog.globalNamed "internal/strconv.optimize" = some 11 := by kernel_rfl
 have hty:(Tryz.prog.globals[11]?).map (·.type)=some 4:=by kernel_rfl
 obtain rfl:=Option.some.inj (hG.symm.trans hg)
 obtain rfl:=Option.some.inj (hty.symm.trans ht')
 obtain ⟨b,hc,hx⟩:=DataW.trod_bool Tryz.undBo hd
 have:b=true:=by simpa using (congrArg Prod.fst hx).symm
 rw [World.var?_cell hG hv 0,← Array.getElem?_toList,hc,this];rfl
theorem info_of {sp:Nat→Bool} {held:Bool} {base:Nat} {G' t' fuel:Nat} {W:World} {cs:Array Value} {p:List MemPlace}
  (hg : Tryz.prog.globalNamed "internal/strconv.float64info" = some G') (ht' : (Tryz.prog.globals[G']?).map (·.type) = some t') (hv : W.var? Tryz.prog "internal/strconv.float64info" = some cs)
  (hd:DataW.trod (fun _=>()) Tryz.prog W base sp held fuel t' cs.toList=some (Rows.laid_internal_strconv_float64info,p)):W.cell? ⟨19,0,none⟩=some (.int .u64 52):=by
 have hG : Tryz.prog.globalNamed "internal/strconv.float64info" = some 19 := by kernel_rfl
 have hty:(Tryz.prog.globals[19]?).map (·.type)=some 313:=by kernel_rfl
 obtain rfl:=Option.some.inj (hG.symm.trans hg)
 obtain rfl:=Option.some.inj (hty.symm.trans ht')
 obtain ⟨fs,hfs,hfl⟩:=structF_get Tryz.finfo (by simp)
 obtain ⟨ys,m2,rfl,hy,_,hyn,hyl⟩:=DataW.trod_struct hfs hd
 obtain ⟨f0,hf0,ht0,hof0⟩:=field_at hfl (i:=0) rfl
 have g0:=hyl 0 f0 hf0
 rw [ht0,hof0,Tryz.cellsUi] at g0
 have hfs2:fs.size=3:=by have:=congrArg List.length hfl;simpa using this
 rw [List.getElem?_eq_getElem (show 0 < ys.length by omega)] at g0
 obtain ⟨n0,e0,x0,_⟩:=DataW.trod_int Tryz.undUi g0
 have hyy:Rows.laid_internal_strconv_float64info=.agg (ys.map (·.1)):=congrArg Prod.fst hy
 unfold Rows.laid_internal_strconv_float64info at hyy
 have hya:[DataW.lit (H:=Unit) (.int .u64 52),.lit (.int .u64 11),.lit (.int .i64 (-1023))]=ys.map (·.1):=by injection hyy
 have z0:=congrArg (fun l=>l[0]?) hya
 simp only [List.getElem?_map,List.getElem?_eq_getElem (show 0 < ys.length by omega),x0] at z0
 have z0':DataW.lit (H:=Unit) (.int .u64 52)=.lit (.int .u64 n0):=Option.some.inj z0
 have z0a:(52:Int)=n0:=by simpa using z0'
 have k0:=one_cell e0
 rw [Array.getElem?_toList,← z0a] at k0
 exact (World.var?_cell hG hv _).trans k0
theorem float_of {held:Bool} {G' t' fuel:Nat} {W:World} {cs:Array Value} {p:List MemPlace} {sp:Nat→Bool}
  (hg : Tryz.prog.globalNamed "internal/strconv.float64pow10" = some G') (ht' : (Tryz.prog.globals[G']?).map (·.type) = some t') (hv : W.var? Tryz.prog "internal/strconv.float64pow10" = some cs)
  (hd:DataW.trod (fun _=>()) Tryz.prog W 0 sp held fuel t' cs.toList=some (Rows.laid_internal_strconv_float64pow10,p)) :
  ∃ (a:Addr) (cap:Nat),W.cell? ⟨22,0,none⟩=some (.slice (some a) 23 cap)∧∀ k,1≤k→k≤3→W.cell? (a.add k)=some (.float .f64 (pw k)):=by
 have hG : Tryz.prog.globalNamed "internal/strconv.float64pow10" = some 22 := by kernel_rfl
 have hty:(Tryz.prog.globals[22]?).map (·.type)=some 329:=by kernel_rfl
 obtain rfl:=Option.some.inj (hG.symm.trans hg)
 obtain rfl:=Option.some.inj (hty.symm.trans ht')
 rcases DataW.trod_slice Tryz.undFs hd with ⟨_,hx⟩ | ⟨a,len,cap,elems,rest,n,rfl,hc,hx,_,_,_,hel,hcell,_⟩
 ·have:=congrArg Prod.fst hx
  unfold Rows.laid_internal_strconv_float64pow10 at this
  cases this
 ·have h1:=congrArg Prod.fst hx
  unfold Rows.laid_internal_strconv_float64pow10 at h1
  simp only [] at h1
  injection h1 with h2 h3
  have hl:elems.length=23:=by have:=congrArg List.length h2;simpa using this.symm
  have hlen:len=23:=by omega
  subst hlen
  refine ⟨a,cap,?_,fun k k1 k3=>?_⟩
  ·rw [World.var?_cell hG hv 0,← Array.getElem?_toList,hc];rfl
  ·have hk:=hcell k (by omega)
   rw [Tryz.cellsF,Nat.mul_one,List.getElem?_eq_getElem (show k < elems.length by omega)] at hk
   rcases hq:W.cells? 0 (a.add k) 1 with _ | vs
   ·rw [hq] at hk;cases hk
   ·rw [hq] at hk
    simp only [Option.bind_some] at hk
    obtain ⟨b,e,hb⟩:=trod_float Tryz.undF hk
    have h5:=congrArg (fun l=>l[k]?) h2
    simp only [List.getElem?_map,List.getElem?_eq_getElem (show k < elems.length by omega),hb] at h5
    have hv1:W.cell? (a.add k)=some (.float .f64 b):=by
     unfold World.cells? at hq
     rw [if_pos (Nat.zero_le _)] at hq
     have he:vs=[.float .f64 b]:=e
     rw [he] at hq
     have ha0:=addr_zero (a.add k)
     have hr:List.range 1=[0]:=rfl
     rw [hr,List.mapM_cons,ha0] at hq
     rcases hz:W.cell? (a.add k) with _ | z
     ·rw [hz] at hq;cases hq
     ·rw [hz] at hq
      have:z=.float .f64 b:=by simpa using hq
      rw [this]
    rw [hv1]
    match k,k1,k3,h5 with
    | 1,_,_,h5=>simp at h5;rw [← h5];rfl
    | 2,_,_,h5=>simp at h5;rw [← h5];rfl
    | 3,_,_,h5=>simp at h5;rw [← h5];rfl
set_option maxRecDepth 100000 in
theorem of_laid {W:World} (h:laidMetH Tryz.prog laidL W):∃ T,AllT W T:=by
 rw [MakeChecks.laidMetH_plain _ _ _ (by kernel_rfl)] at h
 obtain ⟨ps,h,_,_⟩:=h
 obtain ⟨g0,t0,c0,f0,p0,q0,hg0,ht0,hv0,hd0,h,_⟩:=h
 obtain ⟨g1,t1,c1,f1,p1,q1,hg1,ht1,hv1,hd1,h,_⟩:=h
 obtain ⟨g2,t2,c2,f2,p2,q2,hg2,ht2,hv2,hd2,h,_⟩:=h
 obtain ⟨g3,t3,c3,f3,p3,q3,hg3,ht3,hv3,hd3,h,_⟩:=h
 obtain ⟨g4,t4,c4,f4,p4,q4,hg4,ht4,hv4,hd4,h,_⟩:=h
 obtain ⟨g5,t5,c5,f5,p5,q5,hg5,ht5,hv5,hd5,h,_⟩:=h
 obtain ⟨g6,t6,c6,f6,p6,q6,hg6,ht6,hv6,hd6,h,_⟩:=h
 obtain ⟨g7,t7,c7,f7,p7,q7,hg7,ht7,hv7,hd7,h,_⟩:=h
 obtain ⟨g8,t8,c8,f8,p8,q8,hg8,ht8,hv8,hd8,h,_⟩:=h
 obtain ⟨g9,t9,c9,f9,p9,q9,hg9,ht9,hv9,hd9,h,_⟩:=h
 obtain ⟨g10,t10,c10,f10,p10,q10,hg10,ht10,hv10,hd10,h,_⟩:=h
 obtain ⟨g11,t11,c11,f11,p11,q11,hg11,ht11,hv11,hd11,h,_⟩:=h
 obtain ⟨g12,t12,c12,f12,p12,q12,hg12,ht12,hv12,hd12,h,_⟩:=h
 obtain ⟨g13,t13,c13,f13,p13,q13,hg13,ht13,hv13,hd13,h,_⟩:=h
 obtain ⟨g14,t14,c14,f14,p14,q14,hg14,ht14,hv14,hd14,h,_⟩:=h
 obtain ⟨g15,t15,c15,f15,p15,q15,hg15,ht15,hv15,hd15,h,_⟩:=h
 obtain ⟨g16,t16,c16,f16,p16,q16,hg16,ht16,hv16,hd16,h,_⟩:=h
 obtain ⟨g17,t17,c17,f17,p17,q17,hg17,ht17,hv17,hd17,h,_⟩:=h
 have k11:Tab W 10 orderT:=tab_of Tryz.arr19 (by decide) (by kernel_rfl) (by kernel_rfl) hg11 ht11 hv11 hd11 rfl
 have k12:Tab W 6 baseT:=tab_of Tryz.arr29 (by decide) (by kernel_rfl) (by kernel_rfl) hg12 ht12 hv12 hd12 rfl
 have k13:Tab W 7 extraT:=tab_of Tryz.arr29 (by decide) (by kernel_rfl) (by kernel_rfl) hg13 ht13 hv13 hd13 rfl
 have k14:Tab W 8 farT:=tab_of Tryz.arr30 (by decide) (by kernel_rfl) (by kernel_rfl) hg14 ht14 hv14 hd14 rfl
 have k15:Tab W 9 moreT:=tab_of Tryz.arr30 (by decide) (by kernel_rfl) (by kernel_rfl) hg15 ht15 hv15 hd15 rfl
 have k17:=pow_of hg17 ht17 hv17 hd17
 have k4:=opt_of hg4 ht4 hv4 hd4
 have k3:=info_of hg3 ht3 hv3 hd3
 obtain ⟨a,cap,ha,hp⟩:=float_of hg6 ht6 hv6 hd6
 have k8 : Lib.TabIs Tryz.prog W "internal/strconv.uint64pow10" .u64 Lib.pow10Tab := by
  have hG : Tryz.prog.globalNamed "internal/strconv.uint64pow10" = some 5 := by kernel_rfl
  have hty:(Tryz.prog.globals[5]?).map (·.type)=some 231:=by kernel_rfl
  obtain rfl:=Option.some.inj (hG.symm.trans hg8)
  obtain rfl:=Option.some.inj (hty.symm.trans ht8)
  unfold Lib.TabIs
  rw [hv8,← Lib.cells_of_tab (zs:=Lib.pow10Tab) Tryz.arr20 Tryz.undU Tryz.cellsU (by kernel_rfl) (show DataW.trod _ _ _ _ _ _ _ _ _=some (Lib.tabData .u64 Lib.pow10Tab,p8) from hd8)]
 exact ⟨a.block,⟨k12,k13,k14,k15,k11⟩,k8,k17,⟨k4,k3,a,cap,rfl,ha,hp⟩,var_lt (G:=22) (by kernel_rfl) hv6⟩
end Go.Proofs.YtgffljllfenhkaaGreatDoor
end
section
namespace Go.Proofs.YtgffljllfenhkaaGreatDoor
open Go.ChangeShapes Go.WideShapes Go.ChangeAt Go.WideMaps Go.WideElems Go.RowKit
open Go.ChangeMaps (open_string shut_string)
theorem post_new {H:Type} {enc:TypeId×Value→H} {P:Program} {f:Func} {s:ChangeSpec} {apart fresh handsOn again:Bool} {W W':World} {args:Array Value} {v:Value} {ds gs:List (DataW H)}
  (hW:DataW.Whole enc P f.params.toList s.vars apart W args.toList ds gs [])
  (hres:∀ (b:Nat) (sp:Nat→Bool) (hd:Bool),DataW.TrodAll enc P W' b sp hd f.resultTypes.toList (v.resultList f.resultTypes.size) (s.fn H (ds++gs)).results [])
  (hargs:∀ sp:Nat→Bool,DataW.TrodAll enc P W' 0 sp true f.params.toList args.toList (s.fn H (ds++gs)).args [])
  (hvars:∀ sp:Nat→Bool,DataW.TrodVars enc P W' sp s.vars (s.fn H (ds++gs)).vars [])
  (hk:Below W.heap.size W W')
  (hok:∀ (j:Nat) (t:TypeId) (r:Value),f.resultTypes[j]?=some t→(v.resultList f.resultTypes.size)[j]?=some r→Value.okWide P W' .any 0 t r) :
  s.post enc P f apart fresh handsOn again W args v W':=by
 refine ⟨ds,gs,[],[],[],[],hW,hres _ _ _,hargs _,hvars _,hk.frame _,fun _=>?_⟩
 refine ⟨hok,_,_,([]++[])++[],⟨[]++[],[],trodAll_append (hargs _) (hres _ _ _),hvars _,rfl,?_,?_⟩,?_⟩
 ·intro b off hp
  simp at hp
 ·intro _
  simp
 ·intro p hp _
  simp at hp
set_option maxRecDepth 100000 in
theorem laid_met (os:Os) (args:Array Value):laidMetH Tryz.prog laidL ((World.laidAll Tryz.prog os laidL).forCall (fun _ _=>0) ⟨#[],args,[]⟩).memory:=by
 rw [MakeChecks.laidMetH_plain _ _ _ (by kernel_rfl)]
 exact laidMet_laidAll _ (by kernel_rfl) (by kernel_rfl)
end Go.Proofs.YtgffljllfenhkaaGreatDoor
end
