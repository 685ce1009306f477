import Derived.Test.YtgffljllfenhkaaGreatDoorHway
section
namespace Go.Proofs.YtgffljllfenhkaaGreatDoor
open Go.RowKit
variable {w w':World} {X:Nat} {s:ByteArray}
structure Rest (w:World) (X:Nat) (s:ByteArray) (l:List UInt8):Prop where
 suf:∃ pre,s.data.toList=pre++l
 ey:Ey w X s (s.size - l.length)
theorem len_data (s:ByteArray):s.data.toList.length=s.size:=Array.length_toList
theorem Rest.pos {l:List UInt8} (h:Rest w X s l):l.length≤s.size:=by
 obtain ⟨pre,e⟩:=h.suf
 rw [← len_data,e,List.length_append];omega
theorem Rest.has {l:List UInt8} (h:Rest w X s l):Has s (s.size - l.length) l:=by
 obtain ⟨pre,e⟩:=h.suf
 intro i c hi
 have hp:pre.length=s.size - l.length:=by rw [← len_data,e,List.length_append];omega
 rw [← Array.getElem?_toList,e,← hp,List.getElem?_append_right (by omega),Nat.add_sub_cancel_left]
 exact hi
theorem Rest.next {a l:List UInt8} {p:Nat} (h:Rest w X s (a++l)) (h':Ey w' X s p) (hp:p=s.size - (a++l).length+a.length):Rest w' X s l:=by
 have h1:=h.pos
 rw [List.length_append] at h1 hp
 obtain ⟨pre,e⟩:=h.suf
 refine ⟨⟨pre++a,by rw [e,List.append_assoc]⟩,?_⟩
 rw [show s.size - l.length=p by omega]
 exact h'
theorem Rest.keep {l:List UInt8} (h:Rest w X s l) (h':Ey w' X s (s.size - l.length)):Rest w' X s l:=⟨h.suf,h'⟩
theorem Rest.ext {t:ByteArray} {l:List UInt8} (h:Rest w X s (t.data.toList++l)):s.size - (t.data.toList++l).length+t.size≤s.size∧s.extract (s.size - (t.data.toList++l).length) (s.size - (t.data.toList++l).length+t.size)=t:=by
 have h1:=h.pos
 rw [List.length_append,len_data] at h1
 have h2:s.size - (t.data.toList++l).length+t.size≤s.size:=by rw [List.length_append,len_data];omega
 exact ⟨h2,Has.ext h.has.app.1 h2⟩
theorem is_r (t:ByteArray) {l:List UInt8} (h:Rest w X s (t.data.toList++l)) :
  Calls Tryz.prog 27 #[.pointer (some ⟨X,0,none⟩),.string t] w fun e w'=>e=.returned (.bool true)∧Rest w' X s l∧Fb X w w':=
 (is_yes h.ey h.ext.1 h.ext.2).mono (fun _ _ ⟨a,b,c⟩=>⟨a,h.next b (by rw [len_data]),c⟩)
theorem need_r (t:ByteArray) {l:List UInt8} (h:Rest w X s (t.data.toList++l)) :
  Calls Tryz.prog 26 #[.pointer (some ⟨X,0,none⟩),.string t] w fun e w'=>e=.returned (.tuple #[])∧Rest w' X s l∧Fb X w w':=
 (need_yes h.ey h.ext.1 h.ext.2).mono (fun _ _ ⟨a,b,c⟩=>⟨a,h.next b (by rw [len_data]),c⟩)
theorem is_n (t:ByteArray) (j:Nat) (c d:UInt8) {l:List UInt8} (h:Rest w X s l) (ht:t.size≤9000) (hc:l[j]?=some c) (hd:t.data[j]?=some d) (hcd:c≠d) :
  Calls Tryz.prog 27 #[.pointer (some ⟨X,0,none⟩),.string t] w fun e w'=>e=.returned (.bool false)∧Rest w' X s l∧Fb X w w':=
 (is_no h.ey ht (fun _=>Has.not j c d (h.has j c hc) hd hcd)).mono (fun _ _ ⟨a,b,c⟩=>⟨a,h.keep b,c⟩)
theorem number_r (ds:List UInt8) (c:UInt8) {l:List UInt8} (h:Rest w X s (ds++c::l)) (hd:∀ c ∈ ds,isDig c=true) (h1:ds≠[]) (h6:ds.length≤6) (hc:isDig c=false) :
  Calls Tryz.prog 29 #[.pointer (some ⟨X,0,none⟩)] w fun e w'=>e=.returned (.int .i64 ((digV ds 0:Nat):Int))∧Rest w' X s (c::l)∧Fb X w w':=
 (number_yes h.ey ds hd h1 h6 h.has.app.1 (.inr (.inr ⟨c,h.has.app.2 0 c rfl,hc⟩))).mono (fun _ _ ⟨a,b,c⟩=>⟨a,h.next b rfl,c⟩)
theorem text_r (t:List UInt8) {l:List UInt8} (h:Rest w X s (t++41::l)) (ht:textOk t=true) :
  Calls Tryz.prog 78 #[.pointer (some ⟨X,0,none⟩)] w fun e w'=>e=.returned (.tuple #[])∧Rest w' X s l∧Fb X w w':=by
 have h':Rest w X s ((t++[41])++l):=by
  have e:(t++[41])++l=t++41::l:=by simp
  rw [e];exact h
 refine (text_yes h'.ey t ht h'.has.app.1).mono ?_
 rintro e w1 ⟨a,b,c⟩
 exact ⟨a,h'.next b (by simp only [List.length_append,List.length_cons,List.length_nil];omega),c⟩
end Go.Proofs.YtgffljllfenhkaaGreatDoor
end
section
namespace Go.Proofs.YtgffljllfenhkaaGreatDoor
open Go.RowKit
attribute [local go_sem] Oper.semAt_some
variable {w w':World} {X:Nat} {s:ByteArray}
def digsOk (l:List UInt8):Prop:=(∀ c ∈ l,isDig c=true)∧l≠[]∧l.length≤6
structure NumT where
 neg:Bool
 ds:List UInt8
 fr:Option (List UInt8)
def NumT.ok (e:NumT):Prop:=digsOk e.ds∧∀ fs,e.fr=some fs→digsOk fs
def NumT.b (e:NumT):List UInt8:=(if e.neg then [45] else [])++(e.ds++match e.fr with
 | none=>[]
 | some fs=>46::fs)
def elB (a:Bool) (e:NumT):List UInt8:=if a then 64::e.ds else e.b
def tailT (a:Bool):Bool→List NumT→List UInt8
 | _,[]=>[]
 | f,e::es=>(if f then [] else [32])++(elB a e++tailT a false es)
theorem digsOk.cons {l:List UInt8} (h:digsOk l):∃ c l',l=c::l'∧isDig c=true:=by
 obtain ⟨h1,h2,_⟩:=h
 cases l with
 | nil=>exact absurd rfl h2
 | cons c l'=>exact ⟨c,l',rfl,h1 c (by simp)⟩
theorem isDig_ne {c d:UInt8} (h:isDig c=true) (hd:isDig d=false):c≠d:=fun e=>by rw [e,hd] at h;cases h
theorem tail_head (a:Bool) (es:List NumT) (l:List UInt8):∃ c l',tailT a false es++93::l=c::l'∧(c=32∨c=93):=by
 cases es with
 | nil=>exact ⟨93,l,rfl,.inr rfl⟩
 | cons e es=>exact ⟨32,_,rfl,.inl rfl⟩
theorem sepDig {c:UInt8} (h:c=32∨c=93):isDig c=false:=by rcases h with rfl | rfl <;> decide
set_option maxHeartbeats 4000000 in
set_option maxRecDepth 100000 in
theorem row_r (a:Bool) (es:List NumT) (he:∀ e ∈ es,e.ok) (hl:es.length≤9000) {l:List UInt8} (h:Rest w X s (tailT a true es++93::l)) :
  Calls Tryz.prog 77 #[.pointer (some ⟨X,0,none⟩),.bool a] w fun e w'=>e=.returned (.int .i64 ((es.length:Nat):Int))∧Rest w' X s l∧Fb X w w':=by
 go_enter Tryz.func77,Tryz.ntmps77
 go_wp2_with fail
 go_loopw [5] (fun nv wr=>∃ (k:Nat) (es':List NumT),nv=.int .i64 ((k:Nat):Int)∧k+es'.length=es.length∧(∀ e ∈ es',e.ok)∧Rest wr X s (tailT a (decide (k=0)) es'++93::l)∧Fb X w wr)
  (fun nv _=>es.length - (intOf nv).toNat)
 case atStart=>exact ⟨0,es,rfl,Nat.zero_add _,he,h,Fb.refl _ _⟩
 case round=>
  obtain ⟨k,es',rfl,hk,hok,hr,hF⟩:=hrel
  have c2:=hr.ey.c2
  cases es' with
  | nil=>
   have hI:=is_r ⟨#[93]⟩ (l:=l) hr
   go_wp2_with fail
   refine hI.mono ?_
   rintro e w1 ⟨rfl,h1,F1⟩
   go_wp2_with fail
   go_ret
   exact ⟨by rw [show k=es.length by simpa using hk];rfl,h1,hF.trans F1⟩
  | cons e es'=>
   have heo:=hok e (by simp)
   have hok':∀ e ∈ es',e.ok:=fun u hu=>hok u (by simp [hu])
   have hk':k+1+es'.length=es.length:=by rw [List.length_cons] at hk;omega
   obtain ⟨c0,l0,hc0,hd0⟩:=heo.1.cons
   obtain ⟨cT,lT,hcT,hsT⟩:=tail_head a es' l
   have hdT:=sepDig hsT
   by_cases hk0:k=0
   ·subst hk0
    have hr':Rest wr X s (elB a e++(tailT a false es'++93::l)):=by simpa [tailT,List.append_assoc] using hr
    obtain ⟨cE,lE,hcE,hE93⟩:∃ c l',elB a e=c::l'∧c≠93:=by
     cases a with
     | true=>exact ⟨64,_,rfl,by decide⟩
     | false=>
      unfold elB NumT.b
      rcases e.neg with _ | _
      ·exact ⟨c0,_,by simp [hc0];rfl,isDig_ne hd0 (by decide)⟩
      ·exact ⟨45,_,by simp;rfl,by decide⟩
    have hI:=is_n ⟨#[93]⟩ 0 cE 93 hr' (by decide) (by rw [hcE];rfl) rfl hE93
    go_wp2_with fail
    refine hI.mono ?_
    rintro _ w1 ⟨rfl,h1,F1⟩
    cases a with
    | true=>
     have he1:elB true e=(⟨#[64]⟩:ByteArray).data.toList++e.ds:=rfl
     rw [he1,List.append_assoc,hcT] at h1
     go_wp2_with fail
     refine (need_r ⟨#[64]⟩ h1).mono ?_
     rintro _ w2 ⟨rfl,h2,F2⟩
     go_wp2_with fail
     refine (number_r e.ds cT h2 heo.1.1 heo.1.2.1 heo.1.2.2 hdT).mono ?_
     rintro _ w3 ⟨rfl,h3,F3⟩
     rw [← hcT] at h3
     go_wp2_with fail
     go_roundw
     case rel=>exact ⟨0+1,es',by go_num,hk',hok',by rw [show decide (0+1=0)=false by simp];exact h3,(hF.trans F1).trans (F2.trans F3)⟩
     case measure=>simp [intOf];omega
    | false=>
     have he1:elB false e=e.b:=rfl
     rw [he1] at h1
     unfold NumT.b at h1
     rcases hng:e.neg with _ | _
     ·rw [hng] at h1
      have hq:Rest w1 X s ((e.ds++match e.fr with | none=>[] | some fs=>46::fs)++(tailT false false es'++93::l)):=by simpa using h1
      go_wp2_with fail
      refine (is_n ⟨#[45]⟩ 0 c0 45 hq (by decide) (by rw [hc0];rfl) rfl (isDig_ne hd0 (by decide))).mono ?_
      rintro _ w2 ⟨rfl,h2,F2⟩
      rcases hfr:e.fr with _ | fs
      ·rw [hfr] at h2
       simp only [List.append_nil] at h2
       rw [hcT] at h2
       go_wp2_with fail
       refine (number_r e.ds cT h2 heo.1.1 heo.1.2.1 heo.1.2.2 hdT).mono ?_
       rintro _ w3 ⟨rfl,h3,F3⟩
       go_wp2_with fail
       refine (is_n ⟨#[46]⟩ 0 cT 46 h3 (by decide) rfl rfl (by rcases hsT with rfl | rfl <;> decide)).mono ?_
       rintro _ w4 ⟨rfl,h4,F4⟩
       rw [← hcT] at h4
       go_wp2_with fail
       go_roundw
       case rel=>exact ⟨0+1,es',by go_num,hk',hok',by rw [show decide (0+1=0)=false by simp];exact h4,(hF.trans F1).trans (F2.trans (F3.trans F4))⟩
       case measure=>simp [intOf];omega
      ·rw [hfr] at h2
       have hfo:=heo.2 fs hfr
       have hq2:Rest w2 X s (e.ds++46::(fs++(tailT false false es'++93::l))):=by simpa [List.append_assoc] using h2
       rw [hcT] at hq2
       go_wp2_with fail
       refine (number_r e.ds 46 hq2 heo.1.1 heo.1.2.1 heo.1.2.2 (by decide)).mono ?_
       rintro _ w3 ⟨rfl,h3,F3⟩
       go_wp2_with fail
       refine (is_r ⟨#[46]⟩ (show Rest w3 X s ((⟨#[46]⟩:ByteArray).data.toList++_) from h3)).mono ?_
       rintro _ w4 ⟨rfl,h4,F4⟩
       go_wp2_with fail
       refine (number_r fs cT h4 hfo.1 hfo.2.1 hfo.2.2 hdT).mono ?_
       rintro _ w5 ⟨rfl,h5,F5⟩
       rw [← hcT] at h5
       go_wp2_with fail
       go_roundw
       case rel=>exact ⟨0+1,es',by go_num,hk',hok',by rw [show decide (0+1=0)=false by simp];exact h5,(hF.trans F1).trans (F2.trans (F3.trans (F4.trans F5)))⟩
       case measure=>simp [intOf];omega
     ·rw [hng] at h1
      have hq:Rest w1 X s ((⟨#[45]⟩:ByteArray).data.toList++((e.ds++match e.fr with | none=>[] | some fs=>46::fs)++(tailT false false es'++93::l))):=by simpa using h1
      go_wp2_with fail
      refine (is_r ⟨#[45]⟩ hq).mono ?_
      rintro _ w2 ⟨rfl,h2,F2⟩
      rcases hfr:e.fr with _ | fs
      ·rw [hfr] at h2
       simp only [List.append_nil] at h2
       rw [hcT] at h2
       go_wp2_with fail
       refine (number_r e.ds cT h2 heo.1.1 heo.1.2.1 heo.1.2.2 hdT).mono ?_
       rintro _ w3 ⟨rfl,h3,F3⟩
       go_wp2_with fail
       refine (is_n ⟨#[46]⟩ 0 cT 46 h3 (by decide) rfl rfl (by rcases hsT with rfl | rfl <;> decide)).mono ?_
       rintro _ w4 ⟨rfl,h4,F4⟩
       rw [← hcT] at h4
       go_wp2_with fail
       go_roundw
       case rel=>exact ⟨0+1,es',by go_num,hk',hok',by rw [show decide (0+1=0)=false by simp];exact h4,(hF.trans F1).trans (F2.trans (F3.trans F4))⟩
       case measure=>simp [intOf];omega
      ·rw [hfr] at h2
       have hfo:=heo.2 fs hfr
       have hq2:Rest w2 X s (e.ds++46::(fs++(tailT false false es'++93::l))):=by simpa [List.append_assoc] using h2
       rw [hcT] at hq2
       go_wp2_with fail
       refine (number_r e.ds 46 hq2 heo.1.1 heo.1.2.1 heo.1.2.2 (by decide)).mono ?_
       rintro _ w3 ⟨rfl,h3,F3⟩
       go_wp2_with fail
       refine (is_r ⟨#[46]⟩ (show Rest w3 X s ((⟨#[46]⟩:ByteArray).data.toList++_) from h3)).mono ?_
       rintro _ w4 ⟨rfl,h4,F4⟩
       go_wp2_with fail
       refine (number_r fs cT h4 hfo.1 hfo.2.1 hfo.2.2 hdT).mono ?_
       rintro _ w5 ⟨rfl,h5,F5⟩
       rw [← hcT] at h5
       go_wp2_with fail
       go_roundw
       case rel=>exact ⟨0+1,es',by go_num,hk',hok',by rw [show decide (0+1=0)=false by simp];exact h5,(hF.trans F1).trans (F2.trans (F3.trans (F4.trans F5)))⟩
       case measure=>simp [intOf];omega
   ·have hkp:(0:Int) < (k:Int):=by omega
    have hkd:decide (k=0)=false:=by simp [hk0]
    rw [hkd] at hr
    have hr':Rest wr X s ((⟨#[32]⟩:ByteArray).data.toList++(elB a e++(tailT a false es'++93::l))):=by simpa [tailT,List.append_assoc] using hr
    have hI:=is_n ⟨#[93]⟩ 0 32 93 hr' (by decide) rfl rfl (by decide)
    go_wp2_with fail
    refine hI.mono ?_
    rintro _ w1 ⟨rfl,h1,F1⟩
    go_wp2_with fail
    refine (need_r ⟨#[32]⟩ h1).mono ?_
    rintro _ w2 ⟨rfl,h2,F2⟩
    cases a with
    | true=>
     have he1:elB true e=(⟨#[64]⟩:ByteArray).data.toList++e.ds:=rfl
     rw [he1,List.append_assoc,hcT] at h2
     go_wp2_with fail
     refine (need_r ⟨#[64]⟩ h2).mono ?_
     rintro _ w3 ⟨rfl,h3,F3⟩
     go_wp2_with fail
     refine (number_r e.ds cT h3 heo.1.1 heo.1.2.1 heo.1.2.2 hdT).mono ?_
     rintro _ w4 ⟨rfl,h4,F4⟩
     rw [← hcT] at h4
     go_wp2_with fail
     go_roundw
     case rel=>exact ⟨k+1,es',by go_num,hk',hok',by rw [show decide (k+1=0)=false by simp];exact h4,(hF.trans (F1.trans F2)).trans (F3.trans F4)⟩
     case measure=>simp [intOf];omega
    | false=>
     have he1:elB false e=e.b:=rfl
     rw [he1] at h2
     unfold NumT.b at h2
     rcases hng:e.neg with _ | _
     ·rw [hng] at h2
      have hq:Rest w2 X s ((e.ds++match e.fr with | none=>[] | some fs=>46::fs)++(tailT false false es'++93::l)):=by simpa using h2
      go_wp2_with fail
      refine (is_n ⟨#[45]⟩ 0 c0 45 hq (by decide) (by rw [hc0];rfl) rfl (isDig_ne hd0 (by decide))).mono ?_
      rintro _ w3 ⟨rfl,h3,F3⟩
      rcases hfr:e.fr with _ | fs
      ·rw [hfr] at h3
       simp only [List.append_nil] at h3
       rw [hcT] at h3
       go_wp2_with fail
       refine (number_r e.ds cT h3 heo.1.1 heo.1.2.1 heo.1.2.2 hdT).mono ?_
       rintro _ w4 ⟨rfl,h4,F4⟩
       go_wp2_with fail
       refine (is_n ⟨#[46]⟩ 0 cT 46 h4 (by decide) rfl rfl (by rcases hsT with rfl | rfl <;> decide)).mono ?_
       rintro _ w5 ⟨rfl,h5,F5⟩
       rw [← hcT] at h5
       go_wp2_with fail
       go_roundw
       case rel=>exact ⟨k+1,es',by go_num,hk',hok',by rw [show decide (k+1=0)=false by simp];exact h5,(hF.trans (F1.trans F2)).trans (F3.trans (F4.trans F5))⟩
       case measure=>simp [intOf];omega
      ·rw [hfr] at h3
       have hfo:=heo.2 fs hfr
       have hq2:Rest w3 X s (e.ds++46::(fs++(tailT false false es'++93::l))):=by simpa [List.append_assoc] using h3
       rw [hcT] at hq2
       go_wp2_with fail
       refine (number_r e.ds 46 hq2 heo.1.1 heo.1.2.1 heo.1.2.2 (by decide)).mono ?_
       rintro _ w4 ⟨rfl,h4,F4⟩
       go_wp2_with fail
       refine (is_r ⟨#[46]⟩ (show Rest w4 X s ((⟨#[46]⟩:ByteArray).data.toList++_) from h4)).mono ?_
       rintro _ w5 ⟨rfl,h5,F5⟩
       go_wp2_with fail
       refine (number_r fs cT h5 hfo.1 hfo.2.1 hfo.2.2 hdT).mono ?_
       rintro _ w6 ⟨rfl,h6,F6⟩
       rw [← hcT] at h6
       go_wp2_with fail
       go_roundw
       case rel=>exact ⟨k+1,es',by go_num,hk',hok',by rw [show decide (k+1=0)=false by simp];exact h6,(hF.trans (F1.trans F2)).trans (F3.trans (F4.trans (F5.trans F6)))⟩
       case measure=>simp [intOf];omega
     ·rw [hng] at h2
      have hq:Rest w2 X s ((⟨#[45]⟩:ByteArray).data.toList++((e.ds++match e.fr with | none=>[] | some fs=>46::fs)++(tailT false false es'++93::l))):=by simpa using h2
      go_wp2_with fail
      refine (is_r ⟨#[45]⟩ hq).mono ?_
      rintro _ w3 ⟨rfl,h3,F3⟩
      rcases hfr:e.fr with _ | fs
      ·rw [hfr] at h3
       simp only [List.append_nil] at h3
       rw [hcT] at h3
       go_wp2_with fail
       refine (number_r e.ds cT h3 heo.1.1 heo.1.2.1 heo.1.2.2 hdT).mono ?_
       rintro _ w4 ⟨rfl,h4,F4⟩
       go_wp2_with fail
       refine (is_n ⟨#[46]⟩ 0 cT 46 h4 (by decide) rfl rfl (by rcases hsT with rfl | rfl <;> decide)).mono ?_
       rintro _ w5 ⟨rfl,h5,F5⟩
       rw [← hcT] at h5
       go_wp2_with fail
       go_roundw
       case rel=>exact ⟨k+1,es',by go_num,hk',hok',by rw [show decide (k+1=0)=false by simp];exact h5,(hF.trans (F1.trans F2)).trans (F3.trans (F4.trans F5))⟩
       case measure=>simp [intOf];omega
      ·rw [hfr] at h3
       have hfo:=heo.2 fs hfr
       have hq2:Rest w3 X s (e.ds++46::(fs++(tailT false false es'++93::l))):=by simpa [List.append_assoc] using h3
       rw [hcT] at hq2
       go_wp2_with fail
       refine (number_r e.ds 46 hq2 heo.1.1 heo.1.2.1 heo.1.2.2 (by decide)).mono ?_
       rintro _ w4 ⟨rfl,h4,F4⟩
       go_wp2_with fail
       refine (is_r ⟨#[46]⟩ (show Rest w4 X s ((⟨#[46]⟩:ByteArray).data.toList++_) from h4)).mono ?_
       rintro _ w5 ⟨rfl,h5,F5⟩
       go_wp2_with fail
       refine (number_r fs cT h5 hfo.1 hfo.2.1 hfo.2.2 hdT).mono ?_
       rintro _ w6 ⟨rfl,h6,F6⟩
       rw [← hcT] at h6
       go_wp2_with fail
       go_roundw
       case rel=>exact ⟨k+1,es',by go_num,hk',hok',by rw [show decide (k+1=0)=false by simp];exact h6,(hF.trans (F1.trans F2)).trans (F3.trans (F4.trans (F5.trans F6)))⟩
       case measure=>simp [intOf];omega
end Go.Proofs.YtgffljllfenhkaaGreatDoor
end
section
namespace Go.Proofs.YtgffljllfenhkaaGreatDoor
open Go.RowKit
attribute [local go_sem] Oper.semAt_some
variable {w w':World} {X:Nat} {s:ByteArray}
theorem Rest.bad {l:List UInt8} (h:Rest w X s l):Rest (w.setCell ⟨X,2,none⟩ (.bool false)) X s l∧Fb X w (w.setCell ⟨X,2,none⟩ (.bool false)):=by
 refine ⟨⟨h.suf,⟨?_,h.ey.hp,h.ey.hs⟩⟩,⟨rfl,rfl,rfl,by simp,fun k hk hne=>Below.heap_setCell _ _ _ _ (by exact hne)⟩⟩
 rw [heap_setCell_same _ X 2 _ _ _ h.ey.x]
 rfl
def NotPre (l:List UInt8) (t:ByteArray):Prop:=∃ (j:Nat) (c d:UInt8),l[j]?=some c∧t.data[j]?=some d∧c≠d
theorem is_np (t:ByteArray) {l:List UInt8} (h:Rest w X s l) (ht:t.size≤9000) (hn:NotPre l t) :
  Calls Tryz.prog 27 #[.pointer (some ⟨X,0,none⟩),.string t] w fun e w'=>e=.returned (.bool false)∧Rest w' X s l∧Fb X w w':=by
 obtain ⟨j,c,d,h1,h2,h3⟩:=hn
 exact is_n t j c d h ht h1 h2 h3
def refT (k:List UInt8):Option (List UInt8)→List UInt8
 | none=>[]
 | some d=>k++d
def boxT:Option (List NumT)→List UInt8
 | none=>[]
 | some es=>[47,66,111,120,91]++(tailT false true es++[93])
def kidsT:Option (List NumT)→List UInt8
 | none=>[]
 | some es=>[47,75,105,100,115,91]++(tailT true true es++[93])
def titT:Option (List UInt8)→List UInt8
 | none=>[]
 | some t=>[47,84,105,116,108,101,40]++(t++[41])
def refOkT (d:Option (List UInt8)):Prop:=∀ l,d=some l→digsOk l
theorem np_of {l:List UInt8} {t:ByteArray} (j:Nat) (c d:UInt8) (h1:l[j]?=some c) (h2:t.data[j]?=some d) (h3:c≠d):NotPre l t:=⟨j,c,d,h1,h2,h3⟩
set_option maxHeartbeats 2000000 in
set_option maxRecDepth 100000 in
theorem page_r (bx:Option (List NumT)) (nx tx:Option (List UInt8)) (hb:∀ es,bx=some es→es.length=4∧∀ e ∈ es,e.ok) (hn:refOkT nx) (ht:refOkT tx) {l:List UInt8}
  (h:Rest w X s (boxT bx++(refT [47,78,101,120,116,64] nx++(refT [47,84,101,120,116,64] tx++([62,62]++l))))) :
  Calls Tryz.prog 46 #[.pointer (some ⟨X,0,none⟩)] w fun e w'=>e=.returned (.tuple #[])∧Rest w' X s l∧Fb X w w':=by
 have hT:∃ c l',refT [47,84,101,120,116,64] tx++([62,62]++l)=c::l'∧isDig c=false:=by
  cases tx with
  | none=>exact ⟨62,_,rfl,by decide⟩
  | some d=>exact ⟨47,_,rfl,by decide⟩
 obtain ⟨cT,lT,hcT,hdT⟩:=hT
 have hnN:NotPre (refT [47,84,101,120,116,64] tx++([62,62]++l)) ⟨#[47,78,101,120,116,64]⟩:=by
  cases tx with
  | none=>exact np_of 0 62 47 rfl rfl (by decide)
  | some d=>exact np_of 1 84 78 rfl rfl (by decide)
 have hnT:NotPre ([62,62]++l) ⟨#[47,84,101,120,116,64]⟩:=np_of 0 62 47 rfl rfl (by decide)
 have hnB:NotPre (refT [47,78,101,120,116,64] nx++(refT [47,84,101,120,116,64] tx++([62,62]++l))) ⟨#[47,66,111,120,91]⟩:=by
  cases nx with
  | none=>
   cases tx with
   | none=>exact np_of 0 62 47 rfl rfl (by decide)
   | some d=>exact np_of 1 84 66 rfl rfl (by decide)
  | some d=>exact np_of 1 78 66 rfl rfl (by decide)
 go_enter Tryz.func46,Tryz.ntmps46
 go_wp2_with fail
 cases bx with
 | none=>
  replace h:Rest w X s (refT [47,78,101,120,116,64] nx++(refT [47,84,101,120,116,64] tx++([62,62]++l))):=h
  refine (is_np ⟨#[47,66,111,120,91]⟩ h (by decide) hnB).mono ?_
  rintro _ w1 ⟨rfl,h1,F1⟩
  go_wp2_with fail
  cases nx with
  | none=>
   replace h1:Rest w1 X s (refT [47,84,101,120,116,64] tx++([62,62]++l)):=h1
   refine (is_np ⟨#[47,78,101,120,116,64]⟩ h1 (by decide) hnN).mono ?_
   rintro _ w2 ⟨rfl,h2,F2⟩
   go_wp2_with fail
   cases tx with
   | none=>
    replace h2:Rest w2 X s ([62,62]++l):=h2
    refine (is_np ⟨#[47,84,101,120,116,64]⟩ h2 (by decide) hnT).mono ?_
    rintro _ w5 ⟨rfl,h5,F5⟩
    go_wp2_with fail
    refine (need_r ⟨#[62,62]⟩ (l:=l) h5).mono ?_
    rintro _ w9 ⟨rfl,h9,F9⟩
    go_wp2_with fail
    first | go_end0 | refine bodyPost_ret (results_none rfl _ _ _) rfl ?_
    exact ⟨rfl,h9,((F1.trans F2).trans F5).trans F9⟩
   | some d=>
    have hd:=ht d rfl
    have h5':Rest w2 X s ((⟨#[47,84,101,120,116,64]⟩:ByteArray).data.toList++(d++62::(62::l))):=by rw [← List.append_assoc];exact h2
    refine (is_r ⟨#[47,84,101,120,116,64]⟩ h5').mono ?_
    rintro _ w5 ⟨rfl,h5,F5⟩
    go_wp2_with fail
    refine (number_r d 62 h5 hd.1 hd.2.1 hd.2.2 (by decide)).mono ?_
    rintro _ w6 ⟨rfl,h6,F6⟩
    go_wp2_with fail
    refine (need_r ⟨#[62,62]⟩ (l:=l) h6).mono ?_
    rintro _ w9 ⟨rfl,h9,F9⟩
    go_wp2_with fail
    first | go_end0 | refine bodyPost_ret (results_none rfl _ _ _) rfl ?_
    exact ⟨rfl,h9,((F1.trans F2).trans (F5.trans F6)).trans F9⟩
  | some d=>
   have hd:=hn d rfl
   have h2':Rest w1 X s ((⟨#[47,78,101,120,116,64]⟩:ByteArray).data.toList++(d++(refT [47,84,101,120,116,64] tx++([62,62]++l)))):=by rw [← List.append_assoc];exact h1
   refine (is_r ⟨#[47,78,101,120,116,64]⟩ h2').mono ?_
   rintro _ w2 ⟨rfl,h2,F2⟩
   rw [hcT] at h2
   go_wp2_with fail
   refine (number_r d cT h2 hd.1 hd.2.1 hd.2.2 hdT).mono ?_
   rintro _ w3 ⟨rfl,h3,F3⟩
   rw [← hcT] at h3
   go_wp2_with fail
   cases tx with
   | none=>
    replace h3:Rest w3 X s ([62,62]++l):=h3
    refine (is_np ⟨#[47,84,101,120,116,64]⟩ h3 (by decide) hnT).mono ?_
    rintro _ w5 ⟨rfl,h5,F5⟩
    go_wp2_with fail
    refine (need_r ⟨#[62,62]⟩ (l:=l) h5).mono ?_
    rintro _ w9 ⟨rfl,h9,F9⟩
    go_wp2_with fail
    first | go_end0 | refine bodyPost_ret (results_none rfl _ _ _) rfl ?_
    exact ⟨rfl,h9,((F1.trans (F2.trans F3)).trans F5).trans F9⟩
   | some d=>
    have hd:=ht d rfl
    have h5':Rest w3 X s ((⟨#[47,84,101,120,116,64]⟩:ByteArray).data.toList++(d++62::(62::l))):=by rw [← List.append_assoc];exact h3
    refine (is_r ⟨#[47,84,101,120,116,64]⟩ h5').mono ?_
    rintro _ w5 ⟨rfl,h5,F5⟩
    go_wp2_with fail
    refine (number_r d 62 h5 hd.1 hd.2.1 hd.2.2 (by decide)).mono ?_
    rintro _ w6 ⟨rfl,h6,F6⟩
    go_wp2_with fail
    refine (need_r ⟨#[62,62]⟩ (l:=l) h6).mono ?_
    rintro _ w9 ⟨rfl,h9,F9⟩
    go_wp2_with fail
    first | go_end0 | refine bodyPost_ret (results_none rfl _ _ _) rfl ?_
    exact ⟨rfl,h9,((F1.trans (F2.trans F3)).trans (F5.trans F6)).trans F9⟩
 | some es=>
  obtain ⟨h4,hes⟩:=hb es rfl
  have h':Rest w X s ((⟨#[47,66,111,120,91]⟩:ByteArray).data.toList++(tailT false true es++93::(refT [47,78,101,120,116,64] nx++(refT [47,84,101,120,116,64] tx++([62,62]++l))))):=by simpa [boxT,List.append_assoc] using h
  refine (is_r ⟨#[47,66,111,120,91]⟩ h').mono ?_
  rintro _ wa ⟨rfl,ha,Fa⟩
  go_wp2_with fail
  refine (row_r false es hes (by omega) ha).mono ?_
  rintro _ wb ⟨rfl,hb2,Fb2⟩
  rw [h4]
  have c2:=hb2.ey.c2
  have f2:=hb2.ey.f 2
  go_wp2_with fail
  have hbd:=hb2.bad
  obtain ⟨w1,hw1⟩:∃ w1,wb.setCell ⟨X,2,none⟩ (.bool false)=w1:=⟨_,rfl⟩
  rw [hw1] at hbd
  have h1:=hbd.1
  have F1:Fb X w w1:=Fa.trans (Fb2.trans hbd.2)
  first | rw [hw1] | skip
  clear c2 f2
  go_wp2_with fail
  cases nx with
  | none=>
   replace h1:Rest w1 X s (refT [47,84,101,120,116,64] tx++([62,62]++l)):=h1
   refine (is_np ⟨#[47,78,101,120,116,64]⟩ h1 (by decide) hnN).mono ?_
   rintro _ w2 ⟨rfl,h2,F2⟩
   go_wp2_with fail
   cases tx with
   | none=>
    replace h2:Rest w2 X s ([62,62]++l):=h2
    refine (is_np ⟨#[47,84,101,120,116,64]⟩ h2 (by decide) hnT).mono ?_
    rintro _ w5 ⟨rfl,h5,F5⟩
    go_wp2_with fail
    refine (need_r ⟨#[62,62]⟩ (l:=l) h5).mono ?_
    rintro _ w9 ⟨rfl,h9,F9⟩
    go_wp2_with fail
    first | go_end0 | refine bodyPost_ret (results_none rfl _ _ _) rfl ?_
    exact ⟨rfl,h9,((F1.trans F2).trans F5).trans F9⟩
   | some d=>
    have hd:=ht d rfl
    have h5':Rest w2 X s ((⟨#[47,84,101,120,116,64]⟩:ByteArray).data.toList++(d++62::(62::l))):=by rw [← List.append_assoc];exact h2
    refine (is_r ⟨#[47,84,101,120,116,64]⟩ h5').mono ?_
    rintro _ w5 ⟨rfl,h5,F5⟩
    go_wp2_with fail
    refine (number_r d 62 h5 hd.1 hd.2.1 hd.2.2 (by decide)).mono ?_
    rintro _ w6 ⟨rfl,h6,F6⟩
    go_wp2_with fail
    refine (need_r ⟨#[62,62]⟩ (l:=l) h6).mono ?_
    rintro _ w9 ⟨rfl,h9,F9⟩
    go_wp2_with fail
    first | go_end0 | refine bodyPost_ret (results_none rfl _ _ _) rfl ?_
    exact ⟨rfl,h9,((F1.trans F2).trans (F5.trans F6)).trans F9⟩
  | some d=>
   have hd:=hn d rfl
   have h2':Rest w1 X s ((⟨#[47,78,101,120,116,64]⟩:ByteArray).data.toList++(d++(refT [47,84,101,120,116,64] tx++([62,62]++l)))):=by rw [← List.append_assoc];exact h1
   refine (is_r ⟨#[47,78,101,120,116,64]⟩ h2').mono ?_
   rintro _ w2 ⟨rfl,h2,F2⟩
   rw [hcT] at h2
   go_wp2_with fail
   refine (number_r d cT h2 hd.1 hd.2.1 hd.2.2 hdT).mono ?_
   rintro _ w3 ⟨rfl,h3,F3⟩
   rw [← hcT] at h3
   go_wp2_with fail
   cases tx with
   | none=>
    replace h3:Rest w3 X s ([62,62]++l):=h3
    refine (is_np ⟨#[47,84,101,120,116,64]⟩ h3 (by decide) hnT).mono ?_
    rintro _ w5 ⟨rfl,h5,F5⟩
    go_wp2_with fail
    refine (need_r ⟨#[62,62]⟩ (l:=l) h5).mono ?_
    rintro _ w9 ⟨rfl,h9,F9⟩
    go_wp2_with fail
    first | go_end0 | refine bodyPost_ret (results_none rfl _ _ _) rfl ?_
    exact ⟨rfl,h9,((F1.trans (F2.trans F3)).trans F5).trans F9⟩
   | some d=>
    have hd:=ht d rfl
    have h5':Rest w3 X s ((⟨#[47,84,101,120,116,64]⟩:ByteArray).data.toList++(d++62::(62::l))):=by rw [← List.append_assoc];exact h3
    refine (is_r ⟨#[47,84,101,120,116,64]⟩ h5').mono ?_
    rintro _ w5 ⟨rfl,h5,F5⟩
    go_wp2_with fail
    refine (number_r d 62 h5 hd.1 hd.2.1 hd.2.2 (by decide)).mono ?_
    rintro _ w6 ⟨rfl,h6,F6⟩
    go_wp2_with fail
    refine (need_r ⟨#[62,62]⟩ (l:=l) h6).mono ?_
    rintro _ w9 ⟨rfl,h9,F9⟩
    go_wp2_with fail
    first | go_end0 | refine bodyPost_ret (results_none rfl _ _ _) rfl ?_
    exact ⟨rfl,h9,((F1.trans (F2.trans F3)).trans (F5.trans F6)).trans F9⟩
set_option maxHeartbeats 2000000 in
set_option maxRecDepth 100000 in
theorem root_r (kd:Option (List NumT)) (ti:Option (List UInt8)) (hk:∀ es,kd=some es→es.length≤9000∧∀ e ∈ es,e.ok) (ht:∀ t,ti=some t→textOk t=true) {l:List UInt8}
  (h:Rest w X s (kidsT kd++(titT ti++([62,62]++l)))) :
  Calls Tryz.prog 45 #[.pointer (some ⟨X,0,none⟩)] w fun e w'=>e=.returned (.tuple #[])∧Rest w' X s l∧Fb X w w':=by
 have hnT:NotPre ([62,62]++l) ⟨#[47,84,105,116,108,101,40]⟩:=np_of 0 62 47 rfl rfl (by decide)
 have hnK:NotPre (titT ti++([62,62]++l)) ⟨#[47,75,105,100,115,91]⟩:=by
  cases ti with
  | none=>exact np_of 0 62 47 rfl rfl (by decide)
  | some d=>exact np_of 1 84 75 rfl rfl (by decide)
 go_enter Tryz.func45,Tryz.ntmps45
 go_wp2_with fail
 cases kd with
 | none=>
  replace h:Rest w X s (titT ti++([62,62]++l)):=h
  refine (is_np ⟨#[47,75,105,100,115,91]⟩ h (by decide) hnK).mono ?_
  rintro _ w1 ⟨rfl,h1,F1⟩
  go_wp2_with fail
  cases ti with
  | none=>
   replace h1:Rest w1 X s ([62,62]++l):=h1
   refine (is_np ⟨#[47,84,105,116,108,101,40]⟩ h1 (by decide) hnT).mono ?_
   rintro _ w2 ⟨rfl,h2,F2⟩
   go_wp2_with fail
   refine (need_r ⟨#[62,62]⟩ (l:=l) h2).mono ?_
   rintro _ w9 ⟨rfl,h9,F9⟩
   go_wp2_with fail
   first | go_end0 | refine bodyPost_ret (results_none rfl _ _ _) rfl ?_
   exact ⟨rfl,h9,F1.trans (F2.trans F9)⟩
  | some t=>
   have h2':Rest w1 X s ((⟨#[47,84,105,116,108,101,40]⟩:ByteArray).data.toList++(t++41::([62,62]++l))):=by simpa [titT,List.append_assoc] using h1
   refine (is_r ⟨#[47,84,105,116,108,101,40]⟩ h2').mono ?_
   rintro _ w2 ⟨rfl,h2,F2⟩
   go_wp2_with fail
   refine (text_r t h2 (ht t rfl)).mono ?_
   rintro _ w3 ⟨rfl,h3,F3⟩
   go_wp2_with fail
   refine (need_r ⟨#[62,62]⟩ (l:=l) h3).mono ?_
   rintro _ w9 ⟨rfl,h9,F9⟩
   go_wp2_with fail
   first | go_end0 | refine bodyPost_ret (results_none rfl _ _ _) rfl ?_
   exact ⟨rfl,h9,F1.trans (F2.trans (F3.trans F9))⟩
 | some es=>
  obtain ⟨h4,hes⟩:=hk es rfl
  have h':Rest w X s ((⟨#[47,75,105,100,115,91]⟩:ByteArray).data.toList++(tailT true true es++93::(titT ti++([62,62]++l)))):=by simpa [kidsT,List.append_assoc] using h
  refine (is_r ⟨#[47,75,105,100,115,91]⟩ h').mono ?_
  rintro _ wa ⟨rfl,ha,Fa⟩
  go_wp2_with fail
  refine (row_r true es hes h4 ha).mono ?_
  rintro _ w1 ⟨rfl,h1,Fb2⟩
  have F1:Fb X w w1:=Fa.trans Fb2
  go_wp2_with fail
  cases ti with
  | none=>
   replace h1:Rest w1 X s ([62,62]++l):=h1
   refine (is_np ⟨#[47,84,105,116,108,101,40]⟩ h1 (by decide) hnT).mono ?_
   rintro _ w2 ⟨rfl,h2,F2⟩
   go_wp2_with fail
   refine (need_r ⟨#[62,62]⟩ (l:=l) h2).mono ?_
   rintro _ w9 ⟨rfl,h9,F9⟩
   go_wp2_with fail
   first | go_end0 | refine bodyPost_ret (results_none rfl _ _ _) rfl ?_
   exact ⟨rfl,h9,F1.trans (F2.trans F9)⟩
  | some t=>
   have h2':Rest w1 X s ((⟨#[47,84,105,116,108,101,40]⟩:ByteArray).data.toList++(t++41::([62,62]++l))):=by simpa [titT,List.append_assoc] using h1
   refine (is_r ⟨#[47,84,105,116,108,101,40]⟩ h2').mono ?_
   rintro _ w2 ⟨rfl,h2,F2⟩
   go_wp2_with fail
   refine (text_r t h2 (ht t rfl)).mono ?_
   rintro _ w3 ⟨rfl,h3,F3⟩
   go_wp2_with fail
   refine (need_r ⟨#[62,62]⟩ (l:=l) h3).mono ?_
   rintro _ w9 ⟨rfl,h9,F9⟩
   go_wp2_with fail
   first | go_end0 | refine bodyPost_ret (results_none rfl _ _ _) rfl ?_
   exact ⟨rfl,h9,F1.trans (F2.trans (F3.trans F9))⟩
set_option maxHeartbeats 2000000 in
set_option maxRecDepth 100000 in
theorem stream_r (ds st:List UInt8) (hd:digsOk ds) (hv:digV ds 0=st.length) {l:List UInt8} (h:Rest w X s ((⟨#[62,62,126]⟩:ByteArray).data.toList++(ds++58::(st++l)))) :
  Calls Tryz.prog 47 #[.pointer (some ⟨X,0,none⟩)] w fun e w'=>e=.returned (.tuple #[])∧Rest w' X s l∧Fb X w w':=by
 go_enter Tryz.func47,Tryz.ntmps47
 go_wp2_with fail
 refine (need_r ⟨#[62,62,126]⟩ h).mono ?_
 rintro _ w1 ⟨rfl,h1,F1⟩
 go_wp2_with fail
 refine (number_r ds 58 h1 hd.1 hd.2.1 hd.2.2 (by decide)).mono ?_
 rintro _ w2 ⟨rfl,h2,F2⟩
 rw [hv]
 go_wp2_with fail
 refine (need_r ⟨#[58]⟩ (l:=st++l) h2).mono ?_
 rintro _ w3 ⟨rfl,h3,F3⟩
 have c0:=h3.ey.c0
 have c1:=h3.ey.c1
 have f1:=h3.ey.f 1
 have hp:=h3.pos
 have hs:=h3.ey.hs
 rw [List.length_append] at hp
 obtain ⟨q,hq⟩:∃ q,s.size - (st++l).length=q:=⟨_,rfl⟩
 rw [hq] at c1
 have hql:q+st.length+l.length=s.size:=by rw [List.length_append] at hq;omega
 have k1:decide (((s.size:Nat):Int) - (q:Int) < (st.length:Int))=false:=by simp;omega
 have k2:IntKind.i64.wrap (((s.size:Nat):Int) - (q:Int))=((s.size:Nat):Int) - (q:Int):=by rw [IntKind.wrap_i64];omega
 have k3:IntKind.i64.wrap ((q:Int)+(st.length:Int))=(q:Int)+(st.length:Int):=wraps_i64 _ (by omega) (by omega)
 have HQ:=hid hq
 have HL:=hid hql
 clear hq hql
 go_wp2_with fail
 go_quiet (fail)
 go_wp2_with fail
 first | go_end0 | refine bodyPost_ret (results_none rfl _ _ _) rfl ?_
 have hq:=unh HQ
 have hql:=unh HL
 have h3e:=h3.ey
 rw [hq] at h3e
 have hm:=h3e.move (q+st.length) nq (by omega) ((q:Int)+(st.length:Int)) (by omega)
 exact ⟨rfl,h3.next hm.1 (by rw [hq]),F1.trans (F2.trans (F3.trans hm.2))⟩
end Go.Proofs.YtgffljllfenhkaaGreatDoor
end
