import Derived.Test.YtgffljllfenhkaaGreatDoorProg
import Derived.RangeFuncRecord
import Derived.RangeFuncCalls
import Derived.Test.YtgffljllfenhkaaGreatDoorHway
section
namespace Go.Proofs.YtgffljllfenhkaaGreatDoor
variable {E:Env}
def Kb (E:Env) {α:Type} (m:Rdr α):Prop:=∀ s b s',m s=.ok b s'→s.k≤E.e→s'.k≤E.e
def Kl (E:Env) {α:Type} (m:Rdr α):Prop:=∀ s b s',m s=.ok b s'→s.k < E.e→s'.k≤E.e
section
variable {α β:Type} {m:Rdr α} {f:α→Rdr β}
theorem Kb.kl (h:Kb E m):Kl E m:=fun s b s' e hk=>h s b s' e (by omega)
theorem Kb.then (h:Kb E m) (g:∀ a,Kb E (f a)):Kb E (m.then f):=fun s b s' e hk=>by
 obtain ⟨a,s1,h1,h2⟩:=then_inv e
 exact g a s1 b s' h2 (h s a s1 h1 hk)
theorem Kb.ret (a:α):Kb E (Rdr.ret a):=fun s b s' e hk=>by obtain ⟨_,rfl⟩:=ret_inv e;exact hk
theorem Kb.need (c:Bool):Kb E (needM E c):=fun s b s' e hk=>by obtain ⟨rfl,_⟩:=need_inv e;exact hk
theorem Kb.at:Kb E atM:=fun s b s' e hk=>by obtain ⟨_,rfl⟩:=at_inv e;exact hk
theorem Kb.peek {f:Nat→Rdr β} (g:∀ a,Kl E (f a)):Kb E ((peekM E).then f):=fun s b s' e hk=>by
 obtain ⟨a,s1,h1,h2⟩:=then_inv e
 obtain ⟨rfl,_,h3,_⟩:=peek_inv h1
 exact g a _ b s' h2 (by show s.k < E.e;omega)
theorem Kl.need {c:Bool} {f:Unit→Rdr β} (g:∀ a,Kl E (f a)):Kl E ((needM E c).then f):=fun s b s' e hk=>by
 obtain ⟨a,s1,h1,h2⟩:=then_inv e
 obtain ⟨rfl,_⟩:=need_inv h1
 exact g a _ b s' h2 hk
theorem Kl.adv {f:Unit→Rdr β} (g:∀ a,Kb E (f a)):Kl E (advM.then f):=fun s b s' e hk=>by
 obtain ⟨a,s1,h1,h2⟩:=then_inv e
 rw [adv_inv h1] at h2
 exact g a _ b s' h2 (by show s.k+1≤E.e;omega)
theorem Kb.ite {c:Bool} {m1 m2:Rdr α} (h1:Kb E m1) (h2:Kb E m2):Kb E (if c=true then m1 else m2):=by cases c <;> simpa
theorem Kl.ite {c:Bool} {m1 m2:Rdr α} (h1:Kl E m1) (h2:Kl E m2):Kl E (if c=true then m1 else m2):=by cases c <;> simpa
end
theorem Kb.word:∀ l,Kb E (wordM E l)
 | []=>by unfold wordM;exact Kb.ret _
 | c::l=>by unfold wordM;exact Kb.peek fun x=>Kl.need fun _=>Kl.adv fun _=>Kb.word l
theorem Kb.someL (p:Nat→Bool):∀ n,Kb E (Go.Proofs.YtgffljllfenhkaaGreatDoor.someL E p n)
 | 0=>by unfold Go.Proofs.YtgffljllfenhkaaGreatDoor.someL;exact Kb.ret _
 | n+1=>by unfold Go.Proofs.YtgffljllfenhkaaGreatDoor.someL;exact Kb.peek fun x=>Kl.ite (Kl.adv fun _=>Kb.someL p n) (Kb.ret _).kl
theorem Kb.some (p:Nat→Bool) (n:Nat):Kb E (someM E p n):=by
 unfold someM
 exact Kb.at.then fun _=>Kb.peek fun x=>Kl.need fun _=>((Kb.someL p n).then fun _=>Kb.at.then fun _=>Kb.ret _).kl
theorem Kb.blanks:∀ n,Kb E (blanksM E n)
 | 0=>by intro s b s' e;cases e
 | n+1=>by unfold blanksM;exact Kb.peek fun x=>Kl.ite (Kl.adv fun _=>Kb.blanks n) (Kb.ret _).kl
theorem Kb.next:Kb E (nextM E):=by
 unfold nextM
 refine (Kb.blanks _).then fun _=>?_
 intro s b s' e hk
 obtain ⟨rfl,_⟩:=peek_inv e
 exact hk
theorem Kb.textL:∀ n,Kb E (Go.Proofs.YtgffljllfenhkaaGreatDoor.textL E n)
 | 0=>by intro s b s' e;cases e
 | n+1=>by
  unfold Go.Proofs.YtgffljllfenhkaaGreatDoor.textL
  refine Kb.peek fun x=>Kl.ite (Kb.ret _).kl (Kb.kl (Kb.peek fun x=>Kl.need fun _=>Kb.kl (Kb.peek fun x=>?_)))
  cases hx:x == 92
  ·intro s b s' e hk
   obtain ⟨a,s1,h1,h2⟩:=then_inv e
   simp only [Bool.false_eq_true,if_false] at h1
   obtain ⟨_,rfl⟩:=ret_inv h1
   exact Kl.adv (fun _=>Kb.textL n) _ b s' h2 hk
  ·intro s b s' e hk
   obtain ⟨a,s1,h1,h2⟩:=then_inv e
   simp only [if_true] at h1
   obtain ⟨a2,s2,h3,h4⟩:=then_inv h1
   rw [adv_inv h3] at h4
   obtain ⟨x3,s3,h5,h6⟩:=then_inv h4
   obtain ⟨rfl,_,h7,_⟩:=peek_inv h5
   obtain ⟨rfl,_⟩:=need_inv h6
   have h7':s.k+1≠E.e:=h7
   exact Kl.adv (fun _=>Kb.textL n) _ b s' h2 (by show s.k+1 < E.e;omega)
theorem Kb.text:Kb E (textM E):=by
 unfold textM
 exact (Kb.word _).then fun _=>Kb.at.then fun _=>(Kb.textL _).then fun _=>(Kb.word _).then fun _=>Kb.at.then fun _=>Kb.ret _
theorem Kb.name:Kb E (nameM E):=by unfold nameM;exact (Kb.word _).then fun _=>Kb.some _ _
theorem Kb.whole (n:Nat):Kb E (wholeM E n):=by unfold wholeM;exact (Kb.some _ _).then fun _=>Kb.ret _
theorem Kb.num:Kb E (numM E):=by
 unfold numM
 refine Kb.peek fun x=>?_
 have hrest:Kb E ((someM E digP 6).then fun ti=>(peekM E).then fun y=>if y == 46 then advM.then fun _=>(someM E digP 3).then fun tf=>Rdr.ret (x == 45,vI (ti++tf) 0 (ti.size+tf.size),tf.size) else Rdr.ret (x == 45,vI ti 0 ti.size,0)):=
  (Kb.some _ _).then fun _=>Kb.peek fun y=>Kl.ite (Kl.adv fun _=>(Kb.some _ _).then fun _=>Kb.ret _) (Kb.ret _).kl
 intro s b s' e hk
 obtain ⟨a,s1,h1,h2⟩:=then_inv e
 cases hx:x == 45
 ·rw [hx] at h1
  simp only [Bool.false_eq_true,if_false] at h1
  obtain ⟨_,rfl⟩:=ret_inv h1
  exact hrest _ b s' h2 (by omega)
 ·rw [hx] at h1
  simp only [if_true] at h1
  rw [adv_inv h1] at h2
  exact hrest _ b s' h2 (by show s.k+1≤E.e;omega)
def txOk (v:Val):Prop:=∀ t,v=.str t→textOk t.data.toList=true
def VX (v:Val):Prop:=valOk v∧txOk v
def VO:Val→Prop
 | .num neg m k=>leafOk (.num neg m k)
 | .str t=>leafOk (.str t)∧textOk t.data.toList=true
 | .arr l=>l.length≤9000∧∀ e ∈ l,isNum e=true→leafOk e
 | .dict l=>∀ e ∈ l,VX e.2
 | _=>True
theorem VO.num {v:Val} (h:VO v) (hn:isNum v=true):leafOk v:=by
 cases v <;> first | exact h | (simp [isNum] at hn)
theorem VO.ok {v:Val} (h:VO v):valOk v:=by
 cases v
 case arr l=>exact ⟨h.1,h.2,by simp [isStr]⟩
 case str t=>exact ⟨by simp [elemsOf],by simp [elemsOf],fun _=>h.1⟩
 all_goals exact ⟨by simp [elemsOf],by simp [elemsOf],by simp [isStr]⟩
theorem VO.tx {v:Val} (h:VO v):txOk v:=by
 intro t e
 subst e
 exact h.2
theorem VO.x {v:Val} (h:VO v):VX v:=⟨h.ok,h.tx⟩
theorem some_digs {most:Nat} {t:ByteArray} {s s':St} (hm:1≤most) (h:someM E digP most s=.ok t s'):t.size≤most∧∀ j,j < t.size→digP (bt t j)=true:=by
 obtain ⟨ht,a,b,c⟩:=some_inv hm h
 have hz:t.size≤s'.k - s.k:=by rw [ht,ByteArray.size_extract];omega
 refine ⟨by omega,fun j hj=>?_⟩
 rw [ht,bt_extract _ _ _ _ (by omega)]
 exact (c _ (by omega) (by omega)).1
theorem num_ok {y:Bool×Nat×Nat} {s s':St} (h:numM E s=.ok y s'):y.2.1 < 10 ^ 6 * 10 ^ y.2.2∧y.2.2≤3:=by
 unfold numM at h
 obtain ⟨x,s1,_,h⟩:=then_inv h
 obtain ⟨_,s2,_,h⟩:=then_inv h
 obtain ⟨ti,s3,hi,h⟩:=then_inv h
 obtain ⟨z,s4,_,h⟩:=then_inv h
 obtain ⟨hi1,hi2⟩:=some_digs (by decide) hi
 split at h
 ·obtain ⟨_,s5,_,h⟩:=then_inv h
  obtain ⟨tf,s6,hf,h⟩:=then_inv h
  obtain ⟨rfl,_⟩:=ret_inv h
  obtain ⟨hf1,hf2⟩:=some_digs (by decide) hf
  refine ⟨?_,hf1⟩
  have:=vI_le (ti++tf) 0 (ti.size+tf.size) (fun j hj=>by
   rw [Nat.zero_add,bt_append]
   split
   ·exact hi2 j (by assumption)
   ·exact hf2 _ (by omega))
  refine Nat.lt_of_lt_of_le this ?_
  rw [← Nat.pow_add]
  exact Nat.pow_le_pow_right (by decide) (by show ti.size+tf.size≤6+tf.size;omega)
 ·obtain ⟨rfl,_⟩:=ret_inv h
  refine ⟨?_,Nat.zero_le _⟩
  have:=vI_le ti 0 ti.size (fun j hj=>by rw [Nat.zero_add];exact hi2 j hj)
  refine Nat.lt_of_lt_of_le this ?_
  show 10 ^ ti.size≤10 ^ 6 * 10 ^ 0
  rw [← Nat.pow_add]
  exact Nat.pow_le_pow_right (by decide) (by omega)
theorem text_ok {t:ByteArray} {s s':St} (h:textM E s=.ok t s'):t.size≤E.f.size:=by
 unfold textM at h
 obtain ⟨_,s1,_,h⟩:=then_inv h
 obtain ⟨i,s2,_,h⟩:=then_inv h
 obtain ⟨_,s3,_,h⟩:=then_inv h
 obtain ⟨_,s4,_,h⟩:=then_inv h
 obtain ⟨j,s5,_,h⟩:=then_inv h
 obtain ⟨rfl,_⟩:=ret_inv h
 rw [ByteArray.size_extract]
 omega
theorem ext_cons {f:ByteArray} {i j:Nat} (hij:i < j) (hj:j≤f.size):∃ c:UInt8,c.toNat=bt f i∧(f.extract i j).data.toList=c::(f.extract (i+1) j).data.toList:=by
 have hs:i < f.data.size:=Nat.lt_of_lt_of_le hij hj
 refine ⟨f.data[i],?_,?_⟩
 ·unfold bt;rw [List.getD_eq_getElem?_getD,Array.getElem?_toList,Array.getElem?_eq_getElem hs];rfl
 ·rw [ByteArray.data_extract,ByteArray.data_extract,Array.toList_extract,Array.toList_extract]
  simp only [List.extract_eq_take_drop]
  have hl:i < f.data.toList.length:=by simpa using hs
  rw [List.drop_eq_getElem_cons hl,show j - i=(j - (i+1))+1 by omega,List.take_succ_cons]
  simp
theorem textOk_lets {c:UInt8} {l:List UInt8} (h1:c≠40) (h2:c≠41) (h3:c≠92) (h:textOk l=true):textOk (c::l)=true:=by
 cases l with
 | nil=>simp [textOk,h1,h2,h3]
 | cons d l=>simp [textOk,h1,h2,h3,h]
theorem textOk_esc (d:UInt8) {l:List UInt8} (h:textOk l=true):textOk (92::d::l)=true:=by simpa [textOk] using h
theorem textL_tx (hef:E.e≤E.f.size):∀ (n:Nat) {s s':St} {u:Unit},textL E n s=.ok u s'→s.k≤E.e→s.k≤s'.k∧s'.k≤E.e∧textOk (E.f.extract s.k s'.k).data.toList=true
 | 0,_,_,_,h,_=>by cases h
 | n+1,s,s',u,h,hk=>by
  unfold textL at h
  obtain ⟨x,s1,h1,h⟩:=then_inv h
  obtain ⟨rfl,hx,hne,_⟩:=peek_inv h1
  split at h
  ·obtain ⟨_,rfl⟩:=ret_inv h
   refine ⟨Nat.le_refl _,hk,?_⟩
   show textOk (E.f.extract s.k s.k).data.toList=true
   rw [ByteArray.data_extract,Array.toList_extract]
   simp [textOk]
  ·rename_i h41
   obtain ⟨x2,s2,h2,h⟩:=then_inv h
   obtain ⟨rfl,hx2,_,_⟩:=peek_inv h2
   obtain ⟨_,s3,h3,h⟩:=then_inv h
   obtain ⟨rfl,h40⟩:=need_inv h3
   obtain ⟨x4,s4,h4,h⟩:=then_inv h
   obtain ⟨rfl,hx4,_,_⟩:=peek_inv h4
   obtain ⟨_,s5,h5,h⟩:=then_inv h
   have e41:bt E.f s.k≠41:=fun e=>h41 (by rw [hx,e];rfl)
   have e40:bt E.f s.k≠40:=fun e=>by
    have:x2=40:=by rw [hx2];exact e
    rw [this] at h40;exact absurd h40 (by decide)
   have hlt:s.k < E.e:=by omega
   split at h5
   ·rename_i h92
    obtain ⟨_,s6,h6,h5⟩:=then_inv h5
    rw [adv_inv h6] at h5
    obtain ⟨x7,s7,h7,h5⟩:=then_inv h5
    obtain ⟨rfl,_,hne7,_⟩:=peek_inv h7
    obtain ⟨rfl,_⟩:=need_inv h5
    obtain ⟨_,s8,h8,h⟩:=then_inv h
    rw [adv_inv h8] at h
    have hne7':s.k+1≠E.e:=hne7
    obtain ⟨g1,g2,g3⟩:=textL_tx hef n h (by show s.k+1+1≤E.e;omega)
    have g1':s.k+1+1≤s'.k:=g1
    refine ⟨by omega,g2,?_⟩
    obtain ⟨c,hc,e1⟩:=ext_cons (f:=E.f) (i:=s.k) (j:=s'.k) (by omega) (by omega)
    obtain ⟨d,_,e2⟩:=ext_cons (f:=E.f) (i:=s.k+1) (j:=s'.k) (by omega) (by omega)
    rw [e1,e2]
    have hc92:c=92:=by
     have h9:x4=92:=by simpa using h92
     have h10:c.toNat=92:=by rw [hc];rw [← h9,hx4]
     exact UInt8.toNat_inj.1 h10
    rw [hc92]
    exact textOk_esc d g3
   ·rename_i h92
    obtain ⟨_,rfl⟩:=ret_inv h5
    obtain ⟨_,s8,h8,h⟩:=then_inv h
    rw [adv_inv h8] at h
    obtain ⟨g1,g2,g3⟩:=textL_tx hef n h (by show s.k+1≤E.e;omega)
    have g1':s.k+1≤s'.k:=g1
    refine ⟨by omega,g2,?_⟩
    obtain ⟨c,hc,e1⟩:=ext_cons (f:=E.f) (i:=s.k) (j:=s'.k) (by omega) (by omega)
    rw [e1]
    have hcn:∀ (d:UInt8),bt E.f s.k≠d.toNat→c≠d:=fun d hd e=>hd (by rw [← hc,e])
    refine textOk_lets (hcn 40 e40) (hcn 41 e41) (hcn 92 (fun e=>h92 ?_)) g3
    have:x4=92:=by rw [hx4];exact e
    rw [this];rfl
theorem text_tx (hef:E.e≤E.f.size) {t:ByteArray} {s s':St} (h:textM E s=.ok t s') (hk:s.k≤E.e):textOk t.data.toList=true:=by
 unfold textM at h
 obtain ⟨_,s1,h1,h⟩:=then_inv h
 have k1:=Kb.word _ _ _ _ h1 hk
 obtain ⟨i,s2,h2,h⟩:=then_inv h
 obtain ⟨rfl,rfl⟩:=at_inv h2
 obtain ⟨_,s3,h3,h⟩:=then_inv h
 obtain ⟨g1,g2,g3⟩:=textL_tx hef _ h3 k1
 obtain ⟨_,s4,h4,h⟩:=then_inv h
 have k4:=(word_inv _ h4).1
 obtain ⟨j,s5,h5,h⟩:=then_inv h
 obtain ⟨rfl,rfl⟩:=at_inv h5
 obtain ⟨rfl,_⟩:=ret_inv h
 have:s5.k - 1=s3.k:=by rw [k4];rfl
 rw [this]
 exact g3
theorem dset_ok {l:List (ByteArray×Val)} {a:ByteArray} {v:Val} (h:∀ e ∈ l,VX e.2) (hv:VX v):∀ e ∈ dset l a v,VX e.2:=by
 intro e he
 unfold dset at he
 split at he
 ·obtain ⟨e',he',rfl⟩:=List.mem_map.1 he
  split
  ·exact hv
  ·exact h e' he'
 ·rcases List.mem_append.1 he with h1 | h1
  ·exact h e h1
  ·have:e=(a,v):=by simpa using h1
   rw [this];exact hv
theorem dget_ok {l:List (ByteArray×Val)} (h:∀ e ∈ l,VX e.2) (a:ByteArray):VX ((dget l a).getD .none):=by
 have hn:VX .none:=⟨⟨by simp [elemsOf],by simp [elemsOf],by simp [isStr]⟩,fun t e=>by cases e⟩
 unfold dget
 rcases hq:l.find? (fun e=>e.1 == a) with _ | e
 ·rw [hq];exact hn
 ·rw [hq];exact h e (List.mem_of_find?_eq_some hq)
theorem vget_tx {v:Val} (h:VO v) (a:ByteArray):txOk (vget v a):=by
 cases v
 case dict l=>exact (dget_ok h a).2
 all_goals exact fun t e=>by cases e
theorem vget_ok {v:Val} (h:VO v) (a:ByteArray):valOk (vget v a):=by
 cases v
 case dict l=>exact (dget_ok h a).1
 all_goals exact ⟨by simp [vget,elemsOf],by simp [vget,elemsOf],by simp [vget,isStr]⟩
theorem read_ok (he:E.e≤9000) (hf:E.f.size≤9000) (hef:E.e≤E.f.size):∀ n,(∀ s v s',valueM E n s=.ok v s'→s.k≤E.e→s'.k≤E.e∧VO v) ∧
  (∀ l s l' s',elemsM E n l s=.ok l' s'→s.k≤E.e→l.length≤s.k→(∀ e ∈ l,isNum e=true→leafOk e)→s'.k≤E.e∧l'.length≤s'.k∧∀ e ∈ l',isNum e=true→leafOk e) ∧
  (∀ l s l' s',keysM E n l s=.ok l' s'→s.k≤E.e→(∀ e ∈ l,VX e.2)→s'.k≤E.e∧∀ e ∈ l',VX e.2)
 | 0=>⟨(by intro s v s' h;rw [valueM] at h;cases h),(by intro l s l' s' h;rw [elemsM] at h;cases h),(by intro l s l' s' h;rw [keysM] at h;cases h)⟩
 | n+1=>by
  obtain ⟨ihv,ihe,ihk⟩:=read_ok he hf hef n
  refine ⟨fun s v s' h hk=>?_,fun l s l' s' h hk hl hL=>?_,fun l s l' s' h hk hL=>?_⟩
  ·rw [valueM] at h
   obtain ⟨x,s1,h1,h⟩:=then_inv h
   have hk1:=Kb.next s x s1 h1 hk
   split at h
   ·exact ⟨((Kb.word _).then fun _=>Kb.ret _) _ _ _ h hk1,by obtain ⟨_,_,_,h⟩:=then_inv h;rw [(ret_inv h).1];trivial⟩
   split at h
   ·exact ⟨((Kb.word _).then fun _=>Kb.ret _) _ _ _ h hk1,by obtain ⟨_,_,_,h⟩:=then_inv h;rw [(ret_inv h).1];trivial⟩
   split at h
   ·exact ⟨((Kb.word _).then fun _=>Kb.ret _) _ _ _ h hk1,by obtain ⟨_,_,_,h⟩:=then_inv h;rw [(ret_inv h).1];trivial⟩
   split at h
   ·exact ⟨(Kb.text.then fun _=>Kb.ret _) _ _ _ h hk1,by
     obtain ⟨t,_,ht,h⟩:=then_inv h
     rw [(ret_inv h).1]
     have:=text_ok ht
     exact ⟨by show t.size≤90000;omega,text_tx hef ht hk1⟩⟩
   split at h
   ·exact ⟨(Kb.name.then fun _=>Kb.ret _) _ _ _ h hk1,by obtain ⟨_,_,_,h⟩:=then_inv h;rw [(ret_inv h).1];trivial⟩
   split at h
   ·exact ⟨((Kb.word _).then fun _=>(Kb.whole _).then fun _=>Kb.ret _) _ _ _ h hk1,by obtain ⟨_,_,_,h⟩:=then_inv h;obtain ⟨_,_,_,h⟩:=then_inv h;rw [(ret_inv h).1];trivial⟩
   split at h
   ·obtain ⟨_,s2,h2,h⟩:=then_inv h
    have e2:s2.k=s1.k:=by unfold enterM at h2;cases h2;rfl
    obtain ⟨_,s3,h3,h⟩:=then_inv h
    have hk3:=Kb.word _ _ _ _ h3 (by omega)
    obtain ⟨l,s4,h4,h⟩:=then_inv h
    obtain ⟨hk4,hl4,hL4⟩:=ihe [] s3 l s4 h4 hk3 (Nat.zero_le _) (by simp)
    obtain ⟨_,s5,h5,h⟩:=then_inv h
    have hk5:=Kb.word _ _ _ _ h5 hk4
    obtain ⟨_,s6,h6,h⟩:=then_inv h
    have e6:s6.k=s5.k:=by unfold leaveM at h6;cases h6;rfl
    obtain ⟨rfl,rfl⟩:=ret_inv h
    exact ⟨by omega,by omega,hL4⟩
   split at h
   ·obtain ⟨_,s2,h2,h⟩:=then_inv h
    have e2:s2.k=s1.k:=by unfold enterM at h2;cases h2;rfl
    obtain ⟨_,s3,h3,h⟩:=then_inv h
    have hk3:=Kb.word _ _ _ _ h3 (by omega)
    obtain ⟨l,s4,h4,h⟩:=then_inv h
    obtain ⟨hk4,hL4⟩:=ihk [] s3 l s4 h4 hk3 (by simp)
    obtain ⟨_,s5,h5,h⟩:=then_inv h
    have hk5:=Kb.word _ _ _ _ h5 hk4
    obtain ⟨_,s6,h6,h⟩:=then_inv h
    have e6:s6.k=s5.k:=by unfold leaveM at h6;cases h6;rfl
    obtain ⟨rfl,rfl⟩:=ret_inv h
    exact ⟨by omega,hL4⟩
   ·exact ⟨(Kb.num.then fun _=>Kb.ret _) _ _ _ h hk1,by
     obtain ⟨y,_,hy,h⟩:=then_inv h
     rw [(ret_inv h).1]
     exact num_ok hy⟩
  ·rw [elemsM] at h
   obtain ⟨x,s1,h1,h⟩:=then_inv h
   have hk1:=Kb.next s x s1 h1 hk
   have hm1:=(nextM_inv h1).1
   split at h
   ·obtain ⟨rfl,rfl⟩:=ret_inv h
    exact ⟨hk1,by omega,hL⟩
   ·obtain ⟨v,s2,h2,h⟩:=then_inv h
    obtain ⟨hk2,hv⟩:=ihv _ _ _ h2 hk1
    have hm2:=((val_mo n).1 _ _ _ h2).1
    refine ihe _ _ _ _ h hk2 (by rw [List.length_append];simp;omega) (fun e he' hn=>?_)
    rcases List.mem_append.1 he' with h5 | h5
    ·exact hL e h5 hn
    ·have:e=v:=by simpa using h5
     rw [this] at hn ⊢
     exact hv.num hn
  ·rw [keysM] at h
   obtain ⟨x,s1,h1,h⟩:=then_inv h
   have hk1:=Kb.next s x s1 h1 hk
   split at h
   ·obtain ⟨rfl,rfl⟩:=ret_inv h
    exact ⟨hk1,hL⟩
   ·obtain ⟨p,s2,h2,g2⟩:=then_inv h
    have e2:=(at_inv h2).2
    obtain ⟨a,s3,h3,g3⟩:=then_inv g2
    have hk3:=Kb.name _ _ _ h3 (by rw [e2];exact hk1)
    obtain ⟨_,s4,h4,g4⟩:=then_inv g3
    have e4:s4.k=s3.k:=by unfold twiceM at h4;cases h4;rfl
    obtain ⟨v,s5,h5,g5⟩:=then_inv g4
    obtain ⟨hk5,hv⟩:=ihv _ _ _ h5 (by omega)
    exact ihk _ _ _ _ g5 hk5 (dset_ok hL hv.x)
theorem object_ok (he:E.e≤9000) (hf:E.f.size≤9000) (hef:E.e≤E.f.size) {num:Nat} {o:Obj1} {s s':St} (h:objectM E num s=.ok o s') (hk:s.k≤E.e):VO o.v:=by
 unfold objectM at h
 obtain ⟨_,s1,h1,k1⟩:=then_inv h
 have e1:=(at_inv h1).2
 obtain ⟨_,s2,h2,k2⟩:=then_inv k1
 have q2:=Kb.word _ _ _ _ h2 (by rw [e1];exact hk)
 obtain ⟨_,s3,h3,k3⟩:=then_inv k2
 have e3:s3.k=s2.k:=by rw [(peek_inv h3).1]
 obtain ⟨_,s4,h4,k4⟩:=then_inv k3
 have e4:=(need_inv h4).1
 obtain ⟨v,s5,h5,k5⟩:=then_inv k4
 have hv:=((read_ok he hf hef 18010).1 _ _ _ h5 (by rw [e4,e3];exact q2)).2
 obtain ⟨y,s6,_,k6⟩:=then_inv k5
 obtain ⟨hs,s7,_,k7⟩:=then_inv k6
 obtain ⟨_,s8,_,k8⟩:=then_inv k7
 obtain ⟨_,s9,_,k9⟩:=then_inv k8
 obtain ⟨_,s10,_,k10⟩:=then_inv k9
 obtain ⟨e,_⟩:=ret_inv k10
 rw [e]
 exact hv
theorem objR_ok {f:ByteArray} {at_ place num b b':Nat} {o:Obj1} (hf:f.size≤9000) (ha:at_≤f.size) (h:objR f at_ place num b=.ok o b'):VO o.v:=by
 unfold objR at h
 split at h
 ·cases h;trivial
 ·split at h
  ·cases h
  ·rename_i hp
   rcases hq:objectM (objEnv f at_) num ⟨b,place,0,0,0⟩ with ⟨o',s1⟩ | y
   ·rw [hq] at h
    simp only [objFin] at h
    split at h
    ·cases h
    ·split at h
     ·cases h
     ·cases h
      exact object_ok (E:=objEnv f at_) (by show at_≤9000;omega) hf ha hq (by show place≤at_;omega)
   ·rw [hq] at h;cases h
theorem objsR_ok {f:ByteArray} {at_:Nat} (hf:f.size≤9000) (ha:at_≤f.size):∀ (ps:List Nat) {num b b':Nat} {l:List Obj1},objsR f at_ ps num b=.ok l b'→l.length=ps.length∧∀ o ∈ l,VO o.v∧o.stream.size≤9000
 | [],_,_,_,_,h=>by simp only [objsR,Res.ok.injEq] at h;rw [← h.1];simp
 | p::ps,num,b,b',l,h=>by
  rcases hq:objR f at_ p num b with ⟨o,b1⟩ | y
  ·rw [objsR_cons_ok hq] at h
   rcases hq2:objsR f at_ ps (num+1) b1 with ⟨l',b2⟩ | y
   ·rw [hq2] at h
    simp only [Res.ok.injEq] at h
    obtain ⟨h1,h2⟩:=objsR_ok hf ha ps hq2
    rw [← h.1]
    refine ⟨by simp [h1],fun o' ho'=>?_⟩
    rcases List.mem_cons.1 ho' with rfl | h3
    ·exact ⟨objR_ok hf ha hq,Nat.le_trans (objR_inv hq) hf⟩
    ·exact h2 o' h3
   ·rw [hq2] at h;cases h
  ·rw [objsR_cons_no hq] at h;cases h
theorem unpS_v {U:ByteArray→Nat→Nat→Res ByteArray} (hU:∀ s n b r b',U s n b=.ok r b'→r.size≤9000) {o o':Obj1} {k b b':Nat} (h:unpS U o k b=.ok o' b'):o'.v=o.v∧(o.stream.size≤9000→o'.stream.size≤9000):=by
 unfold unpS at h
 split at h
 ·rcases hq:U o.stream k b with ⟨t,b1⟩ | y
  ·rw [hq] at h
   cases h
   exact ⟨rfl,fun _=>hU _ _ _ _ _ hq⟩
  ·rw [hq] at h;cases h
 ·cases h;exact ⟨rfl,id⟩
theorem unpL_v {U:ByteArray→Nat→Nat→Res ByteArray} (hU:∀ s n b r b',U s n b=.ok r b'→r.size≤9000):∀ (l:List Obj1) {k b b':Nat} {l':List Obj1},unpL U l k b=.ok l' b'→l'.length=l.length∧((∀ o ∈ l,VO o.v∧o.stream.size≤9000)→∀ o ∈ l',VO o.v∧o.stream.size≤9000)
 | [],_,_,_,_,h=>by simp only [unpL,Res.ok.injEq] at h;rw [← h.1];simp
 | o::l,k,b,b',l',h=>by
  simp only [unpL] at h
  rcases hq:unpS U o k b with ⟨o2,b1⟩ | y
  ·rw [hq] at h
   simp only at h
   rcases hq2:unpL U l (k+1) b1 with ⟨l2,b2⟩ | y
   ·rw [hq2] at h
    simp only [Res.ok.injEq] at h
    obtain ⟨h1,h2⟩:=unpL_v hU l hq2
    rw [← h.1]
    refine ⟨by simp [h1],fun hv o' ho'=>?_⟩
    rcases List.mem_cons.1 ho' with rfl | h3
    ·have hv1:=hv o (by simp)
     have hs1:=unpS_v hU hq
     exact ⟨by rw [hs1.1];exact hv1.1,hs1.2 hv1.2⟩
    ·exact h2 (fun u hu=>hv u (by simp [hu])) o' h3
   ·rw [hq2] at h;cases h
  ·rw [hq] at h;cases h
theorem docR_ok {U:ByteArray→Nat→Nat→Res ByteArray} (hU:∀ s n b r b',U s n b=.ok r b'→r.size≤9000) {f:ByteArray} {b b' at_ root:Nat} {pl:List Nat} {os:List Obj1} (h:docR U f b=.ok (at_,pl,root,os) b'):os.length≤31∧root < os.length∧tnameAt os root=rootB∧∀ o ∈ os,VO o.v∧o.stream.size≤9000:=by
 unfold docR at h
 split at h
 ·cases h
 split at h
 ·cases h
 rename_i hf _
 rcases hq:tabR f b with ⟨⟨a,l,r⟩,b1⟩ | y
 ·rw [hq] at h
  simp only at h
  obtain ⟨t1,t2,t3,_,t5,t6⟩:=tabR_inv hq
  rcases hq2:objsR f a l 1 b1 with ⟨l2,b2⟩ | y
  ·rw [hq2] at h
   simp only at h
   obtain ⟨o1,o2⟩:=objsR_ok (by omega) t1 l hq2
   rcases hq3:overR ({}::l2) b2 with ⟨_,b3⟩ | y
   ·rw [hq3] at h
    simp only at h
    rcases hq4:unpL U ({}::l2) 0 b3 with ⟨os',b4⟩ | y
    ·rw [hq4] at h
     simp only at h
     obtain ⟨u1,u2⟩:=unpL_v hU _ hq4
     split at h
     ·rename_i ht
      simp only [Res.ok.injEq,Prod.mk.injEq] at h
      obtain ⟨⟨rfl,rfl,rfl,rfl⟩,_⟩:=h
      rw [List.length_cons] at u1
      refine ⟨by omega,by omega,by haveI:=lawfulB;exact eq_of_beq ht,u2 (fun o ho=>?_)⟩
      rcases List.mem_cons.1 ho with rfl | h3
      ·exact ⟨trivial,Nat.zero_le _⟩
      ·exact o2 o h3
     ·cases h
    ·rw [hq4] at h;cases h
   ·rw [hq3] at h;cases h
  ·rw [hq2] at h;cases h
 ·rw [hq] at h;cases h
end Go.Proofs.YtgffljllfenhkaaGreatDoor
end
section
namespace Go.Proofs.YtgffljllfenhkaaGreatDoor
def roundPostP (P:Program) (l:Nat) (R:Ending→World→Prop):Exit→Act→World→Prop
 | .normal,_,w=>∃ v w',(Instr.endRound l none).run P w=.ok v w'∧R (.returned v) w'
 | .panic chain,a,w=>a.defers=[]∧R (.panicked chain) w
 | _,_,_=>False
theorem roundIn_panics {P:Program} {n l:Nat} {f:FuncId} {fn:Func} {tmps:Array Value} {assign body:Code} {w:World} {R:Ending→World→Prop} (hf:P.funcs[f]?=some fn)
  (h:assign.wpIn (Fence.wide.inRound l) n P (Exit.then (fun a₁ w₁=>∃ w₂,(Instr.beginRound l).run P w₁=.ok () w₂∧body.wpIn (Fence.wide.inRound l) n P (roundPostP P l R) a₁ w₂) (fun _ _ _=>False))
   { tmps:=tmps,defers:=[] } w) :
  RoundIn Fence.wide n P l f tmps assign body w R:=by
 refine ⟨trivial,fun c cs hr=>?_⟩
 let b:Frame:={ (default:Frame) with fn:=f,kind:=.normal,roundOf:=some l }
 have hb0:Frame.round l f tmps assign body .normal=b.atR { tmps:=tmps,defers:=[] } [.code assign,.beginRound,.code body]:=by
  simp [Frame.round,Frame.atR,b]
 have hr':(Fence.wide.inRound l).room ((c::cs).length+1+n):=hr
 have hF':(Fence.wide.inRound l).fn b.fn:=trivial
 obtain ⟨e,a₁,w₁,hq,harr⟩:=h b [.beginRound,.code body] (c::cs) rfl hF' hr'
 rw [← hb0] at harr
 cases e with
 | normal=>
  obtain ⟨w₂,hbr,hbody⟩:=hq
  have s1:StepsIn (Machine.fenced P (Fence.wide.inRound l)) P (lone (b.atR a₁ [.beginRound,.code body]) (c::cs) w₁) (lone (b.atR a₁ [.code body]) (c::cs) w₂):=
   .one (fenced_calm (fr:=b.atR a₁ [.beginRound,.code body]) hF' hr' rfl) (stepR_beginRound rfl hbr)
  obtain ⟨e₂,a₂,w₃,hq₂,harr₂⟩:=hbody b [] (c::cs) rfl hF' hr'
  cases e₂ with
  | normal=>
   obtain ⟨v,w₄,hend,hR⟩:=hq₂
   exact ⟨.returned v,w₄,hR,(StepsIn.trans harr s1).trans (StepsIn.trans harr₂ (.one (fenced_calm (fr:=b.atR a₂ []) hF' hr' rfl) (stepR_round_end rfl rfl hend)))⟩
  | panic chain=>
   obtain ⟨hd,hR⟩:=hq₂
   obtain ⟨todo,hs⟩:=harr₂
   have hl:Frame.leaving P { b.atR a₂ todo with mode:=.panicking chain } w₃ (.panicked chain):=⟨rfl,hd,fn,hf⟩
   refine ⟨.panicked chain,w₃,hR,(StepsIn.trans harr s1).trans (StepsIn.trans hs (.one (fenced_leaving (F:=Fence.wide) (n:=n) trivial (by exact hr) hl) (step_leave_panicked hl)))⟩
  | ret=>exact hq₂.elim
  | exit id=>exact hq₂.elim
  | goto t=>exact hq₂.elim
  | outgrown=>exact hq₂.elim
 | exit id=>exact hq.elim
 | goto t=>exact hq.elim
 | ret=>exact hq.elim
 | panic chain=>exact hq.elim
 | outgrown=>exact hq.elim
def wpF (f:FuncId) (P:Program) (c:Code) (Q:Exit→Act→World→Prop) (a:Act) (w:World):Prop:=
 ∀ (b:Frame) (k:List Item) (cs:List Frame),b.roundOf=none→b.fn=f →
  ∃ e a' w',Q e a' w'∧ArrivesIn (Machine.fenced P Fence.wide) P (lone (b.atR a (.code c::k)) cs w) b k cs e a' w'
section
variable {f:FuncId} {P:Program} {Q Q':Exit→Act→World→Prop} {a:Act} {w:World} {n:Nat}
theorem wpF_of {c:Code} (h:c.wpIn Fence.wide n P Q a w):wpF f P c Q a w:=
 fun b k cs hro _=>h b k cs hro trivial (room_wide _)
theorem wpF_seq {x y:Code} (h:wpF f P x (Exit.then (wpF f P y Q) Q) a w):wpF f P (Code.seq x y) Q a w:=by
 intro b k cs hro hb
 have h0:(lone (b.atR a (.code (.seq x y)::k)) cs w).fenced P Fence.wide:=fenced_wide _ _
 obtain ⟨e,a₁,w₁,hq,harr⟩:=h b (.code y::k) cs hro hb
 cases e with
 | normal=>
  obtain ⟨e₂,a₂,w₂,hq₂,harr₂⟩:=hq b k cs hro hb
  exact ⟨e₂,a₂,w₂,hq₂,.of_steps (.head h0 stepR_seq harr) harr₂⟩
 | exit id=>exact ⟨_,a₁,w₁,hq,.of_steps (.one h0 stepR_seq) (.pass (x:=.code y) rfl (fun _ _=>.inl (by simp)) harr)⟩
 | goto l=>exact ⟨_,a₁,w₁,hq,.of_steps (.one h0 stepR_seq) (.pass (x:=.code y) rfl (fun _ _=>.inl (by simp)) harr)⟩
 | ret=>exact ⟨_,a₁,w₁,hq,.of_steps (.one h0 stepR_seq) (.pass (x:=.code y) rfl (fun _ _=>.inl (by simp)) harr)⟩
 | panic ch=>exact ⟨_,a₁,w₁,hq,.of_steps (.one h0 stepR_seq) (.pass (x:=.code y) rfl (fun _ _=>.inl (by simp)) harr)⟩
 | outgrown=>exact ⟨_,a₁,w₁,hq,.of_steps (.one h0 stepR_seq) (.pass (x:=.code y) rfl (fun _ _=>.inl (by simp)) harr)⟩
def rangePostF (P:Program) (l:Nat) (Q:Exit→Act→World→Prop) (a':Act):Ending→World→Prop
 | .returned _,w₃=>∃ w₄,(Instr.endLoop l).run P w₃=.ok none w₄∧Q .normal a' w₄
 | .panicked chain,w₃=>Q (.panic chain) a' w₃
 | .outgrown,_=>False
theorem wpF_range {g:Operand} {ps:Array Tmp} {assign body:Code}
  {l:Nat} {mark:List Deferred} {w₁:World} {d:Deferred} {w₁':World} {f':FuncId} {args:Array Value} {w₂:World}
  (he:(Instr.enterLoop f a.tmps ps assign body none).run P w=.ok (l,mark) w₁)
  (hres:(resolve a.eval (rangeCall g l) 0).run P w₁=.ok d w₁')
  (hinv:(invoke d.target d.args).run P w₁'=.ok (.enter f' args) w₂)
  (hcall:CallsIn Fence.wide n P f' args w₂ (rangePostF P l Q { a with defers:=mark++a.defers })) :
  wpF f P (Code.rangeFunc g ps assign body) Q a w:=by
 intro b k cs hro hb
 subst hb
 have h0:(lone (b.atR a (.code (.rangeFunc g ps assign body)::k)) cs w).fenced P Fence.wide:=fenced_wide _ _
 rw [← hro] at he
 have henter:=stepR_rangeFunc (P:=P) (b:=b) (a:=a) (k:=k) (cs:=cs) (w:=w) he hres hinv
 obtain ⟨e,w₃,fr,hR,hsteps,hfn,hleave⟩:=hcall.2 (b.atR { a with defers:=mark++a.defers } (.inRangeFunc l::k)::cs) (room_wide _)
 cases e with
 | outgrown=>exact hR.elim
 | returned v=>
  obtain ⟨w₄,hend,hj⟩:=hR
  refine ⟨.normal,_,w₄,hj,.head h0 henter (StepsIn.trans hsteps (.head (fenced_wide _ _) ?_ (.one (fenced_wide _ _) (stepR_endRangeFunc hend))))⟩
  rw [← finish_atR_inRangeFunc l v];exact step_leave_returned hleave
 | panicked chain=>
  refine ⟨.panic chain,_,w₃,hR,.inRangeFunc l::k,.head h0 henter (StepsIn.trans hsteps (.one (fenced_wide _ _) ?_))⟩
  rw [← Frame.raise_atR];exact step_leave_panicked hleave
theorem callsIn_of_wpF {fn:Func} {c:Code} {args:Array Value} {R:Ending→World→Prop}
  (hf:P.funcs[f]?=some fn) (hb:fn.body=some c)
  (h:wpF f P c (bodyPostM Fence.wide n P fn R) { tmps:=args++Array.replicate (fn.ntmps - args.size) undef,defers:=[] } w):CallsIn Fence.wide n P f args w R:=by
 refine ⟨trivial,fun cs hr=>?_⟩
 let b:Frame:={ (default:Frame) with fn:=f,kind:=.normal,roundOf:=none }
 have henter:Frame.enter P f args .normal =
   b.atR { tmps:=args++Array.replicate (fn.ntmps - args.size) undef,defers:=[] } [.code c]:=by
  simp [Frame.enter,Frame.atR,hf,hb,b]
 obtain ⟨e,a',w',hq,harr⟩:=h b [] cs rfl rfl
 rw [← henter] at harr
 cases e with
 | normal=>
  obtain ⟨e',w'',fr',hR,hs,hfn,hl⟩:=leaves_stepsInM a'.defers .returning w' { b.atR a' [] with mode:=.returning } cs rfl rfl rfl hf rfl trivial hr hq
  exact ⟨e',w'',fr',hR,ComesIn.of_steps (StepsIn.trans harr (.one (fenced_calm (F:=Fence.wide) (fr:=b.atR a' []) trivial hr rfl) (stepR_end rfl))) hs,hfn,hl⟩
 | ret=>
  obtain ⟨todo,hs₀⟩:=harr.1 rfl
  obtain ⟨e',w'',fr',hR,hs,hfn,hl⟩:=leaves_stepsInM a'.defers .returning w' { b.atR a' todo with mode:=.returning } cs rfl rfl rfl hf rfl trivial hr hq
  exact ⟨e',w'',fr',hR,ComesIn.of_steps hs₀ hs,hfn,hl⟩
 | panic chain=>
  obtain ⟨todo,hs₀⟩:=harr
  obtain ⟨e',w'',fr',hR,hs,hfn,hl⟩:=leaves_stepsInM a'.defers (.panicking chain) w' { b.atR a' todo with mode:=.panicking chain } cs rfl rfl rfl hf rfl trivial hr hq
  exact ⟨e',w'',fr',hR,ComesIn.of_steps hs₀ hs,hfn,hl⟩
 | exit id=>exact hq.elim
 | goto l=>exact hq.elim
 | outgrown=>exact ⟨.outgrown,w',b,hq,harr.resolve_left (by simp [b]),rfl,trivial⟩
end
end Go.Proofs.YtgffljllfenhkaaGreatDoor
end
