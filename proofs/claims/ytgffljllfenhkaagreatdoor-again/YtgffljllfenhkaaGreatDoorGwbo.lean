import Derived.Test.YtgffljllfenhkaaGreatDoorGwbm
namespace Go.Proofs.YtgffljllfenhkaaGreatDoor
section
variable {E:Env}{α β:Type}{m:Rdr α}{f:α->Rdr β}{o o1 o2 k:Nat}{l l1 l2:List UInt8}
def Vw (E:Env) (k:Nat) (l:List UInt8):Prop:=k+l.length=E.e/\∃ r,E.f.data.toList.drop k=l++r
theorem Vw.tl {a:List UInt8}(h:Vw E k (a++l)):Vw E (k+a.length) l:=by
 obtain⟨h1,r,h2⟩:=h;rw[List.length_append] at h1;refine⟨by omega,r,?_⟩;rw[← List.drop_drop,h2,List.append_assoc,List.drop_left]
theorem Vw.bt {c:UInt8}(h:Vw E k (c::l)):bt E.f k=c.toNat:=by
 obtain⟨_,r,h2⟩:=h;unfold YtgffljllfenhkaaGreatDoor.bt;have h3:(E.f.data.toList.drop k)[0]?=some c:=by rw[h2];rfl
 rw[List.getElem?_drop,Nat.add_zero] at h3;rw[List.getD_eq_getElem?_getD,h3];rfl
theorem Vw.ext {a:List UInt8}(h:Vw E k (a++l)):E.f.extract k (k+a.length)=bstr a:=by
 obtain⟨_,r,h2⟩:=h
 have h3:(E.f.extract k (k+a.length)).data.toList=a:=by
  rw[ByteArray.data_extract,Array.toList_extract];simp only[List.extract_eq_take_drop];rw[h2,show k+a.length-k=a.length by omega,List.append_assoc,List.take_left]
 cases hx:E.f.extract k (k+a.length) with
 | mk d=>
  rw[hx] at h3;have h4:d.toList=a:=h3;unfold bstr;rw[← h4]
def Gets (m:Rdr α) (k o:Nat) (a:α) (k' o':Nat):Prop:=∀ b,(∃ b',m ⟨b,k,o,0,0⟩=.ok a ⟨b',k',o',0,0⟩)\/m ⟨b,k,o,0,0⟩=.no (12,0)
def Rd (E:Env) (m:Rdr α) (l:List UInt8) (o:Nat) (a:α) (l':List UInt8) (o':Nat):Prop:=∀ k,Vw E k l->∃ k',Vw E k' l'/\Gets m k o a k' o'
theorem Rd.then {a:α}{c:β}(h:Rd E m l o a l1 o1) (g:Rd E (f a) l1 o1 c l2 o2):Rd E (m.then f) l o c l2 o2:=fun k hk=>by
 obtain⟨k1,hk1,h1⟩:=h k hk;obtain⟨k2,hk2,h2⟩:=g k1 hk1;refine⟨k2,hk2,fun b=>?_⟩
 rcases h1 b with⟨b1,e⟩|e
 ·rw[Rdr.then_ok e];exact h2 b1
 ·exact .inr (Rdr.then_no e)
theorem Rd.ret (a:α):Rd E (Rdr.ret a) l o a l o:=fun k hk=>⟨k,hk,fun b=>.inl ⟨b,rfl⟩⟩
theorem Rd.at {f:Nat->Rdr β}{c:β}(h:∀ k,Vw E k l->Rd E (f k) l o c l2 o2):Rd E (atM.then f) l o c l2 o2:=fun k hk=>h k hk k hk
theorem Rd.adv {c:UInt8}:Rd E advM (c::l) o () l o:=fun k hk=>⟨k+1,hk.tl (a:=[c]),fun b=>.inl ⟨b,rfl⟩⟩
theorem Rd.need {c:Bool}(h:c=true):Rd E (needM E c) l o () l o:=fun k hk=>⟨k,hk,fun b=>.inl ⟨b,by unfold needM;rw[if_pos h]⟩⟩
theorem Rd.peek {c:UInt8}:Rd E (peekM E) (c::l) o c.toNat (c::l) o:=fun k hk=>⟨k,hk,fun b=>by
 unfold peekM
 by_cases hb:b<1
 ·exact .inr (by rw[if_pos hb])
 ·refine .inl ⟨b-1,?_⟩;have h1:=hk.1;rw[List.length_cons] at h1;rw[if_neg hb,if_neg (by show ¬ k=E.e;omega)];show Out.ok (YtgffljllfenhkaaGreatDoor.bt E.f k) _=_
  rw[hk.bt]⟩
theorem Rd.word:∀ (a:List UInt8) {l:List UInt8},Rd E (wordM E (a.map UInt8.toNat)) (a++l) o () l o
 | [],l=>Rd.ret ()
 | c::a,l=>by
  rw[List.map_cons,wordM];exact Rd.peek.then ((Rd.need (by simp)).then (Rd.adv.then (Rd.word a)))
theorem Rd.someL (p:Nat->Bool) {c:UInt8}(hc:p c.toNat=false):∀ (ds:List UInt8) (n:Nat),ds.length<=n->(∀ d ∈ ds,p d.toNat=true)->Rd E (YtgffljllfenhkaaGreatDoor.someL E p n) (ds++c::l) o () (c::l) o
 | [],0,_,_=>Rd.ret ()
 | [],n+1,_,_=>by
  unfold YtgffljllfenhkaaGreatDoor.someL;refine Rd.peek.then ?_;rw[if_neg (by rw[hc];decide)];exact Rd.ret ()
 | d::ds,0,h,_=>by simp at h
 | d::ds,n+1,h,hd=>by
  unfold YtgffljllfenhkaaGreatDoor.someL;refine Rd.peek.then ?_;rw[if_pos (hd d (by simp))];exact Rd.adv.then (Rd.someL p hc ds n (by simpa using h) (fun x hx=>hd x (by simp[hx])))
theorem Rd.some (p:Nat->Bool) {c:UInt8}(hc:p c.toNat=false) {ds:List UInt8}{n:Nat}(h:ds.length<=n) (h0:ds≠[]) (hd:∀ d ∈ ds,p d.toNat=true):Rd E (someM E p n) (ds++c::l) o (bstr ds) (c::l) o:=by
 unfold someM;refine Rd.at fun k hk=>?_
 cases ds with
 | nil=>exact absurd rfl h0
 | cons d ds=>
  refine Rd.peek.then ((Rd.need (hd d (by simp))).then ((Rd.someL p hc (d::ds) n h hd).then (Rd.at fun k2 hk2=>?_)))
  have e:k2=k+(d::ds).length:=by
   have h1:=hk.1;have h2:=hk2.1;rw[List.length_append] at h1;omega
  rw[e,hk.ext];exact Rd.ret _
theorem digP_dig (c:UInt8):digP c.toNat=isDig c:=by unfold digP isDig;simp
theorem vI_take (ds:List UInt8):∀ j,j<=ds.length->vI (bstr ds) 0 j=digV (ds.take j) 0
 | 0,_=>by simp[vI,digV]
 | j+1,h=>by
  have hj:j<ds.length:=by omega
  rw[vI,vI_take ds j (by omega),List.take_add_one,List.getElem?_eq_getElem hj,digV_app]
  have e:bt (bstr ds) (0+j)=ds[j].toNat:=by
   unfold bt bstr;rw[List.getD_eq_getElem?_getD,Nat.zero_add];simp[hj]
  rw[e];rfl
theorem vI_dig (ds:List UInt8):vI (bstr ds) 0 (bstr ds).size=digV ds 0:=by
 have e:(bstr ds).size=ds.length:=by unfold bstr;simp[ByteArray.size]
 rw[e,vI_take ds _ (Nat.le_refl _),List.take_length]
theorem Rd.whole {c:UInt8}(hc:isDig c=false) {ds:List UInt8}{n:Nat}(h:ds.length<=n) (h0:ds≠[]) (hd:∀ d ∈ ds,isDig d=true):Rd E (wholeM E n) (ds++c::l) o (digV ds 0) (c::l) o:=by
 unfold wholeM;refine (Rd.some digP (by rw[digP_dig];exact hc) h h0 (fun d hd'=>by rw[digP_dig];exact hd d hd')).then ?_;rw[vI_dig];exact Rd.ret _
theorem dec_len4 {n:Nat}(h:n<10000):(Lib.decDigits n).length<=4:=by
 rw[decDigits_len];exact nDigits_up 3 n h
theorem Rd.count {c:UInt8}(hc:isDig c=false) {n:Nat}(h:n<10000):Rd E (countM E) ((itoaB n).data.toList++c::l) o n (c::l) o:=by
 rw[itoaB_list];obtain⟨h1,h2,h3⟩:=dec_digs n;unfold countM
 by_cases h0:n=0
 ·have e0:Lib.decDigits n=[48]:=by rw[h0,Lib.decDigits];rfl
  have w:=Rd.whole (E:=E) (l:=l) (o:=o) hc (n:=1) (by rw[e0];decide) h2 h1;rw[h3] at w;rw[e0] at w ⊢;refine Rd.peek.then ?_;rw[if_pos (by decide)];exact w
 ·have w:=Rd.whole (E:=E) (l:=l) (o:=o) hc (n:=4) (dec_len4 h) h2 h1;rw[h3] at w;have hf:=decDigits_first n (by omega);cases hq:Lib.decDigits n with
  | nil=>exact absurd hq h2
  | cons d ds=>
   rw[hq] at w hf;refine Rd.peek.then ?_
   rw[if_neg (by
    intro e;have e':d.toNat=48:=by simpa using e
    exact hf (UInt8.toNat_inj.1 e'))]
   exact w
theorem Rd.line (a:List UInt8) {n least most:Nat}(h1:least<=n) (h2:n<=most) (h:n<10000):Rd E (lineM E (a.map UInt8.toNat) least most) (a++((itoaB n).data.toList++10::l)) o n l o:=by
 unfold lineM;exact (Rd.word a).then ((Rd.count (by decide) h).then ((Rd.need (by simp[h1,h2])).then ((Rd.word [10]).then (Rd.ret _))))
theorem Rd.places:∀ (ps:List Nat) {l:List UInt8},(∀ p ∈ ps,p<10000)->Rd E (placesM E ps.length) (ps.flatMap (fun p=>(itoaB p).data.toList++[10])++l) o ps l o
 | [],l,_=>Rd.ret _
 | p::ps,l,h=>by
  have hp:=h p (by simp);rw[List.length_cons,placesM,List.flatMap_cons];simp only[List.append_assoc,List.cons_append,List.nil_append];exact (Rd.line [] (Nat.zero_le _) (by omega) hp).then ((Rd.places ps (fun q hq=>h q (by simp[hq]))).then (Rd.ret _))
theorem Rd.next {c:UInt8}(hc:blkP c.toNat=false):Rd E (nextM E) (c::l) o c.toNat (c::l) o:=by
 unfold nextM;refine Rd.then (a:=()) (l1:=c::l) (o1:=o) ?_ Rd.peek;rw[blanksM];refine Rd.peek.then ?_;rw[if_neg (by rw[hc];decide)];exact Rd.ret ()
theorem Rd.next1 {c:UInt8}(hc:blkP c.toNat=false):Rd E (nextM E) (32::c::l) o c.toNat (c::l) o:=by
 unfold nextM;refine Rd.then (a:=()) (l1:=c::l) (o1:=o) ?_ Rd.peek;rw[blanksM];refine Rd.peek.then ?_;rw[if_pos (by decide)];refine Rd.adv.then ?_;rw[blanksM];refine Rd.peek.then ?_;rw[if_neg (by rw[hc];decide)];exact Rd.ret ()
theorem not_beq {c:UInt8}(h:c≠40):(!(c.toNat==40))=true:=by
 have:¬ c.toNat=40:=fun e=>h (UInt8.toNat_inj.1 e)
 simp[this]
theorem Rd.textL:∀ (t:List UInt8) (n:Nat),t.length<n->textOk t=true->Rd E (YtgffljllfenhkaaGreatDoor.textL E n) (t++41::l) o () (41::l) o
 | _,0,h,_=>by omega
 | [],n+1,_,_=>by
  unfold YtgffljllfenhkaaGreatDoor.textL;refine Rd.peek.then ?_;rw[if_pos (by decide)];exact Rd.ret ()
 | [c],n+1,h,ht=>by
  obtain⟨h1,h2,h3⟩:=textOk_cons ht
  have h92:c≠92:=by
   rcases h3 with⟨_,d,l',e,_⟩|⟨h,_⟩
   ·cases e
   ·exact h
  unfold YtgffljllfenhkaaGreatDoor.textL;refine Rd.peek.then ?_;rw[if_neg (show ¬ (c.toNat==41)=true from fun e=>h1 (UInt8.toNat_inj.1 (by simpa using e)))];refine Rd.peek.then ((Rd.need (not_beq h2)).then (Rd.peek.then ?_));rw[if_neg (show ¬ (c.toNat==92)=true from fun e=>h92 (UInt8.toNat_inj.1 (by simpa using e)))];exact (Rd.ret ()).then (Rd.adv.then (Rd.textL [] n (by simp at h ⊢;omega) rfl))
 | c::d::t,n+1,h,ht=>by
  obtain⟨h1,h2,h3⟩:=textOk_cons ht;unfold YtgffljllfenhkaaGreatDoor.textL;refine Rd.peek.then ?_;rw[if_neg (show ¬ (c.toNat==41)=true from fun e=>h1 (UInt8.toNat_inj.1 (by simpa using e)))];refine Rd.peek.then ((Rd.need (not_beq h2)).then (Rd.peek.then ?_))
  rcases h3 with⟨rfl,d',t',e,h4⟩|⟨h92,h4⟩
  ·cases e;rw[if_pos (by decide)];exact (Rd.adv.then (Rd.peek.then (Rd.need (textOk_more ht)))).then (Rd.adv.then (Rd.textL t n (by simp at h ⊢;omega) h4))
  ·rw[if_neg (show ¬ (c.toNat==92)=true from fun e=>h92 (UInt8.toNat_inj.1 (by simpa using e)))];exact (Rd.ret ()).then (Rd.adv.then (Rd.textL (d::t) n (by simp at h ⊢;omega) h4))
theorem Rd.text {t:List UInt8}(h:t.length<=9000) (ht:textOk t=true):Rd E (textM E) (40::(t++41::l)) o (bstr t) l o:=by
 unfold textM;refine (Rd.word [40] (l:=t++41::l)).then (Rd.at fun k hk=>((Rd.textL t 9001 (by omega) ht).then ((Rd.word [41]).then (Rd.at fun k2 hk2=>?_))))
 have e:k2-1=k+t.length:=by
  have h1:=hk.1;have h2:=hk2.1;rw[List.length_append,List.length_cons] at h1;omega
 rw[e,hk.ext];exact Rd.ret _
theorem Rd.name {c:UInt8}(hc:letP c.toNat=false) {a:List UInt8}(h:a.length<=8) (h0:a≠[]) (ha:∀ d ∈ a,letP d.toNat=true):Rd E (nameM E) (47::(a++c::l)) o (bstr a) (c::l) o:=by
 unfold nameM;exact (Rd.word [47]).then (Rd.some letP hc h h0 ha)
end
section
variable {E:Env}{o:Nat}{l:List UInt8}
def fracB:Option (List UInt8)->List UInt8
 | none=>[]
 | some t=>46::t
def digs1 (n:Nat) (t:List UInt8):Prop:=t.length<=n/\t≠[]/\∀ d ∈ t,isDig d=true
theorem bstr_app (a c:List UInt8):bstr a++bstr c=bstr (a++c):=by
 unfold bstr;apply ByteArray.ext;simp
theorem bstr_size (a:List UInt8):(bstr a).size=a.length:=by unfold bstr;simp[ByteArray.size]
theorem rd_num {neg:Bool}{ti:List UInt8}{tf:Option (List UInt8)}(h1:digs1 6 ti) (h2:∀ t,tf=some t->digs1 3 t) {c:UInt8}(hc:isDig c=false) (hc2:c≠46) :
  Rd E (numM E) ((if neg then [45] else [])++(ti++(fracB tf++c::l))) o (neg,digV (ti++tf.getD []) 0,(tf.getD []).length) (c::l) o:=by
 have hdg:∀ {t:List UInt8},(∀ d ∈ t,isDig d=true)->∀ d ∈ t,digP d.toNat=true:=fun h d hd=>by rw[digP_dig];exact h d hd
 have rest:∀ x:Bool,Rd E ((someM E digP 6).then fun ti=>(peekM E).then fun y=>if y==46 then advM.then fun _=>(someM E digP 3).then fun tf=>Rdr.ret (x,vI (ti++tf) 0 (ti.size+tf.size),tf.size) else Rdr.ret (x,vI ti 0 ti.size,0)) (ti++(fracB tf++c::l)) o (x,digV (ti++tf.getD []) 0,(tf.getD []).length) (c::l) o:=by
  intro x;cases tf with
  | none=>
   refine (Rd.some digP (by rw[digP_dig];exact hc) h1.1 h1.2.1 (hdg h1.2.2)).then (Rd.peek.then ?_);rw[if_neg (show ¬ (c.toNat==46)=true from fun e=>hc2 (UInt8.toNat_inj.1 (by simpa using e))),vI_dig];simpa using Rd.ret _
  | some t=>
   obtain⟨t1,t2,t3⟩:=h2 t rfl;refine (Rd.some digP (c:=46) (l:=t++c::l) (by decide) h1.1 h1.2.1 (hdg h1.2.2)).then (Rd.peek.then ?_);rw[if_pos (by decide)];refine Rd.adv.then ((Rd.some digP (by rw[digP_dig];exact hc) t1 t2 (hdg t3)).then ?_);rw[bstr_size,bstr_size,bstr_app,← List.length_append,← bstr_size,vI_dig];exact Rd.ret _
 unfold numM;cases neg
 ·cases ti with
  | nil=>exact absurd rfl h1.2.1
  | cons d ti=>
   refine Rd.peek.then ?_
   have hd:(d.toNat==45)=false:=by
    have:=h1.2.2 d (by simp);have:=of_decide_eq_true this;simp;omega
   rw[hd,if_neg (by decide)];exact (Rd.ret ()).then (rest false)
 ·refine Rd.peek.then ?_;rw[if_pos (by decide)];exact Rd.adv.then (rest true)
theorem dec_of:∀ (n:Nat) (ds:List UInt8),ds.length=n->ds≠[]->(∀ d ∈ ds,isDig d=true)->¬ ds.getD 0 0=48->Lib.decDigits (digV ds 0)=ds
 | 0,ds,hl,h0,_,_=>absurd (List.length_eq_zero_iff.1 hl) h0
 | n+1,ds,hl,h0,hd,hf=>by
  rcases List.eq_nil_or_concat ds with e|⟨a,c,e⟩
  ·exact absurd e h0
  ·rw[List.concat_eq_append] at e;subst e;have hc:=of_decide_eq_true (hd c (by simp))
   have hcc:UInt8.ofNat (48+(c.toNat-48))=c:=by
    rw[show 48+(c.toNat-48)=c.toNat by omega];simp
   by_cases ha:a=[]
   ·subst ha;rw[List.nil_append,digV,digV,Lib.decDigits,dif_pos (by omega),show 10*0+(c.toNat-48)=c.toNat-48 by omega,hcc]
   ·have hla:a.length=n:=by simpa using hl
    have hfa:¬ a.getD 0 0=48:=by
     intro e;apply hf;have:0<a.length:=List.length_pos_iff.2 ha;rw[List.getD_eq_getElem?_getD,List.getElem?_append_left this,← List.getD_eq_getElem?_getD];exact e
    have ih:=dec_of n a hla ha (fun d h=>hd d (by simp[h])) hfa
    have h1:1<=digV a 0:=by
     rcases Nat.eq_zero_or_pos (digV a 0) with e|e
     ·rw[e] at ih;have:a=[48]:=by rw[← ih,Lib.decDigits];rfl
      rw[this] at hfa;exact absurd rfl hfa
     ·exact e
    rw[digV_app,digV,digV,Lib.decDigits,dif_neg (by omega),show (10*digV a 0+(c.toNat-48))/10=digV a 0 by omega,show (10*digV a 0+(c.toNat-48))%10=c.toNat-48 by omega,hcc,ih]
theorem digV_zeros:∀ (j:Nat) (t:List UInt8),digV (List.replicate j 48++t) 0=digV t 0
 | 0,t=>by simp
 | j+1,t=>by
  rw[List.replicate_succ,List.cons_append,digV];exact digV_zeros j t
theorem sl_last (l:List UInt8):∀ n,1<=sl l n->¬ l.getD (sl l n-1) 0=48
 | 0,h=>by simp[sl] at h
 | n+1,h=>by
  by_cases e:l.getD n 0=48
  ·rw[sl_hit e] at h ⊢;exact sl_last l n h
  ·rw[sl_miss e];exact e
theorem sl_zeros {t:List UInt8}(h:¬ t.getD (t.length-1) 0=48) (h0:t≠[]):∀ j,sl (t++List.replicate j 48) (t.length+j)=t.length
 | 0=>by
  have hp:0<t.length:=List.length_pos_iff.2 h0;simp only[List.replicate_zero,List.append_nil,Nat.add_zero];obtain⟨q,hq⟩:∃ q,t.length=q+1:=⟨t.length-1,by omega⟩;rw[hq] at h ⊢;exact sl_miss (by simpa using h)
 | j+1=>by
  rw[← Nat.add_assoc,sl_hit (by
   rw[List.getD_eq_getElem?_getD,List.getElem?_append_right (by omega),List.getElem?_replicate,if_pos (by omega)];rfl)]
  have e:t++List.replicate (j+1) 48=(t++List.replicate j 48)++[48]:=by
   rw[List.replicate_succ',List.append_assoc]
  rw[e,sl_app _ _ _ (by simp)];exact sl_zeros h h0 j
theorem numT_of (neg:Bool) {t:List UInt8}(h0:t≠[]) (hd:∀ d ∈ t,isDig d=true) (hf:¬ t.getD 0 0=48) (hl:¬ t.getD (t.length-1) 0=48) (j:Nat) (dp:Int) :
  numT neg (digV (t++List.replicate j 48) 0) dp=textF neg t dp/\Lib.nDigits (digV (t++List.replicate j 48) 0)=t.length+j/\digV (t++List.replicate j 48) 0≠0:=by
 have hp:0<t.length:=List.length_pos_iff.2 h0
 have e:=dec_of _ (t++List.replicate j 48) rfl (by simp[h0]) (fun d h=>by
  rcases List.mem_append.1 h with h|h
  ·exact hd d h
  ·rw[(List.mem_replicate.1 h).2];decide) (by
  rw[List.getD_eq_getElem?_getD,List.getElem?_append_left hp,← List.getD_eq_getElem?_getD]
  exact hf)
 have hn:Lib.nDigits (digV (t++List.replicate j 48) 0)=t.length+j:=by rw[← decDigits_len,e];simp
 refine⟨?_,hn,fun e0=>?_⟩
 ·unfold numT;rw[hn,e,sl_zeros hl h0,List.take_left]
 ·rw[e0] at e;have e1:Lib.decDigits 0=[48]:=by rw[Lib.decDigits];rfl
  have h2:(t++List.replicate j 48).getD 0 0=48:=by rw[← e,e1];rfl
  apply hf;rw[List.getD_eq_getElem?_getD,List.getElem?_append_left hp,← List.getD_eq_getElem?_getD] at h2;exact h2
theorem nt_back (neg:Bool) (m k:Nat) (h:leafOk (.num neg m k)):∃ (neg':Bool) (ti:List UInt8) (tf:Option (List UInt8)),digs1 6 ti/\(∀ t,tf=some t->digs1 3 t) /\
  (ntB neg m k).data.toList=(if neg' then [45] else [])++(ti++fracB tf)/\ntB neg' (digV (ti++tf.getD []) 0) (tf.getD []).length=ntB neg m k/\leafOk (.num neg' (digV (ti++tf.getD []) 0) (tf.getD []).length):=by
 have fin:∀ (neg':Bool) (ti:List UInt8) (tf:Option (List UInt8)),digs1 6 ti->(∀ t,tf=some t->digs1 3 t)->leafOk (.num neg' (digV (ti++tf.getD []) 0) (tf.getD []).length):=by
  intro neg' ti tf h1 h2
  have h3:(∀ d ∈ tf.getD [],isDig d=true)/\(tf.getD []).length<=3:=by
   cases tf with
   | none=>simp
   | some t=>exact⟨(h2 t rfl).2.2,(h2 t rfl).1⟩
  refine⟨?_,h3.2⟩
  have:=digV_lt (ti++tf.getD []) 0 0 (fun d hd=>by
   rcases List.mem_append.1 hd with h|h
   ·exact h1.2.2 d h
   ·exact h3.1 d h) (by decide)
  refine Nat.lt_of_lt_of_le this ?_;rw[← Nat.pow_add];refine Nat.pow_le_pow_right (by decide) ?_;have:=h1.1;rw[List.length_append];omega
 obtain⟨h1,h2⟩:m<10^6*10^k/\k<=3:=h
 by_cases hm:m=0
 ·have g1:digs1 6 [48]:=⟨by decide,by simp,by decide⟩;have g2:∀ x,(none:Option (List UInt8))=some x->digs1 3 x:=fun x e=>by cases e
  refine⟨false,[48],none,g1,g2,?_,?_,fin _ _ _ g1 g2⟩
  ·unfold ntB;rw[if_pos hm];rfl
  ·unfold ntB;rw[if_pos hm,if_pos (by decide)]
 ·have hnd:Lib.nDigits m<=6+k:=by
   rw[← Nat.pow_add,show 6+k=5+k+1 by omega] at h1;have:=nDigits_up (5+k) m h1;omega
  have hn0:=Lib.nDigits_pos m;have hE:ntB neg m k=bstr (textF neg ((Lib.decDigits m).take (sl (Lib.decDigits m) (Lib.nDigits m))) ((Lib.nDigits m:Nat)-(k:Int))):=by unfold ntB numT;rw[if_neg hm]
  have hf:=decDigits_first m (by omega);have hsl:=sl_pos hf (Lib.nDigits m) hn0;have hsn:=sl_le (Lib.decDigits m) (Lib.nDigits m);have hsl2:=sl_last (Lib.decDigits m) (Lib.nDigits m) hsl;have hlen:=decDigits_len m;obtain⟨s,hs⟩:∃ s,sl (Lib.decDigits m) (Lib.nDigits m)=s:=⟨_,rfl⟩;rw[hs] at hE hsl hsn hsl2;obtain⟨t,ht⟩:∃ t,(Lib.decDigits m).take s=t:=⟨_,rfl⟩;have htl:t.length=s:=by rw[← ht,List.length_take];omega
  have hdg:∀ c ∈ t,isDig c=true:=fun c hc=>(dec_digs m).1 c (by rw[← ht] at hc;exact List.mem_of_mem_take hc)
  have hg:∀ i,i<s->t.getD i 0=(Lib.decDigits m).getD i 0:=fun i hi=>by
   rw[← ht,List.getD_eq_getElem?_getD,List.getElem?_take,if_pos hi,← List.getD_eq_getElem?_getD]
  have ht0:t≠[]:=by intro e;rw[e] at htl;simp at htl;omega
  have htf:¬ t.getD 0 0=48:=by rw[hg 0 (by omega)];exact hf
  have hta:¬ t.getD (t.length-1) 0=48:=by rw[htl,hg _ (by omega)];exact hsl2
  rw[ht] at hE;have NT:=fun neg=>numT_of neg ht0 hdg htf hta
  obtain⟨dp,hdp⟩:∃ dp:Int,(Lib.nDigits m:Int)-(k:Int)=dp:=⟨_,rfl⟩;rw[hdp] at hE;rw[hE]
  have back:∀ (M K j:Nat),M=digV (t++List.replicate j 48) 0->((t.length+j:Nat):Int)-(K:Int)=dp->ntB neg M K=bstr (textF neg t dp):=by
   intro M K j hM hK;obtain⟨n1,n2,n3⟩:=NT neg j dp;unfold ntB;rw[hM,if_neg n3,n2,hK,n1]
  have hrep:∀ n (c:UInt8),c ∈ List.replicate n (48:UInt8)->isDig c=true:=fun n c hc=>by rw[(List.mem_replicate.1 hc).2];decide
  have hbs:∀ x:List UInt8,(bstr x).data.toList=x:=fun x=>rfl
  by_cases c1:0<dp
  ·by_cases c2:dp<t.length
   ·have g1:digs1 6 (t.take dp.toNat):=⟨by rw[List.length_take];omega,fun e=>by
     have:=congrArg List.length e;rw[List.length_take,List.length_nil] at this
     omega,fun d hd=>hdg d (List.mem_of_mem_take hd)⟩
    have g2:∀ x,some (t.drop dp.toNat)=some x->digs1 3 x:=fun x e=>by
     cases e
     exact⟨by rw[List.length_drop];omega,fun e=>by
      have:=congrArg List.length e;rw[List.length_drop,List.length_nil] at this
      omega,fun d hd=>hdg d (List.mem_of_mem_drop hd)⟩
    refine⟨neg,t.take dp.toNat,some (t.drop dp.toNat),g1,g2,?_,?_,fin _ _ _ g1 g2⟩
    ·rw[hbs];unfold textF fracB;rw[if_pos c1,if_pos c2,show dp.toNat-t.length=0 by omega,show (-dp).toNat=0 by omega];simp
    ·refine back _ _ 0 ?_ ?_
     ·simp
     ·simp only[Option.getD_some,List.length_drop];omega
   ·have g1:digs1 6 (t++List.replicate (dp.toNat-t.length) 48):=⟨by rw[List.length_append,List.length_replicate];omega,by simp[ht0],fun d hd=>by
     rcases List.mem_append.1 hd with h|h
     ·exact hdg d h
     ·exact hrep _ d h⟩
    have g2:∀ x,(none:Option (List UInt8))=some x->digs1 3 x:=fun x e=>by cases e
    refine⟨neg,t++List.replicate (dp.toNat-t.length) 48,none,g1,g2,?_,?_,fin _ _ _ g1 g2⟩
    ·rw[hbs];unfold textF fracB;rw[if_pos c1,if_neg c2,List.take_of_length_le (by omega)];simp
    ·refine back _ _ (dp.toNat-t.length) ?_ ?_
     ·simp
     ·simp only[Option.getD_none,List.length_nil];omega
  ·have g1:digs1 6 [48]:=⟨by decide,by simp,by decide⟩
   have g2:∀ x,some (List.replicate (-dp).toNat 48++t)=some x->digs1 3 x:=fun x e=>by
    cases e
    exact⟨by rw[List.length_append,List.length_replicate];omega,by simp[ht0],fun d hd=>by
     rcases List.mem_append.1 hd with h|h
     ·exact hrep _ d h
     ·exact hdg d h⟩
   refine⟨neg,[48],some (List.replicate (-dp).toNat 48++t),g1,g2,?_,?_,fin _ _ _ g1 g2⟩
   ·rw[hbs];have c2:dp<(t.length:Int):=by omega
    unfold textF fracB;rw[if_neg c1,if_pos c2,show dp.toNat=0 by omega];simp
   ·refine back _ _ 0 ?_ ?_
    ·show digV (48::(List.replicate (-dp).toNat 48++t)) 0=_;rw[digV];have:=digV_zeros (-dp).toNat t;simpa using this
    ·simp only[Option.getD_some,List.length_append,List.length_replicate];omega
end
section
variable {E:Env}{o:Nat}{l:List UInt8}
def EndC (c:UInt8):Prop:=c=32\/c=93\/c=47\/c=62
theorem EndC.dig {c:UInt8}(h:EndC c):isDig c=false/\c≠46/\letP c.toNat=false:=by
 rcases h with rfl|rfl|rfl|rfl <;> decide
def HeadV (bs:List UInt8):Prop:=∃ c r,bs=c::r/\blkP c.toNat=false/\letP c.toNat=false/\c≠93/\c≠62
def FldV (bs:List UInt8) (v:Val):Prop:=HeadV bs/\∀ (E:Env) (n o:Nat) (c:UInt8) (l:List UInt8),o<=4->EndC c->bs.length<=n->Rd E (valueM E (n+1)) (bs++c::l) o v (c::l) o
theorem fld_ref {n:Nat}(hn:n<10000):FldV (64::(itoaB n).data.toList) (.ref n):=by
 refine⟨⟨64,_,rfl,by decide,by decide,by decide,by decide⟩,fun E k o c l _ hc _=>?_⟩;obtain⟨h1,h2,h3⟩:=dec_digs n;have w:=Rd.whole (E:=E) (l:=l) (o:=o) hc.dig.1 (n:=4) (dec_len4 hn) h2 h1;rw[h3] at w;rw[itoaB_list,valueM];refine (Rd.next (by decide)).then ?_;rw[if_neg (by decide),if_neg (by decide),if_neg (by decide),if_neg (by decide),if_neg (by decide),if_pos (by decide)];exact (Rd.word [64]).then (w.then (Rd.ret _))
theorem fld_str {t:List UInt8}(h:t.length<=9000) (ht:textOk t=true):FldV (40::(t++[41])) (.str (bstr t)):=by
 refine⟨⟨40,_,rfl,by decide,by decide,by decide,by decide⟩,fun E k o c l _ hc _=>?_⟩;have e:40::(t++[41])++c::l=40::(t++41::c::l):=by simp
 rw[e,valueM];refine (Rd.next (by decide)).then ?_;rw[if_neg (by decide),if_neg (by decide),if_neg (by decide),if_pos (by decide)];exact (Rd.text h ht).then (Rd.ret _)
theorem fld_name {a:List UInt8}(h:a.length<=8) (h0:a≠[]) (ha:∀ d ∈ a,letP d.toNat=true):FldV (47::a) (.name (bstr a)):=by
 refine⟨⟨47,_,rfl,by decide,by decide,by decide,by decide⟩,fun E k o c l _ hc _=>?_⟩;rw[valueM];refine (Rd.next (by decide)).then ?_;rw[if_neg (by decide),if_neg (by decide),if_neg (by decide),if_neg (by decide),if_pos (by decide)];exact (Rd.name hc.dig.2.2 h h0 ha).then (Rd.ret _)
theorem fld_num {neg:Bool}{ti:List UInt8}{tf:Option (List UInt8)}(h1:digs1 6 ti) (h2:∀ t,tf=some t->digs1 3 t) :
  FldV ((if neg then [45] else [])++(ti++fracB tf)) (.num neg (digV (ti++tf.getD []) 0) (tf.getD []).length):=by
 obtain⟨c0,r,hb,hc0⟩:∃ c0 r,(if neg then [45] else [])++(ti++fracB tf)=c0::r/\(c0.toNat=45\/(48<=c0.toNat/\c0.toNat<=57)):=by
  cases neg
  ·cases ti with
   | nil=>exact absurd rfl h1.2.1
   | cons d ti=>exact⟨d,ti++fracB tf,rfl,.inr (of_decide_eq_true (h1.2.2 d (by simp)))⟩
  ·exact⟨45,ti++fracB tf,rfl,.inl rfl⟩
 have hne:∀ x:Nat,x≠45->(x<48\/57<x)->¬ (c0.toNat==x)=true:=fun x h3 h4=>by rw[beq_iff_eq];omega
 have hne':∀ x:UInt8,x.toNat≠45->(x.toNat<48\/57<x.toNat)->c0≠x:=fun x h3 h4 e=>by rw[e] at hc0;omega
 have hbl:blkP c0.toNat=false:=by unfold blkP;rw[Bool.or_eq_false_iff];exact⟨by simpa using hne 32 (by decide) (by decide),by simpa using hne 10 (by decide) (by decide)⟩
 refine⟨⟨c0,r,hb,hbl,?_,hne' 93 (by decide) (by decide),hne' 62 (by decide) (by decide)⟩,fun E k o c l _ hc _=>?_⟩
 ·unfold letP;simp;omega
 ·have w:=rd_num (E:=E) (l:=l) (o:=o) (neg:=neg) h1 h2 hc.dig.1 hc.dig.2.1
  have e:(if neg then [45] else [])++(ti++(fracB tf++c::l))=c0::(r++c::l):=by
   rw[← List.cons_append,← hb];simp[List.append_assoc]
  rw[e] at w;rw[hb,valueM];refine (Rd.next hbl).then ?_;rw[if_neg (hne 110 (by decide) (by decide)),if_neg (hne 116 (by decide) (by decide)),if_neg (hne 102 (by decide) (by decide)),if_neg (hne 40 (by decide) (by decide)),if_neg (hne 47 (by decide) (by decide)),if_neg (hne 64 (by decide) (by decide)),if_neg (hne 91 (by decide) (by decide)),if_neg (hne 60 (by decide) (by decide))];exact w.then (Rd.ret _)
def joinB:Bool->List (List UInt8)->List UInt8
 | _,[]=>[]
 | f,b::bs=>(if f then [] else [32])++(b++joinB false bs)
theorem joinB_end (es:List (List UInt8)) (l:List UInt8):∃ c l',joinB false es++93::l=c::l'/\EndC c:=by
 cases es with
 | nil=>exact⟨93,l,rfl,.inr (.inl rfl)⟩
 | cons b bs=>exact⟨32,_,rfl,.inl rfl⟩
theorem rd_elems (ho:o<=4):∀ (es:List (List UInt8×Val)) (f:Bool) (n:Nat) (acc:List Val),(∀ e ∈ es,FldV e.1 e.2)->(joinB f (es.map (·.1))).length+1<n->Rd E (elemsM E n acc) (joinB f (es.map (·.1))++93::l) o (acc++es.map (·.2)) (93::l) o
 | _,_,0,_,_,h=>by omega
 | [],f,n+1,acc,_,_=>by
  rw[elemsM];refine (Rd.next (by decide)).then ?_;rw[if_pos (by decide)];simpa using Rd.ret acc
 | e::es,f,n+1,acc,hes,hn=>by
  obtain⟨⟨c0,r,hb,k1,k2,k3,k4⟩,hv⟩:=hes e (by simp);rw[elemsM,List.map_cons,joinB];rw[List.map_cons,joinB,List.length_append,List.length_append] at hn;have hl1:1<=e.1.length:=by rw[hb];simp
  obtain⟨m,rfl⟩:∃ m,n=m+1:=⟨n-1,by omega⟩;obtain⟨c,l',hcl,hce⟩:=joinB_end (es.map (·.1)) l
  have hx:Rd E (nextM E) ((if f then [] else [32])++(e.1++joinB false (es.map (·.1)))++93::l) o c0.toNat (e.1++c::l') o:=by
   have e1:(if f then [] else [32])++(e.1++joinB false (es.map (·.1)))++93::l=(if f then [] else [32])++(e.1++c::l'):=by rw[← hcl];simp[List.append_assoc]
   rw[e1,hb];cases f
   ·exact Rd.next1 k1
   ·exact Rd.next k1
  refine hx.then ?_;rw[if_neg (show ¬ (c0.toNat==93)=true from fun e=>k3 (UInt8.toNat_inj.1 (by simpa using e)))];have w:=hv E m o c l' ho hce (by omega);have ih:=rd_elems ho es false (m+1) (acc++[e.2]) (fun x hx=>hes x (by simp[hx])) (by omega);rw[hcl] at ih;have e3:acc++(e.2::es.map (·.2))=acc++[e.2]++es.map (·.2):=by simp
  rw[List.map_cons,e3];exact w.then ih
theorem Rd.enter (h:o<=5):Rd E enterM l o () l (o+1):=fun k hk=>⟨k,hk,fun b=>.inl ⟨b,by unfold enterM;rw[if_neg (by show ¬ (6<o+1/\_);omega)]⟩⟩
theorem Rd.leave:Rd E leaveM l (o+1) () l o:=fun k hk=>⟨k,hk,fun b=>.inl ⟨b,rfl⟩⟩
theorem fld_arr (es:List (List UInt8×Val)) (hes:∀ e ∈ es,∀ (E:Env) (n o:Nat) (c:UInt8) (l:List UInt8),o<=4->EndC c->e.1.length<=n->Rd E (valueM E (n+1)) (e.1++c::l) o e.2 (c::l) o) (hh:∀ e ∈ es,HeadV e.1):∀ (E:Env) (n o:Nat) (c:UInt8) (l:List UInt8),o<=3->EndC c->(91::(joinB true (es.map (·.1))++[93])).length<=n->Rd E (valueM E (n+1)) (91::(joinB true (es.map (·.1))++[93])++c::l) o (.arr (es.map (·.2))) (c::l) o:=by
 intro E n o c l ho hc hn;simp only[List.length_cons,List.length_append,List.length_nil] at hn;have e:91::(joinB true (es.map (·.1))++[93])++c::l=91::(joinB true (es.map (·.1))++93::c::l):=by simp
 rw[e,valueM];refine (Rd.next (by decide)).then ?_;rw[if_neg (by decide),if_neg (by decide),if_neg (by decide),if_neg (by decide),if_neg (by decide),if_neg (by decide),if_pos (by decide)];have w:=rd_elems (E:=E) (l:=c::l) (o:=o+1) (by omega) es true n [] (fun e he=>⟨hh e he,hes e he⟩) (by omega);exact (Rd.enter (by omega)).then ((Rd.word [91]).then (w.then ((Rd.word [93]).then (Rd.leave.then (Rd.ret _)))))
theorem bstr_data (k:ByteArray):bstr k.data.toList=k:=by unfold bstr;cases k;simp
def keyB (F:List (ByteArray×List UInt8×Val)):List UInt8:=F.flatMap (fun e=>47::(e.1.data.toList++e.2.1))
def KeyR (bs:List UInt8) (v:Val):Prop:=HeadV bs/\∀ (E:Env) (n:Nat) (c:UInt8) (l:List UInt8),EndC c->bs.length<=n->Rd E (valueM E (n+1)) (bs++c::l) 1 v (c::l) 1
theorem FldV.key {bs:List UInt8}{v:Val}(h:FldV bs v):KeyR bs v:=⟨h.1,fun E n c l hc hn=>h.2 E n 1 c l (by decide) hc hn⟩
theorem key_arr (es:List (List UInt8×Val)) (hes:∀ e ∈ es,FldV e.1 e.2):KeyR (91::(joinB true (es.map (·.1))++[93])) (.arr (es.map (·.2))):=
 ⟨⟨91,_,rfl,by decide,by decide,by decide,by decide⟩,fun E n c l hc hn=>fld_arr es (fun e he=>(hes e he).2) (fun e he=>(hes e he).1) E n 1 c l (by decide) hc hn⟩
def keyOk (k:ByteArray):Prop:=k.data.toList.length<=8/\k.data.toList≠[]/\∀ d ∈ k.data.toList,letP d.toNat=true
theorem rd_keys:∀ (F:List (ByteArray×List UInt8×Val)) (n:Nat) (acc:List (ByteArray×Val)),(∀ e ∈ F,keyOk e.1/\KeyR e.2.1 e.2.2)->(∀ e ∈ F,acc.any (fun x=>x.1==e.1)=false)->F.Pairwise (fun a c=>(a.1==c.1)=false)->(keyB F).length<n ->
  Rd E (keysM E n acc) (keyB F++62::l) 1 (acc++F.map (fun e=>(e.1,e.2.2))) (62::l) 1
 | _,0,_,_,_,_,h=>by omega
 | [],n+1,acc,_,_,_,_=>by
  rw[keysM];refine (Rd.next (c:=62) (by decide)).then ?_;rw[if_pos (by decide)];simpa using Rd.ret acc
 | e::F,n+1,acc,hF,hA,hP,hn=>by
  obtain⟨⟨a1,a2,a3⟩,⟨c0,r,hb,_,k2,_,_⟩,hv⟩:=hF e (by simp);obtain⟨p1,p2⟩:=List.pairwise_cons.1 hP;have eT:keyB (e::F)=47::(e.1.data.toList++(e.2.1++keyB F)):=by unfold keyB;rw[List.flatMap_cons];simp[List.append_assoc]
  rw[eT] at hn ⊢;simp only[List.length_cons,List.length_append] at hn;have hl1:1<=e.2.1.length:=by rw[hb];simp
  obtain⟨m,rfl⟩:∃ m,n=m+1:=⟨n-1,by omega⟩
  obtain⟨c,l',hcl,hce⟩:∃ c l',keyB F++62::l=c::l'/\EndC c:=by
   cases F with
   | nil=>exact⟨62,l,rfl,.inr (.inr (.inr rfl))⟩
   | cons x F=>exact⟨47,_,rfl,.inr (.inr (.inl rfl))⟩
  have e1:47::(e.1.data.toList++(e.2.1++keyB F))++62::l=47::(e.1.data.toList++(e.2.1++c::l')):=by rw[← hcl];simp[List.append_assoc]
  rw[e1,keysM];refine (Rd.next (by decide)).then ?_;rw[if_neg (by decide)];refine Rd.at fun k hk=>?_
  have hnm:=Rd.name (E:=E) (o:=1) (l:=r++c::l') k2 a1 a2 a3;rw[bstr_data] at hnm;have e2:c0::(r++c::l')=e.2.1++c::l':=by rw[hb];rfl
  rw[e2] at hnm;refine hnm.then ?_;have hno:acc.any (fun x=>x.1==e.1)=false:=hA e (by simp)
  have htw:Rd E (twiceM (dget acc e.1).isSome k) (e.2.1++c::l') 1 () (e.2.1++c::l') 1:=fun k' hk'=>⟨k',hk',fun b=>.inl ⟨b,by
   unfold twiceM
   rw[dget_some,hno,if_neg (by simp)]⟩⟩
  refine htw.then ((hv E m c l' hce (by omega)).then ?_);have hds:dset acc e.1 e.2.2=acc++[(e.1,e.2.2)]:=by unfold dset;rw[hno,if_neg (by decide)]
  rw[hds,← hcl,List.map_cons]
  have ih:=rd_keys F (m+1) (acc++[(e.1,e.2.2)]) (fun x hx=>hF x (by simp[hx])) (fun x hx=>by
   rw[List.any_append,hA x (by simp[hx])]
   simp[p1 x hx]) p2 (by omega)
  simpa using ih
theorem rd_dict {F:List (ByteArray×List UInt8×Val)}{n:Nat}(hF:∀ e ∈ F,keyOk e.1/\KeyR e.2.1 e.2.2) (hP:F.Pairwise (fun a c=>(a.1==c.1)=false)) (hn:(keyB F).length<n) :
  Rd E (valueM E (n+1)) (32::60::60::(keyB F++62::62::l)) 0 (.dict (F.map (fun e=>(e.1,e.2.2)))) l 0:=by
 rw[valueM];refine (Rd.next1 (by decide)).then ?_;rw[if_neg (by decide),if_neg (by decide),if_neg (by decide),if_neg (by decide),if_neg (by decide),if_neg (by decide),if_neg (by decide),if_pos (by decide)];have w:=rd_keys (E:=E) (l:=62::l) F n [] hF (by simp) hP hn;exact (Rd.enter (by decide)).then ((Rd.word [60,60]).then (w.then ((Rd.word [62,62]).then (Rd.leave.then (Rd.ret _)))))
theorem rd_bytes (st:List UInt8):Rd E (bytesM E st.length) (st++l) o (bstr st) l o:=fun k hk=>⟨k+st.length,hk.tl,fun b=>.inl ⟨b,by
 unfold bytesM;have h1:=hk.1;rw[List.length_append] at h1;rw[if_neg (by show ¬ (E.e-k<st.length);omega)];show Out.ok (E.f.extract k (k+st.length)) _=_
 rw[hk.ext]⟩⟩
theorem digs_map {n:Nat}(h:n<=30):digs n=(itoaB n).data.toList.map UInt8.toNat:=by
 rw[itoaB_list];have h1:∀ d,d<10->(UInt8.ofNat (48+d)).toNat=48+d:=by decide
 unfold digs;rw[Lib.decDigits]
 by_cases h9:n<10
 ·rw[if_pos h9,dif_pos h9,List.map_cons,List.map_nil,h1 n h9]
 ·rw[if_neg h9,dif_neg h9,Lib.decDigits,dif_pos (by omega)];simp only[List.map_append,List.map_cons,List.map_nil];rw[h1 _ (by omega),h1 _ (by omega)];rfl
def strB:Option (List UInt8)->List UInt8
 | none=>[]
 | some st=>126::((itoaB st.length).data.toList++58::st)
theorem dec_head (n:Nat):∃ c r,(itoaB n).data.toList=c::r/\isDig c=true:=by
 rw[itoaB_list];obtain⟨h1,h2,_⟩:=dec_digs n;cases hq:Lib.decDigits n with
 | nil=>exact absurd hq h2
 | cons c r=>exact⟨c,r,rfl,h1 c (by rw[hq];simp)⟩
theorem dig_blk {c:UInt8}(h:isDig c=true):blkP c.toNat=false:=by
 have h1:=of_decide_eq_true h;unfold blkP;simp;omega
theorem rd_stream {st:List UInt8}(h:st.length<10000):Rd E (streamM E) (126::((itoaB st.length).data.toList++58::(st++l))) o (bstr st) l o:=by
 unfold streamM;refine (Rd.word [126]).then ?_;obtain⟨c,r,h1,h2⟩:=dec_head st.length;have hc:=Rd.count (E:=E) (l:=st++l) (o:=o) (c:=58) (by decide) h
 have hx:Rd E (nextM E) ((itoaB st.length).data.toList++58::(st++l)) o c.toNat ((itoaB st.length).data.toList++58::(st++l)) o:=by
  rw[h1];exact Rd.next (dig_blk h2)
 exact hx.then (hc.then ((Rd.word [58]).then (rd_bytes st)))
def objB (n:Nat) (F:List (ByteArray×List UInt8×Val)) (st:Option (List UInt8)) (l:List UInt8):List UInt8:=(itoaB n).data.toList++32::60::60::(keyB F++62::62::(strB st++59::l))
theorem rd_object {n:Nat}(hn:n<=30) {F:List (ByteArray×List UInt8×Val)}{st:Option (List UInt8)}(hF:∀ e ∈ F,keyOk e.1/\KeyR e.2.1 e.2.2) (hP:F.Pairwise (fun a c=>(a.1==c.1)=false)) (hk:(keyB F).length<=9000) (hst:∀ s,st=some s->s.length<10000) :
  Rd E (objectM E n) (objB n F st l) 0 { v:=.dict (F.map (fun e=>(e.1,e.2.2))),place:=E.e-(objB n F st l).length,fin:=E.e-l.length,has:=st.isSome,stream:=bstr (st.getD []) } l 0:=by
 unfold objectM;refine Rd.at fun k hk'=>?_
 have ek:k=E.e-(objB n F st l).length:=by have:=hk'.1;omega
 rw[← ek];clear ek hk';unfold objB;rw[digs_map hn];refine (Rd.word _).then (Rd.peek.then ((Rd.need (by decide)).then ((rd_dict (n:=18009) hF hP (by omega)).then ?_)))
 have fin:∀ hs:Bool×ByteArray,Rd E ((nextM E).then fun _=>(wordM E [59]).then fun _=>atM.then fun q=>Rdr.ret ({ v:=.dict (F.map (fun e=>(e.1,e.2.2))),place:=k,fin:=q,has:=hs.1,stream:=hs.2 }:Obj1)) (59::l) 0 { v:=.dict (F.map (fun e=>(e.1,e.2.2))),place:=k,fin:=E.e-l.length,has:=hs.1,stream:=hs.2 } l 0:=by
  intro hs;refine (Rd.next (by decide)).then ((Rd.word [59]).then (Rd.at fun q hq=>?_));have eq:q=E.e-l.length:=by have:=hq.1;omega
  rw[eq];exact Rd.ret _
 cases st with
 | none=>
  refine (Rd.next (c:=59) (l:=l) (by decide)).then ?_;rw[if_neg (by decide)];exact (Rd.ret _).then (fin (false,ByteArray.empty))
 | some s=>
  have e:strB (some s)++59::l=126::((itoaB s.length).data.toList++58::(s++59::l)):=by unfold strB;simp[List.append_assoc]
  rw[e];refine (Rd.next (by decide)).then ?_;rw[if_pos (by decide)];exact ((Rd.need rfl).then ((rd_stream (hst s rfl)).then (Rd.ret (true,bstr s)))).then (fin (true,bstr s))
end
end Go.Proofs.YtgffljllfenhkaaGreatDoor
