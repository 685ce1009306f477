import Derived.Test.YtgffljllfenhkaaGreatDoorGwbp
namespace Go.Proofs.YtgffljllfenhkaaGreatDoor
section
variable {os os2:List Obj1}{nt:Bool->Nat->Nat->ByteArray}
theorem put2:∀ (ts:List ByteArray) (out:List UInt8),(out++ts.flatMap (fun t=>t.data.toList)).length<=9000->GetsR (putR ts out) (out++ts.flatMap (fun t=>t.data.toList))
 | [],out,_=>fun b=>.inl ⟨b,by simp[putR]⟩
 | t::ts,out,h=>fun b=>by
  rw[List.flatMap_cons] at h ⊢;have h':=h;simp only[List.length_append,len_data] at h';rw[putR]
  by_cases hb:b<t.size
  ·exact .inr (by rw[if_pos hb])
  ·rw[if_neg hb,if_neg (by omega)];have:=put2 ts (out++t.data.toList) (by rw[List.append_assoc];exact h) (b-t.size);rw[List.append_assoc] at this;exact this
theorem elems2:∀ (l:List Val) (i:Nat) (out:List UInt8),(out++elT nt (decide (i=0)) l).length<=9000->GetsR (elemsW nt i l out) (out++elT nt (decide (i=0)) l)
 | [],i,out,_=>fun b=>.inl ⟨b,by simp[elemsW,elT]⟩
 | v::l,i,out,h=>fun b=>by
  rw[elemsW]
  have h1:GetsR (fun b=>if 0<i then putR [spB] out b else .ok out b) (out++(if decide (i=0)=true then [] else [32])):=by
   by_cases hi:0<i
   ·have e:decide (i=0)=false:=by simp;omega
    simp only[if_pos hi,e];rw[elT,e] at h;have:=put2 [spB] out (by simp[spB] at h ⊢;omega);simpa[spB] using this
   ·have e:decide (i=0)=true:=by simp;omega
    simp only[if_neg hi,e];exact fun b=>.inl ⟨b,by simp⟩
  have hlen:=h;rw[elT] at hlen
  rcases h1 b with⟨b1,e1⟩|e1
  ·have e1':(if 0<i then putR [spB] out b else .ok out b)=.ok (out++(if decide (i=0)=true then [] else [32])) b1:=e1;rw[e1'];simp only
   have h2:=put2 ((leafT nt v).getD []) (out++(if decide (i=0)=true then [] else [32])) (by
    simp only[List.length_append] at hlen ⊢;unfold leafB at hlen
    omega) b1
   rcases h2 with⟨b2,e2⟩|e2
   ·rw[e2];simp only;have e5:decide (i+1=0)=false:=by simp
    have h3:=elems2 l (i+1) (out++(if decide (i=0)=true then [] else [32])++leafB nt v) (by
     rw[e5];simp only[List.length_append] at hlen ⊢
     omega) b2
    rw[e5] at h3;rw[elT];simpa only[List.append_assoc,leafB] using h3
   ·exact .inr (by rw[e2])
  ·have e1':(if 0<i then putR [spB] out b else .ok out b)=.no (12,0):=e1;exact .inr (by rw[e1'])
theorem val2 (v:Val) (out:List UInt8) (h:(out++valB nt v).length<=9000):GetsR (valW nt v out) (out++valB nt v):=by
 cases v
 case arr l=>
  intro b;simp only[valW,arrW];rw[valB] at h ⊢;have hlen:=h;simp only[List.length_append,List.length_cons,List.length_nil] at hlen
  rcases put2 [⟨#[91]⟩] out (by simp;omega) b with⟨b1,e1⟩|e1
  ·rw[e1];simp only;have h2:=elems2 (nt:=nt) l 0 (out++[(⟨#[91]⟩:ByteArray)].flatMap (fun t=>t.data.toList)) (by simp;omega) b1
   rcases h2 with⟨b2,e2⟩|e2
   ·rw[e2];simp only;have h3:=put2 [⟨#[93]⟩] (out++[(⟨#[91]⟩:ByteArray)].flatMap (fun t=>t.data.toList)++elT nt (decide (0=0)) l) (by simp;omega) b2;simpa using h3
   ·exact .inr (by rw[e2])
  ·exact .inr (by rw[e1])
 all_goals exact put2 _ out h
theorem fields2:∀ (l:List (ByteArray×Val)) (out:List UInt8),(out++fldB nt l).length<=9000->GetsR (fieldsW nt l out) (out++fldB nt l)
 | [],out,_=>fun b=>.inl ⟨b,by simp[fieldsW,fldB]⟩
 | (k,v)::l,out,h=>fun b=>by
  rw[fieldsW];rw[fldB] at h ⊢;have hlen:=h;simp only[List.length_append,List.length_cons] at hlen;have h1:=put2 [⟨#[47]⟩,k] out (by simp only[List.flatMap_cons,List.flatMap_nil,List.length_append,List.length_cons,List.length_nil];omega) b
  rcases h1 with⟨b1,e1⟩|e1
  ·rw[e1];simp only;have h2:=val2 (nt:=nt) v (out++[(⟨#[47]⟩:ByteArray),k].flatMap (fun t=>t.data.toList)) (by simp only[List.flatMap_cons,List.flatMap_nil,List.length_append,List.length_cons,List.length_nil];omega) b1
   rcases h2 with⟨b2,e2⟩|e2
   ·rw[e2];simp only;have h3:=fields2 l (out++[(⟨#[47]⟩:ByteArray),k].flatMap (fun t=>t.data.toList)++valB nt v) (by simp only[List.flatMap_cons,List.flatMap_nil,List.length_append,List.length_cons,List.length_nil];omega) b2;simpa[List.append_assoc] using h3
   ·exact .inr (by rw[e2])
  ·exact .inr (by rw[e1])
theorem obj2 {n:Nat}{ty st:ByteArray}{l:List (ByteArray×Val)}{out:List UInt8}(h:(out++((itoaB n).data.toList++([32,60,60,47,84,121,112,101,47]++(ty.data.toList++(fldB nt l++(62::62::(stmB ty st++[59,10]))))))).length<=9000) :
  GetsR (objW nt n ty l st out) (out++((itoaB n).data.toList++([32,60,60,47,84,121,112,101,47]++(ty.data.toList++(fldB nt l++(62::62::(stmB ty st++[59,10]))))))):=by
 intro b;have hlen:=h;simp only[List.length_append,List.length_cons,List.length_nil] at hlen;unfold objW;have h1:=put2 [itoaB n,⟨#[32,60,60,47,84,121,112,101,47]⟩,ty] out (by simp only[List.flatMap_cons,List.flatMap_nil,List.length_append,List.length_cons,List.length_nil];omega) b;obtain⟨o1,ho1⟩:∃ o1,out++[itoaB n,⟨#[32,60,60,47,84,121,112,101,47]⟩,ty].flatMap (fun t=>t.data.toList)=o1:=⟨_,rfl⟩;have l1:o1.length=out.length+((itoaB n).data.toList.length+(9+ty.data.toList.length)):=by rw[← ho1];simp only[List.flatMap_cons,List.flatMap_nil,List.length_append,List.length_cons,List.length_nil];omega
 rw[ho1] at h1
 rcases h1 with⟨b1,e1⟩|e1
 ·rw[e1];simp only
  rcases fields2 (nt:=nt) l o1 (by rw[List.length_append];omega) b1 with⟨b2,e2⟩|e2
  ·rw[e2];simp only
   rcases put2 [⟨#[62,62]⟩] (o1++fldB nt l) (by simp only[List.flatMap_cons,List.flatMap_nil,List.length_append,List.length_cons,List.length_nil];omega) b2 with⟨b3,e3⟩|e3
   ·rw[e3];simp only;obtain⟨o3,ho3⟩:∃ o3,o1++fldB nt l++[(⟨#[62,62]⟩:ByteArray)].flatMap (fun t=>t.data.toList)=o3:=⟨_,rfl⟩;have l3:o3.length=o1.length+(fldB nt l).length+2:=by rw[← ho3];simp;omega
    rw[ho3]
    have h4:GetsR (fun b=>if ty=textB then putR [⟨#[126]⟩,itoaB st.size,⟨#[58]⟩,st] o3 b else .ok o3 b) (o3++stmB ty st):=by
     unfold stmB at hlen ⊢
     by_cases ht:ty=textB
     ·simp only[if_pos ht] at hlen ⊢;simp only[List.length_append,List.length_cons] at hlen;have:=put2 [⟨#[126]⟩,itoaB st.size,⟨#[58]⟩,st] o3 (by simp only[List.flatMap_cons,List.flatMap_nil,List.length_append,List.length_cons,List.length_nil];omega);simpa using this
     ·simp only[if_neg ht];exact fun b=>.inl ⟨b,by simp⟩
    rcases h4 b3 with⟨b4,e4⟩|e4
    ·have e4':(if ty=textB then putR [⟨#[126]⟩,itoaB st.size,⟨#[58]⟩,st] o3 b3 else .ok o3 b3)=.ok (o3++stmB ty st) b4:=e4;rw[e4'];simp only;have h5:=put2 [⟨#[59,10]⟩] (o3++stmB ty st) (by simp only[List.flatMap_cons,List.flatMap_nil,List.length_append,List.length_cons,List.length_nil];omega) b4;rw[← ho3,← ho1] at h5 ⊢;simpa[List.append_assoc] using h5
    ·have e4':(if ty=textB then putR [⟨#[126]⟩,itoaB st.size,⟨#[58]⟩,st] o3 b3 else .ok o3 b3)=.no (12,0):=e4;exact .inr (by rw[e4'])
   ·exact .inr (by rw[e3])
  ·exact .inr (by rw[e2])
 ·exact .inr (by rw[e1])
theorem rows2:∀ (l:List Nat) (out:List UInt8),(out++l.flatMap (fun p=>(itoaB p).data.toList++[10])).length<=9000->GetsR (rowsW l out) (out++l.flatMap (fun p=>(itoaB p).data.toList++[10]))
 | [],out,_=>fun b=>.inl ⟨b,by simp[rowsW]⟩
 | p::l,out,h=>fun b=>by
  rw[rowsW];rw[List.flatMap_cons] at h ⊢;have hlen:=h;simp only[List.length_append,List.length_cons,List.length_nil] at hlen
  rcases put2 [itoaB p,⟨#[10]⟩] out (by simp only[List.flatMap_cons,List.flatMap_nil,List.length_append,List.length_cons,List.length_nil];omega) b with⟨b1,e1⟩|e1
  ·rw[e1];simp only;have h3:=rows2 l (out++[itoaB p,⟨#[10]⟩].flatMap (fun t=>t.data.toList)) (by simp only[List.flatMap_cons,List.flatMap_nil,List.length_append,List.length_cons,List.length_nil];omega) b1;simpa[List.append_assoc] using h3
  ·exact .inr (by rw[e1])
def tabB (l:List Nat) (at_:Nat):List UInt8:=[120,114,101,102,32]++((itoaB l.length).data.toList++10::(l.flatMap (fun p=>(itoaB p).data.toList++[10])++([114,111,111,116,32,49,10,97,116,32]++((itoaB at_).data.toList++[10,101,110,100,10]))))
theorem tab1 {l:List Nat}{out t:List UInt8}{b b':Nat}(h:tabW l out b=.ok t b'):t=out++tabB l out.length/\(out.length<=9000->t.length<=9000):=by
 unfold tabW at h
 rcases hq:putR [⟨#[120,114,101,102,32]⟩,itoaB l.length,⟨#[10]⟩] out b with⟨o1,b1⟩|y
 ·rw[hq] at h;simp only at h
  rcases hq2:rowsW l o1 b1 with⟨o2,b2⟩|y
  ·rw[hq2] at h;simp only at h;obtain⟨e1,l1⟩:=putR_out _ hq;obtain⟨e2,l2⟩:=rowsW_out l hq2;obtain⟨e3,l3⟩:=putR_out _ h;refine⟨?_,fun ho=>l3 (l2 (l1 ho))⟩;rw[e3,e2,e1];unfold tabB;simp[List.append_assoc]
  ·rw[hq2] at h;cases h
 ·rw[hq] at h;cases h
theorem tab2 {l:List Nat}{out:List UInt8}(h:(out++tabB l out.length).length<=9000):GetsR (tabW l out) (out++tabB l out.length):=by
 intro b;have hlen:=h;unfold tabB at hlen;simp only[List.length_append,List.length_cons,List.length_nil] at hlen;unfold tabW
 rcases put2 [⟨#[120,114,101,102,32]⟩,itoaB l.length,⟨#[10]⟩] out (by simp only[List.flatMap_cons,List.flatMap_nil,List.length_append,List.length_cons,List.length_nil];omega) b with⟨b1,e1⟩|e1
 ·rw[e1];simp only;obtain⟨o1,ho1⟩:∃ o1,out++[⟨#[120,114,101,102,32]⟩,itoaB l.length,⟨#[10]⟩].flatMap (fun t:ByteArray=>t.data.toList)=o1:=⟨_,rfl⟩;have l1:o1.length=out.length+(5+((itoaB l.length).data.toList.length+1)):=by rw[← ho1];simp only[List.flatMap_cons,List.flatMap_nil,List.length_append,List.length_cons,List.length_nil]
  rw[ho1]
  rcases rows2 l o1 (by rw[List.length_append];omega) b1 with⟨b2,e2⟩|e2
  ·rw[e2];simp only;have h3:=put2 [⟨#[114,111,111,116,32,49,10,97,116,32]⟩,itoaB out.length,⟨#[10,101,110,100,10]⟩] (o1++l.flatMap (fun p=>(itoaB p).data.toList++[10])) (by simp only[List.flatMap_cons,List.flatMap_nil,List.length_append,List.length_cons,List.length_nil];omega) b2;unfold tabB;rw[← ho1] at h3 ⊢;simpa[List.append_assoc] using h3
  ·exact .inr (by rw[e2])
 ·exact .inr (by rw[e1])
def ksB:Nat->List Kp->List UInt8
 | _,[]=>[]
 | i,k::ks=>kpB (i+1) k++ksB (i+1) ks
def ksP:Nat->Nat->List Kp->List Nat
 | _,_,[]=>[]
 | p,i,k::ks=>p::ksP (p+(kpB (i+1) k).length) (i+1) ks
def ChR:Nat->Nat->List Kp->Prop
 | i,L,[]=>L<=i
 | i,L,k::ks=>i<L/\∃ L',frs L (refsG k.gs)=some L'/\ChR (i+1) L' ks
theorem reach1 (hos:os.length<=31) (hV:∀ o ∈ os,VO o.v/\o.stream.size<=9000) :
  ∀ (f i:Nat) (olds places:List Nat) (out:List UInt8) (b:Nat) {pl:List Nat} {out':List UInt8} {b':Nat},reachW ntB os f i olds places out b=.ok (pl,out') b'->OldsLt os.length olds->(∀ j n,olds[j]?=some n->(j=0/\tnameAt os n=rootB)\/TyR os n) ->
   ∃ (ks:List Kp) (O:List Nat),(∃ ext,O=olds++ext)/\OldsLt os.length O/\O.length<=i+ks.length/\out'=out++ksB i ks/\pl=places++ksP out.length i ks/\ChR i olds.length ks/\(∀ j k,ks[j]?=some k->KpOk (Qof os O) k/\∃ n,O[i+j]?=some n/\tnameAt os n=k.ty)/\(∀ j n,O[j]?=some n->(j=0/\tnameAt os n=rootB)\/TyR os n)/\(out.length<=9000->out'.length<=9000)
 | 0,i,olds,places,out,b,pl,out',b',h,ho,hty=>by cases h
 | f+1,i,olds,places,out,b,pl,out',b',h,ho,hty=>by
  rw[reachW] at h
  rcases hn:olds[i]? with _|n
  ·rw[hn] at h;simp only[Res.ok.injEq,Prod.mk.injEq] at h;have hl:olds.length<=i:=List.getElem?_eq_none_iff.1 hn;exact⟨[],olds,⟨[],by simp⟩,ho,by simpa using hl,by rw[← h.1.2];simp[ksB],by rw[← h.1.1];simp[ksP],hl,by simp,hty,by rw[← h.1.2];exact id⟩
  ·rw[hn] at h;simp only at h;have hil:=(List.getElem?_eq_some_iff.1 hn).1
   rcases hob:os[n]? with _|o
   ·rw[hob] at h;cases h
   ·rw[hob] at h;simp only at h;have hom:o ∈ os:=List.mem_of_getElem? hob;have htn:tnameAt os n=tname o:=by unfold tnameAt;rw[hob]
    rcases hk:keepL os o (rulesOf (tname o)) [] olds b with⟨⟨fs,olds'⟩,b1⟩|y
    ·rw[hk] at h;simp only at h
     rcases hw:objW ntB (i+1) (tname o) fs o.stream out b1 with⟨o2,b2⟩|y
     ·rw[hw] at h;simp only at h;obtain⟨gs,g1,g2,g3,⟨x1,hx1⟩,g5⟩:=keep1 (os:=os) (hV o hom).1 _ [] hk;rw[List.nil_append] at g2;obtain⟨e1,l1⟩:=objW_out ntB hw;have hok':OldsLt os.length olds':=(keepL_lt (by omega) (fun r=>vget_ok (hV o hom).1 r.key) _ [] hk ho (by simp)).1;obtain⟨ext,hext,hte⟩:=keepL_x _ _ hk
      have hty2:∀ j n,olds'[j]?=some n->(j=0/\tnameAt os n=rootB)\/TyR os n:=fun j m hj=>by
       rw[hext] at hj
       by_cases hjl:j<olds.length
       ·rw[List.getElem?_append_left hjl] at hj;exact hty j m hj
       ·rw[List.getElem?_append_right (by omega)] at hj;exact .inr (hte m (List.mem_of_getElem? hj))
      obtain⟨ks,O,⟨x2,hx2⟩,r2,r3,r4,r5,r6,r7,r8,r9⟩:=reach1 hos hV f (i+1) olds' (places++[out.length]) o2 b2 h hok' hty2
      have hOn:O[i]?=some n:=by
       rw[hx2,hx1,List.append_assoc,List.getElem?_append_left hil];exact hn
      have hTy:TyK (tname o):=by
       rw[← htn]
       rcases hty i n hn with⟨_,h1⟩|h1
       ·exact .inl h1
       ·exact .inr h1
      have eo:o2=out++kpB (i+1) ⟨tname o,gs,o.stream⟩:=by rw[e1,g2];rfl
      refine⟨⟨tname o,gs,o.stream⟩::ks,O,⟨x1++x2,by rw[hx2,hx1];simp⟩,r2,by rw[List.length_cons];omega,?_,?_,⟨hil,olds'.length,g5,r6⟩,?_,r8,fun hl=>r9 (l1 hl)⟩
      ·rw[r4,eo,ksB,List.append_assoc]
      ·rw[r5,ksP,eo,List.length_append];simp
      ·intro j k hj;cases j with
       | zero=>
        have:k=⟨tname o,gs,o.stream⟩:=by simpa using hj.symm
        subst this;refine⟨⟨hTy,g1,fun g hg v hv=>(g3 g hg v hv).mono (fun ty m hq=>by rw[hx2];exact hq.ext _)⟩,n,hOn,htn⟩
       | succ j=>
        rw[List.getElem?_cons_succ] at hj;have:=r7 j k hj;rw[show i+(j+1)=i+1+j by omega];exact this
     ·rw[hw] at h;cases h
    ·rw[hk] at h;cases h
theorem rng_get {L i:Nat}(h:i<L):(rng L)[i]?=some (i+1):=by
 unfold rng;rw[List.getElem?_range' h];simp[Nat.add_comm]
theorem rng_none {L i:Nat}(h:L<=i):(rng L)[i]?=none:=by
 unfold rng;rw[List.getElem?_eq_none_iff];simpa using h
theorem reach2 {Q:ByteArray->Nat->Prop}(hQ:∀ ty m,Q ty m->m<10000):∀ (ks:List Kp) (f i L:Nat) (places:List Nat) (out:List UInt8),ks.length<f->ChR i L ks ->
  (∀ j k,ks[j]?=some k->KpOk Q k/\KpOk (fun ty m=>tnameAt os2 m=ty) k/\∃ p q,os2[i+j+1]?=some (objK k p q))->(out++ksB i ks).length<=9000->GetsR (reachW ntB os2 f i (rng L) places out) (places++ksP out.length i ks,out++ksB i ks)
 | _,0,_,_,_,_,h,_,_,_=>by omega
 | [],f+1,i,L,places,out,_,hc,_,_=>fun b=>.inl ⟨b,by
  rw[reachW,rng_none hc]
  simp[ksP,ksB]⟩
 | k::ks,f+1,i,L,places,out,hf,hc,hk,hl=>fun b=>by
  obtain⟨hi,L',hfr,hc'⟩:=hc;obtain⟨k1,k2,p,q,k3⟩:=hk 0 k rfl;rw[Nat.add_zero] at k3;rw[ksB] at hl;have hlen:=hl;simp only[List.length_append] at hlen;have hb:=k1.back hQ (n:=i+1) (by omega);rw[reachW,rng_get hi];simp only;rw[k3];simp only;rw[objK_type k1.ty,← k1.rs,← bkG_fst];have hnd:(k.gs.map (·.1)).Nodup:=by rw[k1.rs];exact k1.ty.ok.2
  have hfr':frs L (refsG (bkG k.gs))=some L':=by rw[refsG_back k.gs (fun g hg v hv=>(hb g hg v hv).2.2.1)];exact hfr
  rcases keep2 (os2:=os2) (o:=objK k p q) (bkG k.gs) [] L L' (objK_get p q hnd) (fun g hg v hv=>by
   obtain⟨g0,hg0,rfl⟩:=List.mem_map.1 hg;cases hv0:g0.2 with
   | none=>simp only[hv0] at hv;cases hv
   | some u=>
    simp only[hv0] at hv;have e:v=bkV u:=by simpa using hv.symm
    rw[e]
    exact (hb g0 hg0 u hv0).2.2.2 _ (k2.ok g0 hg0 u hv0)) hfr' b with⟨b1,e1⟩ | e1
  ·rw[e1];simp only[List.nil_append]
   have est:stmB k.ty (objK k p q).stream=stmB k.ty k.st:=by
    unfold stmB
    by_cases ht:k.ty=textB
    ·have e:(objK k p q).stream=k.st:=by
      show bstr ((stOf k).getD [])=k.st;unfold stOf;rw[if_pos ht];exact bstr_data _
     rw[e]
    ·rw[if_neg ht,if_neg ht]
   have efl:=fldB_back k.gs (fun g hg v hv=>(hb g hg v hv).2.1)
   have h2:=obj2 (nt:=ntB) (n:=i+1) (ty:=k.ty) (st:=(objK k p q).stream) (l:=fsOf (bkG k.gs)) (out:=out) (by
    rw[est,efl];show (out++kpB (i+1) k).length<=9000;rw[List.length_append]
    omega) b1
   rw[est,efl] at h2
   rcases h2 with⟨b2,e2⟩|e2
   ·rw[e2];simp only
    have h3:=reach2 hQ ks f (i+1) L' (places++[out.length]) (out++kpB (i+1) k) (by simp at hf;omega) hc' (fun j k' hj=>by
     have:=hk (j+1) k' (by rw[List.getElem?_cons_succ];exact hj);rw[show i+(j+1)+1=i+1+j+1 by omega] at this
     exact this) (by rw[List.append_assoc];exact hl) b2
    rw[ksP,ksB];rw[List.length_append,List.append_assoc,List.append_assoc] at h3;exact h3
   ·exact .inr (by rw[e2])
  ·exact .inr (by rw[e1])
end
section
variable {os os2:List Obj1}
theorem dec_nox (n:Nat):∀ c ∈ (itoaB n).data.toList,c≠120:=by
 intro c hc e;rw[itoaB_list] at hc;have h1:=(dec_digs n).1 c hc;rw[e] at h1;exact absurd h1 (by decide)
theorem tab_nox (l:List Nat) (at_:Nat):∃ r,tabB l at_=120::r/\∀ c ∈ r,c≠120:=by
 refine⟨_,rfl,fun c hc=>?_⟩;have hc':c ∈ [114,101,102,32]++((itoaB l.length).data.toList++10::(l.flatMap (fun p=>(itoaB p).data.toList++[10])++([114,111,111,116,32,49,10,97,116,32]++((itoaB at_).data.toList++[10,101,110,100,10])))):=hc;have lit1:∀ x ∈ ([114,101,102,32]:List UInt8),x≠120:=by decide
 have lit2:∀ x ∈ ([10]:List UInt8),x≠120:=by decide
 have lit3:∀ x ∈ ([114,111,111,116,32,49,10,97,116,32]:List UInt8),x≠120:=by decide
 have lit4:∀ x ∈ ([10,101,110,100,10]:List UInt8),x≠120:=by decide
 rcases List.mem_append.1 hc' with h|h
 ·exact lit1 c h
 ·rcases List.mem_append.1 h with h|h
  ·exact dec_nox _ c h
  ·rcases List.mem_cons.1 h with h|h
   ·rw[h];decide
   ·rcases List.mem_append.1 h with h|h
    ·obtain⟨p,_,hp⟩:=List.mem_flatMap.1 h
     rcases List.mem_append.1 hp with h|h
     ·exact dec_nox _ c h
     ·exact lit2 c h
    ·rcases List.mem_append.1 h with h|h
     ·exact lit3 c h
     ·rcases List.mem_append.1 h with h|h
      ·exact dec_nox _ c h
      ·exact lit4 c h
theorem occ_head {s:List UInt8}{j:Nat}(h:Lib.occAt s xrefB j=true):s[j]?=some 120:=by
 unfold Lib.occAt at h;have h1:=List.isPrefixOf_iff_prefix.1 h;obtain⟨r,hr⟩:=h1;have h2:(s.drop j)[0]?=some 120:=by rw[← hr];rfl
 rw[List.getElem?_drop,Nat.add_zero] at h2;exact h2
theorem xref_at {pre:List UInt8}{l:List Nat}{at_:Nat}:xrefAt (bstr (pre++tabB l at_))=(pre.length:Int):=by
 have hbs:(bstr (pre++tabB l at_)).data.toList=pre++tabB l at_:=rfl;have h5:5<=(tabB l at_).length:=by unfold tabB;simp only[List.length_append,List.length_cons];omega
 have hoc:Lib.occAt (pre++tabB l at_) xrefB pre.length=true:=by
  unfold Lib.occAt;rw[List.drop_left];rfl
 unfold xrefAt Lib.lastIndex;rw[hbs,if_pos (by rw[List.length_append];show 5<=_;omega)];have hx5:xrefB.length=5:=rfl;have hlt:pre.length<(pre++tabB l at_).length-xrefB.length+1:=by rw[List.length_append,hx5];omega
 rcases Lib.lastOcc_spec (pre++tabB l at_) xrefB ((pre++tabB l at_).length-xrefB.length+1) with⟨_,hn⟩|⟨i,h1,h2,h3,h4⟩
 ·rw[hn _ hlt] at hoc;cases hoc
 ·rw[h2];congr 1
  rcases Nat.lt_trichotomy i pre.length with h|h|h
  ·rw[h4 _ h hlt] at hoc;cases hoc
  ·exact h
  ·have h6:=occ_head h3;obtain⟨r,hr,hrx⟩:=tab_nox l at_;rw[List.getElem?_append_right (by omega),hr,show i-pre.length=(i-pre.length-1)+1 by omega,List.getElem?_cons_succ] at h6;exact absurd rfl (hrx 120 (List.mem_of_getElem? h6))
theorem rd_table {E:Env}{l:List Nat}{at_:Nat}(h1:1<=l.length) (h30:l.length<=30) (hp:∀ p ∈ l,p<10000) (ha:at_<10000):Rd E (tableM E at_) (tabB l at_) 0 (l,1) [] 0:=by
 unfold tableM tabB;have e1:(itoaB 1).data.toList=[49]:=by rw[itoaB_list,Lib.decDigits];rfl
 have e2:([114,111,111,116,32,49,10,97,116,32]:List UInt8)++((itoaB at_).data.toList++[10,101,110,100,10])=[114,111,111,116,32]++((itoaB 1).data.toList++10::([97,116,32]++((itoaB at_).data.toList++10::[101,110,100,10]))):=by rw[e1];rfl
 rw[e2];refine (Rd.line [120,114,101,102,32] h1 h30 (by omega)).then ((Rd.places l hp).then ((Rd.line [114,111,111,116,32] (n:=1) (Nat.le_refl _) h1 (by decide)).then ((Rd.line [97,116,32] (Nat.le_refl _) (Nat.le_refl _) ha).then ((Rd.word [101,110,100,10] (l:=[])).then ?_))));intro k hk;refine⟨k,hk,fun b=>.inl ⟨b,?_⟩⟩;have e:k=E.e:=by have:=hk.1;simpa using this
 show (needM E (k==E.e)).then (fun _=>Rdr.ret (l,1)) _=_;unfold needM Rdr.then;rw[e];simp[Rdr.ret]
theorem tab_read {pre:List UInt8}{l:List Nat}(h1:1<=l.length) (h30:l.length<=30) (hp:∀ p ∈ l,p<10000) (ha:pre.length<10000):GetsR (tabR (bstr (pre++tabB l pre.length))) (pre.length,l,1):=by
 intro b;unfold tabR;rw[xref_at]
 by_cases hb:b<(bstr (pre++tabB l pre.length)).size
 ·exact .inr (by rw[if_pos hb])
 ·rw[if_neg hb,if_neg (by omega),Int.toNat_natCast]
  have hv:Vw (tabEnv (bstr (pre++tabB l pre.length))) pre.length (tabB l pre.length):=by
   refine⟨?_,[],?_⟩
   ·show pre.length+(tabB l pre.length).length=(bstr (pre++tabB l pre.length)).size;rw[bstr_size,List.length_append]
   ·show (pre++tabB l pre.length).drop pre.length=_;rw[List.drop_left,List.append_nil]
  obtain⟨k',_,hg⟩:=rd_table (E:=tabEnv (bstr (pre++tabB l pre.length))) h1 h30 hp ha pre.length hv
  rcases hg (b-(bstr (pre++tabB l pre.length)).size) with⟨b',e⟩|e
  ·exact .inl ⟨b',by rw[Rdr.then_ok e];rfl⟩
  ·exact .inr (by rw[Rdr.then_no e];rfl)
noncomputable def obs:Nat->Nat->List Kp->List Obj1
 | _,_,[]=>[]
 | p,i,k::ks=>objK k p (p+(kpB (i+1) k).length-1)::obs (p+(kpB (i+1) k).length) (i+1) ks
theorem kpB_pos (n:Nat) (k:Kp):2<=(kpB n k).length:=by
 unfold kpB;simp only[List.length_append,List.length_cons];omega
theorem objs_read {Q:ByteArray->Nat->Prop}(hQ:∀ ty m,Q ty m->m<10000) {f:ByteArray}{at_:Nat}:∀ (ks:List Kp) (p i:Nat),5<=p->i+ks.length<=30->(∀ k ∈ ks,KpOk Q k)->(ksB i ks).length<=9000->Vw (objEnv f at_) p (ksB i ks)->GetsR (objsR f at_ (ksP p i ks) (i+1)) (obs p i ks)
 | [],p,i,_,_,_,_,_=>fun b=>.inl ⟨b,rfl⟩
 | k::ks,p,i,h5,hn,hk,hl,hv=>fun b=>by
  rw[ksB] at hl hv;rw[List.length_append] at hl;have hp2:=kpB_pos (i+1) k;rw[List.length_cons] at hn;have hat:=hv.1;rw[List.length_append] at hat;have hat':p+((kpB (i+1) k).length+(ksB (i+1) ks).length)=at_:=hat;rw[ksP,objsR,objR,if_neg (by omega),if_neg (by omega)];obtain⟨k',_,hg⟩:=rd_kept (E:=objEnv f at_) hQ (n:=i+1) (by omega) (hk k (by simp)) (by omega) (ksB (i+1) ks) p hv;have e1:(objEnv f at_).e-(kpB (i+1) k++ksB (i+1) ks).length=p:=by rw[List.length_append];show at_-_=p;omega
  have e2:(objEnv f at_).e-((10:UInt8)::ksB (i+1) ks).length=p+(kpB (i+1) k).length-1:=by rw[List.length_cons];show at_-_=_;omega
  rw[e1,e2] at hg
  rcases hg b with⟨b1,e⟩|e
  ·rw[e];simp only[objFin];rw[if_neg (by decide),if_neg (by decide)];simp only;have ih:=objs_read hQ ks (p+(kpB (i+1) k).length) (i+1) (by omega) (by omega) (fun x hx=>hk x (by simp[hx])) (by omega) hv.tl b1
   rcases ih with⟨b2,e3⟩|e3
   ·exact .inl ⟨b2,by rw[e3];rfl⟩
   ·exact .inr (by rw[e3])
  ·exact .inr (by rw[e];rfl)
theorem obs_ge:∀ (ks:List Kp) (p i:Nat),∀ o ∈ obs p i ks,p<=o.place
 | [],_,_,o,h=>by simp[obs] at h
 | k::ks,p,i,o,h=>by
  rw[obs] at h
  rcases List.mem_cons.1 h with rfl|h
  ·exact Nat.le_refl _
  ·have:=obs_ge ks _ _ o h;omega
theorem obs_pair:∀ (ks:List Kp) (p i:Nat),(obs p i ks).Pairwise (fun a c=>a.fin<=c.place)
 | [],_,_=>List.Pairwise.nil
 | k::ks,p,i=>by
  rw[obs];refine List.pairwise_cons.2 ⟨fun o ho=>?_,obs_pair ks _ _⟩;have:=obs_ge ks _ _ o ho;show p+(kpB (i+1) k).length-1<=o.place;omega
theorem obs_get:∀ (ks:List Kp) (p i j:Nat) (k:Kp),ks[j]?=some k->∃ p' q',(obs p i ks)[j]?=some (objK k p' q')
 | [],_,_,_,_,h=>by simp at h
 | k0::ks,p,i,0,k,h=>by
  have:k=k0:=by simpa using h.symm
  rw[this,obs];exact⟨_,_,rfl⟩
 | k0::ks,p,i,j+1,k,h=>by
  rw[List.getElem?_cons_succ] at h;rw[obs,List.getElem?_cons_succ];exact obs_get ks _ _ j k h
theorem obs_mem:∀ (ks:List Kp) (p i:Nat),∀ o ∈ obs p i ks,packed o=false
 | [],_,_,o,h=>by simp[obs] at h
 | k::ks,p,i,o,h=>by
  rw[obs] at h
  rcases List.mem_cons.1 h with rfl|h
  ·exact objK_packed _ _
  ·exact obs_mem ks _ _ o h
theorem overI2 {o:Obj1}{num:Nat}:∀ (l:List Obj1),(∀ u ∈ l,u.fin<=o.place)->GetsR (overI o num l) ()
 | [],_=>fun b=>.inl ⟨b,rfl⟩
 | u::l,h=>fun b=>by
  rw[overI]
  by_cases hb:b<1
  ·exact .inr (by rw[if_pos hb])
  ·have h1:=h u (by simp);rw[if_neg hb,if_neg (by omega)];exact overI2 l (fun x hx=>h x (by simp[hx])) (b-1)
theorem over2 {l:List Obj1}(hp:l.Pairwise (fun a c=>a.fin<=c.place)):∀ m,GetsR (overO l m) ()
 | 0=>fun b=>.inl ⟨b,rfl⟩
 | m+1=>fun b=>by
  rw[overO]
  rcases hq:l[l.length-(m+1)]? with _|o
  ·exact .inl ⟨b,rfl⟩
  ·simp only;have hi:=(List.getElem?_eq_some_iff.1 hq)
   have hsplit:l=l.take (l.length-(m+1))++o::l.drop (l.length-(m+1)+1):=by
    conv=>lhs;rw[← List.take_append_drop (l.length-(m+1)) l]
    rw[List.drop_eq_getElem_cons hi.1,hi.2]
   have hp':=hp;rw[hsplit] at hp';have hall:=(List.pairwise_append.1 hp').2.2
   rcases overI2 (o:=o) (num:=l.length-(m+1)) (l.take (l.length-(m+1))) (fun u hu=>hall u hu o (by simp)) b with⟨b1,e⟩|e
   ·rw[e];exact over2 hp m b1
   ·exact .inr (by rw[e])
theorem unp2 (U:ByteArray->Nat->Nat->Res ByteArray):∀ (l:List Obj1) (k b:Nat),(∀ o ∈ l,packed o=false)->unpL U l k b=.ok l b
 | [],_,_,_=>rfl
 | o::l,k,b,h=>by
  rw[unpL,unpS,h o (by simp),if_neg (by decide)];simp only;rw[unp2 U l (k+1) b (fun x hx=>h x (by simp[hx]))]
theorem ksP_lt:∀ (ks:List Kp) (p i:Nat),∀ q ∈ ksP p i ks,q<p+(ksB i ks).length
 | [],_,_,q,h=>by simp[ksP] at h
 | k::ks,p,i,q,h=>by
  rw[ksP] at h;rw[ksB,List.length_append];have:=kpB_pos (i+1) k
  rcases List.mem_cons.1 h with rfl|h
  ·omega
  ·have:=ksP_lt ks _ _ q h;omega
theorem ksP_len:∀ (ks:List Kp) (p i:Nat),(ksP p i ks).length=ks.length
 | [],_,_=>rfl
 | k::ks,p,i=>by rw[ksP,List.length_cons,ksP_len,List.length_cons]
theorem doc_read {U:ByteArray->Nat->Nat->Res ByteArray}{Q:ByteArray->Nat->Prop}(hQ:∀ ty m,Q ty m->m<10000) {ks:List Kp}(h1:1<=ks.length) (h30:ks.length<=30) (hk:∀ k ∈ ks,KpOk Q k) (hr:∀ k,ks[0]?=some k->k.ty=rootB)
  (hl:(headB.data.toList++ksB 0 ks++tabB (ksP 5 0 ks) (headB.data.toList++ksB 0 ks).length).length<=9000) :
  GetsR (docR U (bstr (headB.data.toList++ksB 0 ks++tabB (ksP 5 0 ks) (headB.data.toList++ksB 0 ks).length))) ((headB.data.toList++ksB 0 ks).length,ksP 5 0 ks,1,{}::obs 5 0 ks):=by
 have hlen:=hl;simp only[List.length_append] at hlen;have h5:headB.data.toList.length=5:=rfl;have hat:(headB.data.toList++ksB 0 ks).length=5+(ksB 0 ks).length:=by rw[List.length_append,h5]
 have hT:=tab_read (pre:=headB.data.toList++ksB 0 ks) (l:=ksP 5 0 ks) (by rw[ksP_len];exact h1) (by rw[ksP_len];exact h30) (fun p hp=>by have:=ksP_lt ks 5 0 p hp;omega) (by rw[hat];omega);obtain⟨f,hf⟩:∃ f,bstr (headB.data.toList++ksB 0 ks++tabB (ksP 5 0 ks) (headB.data.toList++ksB 0 ks).length)=f:=⟨_,rfl⟩;have hfd:f.data.toList=headB.data.toList++ksB 0 ks++tabB (ksP 5 0 ks) (headB.data.toList++ksB 0 ks).length:=by rw[← hf];rfl
 have hfs:f.size=(headB.data.toList++ksB 0 ks++tabB (ksP 5 0 ks) (headB.data.toList++ksB 0 ks).length).length:=by rw[← hf,bstr_size]
 rw[hf] at hT ⊢
 have hpre:Lib.hasPrefix f.data.toList headB.data.toList=true:=by
  unfold Lib.hasPrefix;rw[hfd,List.append_assoc];exact List.isPrefixOf_iff_prefix.2 (List.prefix_append _ _)
 have hvw:Vw (objEnv f (headB.data.toList++ksB 0 ks).length) 5 (ksB 0 ks):=by
  refine⟨by show _=(headB.data.toList++ksB 0 ks).length;rw[hat],tabB (ksP 5 0 ks) (headB.data.toList++ksB 0 ks).length,?_⟩;show f.data.toList.drop 5=_;rw[hfd,List.append_assoc,← h5,List.drop_left]
 have hO:=objs_read hQ (f:=f) (at_:=(headB.data.toList++ksB 0 ks).length) ks 5 0 (by decide) (by omega) hk (by omega) hvw;have hP:(({}:Obj1)::obs 5 0 ks).Pairwise (fun a c=>a.fin<=c.place):=List.pairwise_cons.2 ⟨fun o _=>Nat.zero_le _,obs_pair ks 5 0⟩
 have hU:∀ o ∈ ({}:Obj1)::obs 5 0 ks,packed o=false:=fun o ho=>by
  rcases List.mem_cons.1 ho with rfl|ho
  ·decide +kernel
  ·exact obs_mem ks 5 0 o ho
 have hty:(tnameAt (({}:Obj1)::obs 5 0 ks) 1==rootB)=true:=by
  obtain⟨k,hk0⟩:∃ k,ks[0]?=some k:=⟨_,List.getElem?_eq_getElem (by omega)⟩;obtain⟨p',q',hg⟩:=obs_get ks 5 0 0 k hk0;unfold tnameAt;rw[List.getElem?_cons_succ,hg];simp only;rw[objK_type (hk k (List.mem_of_getElem? hk0)).ty,hr k hk0];exact beqB rfl
 intro b;unfold docR;rw[if_neg (by rw[hfs];omega),if_neg (by rw[hpre];decide)]
 rcases hT b with⟨b1,e1⟩|e1
 ·rw[e1];simp only
  rcases hO b1 with⟨b2,e2⟩|e2
  ·rw[e2];simp only
   rcases over2 hP (({}:Obj1)::obs 5 0 ks).length b2 with⟨b3,e3⟩|e3
   ·have e3':overR ({}::obs 5 0 ks) b2=.ok () b3:=e3;rw[e3'];simp only;rw[unp2 U _ 0 b3 hU];simp only;rw[if_pos hty];exact .inl ⟨b3,rfl⟩
   ·have e3':overR ({}::obs 5 0 ks) b2=.no (12,0):=e3;exact .inr (by rw[e3'])
  ·exact .inr (by rw[e2])
 ·exact .inr (by rw[e1])
end
section
variable {os os2:List Obj1}
theorem doc_zero {U:ByteArray->Nat->Nat->Res ByteArray}{f:ByteArray}{b b' at_ root:Nat}{pl:List Nat}{os:List Obj1}(h:docR U f b=.ok (at_,pl,root,os) b'):tnameAt os 0=ByteArray.empty:=by
 unfold docR at h;split at h
 ·cases h
 split at h
 ·cases h
 rcases hq:tabR f b with⟨⟨a,l,r⟩,b1⟩|y
 ·rw[hq] at h;simp only at h
  rcases hq2:objsR f a l 1 b1 with⟨l2,b2⟩|y
  ·rw[hq2] at h;simp only at h
   rcases hq3:overR ({}::l2) b2 with⟨_,b3⟩|y
   ·rw[hq3] at h;simp only at h
    rcases hq4:unpL U ({}::l2) 0 b3 with⟨os',b4⟩|y
    ·rw[hq4] at h;simp only at h;split at h
     ·simp only[Res.ok.injEq,Prod.mk.injEq] at h;obtain⟨⟨rfl,rfl,rfl,rfl⟩,_⟩:=h;have hp:packed ({}:Obj1)=false:=by decide +kernel
      rw[unpL,unpS,hp,if_neg (by decide)] at hq4;simp only at hq4
      rcases hq5:unpL U l2 (0+1) b3 with⟨l3,b5⟩|y
      ·rw[hq5] at hq4;simp only[Res.ok.injEq] at hq4;rw[← hq4.1];show tname ({}:Obj1)=_;decide +kernel
      ·rw[hq5] at hq4;cases hq4
     ·cases h
    ·rw[hq4] at h;cases h
   ·rw[hq3] at h;cases h
  ·rw[hq2] at h;cases h
 ·rw[hq] at h;cases h
theorem write1 {root b b':Nat}{t:List UInt8}(hd:os.length<=31/\root<os.length/\tnameAt os root=rootB/\∀ o ∈ os,VO o.v/\o.stream.size<=9000) (hz:tnameAt os 0=ByteArray.empty) (h:writeR ntB os root b=.ok t b') :
  ∃ (ks:List Kp) (O:List Nat),1<=ks.length/\ks.length<=30/\O.length<=ks.length/\t=headB.data.toList++ksB 0 ks++tabB (ksP 5 0 ks) (headB.data.toList++ksB 0 ks).length/\t.length<=9000/\ChR 0 1 ks/\(∀ (j:Nat) k,ks[j]?=some k->KpOk (Qof os O) k/\∃ n,O[j]?=some n/\tnameAt os n=k.ty)/\(∀ k,ks[0]?=some k->k.ty=rootB):=by
 obtain⟨h31,hr,hrt,hV⟩:=hd;unfold writeR at h
 rcases hq:putR [headB] [] b with⟨o1,b1⟩|y
 ·rw[hq] at h;simp only at h;obtain⟨e1,l1⟩:=putR_out _ hq;have e1':o1=headB.data.toList:=by rw[e1];simp
  rcases hq2:reachW ntB os 40 0 [root] [] o1 b1 with⟨⟨pl,o2⟩,b2⟩|y
  ·rw[hq2] at h;simp only at h
   have hone:OldsLt os.length [root]:=by
    refine⟨by simp,fun n hn=>?_⟩;have:n=root:=by simpa using hn
    rw[this];exact hr
   have hfst:∀ j n,[root][j]?=some n->(j=0/\tnameAt os n=rootB)\/TyR os n:=by
    intro j n hj;cases j with
    | zero=>
     have:n=root:=by simpa using hj.symm
     rw[this];exact .inl ⟨rfl,hrt⟩
    | succ j=>simp at hj
   obtain⟨ks,O,⟨ext,hext⟩,r2,r3,r4,r5,r6,r7,r8,r9⟩:=reach1 h31 hV 40 0 [root] [] o1 b1 hq2 hone hfst;obtain⟨e3,l3⟩:=tab1 h;have hl5:o1.length=5:=by rw[e1'];rfl
   rw[Nat.zero_add] at r3;rw[List.nil_append,hl5] at r5;rw[e1'] at r4
   have hz':OldsLt os.length (0::O):=by
    refine⟨List.nodup_cons.2 ⟨fun h0=>?_,r2.1⟩,fun n hn=>?_⟩
    ·obtain⟨j,hj⟩:=List.getElem?_of_mem h0
     rcases r8 j 0 hj with⟨_,h1⟩|h1|h1
     ·rw[hz] at h1;revert h1;decide +kernel
     ·rw[hz] at h1;revert h1;decide +kernel
     ·rw[hz] at h1;revert h1;decide +kernel
    ·rcases List.mem_cons.1 hn with rfl|h1
     ·omega
     ·exact r2.2 n h1
   have hO1:O.length+1<=31:=by have:=hz'.len;rw[List.length_cons] at this;omega
   have hO0:1<=O.length:=by rw[hext];simp
   have hkO:ks.length<=O.length:=by
    rcases Nat.lt_or_ge O.length ks.length with h1|h1
    ·obtain⟨_,n,h2,_⟩:=r7 O.length _ (List.getElem?_eq_getElem h1);rw[Nat.zero_add] at h2;have:=(List.getElem?_eq_some_iff.1 h2).1;omega
    ·exact h1
   refine⟨ks,O,by omega,by omega,r3,by rw[e3,r5,r4],l3 (r9 (by omega)),r6,fun j k hj=>?_,fun k hk=>?_⟩
   ·obtain⟨a1,n,a2,a3⟩:=r7 j k hj;rw[Nat.zero_add] at a2;exact⟨a1,n,a2,a3⟩
   ·obtain⟨_,n,a2,a3⟩:=r7 0 k hk;rw[hext] at a2;have:n=root:=by simpa using a2.symm
    rw[← a3,this];exact hrt
  ·rw[hq2] at h;cases h
 ·rw[hq] at h;cases h
theorem write2 {Q:ByteArray->Nat->Prop}(hQ:∀ ty m,Q ty m->m<10000) {ks:List Kp}(h30:ks.length<=30) (hc:ChR 0 1 ks) (hk:∀ j k,ks[j]?=some k->KpOk Q k/\KpOk (fun ty m=>tnameAt os2 m=ty) k/\∃ p q,os2[0+j+1]?=some (objK k p q))
  (hl:(headB.data.toList++ksB 0 ks++tabB (ksP 5 0 ks) (headB.data.toList++ksB 0 ks).length).length<=9000):GetsR (writeR ntB os2 1) (headB.data.toList++ksB 0 ks++tabB (ksP 5 0 ks) (headB.data.toList++ksB 0 ks).length):=by
 intro b;have hlen:=hl;simp only[List.length_append] at hlen;have hh:headB.data.toList.length=5:=rfl;unfold writeR
 rcases put2 [headB] [] (by simp[hh]) b with⟨b1,e1⟩|e1
 ·rw[e1];simp only[List.flatMap_cons,List.flatMap_nil,List.append_nil,List.nil_append];have hr1:rng 1=[1]:=rfl;have h2:=reach2 (os2:=os2) hQ ks 40 0 1 [] headB.data.toList (by omega) hc hk (by rw[List.length_append];omega) b1;rw[hr1,hh,List.nil_append] at h2
  rcases h2 with⟨b2,e2⟩|e2
  ·rw[e2];simp only;exact tab2 (l:=ksP 5 0 ks) (out:=headB.data.toList++ksB 0 ks) hl b2
  ·exact .inr (by rw[e2])
 ·exact .inr (by rw[e1])
theorem again_math {U U':ByteArray->Nat->Nat->Res ByteArray}(hdoc:∀ {f:ByteArray}{b b' at_ root:Nat}{pl:List Nat}{os:List Obj1},docR U f b=.ok (at_,pl,root,os) b'->os.length<=31/\root<os.length/\tnameAt os root=rootB/\∀ o ∈ os,VO o.v/\o.stream.size<=9000)
  {f:ByteArray} {st ou:Int} {t:List UInt8} {b:Nat} (h:rinseR U ntB f st ou=.ok t b):t.length<=9000/\GetsR (fun _=>rinseR U' ntB (bstr t) 100000000 9000) t:=by
 unfold rinseR at h;split at h
 ·rcases hq:docR U f st.toNat with⟨⟨at_,pl,root,os⟩,b1⟩|y
  ·rw[hq] at h;simp only at h
   rcases hq2:writeR ntB os root b1 with⟨t',b2⟩|y
   ·rw[hq2] at h;simp only at h;split at h
    ·cases h
    ·cases h;obtain⟨ks,O,k1,k30,kO,ht,ht9,hc,hk,hr⟩:=write1 (hdoc hq) (doc_zero hq) hq2
     have hQ:∀ ty m,Qof os O ty m->m<10000:=fun ty m ⟨h1,n,h2,_⟩=>by
      have:=(List.getElem?_eq_some_iff.1 h2).1;omega
     have hkm:∀ k ∈ ks,KpOk (Qof os O) k:=fun k hm=>by
      obtain⟨j,hj⟩:=List.getElem?_of_mem hm;exact (hk j k hj).1
     have hl9:(headB.data.toList++ksB 0 ks++tabB (ksP 5 0 ks) (headB.data.toList++ksB 0 ks).length).length<=9000:=by rw[← ht];exact ht9
     have hD:=doc_read (U:=U') hQ k1 k30 hkm hr hl9
     have hget:∀ j k,ks[j]?=some k->∃ p q,(({}:Obj1)::obs 5 0 ks)[0+j+1]?=some (objK k p q):=fun j k hj=>by
      rw[List.getElem?_cons_succ,Nat.zero_add];exact obs_get ks 5 0 j k hj
     have hQ2:∀ ty m,Qof os O ty m->tnameAt (({}:Obj1)::obs 5 0 ks) m=ty:=fun ty m ⟨h1,n,h2,h3⟩=>by
      have h4:=(List.getElem?_eq_some_iff.1 h2).1;obtain⟨k,hk0⟩:∃ k,ks[m-1]?=some k:=⟨_,List.getElem?_eq_getElem (by omega)⟩;obtain⟨kk,n',h5,h6⟩:=hk (m-1) k hk0;obtain⟨p,q,hg⟩:=hget (m-1) k hk0;rw[show 0+(m-1)+1=m by omega] at hg;unfold tnameAt;rw[hg];simp only;rw[objK_type kk.ty,← h6,← h3];rw[h2] at h5;cases h5;rfl
     have hW:=write2 (os2:=({}:Obj1)::obs 5 0 ks) hQ k30 hc (fun j k hj=>⟨(hk j k hj).1,⟨(hk j k hj).1.ty,(hk j k hj).1.rs,fun g hg v hv=>((hk j k hj).1.ok g hg v hv).mono hQ2⟩,hget j k hj⟩) hl9;rw[← ht] at hD hW;refine⟨ht9,?_⟩;intro _;unfold rinseR;rw[if_pos (by decide)]
     rcases hD (100000000:Int).toNat with⟨c1,e1⟩|e1
     ·rw[e1];simp only
      rcases hW c1 with⟨c2,e2⟩|e2
      ·rw[e2];simp only;rw[if_neg (by show ¬ 9000<t.length;omega)];exact .inl ⟨c2,rfl⟩
      ·exact .inr (by rw[e2])
     ·exact .inr (by rw[e1])
   ·rw[hq2] at h;cases h
  ·rw[hq] at h;cases h
 ·cases h
end
end Go.Proofs.YtgffljllfenhkaaGreatDoor
