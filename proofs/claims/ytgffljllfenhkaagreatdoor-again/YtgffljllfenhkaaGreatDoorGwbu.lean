import Derived.Test.YtgffljllfenhkaaGreatDoorGwbm
import Derived.Test.YtgffljllfenhkaaGreatDoorGwbq
import Derived.Test.YtgffljllfenhkaaGreatDoorGwbr
import Derived.Test.YtgffljllfenhkaaGreatDoorGwbs
import Derived.Test.YtgffljllfenhkaaGreatDoorGwbt
namespace Go.Proofs.YtgffljllfenhkaaGreatDoor
section
def r9 (out:List UInt8):Nat:=9000-out.length
def Wz (out:List UInt8) (f:Nat->Res (List UInt8)):Prop:=∀ b,100000+r9 out<=b->(∀ y,f b=.no y->(y.1≠12/\y.1≠13))/\∀ o b',f b=.ok o b'->b+r9 o<=b'+r9 out
theorem Wz.of {F f:Nat->Res (List UInt8)}{g:List UInt8->Nat->Res (List UInt8)}{out:List UInt8}(hf:Wz out f) (hg:∀ o b b',f b=.ok o b'->Wz o (g o)) (hok:∀ b a b',f b=.ok a b'->F b=g a b') (hno:∀ b y,f b=.no y->F b=.no y):Wz out F:=fun b hb=>by
 obtain⟨h1,h2⟩:=hf b hb
 rcases hq:f b with⟨a,b'⟩|y
 ·rw[hok b a b' hq];have h3:=h2 a b' hq;obtain⟨g1,g2⟩:=hg a b b' hq b' (by omega);exact⟨g1,fun a2 b2 e=>by have:=g2 a2 b2 e;omega⟩
 ·rw[hno b y hq];exact⟨fun y' e=>by cases e;exact h1 y hq,fun a b' e=>by cases e⟩
theorem Wz.ret (out:List UInt8):Wz out (fun b=>Res.ok out b):=fun b _=>⟨fun y e=>(by cases e),fun a' b' e=>by cases e;omega⟩
theorem Wz.put:∀ (ts:List ByteArray) (out:List UInt8),(∀ t ∈ ts,t.size<=90000)->Wz out (putR ts out)
 | [],out,_=>fun b hb=>by simp only[putR];exact Wz.ret _ b hb
 | t::ts,out,ht=>fun b hb=>by
  have h1:=ht t (by simp);rw[putR,if_neg (show ¬ b<t.size by omega)]
  by_cases h2:9000-out.length<t.size
  ·rw[if_pos h2];exact⟨fun y e=>by cases e;decide,fun a b' e=>by cases e⟩
  ·rw[if_neg h2]
   have hr:r9 (out++t.data.toList)+t.size=r9 out:=by
    unfold r9;rw[List.length_append,show t.data.toList.length=t.size from Array.length_toList];omega
   obtain⟨g1,g2⟩:=Wz.put ts (out++t.data.toList) (fun u hu=>ht u (by simp[hu])) (b-t.size) (by omega);exact⟨g1,fun o b' e=>by have:=g2 o b' e;omega⟩
theorem ntB_size {neg:Bool}{m k:Nat}(h:leafOk (.num neg m k)):(ntB neg m k).size<=90000:=by
 obtain⟨e,⟨⟨_,_,h1⟩,h2⟩,h3⟩:=ntB_txt neg m k h;have h4:(ntB neg m k).size=e.b.length:=by rw[← h3];exact Array.length_toList.symm
 rw[h4];unfold NumT.b
 rcases hf:e.fr with _|fs
 ·simp only[List.length_append,List.length_nil];split <;> simp <;> omega
 ·have:=(h2 fs hf).2.2;simp only[List.length_append,List.length_cons];split <;> simp <;> omega
theorem leaf_sizes {v:Val}(h:leafOk v):∀ t ∈ (leafT ntB v).getD [],t.size<=90000:=by
 cases v
 case num neg m k=>
  intro t ht;have:t=ntB neg m k:=by simpa[leafT] using ht
  rw[this];exact ntB_size h
 case str s=>
  intro t ht;have ht':t=⟨#[40]⟩\/t=s\/t=⟨#[41]⟩:=by simpa[leafT] using ht
  rcases ht' with rfl|rfl|rfl
  ·decide
  ·exact h
  ·decide
 case ref n=>
  intro t ht;have ht':t=⟨#[64]⟩\/t=itoaB n:=by simpa[leafT] using ht
  rcases ht' with rfl|rfl
  ·decide
  ·exact itoaB_size n h
 all_goals exact h.elim
theorem Wz.elems:∀ (l:List Val) (i:Nat) (out:List UInt8),(∀ v ∈ l,leafOk v)->Wz out (elemsW ntB i l out)
 | [],i,out,_=>fun b hb=>by simp only[elemsW];exact Wz.ret _ b hb
 | v::l,i,out,hl=>by
  have h0:Wz out (fun b=>if 0<i then putR [spB] out b else .ok out b):=by
   by_cases hc:0<i
   ·simp only[if_pos hc];exact Wz.put _ _ (fun t ht=>by
     have:t=spB:=by simpa using ht
     rw[this];decide)
   ·simp only[if_neg hc];exact Wz.ret _
  refine Wz.of (g:=fun o1 b1=>match putR ((leafT ntB v).getD []) o1 b1 with
   | .no y=>.no y
   | .ok o2 b2=>elemsW ntB (i+1) l o2 b2) h0 (fun o1 _ _ _=>?_) (fun b a b' h=>by simp only[elemsW,h] <;> rfl) (fun b y h=>by simp only[elemsW,h])
  exact Wz.of (f:=putR ((leafT ntB v).getD []) o1) (g:=fun o2 b2=>elemsW ntB (i+1) l o2 b2) (Wz.put _ _ (leaf_sizes (hl v (by simp)))) (fun o2 _ _ _=>Wz.elems l (i+1) o2 (fun u hu=>hl u (by simp[hu]))) (fun b a b' h=>by simp only[h]) (fun b y h=>by simp only[h])
theorem one_small (t:ByteArray) (h:t.size<=90000):∀ u ∈ [t],u.size<=90000:=fun u hu=>by
 have:u=t:=by simpa using hu
 rw[this];exact h
theorem Wz.val {v:Val}(hv:keptOk v) (out:List UInt8):Wz out (valW ntB v out):=by
 cases v
 case arr l=>
  show Wz out (arrW ntB l out);unfold arrW
  refine Wz.of (f:=putR [⟨#[91]⟩] out) (g:=fun o1 b1=>match elemsW ntB 0 l o1 b1 with
   | .no y=>.no y
   | .ok o2 b2=>putR [⟨#[93]⟩] o2 b2) (Wz.put _ _ (one_small _ (by decide))) (fun o1 _ _ _=>?_) (fun b a b' h=>by simp only[h] <;> rfl) (fun b y h=>by simp only[h])
  exact Wz.of (f:=elemsW ntB 0 l o1) (g:=fun o2 b2=>putR [⟨#[93]⟩] o2 b2) (Wz.elems l 0 o1 hv.2) (fun o2 _ _ _=>Wz.put _ _ (one_small _ (by decide))) (fun b a b' h=>by simp only[h]) (fun b y h=>by simp only[h])
 all_goals exact Wz.put _ _ (leaf_sizes hv)
theorem Wz.fields:∀ (l:List (ByteArray×Val)) (out:List UInt8),(∀ f ∈ l,f.1.size<=100/\keptOk f.2)->Wz out (fieldsW ntB l out)
 | [],out,_=>fun b hb=>by simp only[fieldsW];exact Wz.ret _ b hb
 | (k,v)::l,out,hl=>by
  obtain⟨h1,h2⟩:k.size<=100/\keptOk v:=hl (k,v) (by simp)
  refine Wz.of (f:=putR [⟨#[47]⟩,k] out) (g:=fun o1 b1=>match valW ntB v o1 b1 with
   | .no y=>.no y
   | .ok o2 b2=>fieldsW ntB l o2 b2) (Wz.put _ _ (fun t ht=>?_)) (fun o1 _ _ _=>?_) (fun b a b' h=>by simp only[fieldsW,h] <;> rfl) (fun b y h=>by simp only[fieldsW,h])
  ·have ht':t=⟨#[47]⟩\/t=k:=by simpa using ht
   rcases ht' with rfl|rfl
   ·decide
   ·omega
  exact Wz.of (f:=valW ntB v o1) (g:=fun o2 b2=>fieldsW ntB l o2 b2) (Wz.val h2 o1) (fun o2 _ _ _=>Wz.fields l o2 (fun u hu=>hl u (by simp[hu]))) (fun b a b' h=>by simp only[h]) (fun b y h=>by simp only[h])
theorem Wz.obj {n:Nat}(hn:n<=80000) {ty:ByteArray}(hty:ty.size<=80000) {l:List (ByteArray×Val)}(hl:∀ f ∈ l,f.1.size<=100/\keptOk f.2) {st:ByteArray}(hst:st.size<=9000) (out:List UInt8):Wz out (objW ntB n ty l st out):=by
 unfold objW
 refine Wz.of (f:=putR [itoaB n,⟨#[32,60,60,47,84,121,112,101,47]⟩,ty] out) (g:=fun o1 b1=>match fieldsW ntB l o1 b1 with
  | .no y=>.no y
  | .ok o2 b2=>match putR [⟨#[62,62]⟩] o2 b2 with
   | .no y=>.no y
   | .ok o3 b3=>match (if ty=textB then putR [⟨#[126]⟩,itoaB st.size,⟨#[58]⟩,st] o3 b3 else .ok o3 b3) with
    | .no y=>.no y
    | .ok o4 b4=>putR [⟨#[59,10]⟩] o4 b4) (Wz.put _ _ (fun t ht=>?_)) (fun o1 _ _ _=>?_) (fun b a b' h=>by simp only[h] <;> rfl) (fun b y h=>by simp only[h])
 ·have ht':t=itoaB n\/t=⟨#[32,60,60,47,84,121,112,101,47]⟩\/t=ty:=by simpa using ht
  rcases ht' with rfl|rfl|rfl
  ·exact itoaB_size n hn
  ·decide
  ·omega
 refine Wz.of (f:=fieldsW ntB l o1) (g:=fun o2 b2=>match putR [⟨#[62,62]⟩] o2 b2 with
   | .no y=>.no y
   | .ok o3 b3=>match (if ty=textB then putR [⟨#[126]⟩,itoaB st.size,⟨#[58]⟩,st] o3 b3 else .ok o3 b3) with
    | .no y=>.no y
    | .ok o4 b4=>putR [⟨#[59,10]⟩] o4 b4) (Wz.fields l o1 hl) (fun o2 _ _ _=>?_) (fun b a b' h=>by simp only[h] <;> rfl) (fun b y h=>by simp only[h])
 refine Wz.of (f:=putR [⟨#[62,62]⟩] o2) (g:=fun o3 b3=>match (if ty=textB then putR [⟨#[126]⟩,itoaB st.size,⟨#[58]⟩,st] o3 b3 else .ok o3 b3) with
    | .no y=>.no y
    | .ok o4 b4=>putR [⟨#[59,10]⟩] o4 b4) (Wz.put _ _ (one_small _ (by decide))) (fun o3 _ _ _=>?_) (fun b a b' h=>by simp only[h] <;> rfl) (fun b y h=>by simp only[h])
 have h0:Wz o3 (fun b3=>if ty=textB then putR [⟨#[126]⟩,itoaB st.size,⟨#[58]⟩,st] o3 b3 else .ok o3 b3):=by
  by_cases hc:ty=textB
  ·simp only[if_pos hc];refine Wz.put _ _ (fun t ht=>?_);have ht':t=⟨#[126]⟩\/t=itoaB st.size\/t=⟨#[58]⟩\/t=st:=by simpa using ht
   rcases ht' with rfl|rfl|rfl|rfl
   ·decide
   ·exact itoaB_size _ (by omega)
   ·decide
   ·omega
  ·simp only[if_neg hc];exact Wz.ret _
 exact Wz.of (g:=fun o4 b4=>putR [⟨#[59,10]⟩] o4 b4) h0 (fun o4 _ _ _=>Wz.put _ _ (one_small _ (by decide))) (fun b a b' h=>by simp only[h]) (fun b y h=>by simp only[h])
theorem Wz.rows:∀ (l:List Nat) (out:List UInt8),(∀ p ∈ l,p<=9000)->Wz out (rowsW l out)
 | [],out,_=>fun b hb=>by simp only[rowsW];exact Wz.ret _ b hb
 | p::ps,out,hl=>by
  refine Wz.of (f:=putR [itoaB p,⟨#[10]⟩] out) (g:=fun o1 b1=>rowsW ps o1 b1) (Wz.put _ _ (fun t ht=>?_)) (fun o1 _ _ _=>Wz.rows ps o1 (fun q hq=>hl q (by simp[hq]))) (fun b a b' h=>by simp only[rowsW,h]) (fun b y h=>by simp only[rowsW,h]);have ht':t=itoaB p\/t=⟨#[10]⟩:=by simpa using ht
  rcases ht' with rfl|rfl
  ·exact itoaB_size p (by have:=hl p (by simp);omega)
  ·decide
theorem Wz.tab {l:List Nat}(hl:l.length<=9000) (hp:∀ p ∈ l,p<=9000) {out:List UInt8}(ho:out.length<=9000):Wz out (tabW l out):=by
 unfold tabW
 refine Wz.of (f:=putR [⟨#[120,114,101,102,32]⟩,itoaB l.length,⟨#[10]⟩] out) (g:=fun o1 b1=>match rowsW l o1 b1 with
  | .no y=>.no y
  | .ok o2 b2=>putR [⟨#[114,111,111,116,32,49,10,97,116,32]⟩,itoaB out.length,⟨#[10,101,110,100,10]⟩] o2 b2) (Wz.put _ _ (three_size _ _ _ (by omega) (by decide) (by decide))) (fun o1 _ _ _=>?_) (fun b a b' h=>by simp only[h] <;> rfl) (fun b y h=>by simp only[h])
 exact Wz.of (f:=rowsW l o1) (g:=fun o2 b2=>putR [⟨#[114,111,111,116,32,49,10,97,116,32]⟩,itoaB out.length,⟨#[10,101,110,100,10]⟩] o2 b2) (Wz.rows l o1 hp) (fun o2 _ _ _=>Wz.put _ _ (three_size _ _ _ (by omega) (by decide) (by decide))) (fun b a b' h=>by simp only[h]) (fun b y h=>by simp only[h])
theorem Cs.num (olds:List Nat) (old:Nat):Cs 1 (numR olds old):=by
 unfold numR
 exact (Cs.pay (g:=fun b=>match idx olds old with
  | some i=>.ok (i+1,olds) b
  | none=>.ok (olds.length+1,olds++[old]) b) 1 (c:=0) (by rcases idx olds old with _ | i <;> exact Cs.ret _ _)).le (by omega)
theorem Cs.renLeaf (olds:List Nat) (v:Val):Cs 1 (YtgffljllfenhkaaGreatDoor.renLeaf olds v):=by
 cases v
 case ref n=>exact Cs.of (f:=numR olds n) (g:=fun p b=>.ok (.ref p.1,p.2) b) (c2:=0) (Cs.num olds n) (fun p _ _ _=>Cs.ret _ _) (by omega) (fun b a b' h=>by unfold YtgffljllfenhkaaGreatDoor.renLeaf;simp only[h]) (fun b y h=>by unfold YtgffljllfenhkaaGreatDoor.renLeaf;simp only[h])
 all_goals exact Cs.ret _ _
theorem Cs.renL:∀ (l acc:List Val) (olds:List Nat),Cs l.length (YtgffljllfenhkaaGreatDoor.renL l acc olds)
 | [],acc,olds=>fun b hb=>by simp only[YtgffljllfenhkaaGreatDoor.renL];exact Cs.ret _ _ b hb
 | v::l,acc,olds=>Cs.of (f:=YtgffljllfenhkaaGreatDoor.renLeaf olds v) (g:=fun p b=>YtgffljllfenhkaaGreatDoor.renL l (acc++[p.1]) p.2 b) (c2:=l.length) (Cs.renLeaf olds v) (fun p _ _ _=>Cs.renL l _ _) (by rw[List.length_cons];omega) (fun b a b' h=>by simp only[YtgffljllfenhkaaGreatDoor.renL,h]) (fun b y h=>by simp only[YtgffljllfenhkaaGreatDoor.renL,h])
theorem Cs.renV (olds:List Nat) {v:Val}(hv:(elemsOf v).length<=9000):Cs 9000 (YtgffljllfenhkaaGreatDoor.renV olds v):=by
 cases v
 case arr l=>exact Cs.of (f:=YtgffljllfenhkaaGreatDoor.renL l [] olds) (g:=fun p b=>.ok (.arr p.1,p.2) b) (c1:=9000) (c2:=0) ((Cs.renL l [] olds).le hv) (fun p _ _ _=>Cs.ret _ _) (by omega) (fun b a b' h=>by unfold YtgffljllfenhkaaGreatDoor.renV;simp only[h]) (fun b y h=>by unfold YtgffljllfenhkaaGreatDoor.renV;simp only[h])
 all_goals (unfold YtgffljllfenhkaaGreatDoor.renV;exact (Cs.renLeaf olds _).le (by omega))
theorem Cs.right (os:List Obj1) (r:Rule) {v:Val}(hv:(elemsOf v).length<=9000):Cs 9001 (r.right os v):=by
 cases r
 case kids=>exact (Cs.pay (g:=fun b=>.ok (Val.arr ((elemsOf v).filter (refTo os pageB)),isArr v) b) (c:=0) (elemsOf v).length (Cs.ret _ _)).le (by omega)
 case next=>exact (Cs.pay (g:=fun b=>.ok (v,refTo os pageB v) b) (c:=0) 1 (Cs.ret _ _)).le (by omega)
 case text=>exact (Cs.pay (g:=fun b=>.ok (v,refTo os textB v) b) (c:=0) 1 (Cs.ret _ _)).le (by omega)
 all_goals exact Cs.ret _ _
theorem right_len {os:List Obj1}{r:Rule}{v v':Val}{c:Bool}{b b':Nat}(hv:(elemsOf v).length<=9000) (h:r.right os v b=.ok (v',c) b'):(elemsOf v').length<=9000:=by
 cases r
 case kids=>
  simp only[Rule.right,kidsR] at h;split at h
  ·cases h
  ·cases h;exact Nat.le_trans (List.length_filter_le _ _) hv
 case next=>
  simp only[Rule.right,refR] at h;split at h
  ·cases h
  ·cases h;exact hv
 case text=>
  simp only[Rule.right,refR] at h;split at h
  ·cases h
  ·cases h;exact hv
 all_goals (simp only[Rule.right] at h;cases h;exact hv)
theorem Cs.keepL (os:List Obj1) (o:Obj1) (ho:∀ r:Rule,(elemsOf (vget o.v r.key)).length<=9000):∀ (rs:List Rule) (acc:List (ByteArray×Val)) (olds:List Nat),Cs (rs.length*18001) (YtgffljllfenhkaaGreatDoor.keepL os o rs acc olds)
 | [],acc,olds=>fun b hb=>by simp only[YtgffljllfenhkaaGreatDoor.keepL];exact Cs.ret _ _ b hb
 | r::rs,acc,olds=>by
  refine Cs.of (f:=r.right os (vget o.v r.key)) (g:=fun p b1=>if p.2=true then (match YtgffljllfenhkaaGreatDoor.renV olds p.1 b1 with
   | .no y=>.no y
   | .ok (v',o') b2=>YtgffljllfenhkaaGreatDoor.keepL os o rs (acc++[(r.key,v')]) o' b2) else YtgffljllfenhkaaGreatDoor.keepL os o rs acc olds b1) (c1:=9001) (c2:=9000+rs.length*18001) (Cs.right _ _ (ho r)) (fun p b b' hp=>Cs.ite (fun _=>?_) (fun _=>(Cs.keepL os o ho rs _ _).le (by omega))) (by rw[List.length_cons];omega) (fun b a b' h=>?_) (fun b y h=>by simp only[YtgffljllfenhkaaGreatDoor.keepL,h])
  ·exact Cs.of (f:=YtgffljllfenhkaaGreatDoor.renV olds p.1) (g:=fun q b2=>YtgffljllfenhkaaGreatDoor.keepL os o rs (acc++[(r.key,q.1)]) q.2 b2) (c1:=9000) (c2:=rs.length*18001) (Cs.renV _ (right_len (v':=p.1) (c:=p.2) (ho r) hp)) (fun q _ _ _=>Cs.keepL os o ho rs _ _) (by omega) (fun b a b' h=>by simp only[h]) (fun b y h=>by simp only[h])
  ·obtain⟨v,c⟩:=a;cases c
   ·simp only[YtgffljllfenhkaaGreatDoor.keepL,h,Bool.false_eq_true,if_false]
   ·simp only[YtgffljllfenhkaaGreatDoor.keepL,h,if_true];rfl
theorem rules_few (ty:ByteArray):(rulesOf ty).length<=3:=by
 unfold rulesOf;split
 ·decide
 ·split <;> decide
theorem reach_ar {f b b1 r:Nat}(hb:100000+100000*(f+1)+r<=b) (k:b<=b1+60000):100000+r<=b1:=by
 have h1:100000+r+100000<=b:=Nat.le_trans (by rw[Nat.mul_add,Nat.mul_one];generalize 100000*f=q;omega) hb;have h2:100000+r+100000<=b1+60000:=Nat.le_trans h1 k;exact Nat.le_of_add_le_add_right (b:=60000) (Nat.le_trans (Nat.add_le_add_left (by decide) _) h2)
theorem reach_cost {os:List Obj1}(hos:os.length<=31) (hV:∀ o ∈ os,VO o.v/\o.stream.size<=9000):∀ (f i:Nat) (olds places:List Nat) (out:List UInt8) (b:Nat),OldsLt os.length olds->i+f<=60->out.length<=9000->places.length<=i->(∀ p ∈ places,p<=9000)->100000+100000*f+r9 out<=b ->
  (∀ y,reachW ntB os f i olds places out b=.no y->(y.1≠12/\y.1≠13))/\∀ pl o b',reachW ntB os f i olds places out b=.ok (pl,o) b'->b+r9 o<=b'+100000*f+r9 out/\o.length<=9000/\pl.length<=60/\∀ p ∈ pl,p<=9000
 | 0,i,olds,places,out,b,ho,hi,hl,hp,hpl,hb=>by
  simp only[reachW];exact⟨fun y e=>by cases e;decide,fun pl o b' e=>by cases e⟩
 | f+1,i,olds,places,out,b,ho,hi,hl,hp,hpl,hb=>by
  rw[reachW]
  rcases hn:olds[i]? with _|n
  ·refine⟨fun y e=>(by cases e),fun pl o b' e=>?_⟩;cases e;exact⟨by omega,hl,by omega,hpl⟩
  ·simp only
   rcases hob:os[n]? with _|o
   ·exact⟨fun y e=>by cases e;decide,fun pl o b' e=>by cases e⟩
   ·simp only;have hom:o ∈ os:=List.mem_of_getElem? hob;have hr:=rules_few (tname o);obtain⟨k1,k2⟩:=(Cs.keepL os o (fun r=>(vget_ok (hV o hom).1 r.key).1) (rulesOf (tname o)) [] olds).le (c':=60000) (by omega) b (by omega)
    rcases hk:keepL os o (rulesOf (tname o)) [] olds b with⟨⟨fs,olds'⟩,b1⟩|y
    ·simp only;have k3:=k2 _ _ hk;obtain⟨l1,l2,l3⟩:=keepL_lt (by omega) (fun r=>vget_ok (hV o hom).1 r.key) _ [] hk ho (by simp);clear k1 k2;have hb1:100000+r9 out<=b1:=reach_ar hb k3;obtain⟨w1,w2⟩:=Wz.obj (n:=i+1) (by omega) (tname_small o) l2 (hV o hom).2 out b1 hb1
     rcases hw:objW ntB (i+1) (tname o) fs o.stream out b1 with⟨o2,b2⟩|y
     ·simp only;have w3:=w2 _ _ hw;have w4:=(objW_out ntB hw).2 hl
      obtain⟨g1,g2⟩:=reach_cost hos hV f (i+1) olds' (places++[out.length]) o2 b2 l1 (by omega) w4 (by rw[List.length_append,List.length_singleton];omega) (fun p hq=>by
       rcases List.mem_append.1 hq with h5|h5
       ·exact hpl p h5
       ·have:p=out.length:=by simpa using h5
        omega) (by omega)
      refine⟨g1,fun pl o b' e=>?_⟩;obtain⟨g3,g4,g5,g6⟩:=g2 pl o b' e;exact⟨by omega,g4,g5,g6⟩
     ·exact⟨fun y' e=>by cases e;exact w1 _ hw,fun pl o b' e=>by cases e⟩
    ·exact⟨fun y' e=>by cases e;exact k1 _ hk,fun pl o b' e=>by cases e⟩
theorem write_cost {os:List Obj1}(hos:os.length<=31) (hV:∀ o ∈ os,VO o.v/\o.stream.size<=9000) {root:Nat}(hr:root<os.length) {b:Nat}(hb:5000000<=b) {y:Why}(h:writeR ntB os root b=.no y):(y.1≠12/\y.1≠13):=by
 unfold writeR at h;have r0:r9 []=9000:=rfl;obtain⟨p1,p2⟩:=Wz.put [headB] [] (one_small _ (by decide)) b (by omega)
 rcases h1:putR [headB] [] b with⟨o1,b1⟩|y'
 ·rw[h1] at h;simp only at h;have p3:=p2 _ _ h1;have p4:=(putR_out _ h1).2 (by simp)
  have hone:OldsLt os.length [root]:=⟨by simp,fun n hn=>by
   have:n=root:=by simpa using hn
   omega⟩
  have q9:r9 o1<=9000:=by unfold r9;omega
  obtain⟨g1,g2⟩:=reach_cost hos hV 40 0 [root] [] o1 b1 hone (by omega) p4 (by simp) (by simp) (by omega)
  rcases h2:reachW ntB os 40 0 [root] [] o1 b1 with⟨⟨pl,o2⟩,b2⟩|y'
  ·rw[h2] at h;simp only at h;obtain⟨g3,g4,g5,g6⟩:=g2 _ _ _ h2;have q9':r9 o2<=9000:=by unfold r9;omega
   exact (Wz.tab (by omega) g6 g4 b2 (by omega)).1 y h
  ·rw[h2] at h;cases h;exact g1 _ h2
 ·rw[h1] at h;cases h;exact p1 _ h1
theorem reachW_len {nt:Bool->Nat->Nat->ByteArray}{os:List Obj1}:∀ (f i:Nat) (olds places:List Nat) (out:List UInt8) (b:Nat) {pl:List Nat}{out':List UInt8}{b':Nat},reachW nt os f i olds places out b=.ok (pl,out') b'->out.length<=9000->out'.length<=9000
 | 0,i,olds,places,out,b,pl,out',b',h,_=>by cases h
 | f+1,i,olds,places,out,b,pl,out',b',h,ho=>by
  rw[reachW] at h;split at h
  ·simp only[Res.ok.injEq,Prod.mk.injEq] at h;rw[← h.1.2];exact ho
  ·split at h
   ·cases h
   ·split at h
    ·cases h
    ·split at h
     ·cases h
     ·rename_i hw;exact reachW_len f _ _ _ _ _ h ((objW_out nt hw).2 ho)
theorem write_len {nt:Bool->Nat->Nat->ByteArray}{os:List Obj1}{root b b':Nat}{t:List UInt8}(h:writeR nt os root b=.ok t b'):t.length<=9000:=by
 unfold writeR at h;split at h
 ·cases h
 ·rename_i h1;split at h
  ·cases h
  ·rename_i h2;have l2:=reachW_len _ _ _ _ _ _ h2 ((putR_out _ h1).2 (by simp));unfold tabW at h;split at h
   ·cases h
   ·rename_i h3;split at h
    ·cases h
    ·rename_i h4;exact (putR_out _ h).2 ((rowsW_out _ h4).2 ((putR_out _ h3).2 l2))
theorem rinse_most (f:ByteArray) {y:Why}(h:rinseR unpackU ntB f 100000000 9000=.no y):y.1≠12/\y.1≠13:=by
 unfold rinseR at h;rw[if_pos (by decide)] at h;have e8:(100000000:Int).toNat=100000000:=rfl;have e9:(9000:Int).toNat=9000:=rfl;rw[e8,e9] at h;obtain⟨d1,d2⟩:=Cs.doc f 100000000 (by omega)
 rcases hq:docR unpackU f 100000000 with⟨⟨at_,pl,root,os⟩,b⟩|y'
 ·rw[hq] at h;simp only at h;have d3:=d2 _ _ hq;have hd:=docR_ok unpackU_small hq
  rcases hq2:writeR ntB os root b with⟨t,b'⟩|y'
  ·rw[hq2] at h;simp only at h;have hl:=write_len hq2;rw[if_neg (by omega)] at h;cases h
  ·rw[hq2] at h;cases h;exact write_cost hd.1 hd.2.2.2 hd.2.1 (by omega) hq2
 ·rw[hq] at h;cases h;exact d1 _ hq
end
section
open Go.RowKit
theorem rinse_again {f:ByteArray}{st ou:Int}{t:List UInt8}{b:Nat}(h:rinseR unpackU ntB f st ou=.ok t b):t.length<=9000/\∃ b',rinseR unpackU ntB (bstr t) 100000000 9000=.ok t b':=by
 obtain⟨h9,hm⟩:=again_math (U:=unpackU) (U':=unpackU) (fun h=>docR_ok unpackU_small h) h;refine⟨h9,?_⟩
 rcases hm 0 with⟨b',e⟩|e
 ·exact⟨b',e⟩
 ·exact absurd rfl (rinse_most _ e).1
theorem again_any {w:World}{T:Nat}(hA:AllT w T) (f:ByteArray) (hf:f.size<9223372036854775808) :
  Calls Tryz.prog 6 #[.string f] w fun e w'=>e=.returned (.bool true)/\Below w.heap.size w w':=by
 have AL:=alive_any hA;have MO:=fun (W:World) (hW:Below w.heap.size w W)=>most_any (hA.below hW) f hf
 rcases hq:rinseR unpackU ntB f 100000000 9000 with⟨t,b⟩|y
 ·rw[hq] at MO;obtain⟨h9,b',hs⟩:=rinse_again hq;have hsz:(bstr t).size<9223372036854775808:=by rw[bstr_size];omega
  have RI:=fun (W:World) (hW:Below w.heap.size w W)=>Rinse_all (hA.below hW) (bstr t) hsz 100000000 9000
  have MS:=fun (W:World) (hW:Below w.heap.size w W)=>most_any (hA.below hW) (bstr t) hsz
  rw[hs] at RI MS
  exact again_yes AL MO MS
   (fun W hW=>clean_w greatest_any (fun W2 h2=>RI W2 (hW.trans (h2.mono hW.size))))
   (fun W hW=>check_w greatest_any (fun W2 h2=>RI W2 (hW.trans (h2.mono hW.size)))) num_any
 ·rw[hq] at MO;have h0:=rinseR_nz f _ _ y hq;have hm:=rinse_most f hq;have RI:=fun (W:World) (hW:Below w.heap.size w W)=>Rinse_all (hA.below hW) f hf 100000000 9000
  rw[hq] at RI;exact again_no (by omega) (by omega) (by omega) AL MO (fun W hW=>check_w greatest_any (fun W2 h2=>RI W2 (hW.trans (h2.mono hW.size)))) num_any
end
end Go.Proofs.YtgffljllfenhkaaGreatDoor
