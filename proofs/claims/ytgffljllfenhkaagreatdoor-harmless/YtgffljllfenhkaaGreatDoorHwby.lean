import Derived.Test.YtgffljllfenhkaaGreatDoorHwbs
import Derived.Test.YtgffljllfenhkaaGreatDoorHwbx
section
namespace Go.Proofs.YtgffljllfenhkaaGreatDoor
def Nz {α:Type} (r:Res α):Prop:=∀ y,r=.no y→y.1≠0
theorem Nz.ok {α:Type} (a:α) (b:Nat):Nz (Res.ok a b):=fun y e=>by cases e
theorem Nz.mk {α:Type} {y:Why} (h:y.1≠0):Nz (Res.no y:Res α):=fun y' e=>by cases e;exact h
theorem Nz.of {α β:Type} {r:Res α} {y:Why} (h:Nz r) (e:r=.no y):Nz (Res.no y:Res β):=Nz.mk (h y e)
theorem putR_nz:∀ (ts:List ByteArray) (out:List UInt8) (b:Nat),Nz (putR ts out b)
 | [],out,b=>by unfold putR;exact Nz.ok _ _
 | t::ts,out,b=>by
  unfold putR
  split
  ·exact Nz.mk (by decide)
  ·split
   ·exact Nz.mk (by decide)
   ·exact putR_nz ts _ _
theorem elemsW_nz (nt:Bool→Nat→Nat→ByteArray):∀ (l:List Val) (i:Nat) (out:List UInt8) (b:Nat),Nz (elemsW nt i l out b)
 | [],i,out,b=>by unfold elemsW;exact Nz.ok _ _
 | v::l,i,out,b=>by
  unfold elemsW
  have h0:Nz (if 0 < i then putR [spB] out b else .ok out b):=by
   by_cases hc:0 < i
   ·rw [if_pos hc];exact putR_nz _ _ _
   ·rw [if_neg hc];exact Nz.ok _ _
  rcases h1:(if 0 < i then putR [spB] out b else .ok out b) with ⟨o1,b1⟩ | y
  ·show Nz (match putR ((leafT nt v).getD []) o1 b1 with
    | .no y=>.no y
    | .ok o2 b2=>elemsW nt (i+1) l o2 b2)
   rcases h2:putR ((leafT nt v).getD []) o1 b1 with ⟨o2,b2⟩ | y
   ·exact elemsW_nz nt l _ _ _
   ·exact (putR_nz _ _ _).of h2
  ·exact h0.of h1
theorem valW_nz (nt:Bool→Nat→Nat→ByteArray) (v:Val) (out:List UInt8) (b:Nat):Nz (valW nt v out b):=by
 cases v
 case arr l=>
  show Nz (arrW nt l out b)
  unfold arrW
  rcases h1:putR [⟨#[91]⟩] out b with ⟨o1,b1⟩ | y
  ·show Nz (match elemsW nt 0 l o1 b1 with
    | .no y=>.no y
    | .ok o2 b2=>putR [⟨#[93]⟩] o2 b2)
   rcases h2:elemsW nt 0 l o1 b1 with ⟨o2,b2⟩ | y
   ·exact putR_nz _ _ _
   ·exact (elemsW_nz nt l 0 _ _).of h2
  ·exact (putR_nz _ _ _).of h1
 all_goals exact putR_nz _ _ _
theorem fieldsW_nz (nt:Bool→Nat→Nat→ByteArray):∀ (l:List (ByteArray×Val)) (out:List UInt8) (b:Nat),Nz (fieldsW nt l out b)
 | [],out,b=>by unfold fieldsW;exact Nz.ok _ _
 | (k,v)::l,out,b=>by
  unfold fieldsW
  rcases h1:putR [⟨#[47]⟩,k] out b with ⟨o1,b1⟩ | y
  ·show Nz (match valW nt v o1 b1 with
    | .no y=>.no y
    | .ok o2 b2=>fieldsW nt l o2 b2)
   rcases h2:valW nt v o1 b1 with ⟨o2,b2⟩ | y
   ·exact fieldsW_nz nt l _ _
   ·exact (valW_nz nt v _ _).of h2
  ·exact (putR_nz _ _ _).of h1
theorem objW_nz (nt:Bool→Nat→Nat→ByteArray) (n:Nat) (ty:ByteArray) (l:List (ByteArray×Val)) (st:ByteArray) (out:List UInt8) (b:Nat):Nz (objW nt n ty l st out b):=by
 unfold objW
 rcases h1:putR [itoaB n,⟨#[32,60,60,47,84,121,112,101,47]⟩,ty] out b with ⟨o1,b1⟩ | y
 ·simp only
  rcases h2:fieldsW nt l o1 b1 with ⟨o2,b2⟩ | y
  ·simp only
   rcases h3:putR [⟨#[62,62]⟩] o2 b2 with ⟨o3,b3⟩ | y
   ·simp only
    have h0:Nz (if ty=textB then putR [⟨#[126]⟩,itoaB st.size,⟨#[58]⟩,st] o3 b3 else .ok o3 b3):=by
     by_cases hc:ty=textB
     ·rw [if_pos hc];exact putR_nz _ _ _
     ·rw [if_neg hc];exact Nz.ok _ _
    rcases h4:(if ty=textB then putR [⟨#[126]⟩,itoaB st.size,⟨#[58]⟩,st] o3 b3 else .ok o3 b3) with ⟨o4,b4⟩ | y
    ·exact putR_nz _ _ _
    ·exact h0.of h4
   ·exact (putR_nz _ _ _).of h3
  ·exact (fieldsW_nz nt l _ _).of h2
 ·exact (putR_nz _ _ _).of h1
theorem rowsW_nz:∀ (l:List Nat) (out:List UInt8) (b:Nat),Nz (rowsW l out b)
 | [],out,b=>by unfold rowsW;exact Nz.ok _ _
 | p::ps,out,b=>by
  unfold rowsW
  rcases h1:putR [itoaB p,⟨#[10]⟩] out b with ⟨o1,b1⟩ | y
  ·exact rowsW_nz ps _ _
  ·exact (putR_nz _ _ _).of h1
theorem tabW_nz (l:List Nat) (out:List UInt8) (b:Nat):Nz (tabW l out b):=by
 unfold tabW
 rcases h1:putR [⟨#[120,114,101,102,32]⟩,itoaB l.length,⟨#[10]⟩] out b with ⟨o1,b1⟩ | y
 ·simp only
  rcases h2:rowsW l o1 b1 with ⟨o2,b2⟩ | y
  ·exact putR_nz _ _ _
  ·exact (rowsW_nz l _ _).of h2
 ·exact (putR_nz _ _ _).of h1
theorem numR_nz (olds:List Nat) (old b:Nat):Nz (numR olds old b):=by
 unfold numR
 split
 ·exact Nz.mk (by decide)
 ·rcases idx olds old with _ | i <;> exact Nz.ok _ _
theorem renLeaf_nz (olds:List Nat) (v:Val) (b:Nat):Nz (renLeaf olds v b):=by
 cases v
 case ref n=>
  unfold renLeaf
  simp only
  rcases h1:numR olds n b with ⟨⟨m,o'⟩,b1⟩ | y
  ·exact Nz.ok _ _
  ·exact (numR_nz _ _ _).of h1
 all_goals exact Nz.ok _ _
theorem renL_nz:∀ (l acc:List Val) (olds:List Nat) (b:Nat),Nz (renL l acc olds b)
 | [],acc,olds,b=>by unfold renL;exact Nz.ok _ _
 | v::l,acc,olds,b=>by
  unfold renL
  rcases h1:renLeaf olds v b with ⟨⟨v',o'⟩,b1⟩ | y
  ·exact renL_nz l _ _ _
  ·exact (renLeaf_nz _ _ _).of h1
theorem renV_nz (olds:List Nat) (v:Val) (b:Nat):Nz (renV olds v b):=by
 cases v
 case arr l=>
  unfold renV
  simp only
  rcases h1:renL l [] olds b with ⟨⟨l',o'⟩,b1⟩ | y
  ·exact Nz.ok _ _
  ·exact (renL_nz _ _ _ _).of h1
 all_goals (unfold renV;exact renLeaf_nz olds _ b)
theorem right_nz (os:List Obj1) (r:Rule) (v:Val) (b:Nat):Nz (r.right os v b):=by
 cases r
 case kids=>show Nz (kidsR os v b);unfold kidsR;split;exact Nz.mk (by decide);exact Nz.ok _ _
 case next=>show Nz (refR os pageB v b);unfold refR;split;exact Nz.mk (by decide);exact Nz.ok _ _
 case text=>show Nz (refR os textB v b);unfold refR;split;exact Nz.mk (by decide);exact Nz.ok _ _
 all_goals exact Nz.ok _ _
theorem keepL_nz (os:List Obj1) (o:Obj1):∀ (rs:List Rule) (acc:List (ByteArray×Val)) (olds:List Nat) (b:Nat),Nz (keepL os o rs acc olds b)
 | [],acc,olds,b=>by unfold keepL;exact Nz.ok _ _
 | r::rs,acc,olds,b=>by
  unfold keepL
  rcases h1:r.right os (vget o.v r.key) b with ⟨⟨v,c⟩,b1⟩ | y
  ·cases c
   ·exact keepL_nz os o rs _ _ _
   ·simp only
    rcases h2:renV olds v b1 with ⟨⟨v',o'⟩,b2⟩ | y
    ·exact keepL_nz os o rs _ _ _
    ·exact (renV_nz _ _ _).of h2
  ·exact (right_nz _ _ _ _).of h1
theorem reachW_nz (nt:Bool→Nat→Nat→ByteArray) {os:List Obj1} (hos:os.length≤31) (hV:∀ o ∈ os,VO o.v∧o.stream.size≤9000):∀ (f i:Nat) (olds places:List Nat) (out:List UInt8) (b:Nat),OldsLt os.length olds→i≤olds.length→40≤f+i→Nz (reachW nt os f i olds places out b)
 | 0,i,olds,places,out,b,ho,hi,hf=>by have:=ho.len;omega
 | f+1,i,olds,places,out,b,ho,hi,hf=>by
  rw [reachW]
  rcases hn:olds[i]? with _ | n
  ·exact Nz.ok _ _
  ·simp only
   have hil:=(List.getElem?_eq_some_iff.1 hn).1
   have hnl:=ho.2 n (List.mem_of_getElem? hn)
   rw [List.getElem?_eq_getElem hnl]
   simp only
   rcases hk:keepL os os[n] (rulesOf (tname os[n])) [] olds b with ⟨⟨fs,olds'⟩,b1⟩ | y
   ·simp only
    rcases hw:objW nt (i+1) (tname os[n]) fs os[n].stream out b1 with ⟨o2,b2⟩ | y
    ·simp only
     have hok':OldsLt os.length olds':=(keepL_lt (by omega) (fun r=>vget_ok (hV _ (List.getElem_mem hnl)).1 r.key) _ [] hk ho (by simp)).1
     obtain ⟨ext,hext,_⟩:=keepL_x _ _ hk
     exact reachW_nz nt hos hV f (i+1) olds' _ o2 b2 hok' (by rw [hext,List.length_append];omega) (by omega)
    ·exact (objW_nz _ _ _ _ _ _ _).of hw
   ·exact (keepL_nz _ _ _ _ _ _).of hk
theorem writeR_nz (nt:Bool→Nat→Nat→ByteArray) {os:List Obj1} (hos:os.length≤31) (hV:∀ o ∈ os,VO o.v∧o.stream.size≤9000) {root:Nat} (hr:root < os.length) (b:Nat):Nz (writeR nt os root b):=by
 unfold writeR
 rcases h1:putR [headB] [] b with ⟨o1,b1⟩ | y
 ·simp only
  have hone:OldsLt os.length [root]:=⟨by simp,fun n hn=>by
   have:n=root:=by simpa using hn
   omega⟩
  rcases h2:reachW nt os 40 0 [root] [] o1 b1 with ⟨⟨pl,o2⟩,b2⟩ | y
  ·exact tabW_nz _ _ _
  ·exact (reachW_nz nt hos hV 40 0 [root] [] o1 b1 hone (Nat.zero_le _) (by omega)).of h2
 ·exact (putR_nz _ _ _).of h1
theorem overI_nz (o:Obj1) (num:Nat):∀ (l:List Obj1) (b:Nat),Nz (overI o num l b)
 | [],b=>by unfold overI;exact Nz.ok _ _
 | u::l,b=>by
  unfold overI
  split
  ·exact Nz.mk (by decide)
  ·split
   ·exact Nz.mk (Nat.succ_ne_zero 7)
   ·exact overI_nz o num l _
theorem overO_nz (os:List Obj1):∀ (m b:Nat),Nz (overO os m b)
 | 0,b=>by unfold overO;exact Nz.ok _ _
 | m+1,b=>by
  unfold overO
  rcases os[os.length - (m+1)]? with _ | o
  ·exact Nz.ok _ _
  ·simp only
   rcases h1:overI o (os.length - (m+1)) (os.take (os.length - (m+1))) b with ⟨_,b1⟩ | y
   ·exact overO_nz os m _
   ·exact (overI_nz _ _ _ _).of h1
theorem docR_nz (f:ByteArray) (b:Nat):Nz (docR unpackU f b):=by
 unfold docR
 split
 ·exact Nz.mk (by decide)
 ·split
  ·exact Nz.mk (by decide)
  ·rename_i hf _
   rcases hq:tabR f b with ⟨⟨a,l,r⟩,b1⟩ | y
   ·simp only
    obtain ⟨t1,t2,t3,_,t5,t6⟩:=tabR_inv hq
    rcases hq2:objsR f a l 1 b1 with ⟨l2,b2⟩ | y
    ·simp only
     obtain ⟨o1,o2⟩:=objsR_ok (by omega) t1 l hq2
     rcases hq3:overR ({}::l2) b2 with ⟨_,b3⟩ | y
     ·simp only
      rcases hq4:unpL unpackU ({}::l2) 0 b3 with ⟨os',b4⟩ | y
      ·simp only
       split
       ·exact Nz.ok _ _
       ·exact Nz.mk (by decide)
      ·refine Nz.mk (unpL_nz _ (fun o ho=>?_) hq4)
       rcases List.mem_cons.1 ho with rfl | h3
       ·exact Nat.zero_le _
       ·exact (o2 o h3).2
     ·exact (overO_nz _ _ _).of hq3
    ·exact Nz.mk (objsR_nz (by omega) t1 l hq2)
   ·exact Nz.mk (tabR_nz hq)
theorem rinseR_nz (f:ByteArray) (st ou:Int):Nz (rinseR unpackU ntB f st ou):=by
 unfold rinseR
 split
 ·rcases hq:docR unpackU f st.toNat with ⟨⟨at_,pl,root,os⟩,b⟩ | y
  ·simp only
   obtain ⟨d1,d2,_,d4⟩:=docR_ok unpackU_small hq
   rcases hq2:writeR ntB os root b with ⟨t,b'⟩ | y
   ·simp only
    split
    ·exact Nz.mk (by decide)
    ·exact Nz.ok _ _
   ·exact (writeR_nz ntB d1 d4 d2 b).of hq2
  ·exact (docR_nz f _).of hq
 ·exact Nz.mk (by decide)
end Go.Proofs.YtgffljllfenhkaaGreatDoor
end
