import Derived.Test.YtgffljllfenhkaaGreatDoorLwat
import Derived.Test.YtgffljllfenhkaaGreatDoorLwbb
import Derived.Test.YtgffljllfenhkaaGreatDoorLwbl
section
namespace Go.Proofs.YtgffljllfenhkaaGreatDoor
open Go.RowKit
attribute [local go_sem] Oper.semAt_some
variable {w w':World} {X:Nat} {s:ByteArray}
theorem Rest.bad {l:List UInt8} (h:Rest w X s l):Rest (w.setCell ⟨X,2,none⟩ (.bool false)) X s l∧Fb X w (w.setCell ⟨X,2,none⟩ (.bool false)):=by
 refine ⟨⟨h.suf,⟨?_,h.ey.hp,h.ey.hs⟩⟩,⟨rfl,rfl,rfl,by simp,fun k hk hne=>Below.heap_setCell _ _ _ _ (by exact hne)⟩⟩
 rw [heap_setCell_same _ X 2 _ _ _ h.ey.x]
 rfl
def refT (k:List UInt8):Option (List UInt8)→List UInt8
 | none=>[]
 | some d=>k++d
def boxT:Option (List NumT)→List UInt8
 | none=>[]
 | some es=>[47,66,111,120,91]++(tailT false true es++[93])
def kidsT:Option (List NumT)→List UInt8
 | none=>[]
 | some es=>[47,75,105,100,115,91]++(tailT true true es++[93])
def titT:Option (List UInt8)→List UInt8
 | none=>[]
 | some t=>[47,84,105,116,108,101,40]++(t++[41])
def refOkT (d:Option (List UInt8)):Prop:=∀ l,d=some l→digsOk l
end Go.Proofs.YtgffljllfenhkaaGreatDoor
end
section
namespace Go.Proofs.YtgffljllfenhkaaGreatDoor
open Go.RowKit
attribute [local go_sem] Oper.semAt_some
variable {w w':World} {X:Nat} {s:ByteArray}
inductive ObT where
 | root (kd:Option (List NumT)) (ti:Option (List UInt8))
 | page (bx:Option (List NumT)) (nx tx:Option (List UInt8))
 | text (ds st:List UInt8)
def ObT.t:ObT→List UInt8→List UInt8
 | .root kd ti,l=>(⟨#[32,60,60,47,84,121,112,101,47,82,111,111,116]⟩:ByteArray).data.toList++(kidsT kd++(titT ti++([62,62]++l)))
 | .page bx nx tx,l=>(⟨#[32,60,60,47,84,121,112,101,47,80,97,103,101]⟩:ByteArray).data.toList++(boxT bx++(refT [47,78,101,120,116,64] nx++(refT [47,84,101,120,116,64] tx++([62,62]++l))))
 | .text ds st,l=>(⟨#[32,60,60,47,84,121,112,101,47,84,101,120,116]⟩:ByteArray).data.toList++((⟨#[62,62,126]⟩:ByteArray).data.toList++(ds++58::(st++l)))
def ObT.ok (n:Nat):ObT→Prop
 | .root kd ti=>n=1∧(∀ es,kd=some es→es.length≤9000∧∀ e ∈ es,e.ok)∧(∀ t,ti=some t→textOk t=true)
 | .page bx nx tx=>(∀ es,bx=some es→es.length=4∧∀ e ∈ es,e.ok)∧refOkT nx∧refOkT tx
 | .text ds st=>digsOk ds∧digV ds 0=st.length
theorem ObT.head (o:ObT) (l:List UInt8):∃ l',o.t l=32::l':=by cases o <;> exact ⟨_,rfl⟩
end Go.Proofs.YtgffljllfenhkaaGreatDoor
end
section
namespace Go.Proofs.YtgffljllfenhkaaGreatDoor
open Go.RowKit
attribute [local go_sem] Oper.semAt_some
variable {w w':World} {X:Nat} {s:ByteArray}
def objsT:List (List UInt8×ObT)→List UInt8→List UInt8
 | [],l=>l
 | x::xs,l=>x.1++x.2.t (59::10::objsT xs l)
def tabT:List (List UInt8)→List UInt8→List UInt8
 | [],l=>l
 | d::ds,l=>10::(d++tabT ds l)
def endT (ad:List UInt8):List UInt8:=(⟨#[10,114,111,111,116,32,49,10,97,116,32]⟩:ByteArray).data.toList++(ad++(⟨#[10,101,110,100,10]⟩:ByteArray).data.toList)
def tailX (cnt:List UInt8) (pds:List (List UInt8)) (ad:List UInt8):List UInt8:=(⟨#[120,114,101,102,32]⟩:ByteArray).data.toList++(cnt++tabT pds (endT ad))
def placeT (s:ByteArray) (objs:List (List UInt8×ObT)) (tl:List UInt8) (i:Nat):Nat:=s.size - (objsT (objs.drop i) tl).length
structure KnowT (s:ByteArray) (objs:List (List UInt8×ObT)) (cnt:List UInt8) (pds:List (List UInt8)) (ad:List UInt8):Prop where
 txt:s.data.toList=(⟨#[68,79,67,49,10]⟩:ByteArray).data.toList++objsT objs (tailX cnt pds ad)
 hs:s.size≤9000
 len:objs.length≤1000
 obj:∀ i x,objs[i]?=some x→digsOk x.1∧digV x.1 0=i+1∧x.2.ok (i+1)
 hcnt:digsOk cnt∧digV cnt 0=objs.length
 pln:pds.length=objs.length
 hpds:∀ i d,pds[i]?=some d→digsOk d∧digV d 0=placeT s objs (tailX cnt pds ad) i
 had:digsOk ad∧digV ad 0=s.size - (tailX cnt pds ad).length
end Go.Proofs.YtgffljllfenhkaaGreatDoor
end
section
namespace Go.Proofs.YtgffljllfenhkaaGreatDoor
theorem dec_digs (u:Nat):(∀ c ∈ Lib.decDigits u,isDig c=true)∧Lib.decDigits u≠[]∧digV (Lib.decDigits u) 0=u:=by
 induction u using Nat.strongRecOn with
 | _ u ih=>
  have hdig:∀ d,d < 10→isDig (UInt8.ofNat (48+d))=true∧(UInt8.ofNat (48+d)).toNat - 48=d:=by decide
  by_cases h:u < 10
  ·rw [Lib.decDigits,dif_pos h]
   refine ⟨fun c hc=>?_,by simp,?_⟩
   ·have:c=UInt8.ofNat (48+u):=by simpa using hc
    rw [this];exact (hdig u h).1
   ·simp only [digV]
    rw [(hdig u h).2];omega
  ·rw [Lib.decDigits,dif_neg h]
   obtain ⟨h1,h2,h3⟩:=ih (u / 10) (by omega)
   refine ⟨fun c hc=>?_,by simp,?_⟩
   ·rcases List.mem_append.1 hc with h4 | h4
    ·exact h1 c h4
    ·have:c=UInt8.ofNat (48+u % 10):=by simpa using h4
     rw [this];exact (hdig _ (Nat.mod_lt _ (by decide))).1
   ·rw [digV_app,h3]
    simp only [digV]
    rw [(hdig _ (Nat.mod_lt _ (by decide))).2]
    omega
theorem itoaB_list (n:Nat):(itoaB n).data.toList=Lib.decDigits n:=by
 unfold itoaB Lib.itoa
 rw [if_neg (by omega)]
 simp
theorem itoaB_digs (n:Nat) (h:n < 1000000):digsOk (itoaB n).data.toList∧digV (itoaB n).data.toList 0=n:=by
 rw [itoaB_list]
 obtain ⟨h1,h2,h3⟩:=dec_digs n
 refine ⟨⟨h1,h2,?_⟩,h3⟩
 rw [decDigits_len]
 exact nDigits_up 5 n h
theorem ntB_txt (neg:Bool) (m k:Nat) (h:leafOk (.num neg m k)):∃ e:NumT,e.ok∧(ntB neg m k).data.toList=e.b:=by
 obtain ⟨h1,h2⟩:m < 10 ^ 6 * 10 ^ k∧k≤3:=h
 unfold ntB
 by_cases hm:m=0
 ·rw [if_pos hm]
  exact ⟨⟨false,[48],none⟩,⟨⟨by decide,by simp,by decide⟩,fun fs e=>by cases e⟩,rfl⟩
 ·rw [if_neg hm]
  have hnd:Lib.nDigits m≤6+k:=by
   rw [← Nat.pow_add,show 6+k=5+k+1 by omega] at h1
   have:=nDigits_up (5+k) m h1
   omega
  unfold numT
  obtain ⟨t,ht⟩:∃ t,(Lib.decDigits m).take (sl (Lib.decDigits m) (Lib.nDigits m))=t:=⟨_,rfl⟩
  have hdg:∀ c ∈ t,isDig c=true:=fun c hc=>(dec_digs m).1 c (by rw [← ht] at hc;exact List.mem_of_mem_take hc)
  have htl:t.length≤Lib.nDigits m:=by rw [← ht,List.length_take,decDigits_len];omega
  rw [ht]
  obtain ⟨dp,hdp⟩:∃ dp:Int,(Lib.nDigits m:Int) - (k:Int)=dp:=⟨_,rfl⟩
  rw [hdp]
  have hrep:∀ n (c:UInt8),c ∈ List.replicate n (48:UInt8)→isDig c=true:=fun n c hc=>by rw [(List.mem_replicate.1 hc).2];decide
  refine ⟨⟨neg,if 0 < dp then t.take dp.toNat++List.replicate (dp.toNat - t.length) 48 else [48],if dp < t.length then some (List.replicate (-dp).toNat 48++t.drop dp.toNat) else none⟩,⟨?_,?_⟩,?_⟩
  ·show digsOk (if 0 < dp then t.take dp.toNat++List.replicate (dp.toNat - t.length) 48 else [48])
   split
   ·refine ⟨fun c hc=>?_,fun e=>?_,?_⟩
    ·rcases List.mem_append.1 hc with h4 | h4
     ·exact hdg c (List.mem_of_mem_take h4)
     ·exact hrep _ c h4
    ·have:=congrArg List.length e
     rw [List.length_append,List.length_take,List.length_replicate,List.length_nil] at this
     omega
    ·rw [List.length_append,List.length_take,List.length_replicate]
     omega
   ·exact ⟨by decide,by simp,by decide⟩
  ·intro fs e
   have e':(if dp < t.length then some (List.replicate (-dp).toNat 48++t.drop dp.toNat) else none)=some fs:=e
   split at e'
   ·cases e'
    refine ⟨fun c hc=>?_,fun e=>?_,?_⟩
    ·rcases List.mem_append.1 hc with h4 | h4
     ·exact hrep _ c h4
     ·exact hdg c (List.mem_of_mem_drop h4)
    ·have:=congrArg List.length e
     rw [List.length_append,List.length_replicate,List.length_drop] at this
     simp at this
     omega
    ·rw [List.length_append,List.length_replicate,List.length_drop]
     omega
   ·cases e'
  ·show (bstr (textF neg t dp)).data.toList=_
   unfold bstr textF NumT.b
   rw [List.append_assoc]
   by_cases hx:dp < (t.length:Int)
   ·simp only [if_pos hx]
   ·simp only [if_neg hx]
theorem putR_out:∀ (ts:List ByteArray) {out out':List UInt8} {b b':Nat},putR ts out b=.ok out' b'→out'=out++ts.flatMap (fun t=>t.data.toList)∧(out.length≤9000→out'.length≤9000)
 | [],out,out',b,b',h=>by simp only [putR,Res.ok.injEq] at h;rw [← h.1];simp
 | t::ts,out,out',b,b',h=>by
  simp only [putR] at h
  split at h
  ·cases h
  ·split at h
   ·cases h
   ·rename_i h1 h2
    obtain ⟨e,hl⟩:=putR_out ts h
    refine ⟨by rw [e,List.flatMap_cons,List.append_assoc],fun ho=>hl ?_⟩
    rw [List.length_append,len_data];omega
def leafB (nt:Bool→Nat→Nat→ByteArray) (v:Val):List UInt8:=((leafT nt v).getD []).flatMap (fun t=>t.data.toList)
def elT (nt:Bool→Nat→Nat→ByteArray):Bool→List Val→List UInt8
 | _,[]=>[]
 | f,v::l=>(if f then [] else [32])++(leafB nt v++elT nt false l)
theorem elemsW_out (nt:Bool→Nat→Nat→ByteArray):∀ (l:List Val) (i:Nat) {out out':List UInt8} {b b':Nat},elemsW nt i l out b=.ok out' b'→out'=out++elT nt (decide (i=0)) l∧(out.length≤9000→out'.length≤9000)
 | [],i,out,out',b,b',h=>by simp only [elemsW,Res.ok.injEq] at h;rw [← h.1];simp [elT]
 | v::l,i,out,out',b,b',h=>by
  simp only [elemsW] at h
  rcases hq:(if 0 < i then putR [spB] out b else .ok out b) with ⟨o1,b1⟩ | y
  ·rw [hq] at h
   simp only at h
   rcases hq2:putR ((leafT nt v).getD []) o1 b1 with ⟨o2,b2⟩ | y
   ·rw [hq2] at h
    obtain ⟨e1,l1⟩:=elemsW_out nt l (i+1) h
    obtain ⟨e2,l2⟩:=putR_out _ hq2
    by_cases hi:0 < i
    ·rw [if_pos hi] at hq
     obtain ⟨e3,l3⟩:=putR_out _ hq
     refine ⟨?_,fun ho=>l1 (l2 (l3 ho))⟩
     rw [e1,e2,e3]
     have e4:decide (i=0)=false:=by simp;omega
     have e5:decide (i+1=0)=false:=by simp
     rw [e4,e5]
     simp [elT,leafB,spB,List.append_assoc]
    ·rw [if_neg hi] at hq
     simp only [Res.ok.injEq] at hq
     refine ⟨?_,fun ho=>l1 (l2 (by rw [← hq.1];exact ho))⟩
     rw [e1,e2,← hq.1]
     have e4:decide (i=0)=true:=by simp;omega
     have e5:decide (i+1=0)=false:=by simp
     rw [e4,e5]
     simp [elT,leafB,List.append_assoc]
   ·rw [hq2] at h;cases h
  ·rw [hq] at h;cases h
def valB (nt:Bool→Nat→Nat→ByteArray):Val→List UInt8
 | .arr l=>91::(elT nt true l++[93])
 | v=>leafB nt v
theorem valW_out (nt:Bool→Nat→Nat→ByteArray) (v:Val) {out out':List UInt8} {b b':Nat} (h:valW nt v out b=.ok out' b'):out'=out++valB nt v∧(out.length≤9000→out'.length≤9000):=by
 cases v
 case arr l=>
  simp only [valW,arrW] at h
  rcases hq:putR [⟨#[91]⟩] out b with ⟨o1,b1⟩ | y
  ·rw [hq] at h
   simp only at h
   rcases hq2:elemsW nt 0 l o1 b1 with ⟨o2,b2⟩ | y
   ·rw [hq2] at h
    simp only at h
    obtain ⟨e1,l1⟩:=putR_out _ hq
    obtain ⟨e2,l2⟩:=elemsW_out nt l 0 hq2
    obtain ⟨e3,l3⟩:=putR_out _ h
    refine ⟨?_,fun ho=>l3 (l2 (l1 ho))⟩
    rw [e3,e2,e1]
    simp [valB,List.append_assoc]
   ·rw [hq2] at h;cases h
  ·rw [hq] at h;cases h
 all_goals (simp only [valW] at h;exact putR_out _ h)
def fldB (nt:Bool→Nat→Nat→ByteArray):List (ByteArray×Val)→List UInt8
 | []=>[]
 | f::l=>47::(f.1.data.toList++(valB nt f.2++fldB nt l))
theorem fieldsW_out (nt:Bool→Nat→Nat→ByteArray):∀ (l:List (ByteArray×Val)) {out out':List UInt8} {b b':Nat},fieldsW nt l out b=.ok out' b'→out'=out++fldB nt l∧(out.length≤9000→out'.length≤9000)
 | [],out,out',b,b',h=>by simp only [fieldsW,Res.ok.injEq] at h;rw [← h.1];simp [fldB]
 | (k,v)::l,out,out',b,b',h=>by
  simp only [fieldsW] at h
  rcases hq:putR [⟨#[47]⟩,k] out b with ⟨o1,b1⟩ | y
  ·rw [hq] at h
   simp only at h
   rcases hq2:valW nt v o1 b1 with ⟨o2,b2⟩ | y
   ·rw [hq2] at h
    obtain ⟨e1,l1⟩:=putR_out _ hq
    obtain ⟨e2,l2⟩:=valW_out nt v hq2
    obtain ⟨e3,l3⟩:=fieldsW_out nt l h
    refine ⟨?_,fun ho=>l3 (l2 (l1 ho))⟩
    rw [e3,e2,e1]
    simp [fldB,List.append_assoc]
   ·rw [hq2] at h;cases h
  ·rw [hq] at h;cases h
def stmB (ty st:ByteArray):List UInt8:=if ty=textB then 126::((itoaB st.size).data.toList++58::st.data.toList) else []
theorem objW_out (nt:Bool→Nat→Nat→ByteArray) {n:Nat} {ty st:ByteArray} {l:List (ByteArray×Val)} {out out':List UInt8} {b b':Nat} (h:objW nt n ty l st out b=.ok out' b') :
  out'=out++((itoaB n).data.toList++([32,60,60,47,84,121,112,101,47]++(ty.data.toList++(fldB nt l++(62::62::(stmB ty st++[59,10]))))))∧(out.length≤9000→out'.length≤9000):=by
 unfold objW at h
 rcases hq:putR [itoaB n,⟨#[32,60,60,47,84,121,112,101,47]⟩,ty] out b with ⟨o1,b1⟩ | y
 ·rw [hq] at h
  simp only at h
  rcases hq2:fieldsW nt l o1 b1 with ⟨o2,b2⟩ | y
  ·rw [hq2] at h
   simp only at h
   rcases hq3:putR [⟨#[62,62]⟩] o2 b2 with ⟨o3,b3⟩ | y
   ·rw [hq3] at h
    simp only at h
    obtain ⟨e1,l1⟩:=putR_out _ hq
    obtain ⟨e2,l2⟩:=fieldsW_out nt l hq2
    obtain ⟨e3,l3⟩:=putR_out _ hq3
    rcases hq4:(if ty=textB then putR [⟨#[126]⟩,itoaB st.size,⟨#[58]⟩,st] o3 b3 else .ok o3 b3) with ⟨o4,b4⟩ | y
    ·rw [hq4] at h
     simp only at h
     obtain ⟨e5,l5⟩:=putR_out _ h
     have h4:o4=o3++stmB ty st∧(o3.length≤9000→o4.length≤9000):=by
      unfold stmB
      split at hq4
      ·rename_i ht
       obtain ⟨e4,l4⟩:=putR_out _ hq4
       rw [if_pos ht]
       exact ⟨by rw [e4];simp,l4⟩
      ·rename_i ht
       simp only [Res.ok.injEq] at hq4
       rw [if_neg ht,← hq4.1]
       exact ⟨by simp,id⟩
     refine ⟨?_,fun ho=>l5 (h4.2 (l3 (l2 (l1 ho))))⟩
     rw [e5,h4.1,e3,e2,e1]
     simp [List.append_assoc]
    ·rw [hq4] at h;cases h
   ·rw [hq3] at h;cases h
  ·rw [hq2] at h;cases h
 ·rw [hq] at h;cases h
end Go.Proofs.YtgffljllfenhkaaGreatDoor
end
