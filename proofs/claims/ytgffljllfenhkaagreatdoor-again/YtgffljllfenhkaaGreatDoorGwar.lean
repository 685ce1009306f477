import Derived.Test.YtgffljllfenhkaaGreatDoorGwaq
namespace Go.Proofs.YtgffljllfenhkaaGreatDoor
section
open Go.RowKit
attribute [local go_sem] Oper.semAt_some
variable {w w':World}{Q M B base:Nat}{S S':Nat->Prop}
def valW (nt:Bool->Nat->Nat->ByteArray):Val->List UInt8->Nat->Res (List UInt8)
 | .arr l,out,b=>arrW nt l out b
 | v,out,b=>putR ((leafT nt v).getD []) out b
def keptOk:Val->Prop
 | .arr l=>l.length<=9000/\∀ v ∈ l,leafOk v
 | v=>leafOk v
theorem wvalue_any {G:World->Prop}{nt:Bool->Nat->Nat->ByteArray}(NT:NtC G nt) (hGB:∀ w w',G w->Below w.heap.size w w'->G w') (hGF:∀ (o o':Value) (w w':World),G w->Fw Q M B o w o' w'->(∀ k,o.ownBlock=some k->base<=k)->G w') {h0:Option Obj}(hI:ItC h0) (hw:w.heap[5]?=h0) (hG:G w) (h22:22<Q/\22<M/\22<B/\22<base)
  {o:Value} {out:List UInt8} {b:Nat} (h:Wr w Q M B base o out b) (v:Val) (hv:keptOk v)
  (hS:∀ b,S b->b<w.heap.size/\b≠Q/\b≠M/\b≠B/\o.ownBlock≠some b) {kk xx:Nat} {tt:ByteArray} {rr:Nat} {aa:Option Addr} {nn cc:Nat} {mm:Option Nat} (hR:RepK w S v (vC kk xx tt rr (.slice aa nn cc) (.map mm))) :
  Calls Tryz.prog 98 #[.pointer (some ⟨Q,0,none⟩),.agg #[.int .i64 (kk:Int),.float .f64 xx,.string tt,.int .i64 (rr:Int),.slice aa nn cc,.map mm]] w (PostW Q M B base o w (valW nt v out b)):=by
 cases v with
 | arr l=>exact wvalue_arr NT hGB hGF hI hw hG h22 h l hv.1 hv.2 hS hR
 | num neg m k=>exact wleaf_any (S:=S) NT hGB hI hw hG h22.2.2.2 h (.num neg m k) (show leafOk (.num neg m k) from hv) _ rfl hR
 | str t=>exact wleaf_any (S:=S) NT hGB hI hw hG h22.2.2.2 h (.str t) (show leafOk (.str t) from hv) _ rfl hR
 | ref n=>exact wleaf_any (S:=S) NT hGB hI hw hG h22.2.2.2 h (.ref n) (show leafOk (.ref n) from hv) _ rfl hR
 | _=>exact False.elim hv
def fieldsW (nt:Bool->Nat->Nat->ByteArray):List (ByteArray×Val)->List UInt8->Nat->Res (List UInt8)
 | [],out,b=>.ok out b
 | (k,v)::l,out,b=>match putR [⟨#[47]⟩,k] out b with
  | .no y=>.no y
  | .ok o1 b1=>match valW nt v o1 b1 with
   | .no y=>.no y
   | .ok o2 b2=>fieldsW nt l o2 b2
def objW (nt:Bool->Nat->Nat->ByteArray) (n:Nat) (ty:ByteArray) (l:List (ByteArray×Val)) (st:ByteArray) (out:List UInt8) (b:Nat):Res (List UInt8):=
 match putR [itoaB n,⟨#[32,60,60,47,84,121,112,101,47]⟩,ty] out b with
 | .no y=>.no y
 | .ok o1 b1=>match fieldsW nt l o1 b1 with
  | .no y=>.no y
  | .ok o2 b2=>match putR [⟨#[62,62]⟩] o2 b2 with
   | .no y=>.no y
   | .ok o3 b3=>match (if ty=textB then putR [⟨#[126]⟩,itoaB st.size,⟨#[58]⟩,st] o3 b3 else .ok o3 b3) with
    | .no y=>.no y
    | .ok o4 b4=>putR [⟨#[59,10]⟩] o4 b4
end
section
open Go.RowKit
attribute [local go_sem] Oper.semAt_some
variable {w w':World}{Q M B base:Nat}{S S':Nat->Prop}
theorem Tryz.sizeFd:(Tryz.prog.info? 146).map (·.size)=some 7:=by kernel_rfl
theorem Tryz.agFd:(Tryz.prog.underlying 146).map isAg=some true:=by kernel_rfl
theorem one_seven (y:ByteArray) (k x:Nat) (t:ByteArray) (r:Nat) (b:Option Addr) (n c:Nat) (m:Option Nat):(#[.string y,.int .i64 (k:Int),.float .f64 x,.string t,.int .i64 (r:Int),.slice b n c,.map m]:Array Value).all (·.oneCell')=true:=by simp[Value.oneCell']
theorem bdrew (w:World):Below w.heap.size w w.drew:=⟨rfl,rfl,rfl,Nat.le_refl _,fun _ _=>rfl⟩
theorem rangeAt_tail {w:World}{g off:Nat}{v:Value}{cs:List Value}(h:w.rangeAt g off (v::cs)):w.rangeAt g (off+1) cs:=by
 intro j u hj;have:=h (j+1) u (by simpa using hj);rw[show off+(j+1)=off+1+j by omega] at this;exact this
theorem rangeAt_block {w:World}{g:Nat}{cs:List Value}{t:TypeId}{z:Nat×Nat}(h:w.heap[g]?=some (.cells cs.toArray t z)):w.rangeAt g 0 cs:=by
 intro j u hj;simp[World.cell?,h,hj]
def objEndW (ty st:ByteArray) (out:List UInt8) (b:Nat):Res (List UInt8):=
 match putR [⟨#[62,62]⟩] out b with
 | .no y=>.no y
 | .ok o3 b3=>match (if ty=textB then putR [⟨#[126]⟩,itoaB st.size,⟨#[58]⟩,st] o3 b3 else .ok o3 b3) with
  | .no y=>.no y
  | .ok o4 b4=>putR [⟨#[59,10]⟩] o4 b4
set_option maxHeartbeats 4000000 in
set_option maxRecDepth 100000 in
theorem wobject_any {G:World->Prop}{nt:Bool->Nat->Nat->ByteArray}(NT:NtC G nt) (hGB:∀ w w',G w->Below w.heap.size w w'->G w') (hGF:∀ (o o':Value) (w w':World),G w->Fw Q M B o w o' w'->(∀ k,o.ownBlock=some k->base<=k)->G w') {h0:Option Obj}(hI:ItC h0) (hw:w.heap[5]?=h0) (hG:G w) (h22:22<Q/\22<M/\22<B/\22<base)
  {o:Value} {out:List UInt8} {b n:Nat} {ty st:ByteArray} {af:Option Addr} {cf:Nat} (h:Wr w Q M B base o out b) (hn:n<=80000) (hty:ty.size<=80000) (hst:st.size<=80000) (l:List (ByteArray×Val)) (hl:l.length<=1000) (hv:∀ f ∈ l,f.1.size<=100/\keptOk f.2)
  (hS:∀ b,S b->b<w.heap.size/\b≠Q/\b≠M/\b≠B/\o.ownBlock≠some b)
  (hrow:∀ i f,l[i]?=some f->∃ gf kk xx tt rr aa nn cc mm,af=some ⟨gf,0,none⟩/\S gf/\w.rangeAt gf (i*7) [.string f.1,.int .i64 ((kk:Nat):Int),.float .f64 xx,.string tt,.int .i64 ((rr:Nat):Int),.slice aa nn cc,.map mm]/\RepK w S f.2 (vC kk xx tt rr (.slice aa nn cc) (.map mm))) :
  Calls Tryz.prog 63 #[.pointer (some ⟨Q,0,none⟩),.int .i64 (n:Int),.agg #[.string ty,.slice af l.length cf,.string st]] w (PostW Q M B base o w (objW nt n ty l st out b)):=by
 have hB0:Below w.heap.size w (w.alloc (.cells #[.string ty,.slice af l.length cf,.string st] 111)):=(Below.refl _ _).alloc (Nat.le_refl _) _;have hb0:(w.alloc (.cells #[.string ty,.slice af l.length cf,.string st] 111)).heap[w.heap.size]?=some (.cells #[.string ty,.slice af l.length cf,.string st] 111 (0,0)):=heap_alloc_new w _;have hz0:(w.alloc (.cells #[.string ty,.slice af l.length cf,.string st] 111)).heap.size=w.heap.size+1:=by simp
 have hlt:=h.lt;have hown:=World.ownsRow.lt h.row;have hown0:∀ k,o.ownBlock=some k->base<=k:=fun k hk=>(hown k hk).1
 have hs1:∀ t ∈ [itoaB n,⟨#[32,60,60,47,84,121,112,101,47]⟩,ty],t.size<=90000:=fun t ht=>by
  have:=itoaB_size n hn
  rcases List.mem_cons.1 ht with rfl|ht
  ·exact this
  ·rcases List.mem_cons.1 ht with rfl|ht
   ·decide
   ·have:t=ty:=by simpa using ht
    rw[this];omega
 have hs4:∀ t ∈ [⟨#[126]⟩,itoaB st.size,⟨#[58]⟩,st],t.size<=90000:=fun t ht=>by
  have:=itoaB_size st.size hst
  rcases List.mem_cons.1 ht with rfl|ht
  ·decide
  ·rcases List.mem_cons.1 ht with rfl|ht
   ·exact this
   ·rcases List.mem_cons.1 ht with rfl|ht
    ·decide
    ·have:t=st:=by simpa using ht
     rw[this];omega
 go_enter Tryz.func63,Tryz.ntmps63
 go_upto_region 1 with fail
 obtain⟨W0,hW0⟩:∃ W0,w.alloc (.cells #[.string ty,.slice af l.length cf,.string st] 111)=W0:=⟨_,rfl⟩;rw[hW0] at hB0 hb0 hz0 ⊢;clear hW0;have hBa:Below w.heap.size w W0.drew:=hB0.trans (by rw[show w.heap.size=w.heap.size from rfl];exact⟨rfl,rfl,rfl,Nat.le_refl _,fun _ _=>rfl⟩);have ha:Wr W0.drew Q M B base o out b:=h.below hBa;have Fa:Fw Q M B o w o W0.drew:=Fw.below o hBa;have hwa:W0.drew.heap[5]?=h0:=(hBa.block 5 (by omega)).trans hw;have c0:W0.drew.cell? ⟨w.heap.size,0,none⟩=some (.string ty):=by simp only[World.cell?];rw[show W0.drew.heap[w.heap.size]?=_ from hb0];rfl
 have keep:∀ (o':Value) (w2:World),Fw Q M B o W0.drew o' w2->w2.heap[w.heap.size]?=some (.cells #[.string ty,.slice af l.length cf,.string st] 111 (0,0)):=fun o' w2 F=>(F.block w.heap.size (by show w.heap.size<W0.heap.size;omega) (by omega) (by omega) (by omega) (fun e=>by have:=(hown _ e).2;omega)).trans hb0
 have hSz:∀ (o':Value) (w2:World),Fw Q M B o W0.drew o' w2->∀ b,S b->(b<w2.heap.size/\b≠Q/\b≠M/\b≠B/\o'.ownBlock≠some b)/\w2.heap[b]?=w.heap[b]?:=fun o' w2 F b hb=>by
  obtain⟨h1,h2,h3,h4,h5⟩:=hS b hb;have hs:W0.heap.size<=w2.heap.size:=F.size;refine⟨⟨by omega,h2,h3,h4,?_⟩,(F.block b (by show b<W0.heap.size;omega) h2 h3 h4 h5).trans (hBa.block b h1)⟩
  rcases F.own with e|⟨g,e,hg⟩
  ·rw[e];exact h5
  ·rw[e];intro e2;have:g=b:=by simpa using e2
   have hg':W0.heap.size<=g:=hg;omega
 rcases q1:putR [itoaB n,⟨#[32,60,60,47,84,121,112,101,47]⟩,ty] out b with⟨o1,b1⟩|y
 ·have HE1:Hid (objW nt n ty l st out b=match fieldsW nt l o1 b1 with
   | .no y=>.no y
   | .ok o2 b2=>objEndW ty st o2 b2):=by show objW nt n ty l st out b=_;unfold objW objEndW;rw[q1] <;> rfl
  go_cut [] (fun wx=>∃ s1,Wr wx Q M B base s1 o1 b1/\Fw Q M B o W0.drew s1 wx)
  case first=>
   go_region_with (first | (go_at_call 97;go_loud (refine (itoa_any hI hwa n (by omega)).mono ?_;rintro e w2 ⟨rfl,hB2⟩;have d0:w2.cell? ⟨w.heap.size,0,none⟩=some (.string ty):=(hB2.cell (by show w.heap.size<W0.heap.size;omega)).trans c0)) | (go_at_call 61;refine (PostW.okC (put_new _ (ha.below hB2) (by simp) hs1 _ rfl 3 rfl 3 _ rfl) q1).mono ?_;rintro e w3 ⟨rfl,s3,h3,F3⟩))
   all_goals
    go_wp2_with fail
    go_meet
    case rel=>exact⟨s3,h3,(Fw.below o hB2).trans F3⟩
  case rest=>
   obtain⟨s1,h1,F1⟩:=hcut;clear ha c0 hwa q1 hs1;have k1:=keep s1 wc F1;have c1:wc.cell? ⟨w.heap.size,1,none⟩=some (.slice af l.length cf):=by simp[World.cell?,k1]
   go_wp2_with fail
   go_loopw [18] (fun v wr=>∃ (i b':Nat) (o':Value) (out':List UInt8),v=.int .i64 ((i:Nat):Int)/\i<=l.length/\Wr wr Q M B base o' out' b'/\Fw Q M B o W0.drew o' wr/\Hid (fieldsW nt l o1 b1=fieldsW nt (l.drop i) out' b'))
    (fun v _=>l.length-(intOf v).toNat)
   case atStart=>exact⟨0,b1,s1,o1,rfl,Nat.zero_le _,h1,F1,rfl⟩
   case round=>
    clear h1 F1 k1 c1;obtain⟨i,b',o',out',rfl,hi,hr,hF,HE⟩:=hrel
    by_cases hil:i<l.length
    ·have hilI:(i:Int)<(l.length:Int):=by omega
     obtain⟨f,hfi⟩:∃ f,l[i]?=some f:=⟨l[i],List.getElem?_eq_getElem hil⟩;obtain⟨hf1,hf2⟩:=hv f (List.mem_of_getElem? hfi)
     have hcons:l.drop i=f::l.drop (i+1):=by
      rw[List.drop_eq_getElem_cons hil];congr 1;exact Option.some.inj ((List.getElem?_eq_getElem hil).symm.trans hfi)
     have HC:=hid hcons;clear hcons;obtain⟨gf,kk,xx,tt,rr,aa,nn,cc,mm,rfl,hSg,hra,hRep⟩:=hrow i f hfi;obtain⟨fk,fv⟩:=f;simp only[] at hf1 hf2 hra hRep;have hgb:wr.heap[gf]?=w.heap[gf]?:=(hSz o' wr hF gf hSg).2;have hra':wr.rangeAt gf (i*7) [.string fk,.int .i64 ((kk:Nat):Int),.float .f64 xx,.string tt,.int .i64 ((rr:Nat):Int),.slice aa nn cc,.map mm]:=fun j u hj=>(World.cell?_of_block (w:=w) hgb).trans (hra j u hj)
     have hBf:Below wr.heap.size wr (wr.alloc (.cells #[.string fk,.int .i64 (kk:Int),.float .f64 xx,.string tt,.int .i64 (rr:Int),.slice aa nn cc,.map mm] 146)):=(Below.refl _ _).alloc (Nat.le_refl _) _;have hf:=hr.below hBf;have Ff:Fw Q M B o W0.drew o' _:=hF.trans (Fw.below o' hBf);have hblk:(wr.alloc (.cells #[.string fk,.int .i64 (kk:Int),.float .f64 xx,.string tt,.int .i64 (rr:Int),.slice aa nn cc,.map mm] 146)).heap[wr.heap.size]?=some (.cells #[.string fk,.int .i64 (kk:Int),.float .f64 xx,.string tt,.int .i64 (rr:Int),.slice aa nn cc,.map mm] 146 (0,0)):=heap_alloc_new wr _;have hza:(wr.alloc (.cells #[.string fk,.int .i64 (kk:Int),.float .f64 xx,.string tt,.int .i64 (rr:Int),.slice aa nn cc,.map mm] 146)).heap.size=wr.heap.size+1:=by simp
     obtain⟨wo,rfl⟩:∃ wo,wo=wr:=⟨_,rfl⟩;obtain⟨W,hW⟩:∃ W,wo.alloc (.cells #[.string fk,.int .i64 (kk:Int),.float .f64 xx,.string tt,.int .i64 (rr:Int),.slice aa nn cc,.map mm] 146)=W:=⟨_,rfl⟩;rw[hW] at hf Ff hblk hza;have HW:=hid hW;clear hBf hra hgb hW;have hlr:=hr.lt;have hown':=World.ownsRow.lt hr.row;have cf0:W.cell? ⟨wo.heap.size,0,none⟩=some (.string fk):=by simp[World.cell?,hblk]
     have hs2:∀ t ∈ [⟨#[47]⟩,fk],t.size<=90000:=fun t ht=>by
      rcases List.mem_cons.1 ht with rfl|ht
      ·decide
      ·have:t=fk:=by simpa using ht
       rw[this];omega
     rcases q2:putR [⟨#[47]⟩,fk] out' b' with⟨o2,b2⟩|y
     ·go_wp2_with (first | (refine load_mid rfl 146 _ rfl gf (i*7) rfl _ hra' Tryz.agFd Tryz.sizeFd ?_) | (refine wpList_store_row rfl 146 _ _ rfl wo.heap.size _ rfl rfl 146 _ (heap_alloc_new wo _) Tryz.sizeFd rfl (one_seven _ _ _ _ _ _ _ _ _) ?_;rw[setRow_alloc,unh HW]))
      refine (PostW.okC (put_new [⟨#[47]⟩,fk] hf (by simp) hs2 _ rfl 2 rfl 2 _ hza) q2).mono ?_;rintro e w3 ⟨rfl,s3,h3,F3⟩;clear cf0;have F03:=Ff.trans F3;have hblk3:=(F3.block wo.heap.size (by omega) (by omega) (by omega) (by omega) (fun e=>by have:=(hown' _ e).2;omega)).trans hblk;have hra3:w3.rangeAt wo.heap.size 1 [.int .i64 ((kk:Nat):Int),.float .f64 xx,.string tt,.int .i64 ((rr:Nat):Int),.slice aa nn cc,.map mm]:=rangeAt_tail (rangeAt_block hblk3);have hwz:w3.heap[5]?=h0:=((Fa.trans F03).keeps h _ (by omega) (by omega) (by omega) (by omega)).trans hw;have hGz:G w3:=hGF o _ w w3 hG (Fa.trans F03) hown0;have hRep3:RepK w3 S fv (vC kk xx tt rr (.slice aa nn cc) (.map mm)):=RepK.kept (fun b hb=>⟨hb,(hSz s3 w3 F03 b hb).2⟩) fv hRep;have LA:=wvalue_any (S:=S) NT hGB hGF hI hwz hGz h22 h3 fv hf2 (fun b hb=>(hSz s3 w3 F03 b hb).1) hRep3
      rcases q4:valW nt fv o2 b2 with⟨o4,b4⟩|y
      ·have HE2:Hid (fieldsW nt l o1 b1=fieldsW nt (l.drop (i+1)) o4 b4):=(unh HE).trans (by rw[unh HC,fieldsW,q2];simp only[];rw[q4])
       go_wp2_with (refine load_mid rfl 120 _ rfl wo.heap.size 1 rfl _ hra3 Tryz.agV Tryz.sizeV ?_)
       refine (PostW.okC LA q4).mono ?_;rintro e w4 ⟨rfl,s4,h4,F4⟩
       go_wp2_with fail
       go_roundw
       case rel=>exact⟨i+1,b4,s4,o4,by go_num,by omega,h4,F03.trans F4,HE2⟩
       case measure=>simp[intOf];omega
      ·have HN:Hid (objW nt n ty l st out b=.no y):=(unh HE1).trans (by rw[unh HE,unh HC,fieldsW,q2];simp only[];rw[q4])
       go_wp2_with (refine load_mid rfl 120 _ rfl wo.heap.size 1 rfl _ hra3 Tryz.agV Tryz.sizeV ?_)
       refine (PostW.noC LA q4).mono ?_;rintro e w4 ⟨rfl,s4,F4⟩;exact⟨rfl,PostW.no (unh HN) (Fa.trans (F03.trans F4))⟩
     ·have HN:Hid (objW nt n ty l st out b=.no y):=(unh HE1).trans (by rw[unh HE,unh HC,fieldsW,q2])
      go_wp2_with (first | (refine load_mid rfl 146 _ rfl gf (i*7) rfl _ hra' Tryz.agFd Tryz.sizeFd ?_) | (refine wpList_store_row rfl 146 _ _ rfl wo.heap.size _ rfl rfl 146 _ (heap_alloc_new wo _) Tryz.sizeFd rfl (one_seven _ _ _ _ _ _ _ _ _) ?_;rw[setRow_alloc,unh HW]))
      refine (PostW.noC (put_new [⟨#[47]⟩,fk] hf (by simp) hs2 _ rfl 2 rfl 2 _ hza) q2).mono ?_;rintro e w3 ⟨rfl,s3,F3⟩;exact⟨rfl,PostW.no (unh HN) (Fa.trans (Ff.trans F3))⟩
    ·have hilI:¬ (i:Int)<(l.length:Int):=by omega
     have HE4:Hid (objW nt n ty l st out b=objEndW ty st out' b'):=(unh HE1).trans (by rw[unh HE,List.drop_eq_nil_of_le (by omega),fieldsW]);clear HE HE1 hrow
     go_wp2_with fail
     rcases q3:putR [⟨#[62,62]⟩] out' b' with⟨o3,b3⟩|y
     ·refine (PostW.okC (one_put ⟨#[62,62]⟩ (by decide) hr _ rfl) q3).mono ?_;rintro e w3 ⟨rfl,s3,h3,F3⟩;have F03:=hF.trans F3;have k3:=keep s3 w3 F03;have d0:w3.cell? ⟨w.heap.size,0,none⟩=some (.string ty):=by simp[World.cell?,k3]
      by_cases htx:ty=textB
      ·have hse2:ty.toList=[84,101,120,116]:=by rw[htx,ba_toList];rfl
       have hse1:(ty.toList==[84,101,120,116])=true:=by simpa using hse2
       have HE5:Hid (objW nt n ty l st out b=match putR [⟨#[126]⟩,itoaB st.size,⟨#[58]⟩,st] o3 b3 with
        | .no y=>.no y
        | .ok o4 b4=>putR [⟨#[59,10]⟩] o4 b4):=(unh HE4).trans (by unfold objEndW;rw[q3];simp only[];rw[if_pos htx])
       have hB3:Below w3.heap.size w3 w3.drew:=bdrew w3;have h3d:=h3.below hB3;have F3d:=F03.trans (Fw.below s3 hB3);have hwz:w3.drew.heap[5]?=h0:=((Fa.trans F3d).keeps h _ (by omega) (by omega) (by omega) (by omega)).trans hw;have d2:w3.cell? ⟨w.heap.size,2,none⟩=some (.string st):=by simp[World.cell?,k3]
       have d2':w3.drew.cell? ⟨w.heap.size,2,none⟩=some (.string st):=d2;have hltw3:w.heap.size<w3.heap.size:=(Array.getElem?_eq_some_iff.1 k3).1;clear htx
       go_upto_region 10 with fail
       rcases q4:putR [⟨#[126]⟩,itoaB st.size,⟨#[58]⟩,st] o3 b3 with⟨o4,b4⟩|y
       ·go_cut [] (fun wx=>∃ s1,Wr wx Q M B base s1 o4 b4/\Fw Q M B o W0.drew s1 wx)
        case first=>
         go_region_with (first | (go_at_call 97;go_loud (refine (itoa_any hI hwz st.size (by omega)).mono ?_;rintro e w4 ⟨rfl,hB4⟩;have d4:w4.cell? ⟨w.heap.size,2,none⟩=some (.string st):=(hB4.cell (by show w.heap.size<w3.heap.size;omega)).trans d2')) | (go_at_call 61;refine (PostW.okC (put_new _ (h3d.below hB4) (by simp) hs4 _ rfl 4 rfl 4 _ rfl) q4).mono ?_;rintro e w5 ⟨rfl,s5,h5,F5⟩))
         all_goals
          go_wp2_with fail
          go_meet
          case rel=>exact⟨s5,h5,F3d.trans ((Fw.below s3 hB4).trans F5)⟩
        case rest=>
         obtain⟨s5,h5,F5⟩:=hcut;have HE6:Hid (objW nt n ty l st out b=putR [⟨#[59,10]⟩] o4 b4):=(unh HE5).trans (by rw[q4]);clear q4 d0 d2 d2' HE5
         go_wp2_with fail
         rcases q7:putR [⟨#[59,10]⟩] o4 b4 with⟨o7,b7⟩|y
         ·refine (PostW.okC (one_put ⟨#[59,10]⟩ (by decide) h5 _ rfl) q7).mono ?_;rintro e w7 ⟨rfl,s7,h7,F7⟩;have HQ:=hid q7;clear q7
          go_wp2_with fail
          first | go_end0 | refine bodyPost_ret (results_none rfl _ _ _) rfl ?_
          exact PostW.ok ((unh HE6).trans (unh HQ)) h7 (Fa.trans (F5.trans F7))
         ·refine (PostW.noC (one_put ⟨#[59,10]⟩ (by decide) h5 _ rfl) q7).mono ?_;rintro e w7 ⟨rfl,s7,F7⟩;exact⟨rfl,PostW.no ((unh HE6).trans q7) (Fa.trans (F5.trans F7))⟩
       ·have HN:Hid (objW nt n ty l st out b=.no y):=(unh HE5).trans (by rw[q4])
        go_region_with (first | (go_at_call 97;go_loud (refine (itoa_any hI hwz st.size (by omega)).mono ?_;rintro e w4 ⟨rfl,hB4⟩;have d4:w4.cell? ⟨w.heap.size,2,none⟩=some (.string st):=(hB4.cell (by show w.heap.size<w3.heap.size;omega)).trans d2')) | (go_at_call 61;refine (PostW.noC (put_new _ (h3d.below hB4) (by simp) hs4 _ rfl 4 rfl 4 _ rfl) q4).mono ?_;rintro e w5 ⟨rfl,s5,F5⟩;refine dead_end ⟨#[],[]⟩ w (show _ from ⟨rfl,PostW.no (unh HN) (Fa.trans (F3d.trans ((Fw.below s3 hB4).trans F5)))⟩) ?_))
        all_goals trivial
      ·have hse2:¬ ty.toList=[84,101,120,116]:=fun e=>htx (by
        rw[ba_toList] at e;cases ty with
        | mk d=>exact congrArg ByteArray.mk (Array.toList_inj.1 e))
       have hse1:(ty.toList==[84,101,120,116])=false:=beq_eq_false_iff_ne.2 hse2;have HE6:Hid (objW nt n ty l st out b=putR [⟨#[59,10]⟩] o3 b3):=(unh HE4).trans (by unfold objEndW;rw[q3];simp only[];rw[if_neg htx]);clear htx
       go_wp2_with fail
       rcases q7:putR [⟨#[59,10]⟩] o3 b3 with⟨o7,b7⟩|y
       ·refine (PostW.okC (one_put ⟨#[59,10]⟩ (by decide) h3 _ rfl) q7).mono ?_;rintro e w7 ⟨rfl,s7,h7,F7⟩;have HQ:=hid q7;clear q7
        go_wp2_with fail
        first | go_end0 | refine bodyPost_ret (results_none rfl _ _ _) rfl ?_
        exact PostW.ok ((unh HE6).trans (unh HQ)) h7 (Fa.trans (F03.trans F7))
       ·refine (PostW.noC (one_put ⟨#[59,10]⟩ (by decide) h3 _ rfl) q7).mono ?_;rintro e w7 ⟨rfl,s7,F7⟩;exact⟨rfl,PostW.no ((unh HE6).trans q7) (Fa.trans (F03.trans F7))⟩
     ·have HN:Hid (objW nt n ty l st out b=.no y):=(unh HE4).trans (by unfold objEndW;rw[q3]);refine (PostW.noC (one_put ⟨#[62,62]⟩ (by decide) hr _ rfl) q3).mono ?_;rintro e w3 ⟨rfl,s3,F3⟩;exact⟨rfl,PostW.no (unh HN) (Fa.trans (hF.trans F3))⟩
 ·have HN:Hid (objW nt n ty l st out b=.no y):=by show objW nt n ty l st out b=_;unfold objW;rw[q1]
  go_region_with (first | (go_at_call 97;go_loud (refine (itoa_any hI hwa n (by omega)).mono ?_;rintro e w2 ⟨rfl,hB2⟩;have d0:w2.cell? ⟨w.heap.size,0,none⟩=some (.string ty):=(hB2.cell (by show w.heap.size<W0.heap.size;omega)).trans c0)) | (go_at_call 61;refine (PostW.noC (put_new _ (ha.below hB2) (by simp) hs1 _ rfl 3 rfl 3 _ rfl) q1).mono ?_;rintro e w3 ⟨rfl,s3,F3⟩;refine dead_end ⟨#[],[]⟩ w (show _ from ⟨rfl,PostW.no (unh HN) (Fa.trans ((Fw.below o hB2).trans F3))⟩) ?_))
  all_goals trivial
end
section
open Go.RowKit
attribute [local go_sem] Oper.semAt_some
variable {w w':World}{B:Nat}{D lo at_ root:Nat}{pl:List Nat}{slp slo:Value}{os:List Obj1}{xs:List Value}{S:Nat->Prop}
def elemsOf:Val->List Val
 | .arr l=>l
 | _=>[]
def isArr:Val->Bool
 | .arr _=>true
 | _=>false
def isStr:Val->Bool
 | .str _=>true
 | _=>false
def isNum:Val->Bool
 | .num ..=>true
 | _=>false
def refTo (os:List Obj1) (ty:ByteArray):Val->Bool
 | .ref n=>tnameAt os n==ty
 | _=>false
def refR (os:List Obj1) (ty:ByteArray) (v:Val) (b:Nat):Res (Val×Bool):=if b<1 then .no (12,0) else .ok (v,refTo os ty v) (b-1)
def kidsR (os:List Obj1) (v:Val) (b:Nat):Res (Val×Bool):=if b<(elemsOf v).length then .no (12,0) else .ok (.arr ((elemsOf v).filter (refTo os pageB)),isArr v) (b-(elemsOf v).length)
inductive Rule where
 | kids | title | box | next | text
def Rule.key:Rule->ByteArray
 | .kids=>⟨#[75,105,100,115]⟩
 | .title=>⟨#[84,105,116,108,101]⟩
 | .box=>⟨#[66,111,120]⟩
 | .next=>⟨#[78,101,120,116]⟩
 | .text=>⟨#[84,101,120,116]⟩
def Rule.right (os:List Obj1) (r:Rule) (v:Val) (b:Nat):Res (Val×Bool):=match r with
 | .kids=>kidsR os v b
 | .title=>.ok (v,isStr v) b
 | .box=>.ok (v,((elemsOf v).length==4)&&(elemsOf v).all isNum) b
 | .next=>refR os pageB v b
 | .text=>refR os textB v b
def rulesOf (ty:ByteArray):List Rule:=if ty=rootB then [.kids,.title] else if ty=pageB then [.box,.next,.text] else []
def idx:List Nat->Nat->Option Nat
 | [],_=>none
 | x::l,a=>if x=a then some 0 else (idx l a).map (·+1)
def numR (olds:List Nat) (old b:Nat):Res (Nat×List Nat):=if b<1 then .no (12,0) else match idx olds old with
 | some i=>.ok (i+1,olds) (b-1)
 | none=>.ok (olds.length+1,olds++[old]) (b-1)
def renLeaf (olds:List Nat) (v:Val) (b:Nat):Res (Val×List Nat):=match v with
 | .ref n=>(match numR olds n b with
  | .no y=>.no y
  | .ok (m,o') b'=>.ok (.ref m,o') b')
 | v=>.ok (v,olds) b
def renL:List Val->List Val->List Nat->Nat->Res (List Val×List Nat)
 | [],acc,olds,b=>.ok (acc,olds) b
 | v::l,acc,olds,b=>match renLeaf olds v b with
  | .no y=>.no y
  | .ok (v',o') b'=>renL l (acc++[v']) o' b'
def renV (olds:List Nat) (v:Val) (b:Nat):Res (Val×List Nat):=match v with
 | .arr l=>(match renL l [] olds b with
  | .no y=>.no y
  | .ok (l',o') b'=>.ok (.arr l',o') b')
 | v=>renLeaf olds v b
def keepL (os:List Obj1) (o:Obj1):List Rule->List (ByteArray×Val)->List Nat->Nat->Res (List (ByteArray×Val)×List Nat)
 | [],acc,olds,b=>.ok (acc,olds) b
 | r::rs,acc,olds,b=>match r.right os (vget o.v r.key) b with
  | .no y=>.no y
  | .ok (_,false) b1=>keepL os o rs acc olds b1
  | .ok (v,true) b1=>match renV olds v b1 with
   | .no y=>.no y
   | .ok (v',o') b2=>keepL os o rs (acc++[(r.key,v')]) o' b2
def reachW (nt:Bool->Nat->Nat->ByteArray) (os:List Obj1):Nat->Nat->List Nat->List Nat->List UInt8->Nat->Res (List Nat×List UInt8)
 | 0,_,_,_,_,_=>.no (0,0)
 | f+1,i,olds,places,out,b=>match olds[i]? with
  | none=>.ok (places,out) b
  | some n=>match os[n]? with
   | none=>.no (0,0)
   | some o=>match keepL os o (rulesOf (tname o)) [] olds b with
    | .no y=>.no y
    | .ok (fs,olds') b1=>match objW nt (i+1) (tname o) fs o.stream out b1 with
     | .no y=>.no y
     | .ok out' b2=>reachW nt os f (i+1) olds' (places++[out.length]) out' b2
def writeR (nt:Bool->Nat->Nat->ByteArray) (os:List Obj1) (root b:Nat):Res (List UInt8):=match putR [headB] [] b with
 | .no y=>.no y
 | .ok out b1=>match reachW nt os 40 0 [root] [] out b1 with
  | .no y=>.no y
  | .ok (pl,out') b2=>tabW pl out' b2
def rinseR (U:ByteArray->Nat->Nat->Res ByteArray) (nt:Bool->Nat->Nat->ByteArray) (f:ByteArray) (steps out:Int):Res (List UInt8):=
 if 0<=steps/\steps<=100000000/\0<=out/\out<=9000 then
  match docR U f steps.toNat with
  | .no y=>.no y
  | .ok x b=>match writeR nt x.2.2.2 x.2.2.1 b with
   | .no y=>.no y
   | .ok t b'=>if out.toNat<t.length then .no (13,0) else .ok t b'
 else .no (1,0)
theorem Rep.kindOf {v:Val}{kk xx:Nat}{tt:ByteArray}{rr:Nat}{aa:Option Addr}{nn cc:Nat}{mm:Option Nat}(h:Rep w S v (vC kk xx tt rr (.slice aa nn cc) (.map mm))) :
  (kk=5 ↔ isStr v=true)/\(kk=8 ↔ isArr v=true)/\(kk=4 ↔ isNum v=true)/\(kk=7 ↔ ∃ n,v=.ref n)/\nn=(elemsOf v).length/\(∀ n,v=.ref n->rr=n):=by
 cases v <;> unfold Rep at h
 case arr l=>
  obtain⟨sl,xs,e,ho,_⟩:=h;obtain⟨rfl,rfl,rfl,rfl,e5,_⟩:=vC_m e;obtain⟨a,c,rfl⟩:=ownsRow_shape ho;have:nn=l.length:=by have:=e5;simp at this;exact this.2.1
  simp[isStr,isArr,isNum,elemsOf,this]
 case dict l=>
  obtain⟨M,n,f,e,_⟩:=h;obtain⟨rfl,rfl,rfl,rfl,e5,_⟩:=vC_m e;have:nn=0:=by have:=e5;simp at this;exact this.2.1
  simp[isStr,isArr,isNum,elemsOf,this]
 all_goals
  obtain⟨rfl,rfl,rfl,rfl,e5,_⟩:=vC_m h;have hn0:nn=0:=by have:=e5;simp at this;exact this.2.1
  simp[isStr,isArr,isNum,elemsOf,hn0]
def StoreV (P:Program) (o:Oper) (a:Act) (w:World) (K:Act->World->Prop) (Q:Exit->Act->World->Prop):Prop:=o.wp P a w K Q
theorem store_v {P:Program}{d:Option Tmp}{x y:Operand}{ty:TypeId}{ps:String}{af:Array Edge}{gd:Option (Nat×Bool)}{a:Act}{w:World}{K:Act->World->Prop}{Q:Exit->Act->World->Prop} :
  Oper.wp P { dst:=d,op:=.store 120 x y,type:=ty,pos:=ps,after:=af,guard:=gd } a w K Q=StoreV P { dst:=d,op:=.store 120 x y,type:=ty,pos:=ps,after:=af,guard:=gd } a w K Q:=rfl
theorem StoreV.row {o:Oper}{a:Act}{w:World}{K:Act->World->Prop}{Q:Exit->Act->World->Prop}(x y:Operand) (ho:o.op=.store 120 x y)
  (g:Nat) (cells:Array Value) (hx:a.eval x=.pointer (some ⟨g,0,none⟩)) (hy:a.eval y=.agg cells) (old:Array Value) (hg:w.heap[g]?=some (.cells old 120 (0,0))) (ho6:old.size=6) (h6:cells.size=6) (h1:cells.all (·.oneCell')=true)
  (h:K (a.put o.dst undef) (w.setRow g cells)):StoreV Tryz.prog o a w K Q:=
 wp_store_row 120 x y ho g cells hx hy 120 old hg (by rw[h6];exact Tryz.sizeV) (ho6.trans h6.symm) h1 h
theorem StoreV.row0 {o:Oper}{a:Act}{w:World}{K:Act->World->Prop}{Q:Exit->Act->World->Prop}(x y:Operand) (ho:o.op=.store 120 x y) (hd:o.dst=none)
  (g:Nat) (cells:Array Value) (hx:a.eval x=.pointer (some ⟨g,0,none⟩)) (hy:a.eval y=.agg cells) (old:Array Value) (hg:w.heap[g]?=some (.cells old 120 (0,0))) (ho6:old.size=6) (h6:cells.size=6) (h1:cells.all (·.oneCell')=true)
  (h:K a (w.setRow g cells)):StoreV Tryz.prog o a w K Q:=by
 refine StoreV.row x y ho g cells hx hy old hg ho6 h6 h1 ?_;rw[hd];exact h
def LoadV (P:Program) (o:Oper) (a:Act) (w:World) (K:Act->World->Prop) (Q:Exit->Act->World->Prop):Prop:=o.wp P a w K Q
theorem load_v {P:Program}{d:Option Tmp}{x:Operand}{ty:TypeId}{ps:String}{af:Array Edge}{gd:Option (Nat×Bool)}{a:Act}{w:World}{K:Act->World->Prop}{Q:Exit->Act->World->Prop} :
  Oper.wp P { dst:=d,op:=.load 120 x,type:=ty,pos:=ps,after:=af,guard:=gd } a w K Q=LoadV P { dst:=d,op:=.load 120 x,type:=ty,pos:=ps,after:=af,guard:=gd } a w K Q:=rfl
theorem LoadV.row {o:Oper}{a:Act}{w:World}{K:Act->World->Prop}{Q:Exit->Act->World->Prop}(x:Operand) (ho:o.op=.load 120 x)
  (b off:Nat) (cs:List Value) (hx:a.eval x=.pointer (some ⟨b,off,none⟩)) (hc:w.rangeAt b off cs) (h6:cs.length=6)
  (h:K (a.put o.dst (.agg cs.toArray)) w):LoadV Tryz.prog o a w K Q:=by
 obtain⟨d,h1,h2⟩:=isStruct Tryz.agV;refine wp_load_mid 120 x ho b off hx cs d hc h1 ?_ (by rw[h6];exact Tryz.sizeV) h;cases d <;> first | rfl | cases h2
theorem LoadV.here {P:Program}{o:Oper}{a:Act}{w:World}{K:Act->World->Prop}{Q:Exit->Act->World->Prop}(h:LoadV P o a w K Q):LoadV P o a w K Q:=h
theorem StoreV.here {P:Program}{o:Oper}{a:Act}{w:World}{K:Act->World->Prop}{Q:Exit->Act->World->Prop}(h:StoreV P o a w K Q):StoreV P o a w K Q:=h
theorem res_two {fn:Func}{p u:Tmp}(h:fn.results=#[.cell p 120,.tmp u]) (tmps:Array Value) (w:World) (g:Nat) (cs:Array Value) (b:Value) (hp:tmps.getD p undef=.pointer (some ⟨g,0,none⟩)) (hb:tmps.getD u undef=b)
  (hg:w.heap[g]?=some (.cells cs 120 (0,0))) (hi:cs.size=6):(results fn tmps).run Tryz.prog w=.ok (.tuple #[.agg cs,b]) w:=by
 obtain⟨d,hd1,hd2⟩:=isStruct Tryz.agV;have hr:=run_loadVar_row (P:=Tryz.prog) w g 120 120 cs (0,0) d hg hd1 (by cases d <;> first | rfl | cases hd2) (by rw[hi];exact Tryz.sizeV);rw[results_cell_tmp h,hp,hb];simp[asAddr,hr]
theorem storedV {w W:World}{g N:Nat}{old:Array Value}{ty:TypeId}(cells:Array Value) (hg:W.heap[g]?=some (.cells old ty (0,0))) (hN:N<=g) (hB:Below N w W) :
  ∃ W2,W.setRow g cells=W2/\W2.heap[g]?=some (.cells cells ty (0,0))/\(∀ k,k≠g->W2.heap[k]?=W.heap[k]?)/\Below N w W2/\W2.heap.size=W.heap.size:=
 ⟨_,rfl,setRow_heap W g old cells _ _ hg,fun k hk=>setRow_other _ _ _ _ hk,below_setRow hB hN _,by simp[World.setRow]⟩
attribute [local go_sem ↓] store_v load_v Go.wp_at_zero Go.wp_at_succ
set_option maxHeartbeats 2000000 in
set_option maxRecDepth 100000 in
theorem title_any (v:Val) {kk xx:Nat}{tt:ByteArray}{rr:Nat}{aa:Option Addr}{nn cc:Nat}{mm:Option Nat}(hR:Rep w S v (vC kk xx tt rr (.slice aa nn cc) (.map mm))) :
  Calls Tryz.prog 139 #[.agg #[.int .i64 (kk:Int),.float .f64 xx,.string tt,.int .i64 (rr:Int),.slice aa nn cc,.map mm]] w fun e w'=>e=.returned (.tuple #[.agg #[.int .i64 (kk:Int),.float .f64 xx,.string tt,.int .i64 (rr:Int),.slice aa nn cc,.map mm],.bool (isStr v)])/\Below w.heap.size w w':=by
 have hk:=(Rep.kindOf hR).1
 have hb:((kk:Int)==5)=isStr v:=by
  rw[Bool.eq_iff_iff,← hk,beq_iff_eq];omega
 clear hR hk;have hB:Below w.heap.size w ((w.alloc (.cells #[.int .i64 (kk:Int),.float .f64 xx,.string tt,.int .i64 (rr:Int),.slice aa nn cc,.map mm] 120)).alloc (.cells #[.int .i64 0,.float .f64 0,.string ⟨#[]⟩,.int .i64 0,.slice none 0 0,.map none] 120)):=((Below.refl _ _).alloc (Nat.le_refl _) _).alloc (by simp) _;have hA:((w.alloc (.cells #[.int .i64 (kk:Int),.float .f64 xx,.string tt,.int .i64 (rr:Int),.slice aa nn cc,.map mm] 120)).alloc (.cells #[.int .i64 0,.float .f64 0,.string ⟨#[]⟩,.int .i64 0,.slice none 0 0,.map none] 120)).heap[w.heap.size]?=some (.cells #[.int .i64 (kk:Int),.float .f64 xx,.string tt,.int .i64 (rr:Int),.slice aa nn cc,.map mm] 120 (0,0)):=heap_alloc2_old w _ _;have hZ:((w.alloc (.cells #[.int .i64 (kk:Int),.float .f64 xx,.string tt,.int .i64 (rr:Int),.slice aa nn cc,.map mm] 120)).alloc (.cells #[.int .i64 0,.float .f64 0,.string ⟨#[]⟩,.int .i64 0,.slice none 0 0,.map none] 120)).heap[w.heap.size+1]?=some (.cells #[.int .i64 0,.float .f64 0,.string ⟨#[]⟩,.int .i64 0,.slice none 0 0,.map none] 120 (0,0)):=heap_alloc2_new w _ _
 go_enter Tryz.func139,Tryz.ntmps139
 go_wp2_with fail
 obtain⟨W,hW⟩:∃ W,(w.alloc (.cells #[.int .i64 (kk:Int),.float .f64 xx,.string tt,.int .i64 (rr:Int),.slice aa nn cc,.map mm] 120)).alloc (.cells #[.int .i64 0,.float .f64 0,.string ⟨#[]⟩,.int .i64 0,.slice none 0 0,.map none] 120)=W:=⟨_,rfl⟩;rw[hW] at hA hZ hB ⊢;clear hW;have hrA:W.drew.rangeAt w.heap.size 0 [.int .i64 (kk:Int),.float .f64 xx,.string tt,.int .i64 (rr:Int),.slice aa nn cc,.map mm]:=rangeAt_block (w:=W.drew) hA;have cA:W.drew.cell? ⟨w.heap.size,0,none⟩=some (.int .i64 (kk:Int)):=by have:=hrA 0 (.int .i64 (kk:Int)) rfl;simpa using this
 have hBd:Below w.heap.size w W.drew:=⟨hB.os,hB.tape,hB.output,hB.size,hB.block⟩
 go_region_with (first | (refine LoadV.row _ rfl w.heap.size 0 [.int .i64 (kk:Int),.float .f64 xx,.string tt,.int .i64 (rr:Int),.slice aa nn cc,.map mm] rfl hrA rfl ?_) | (refine StoreV.row0 _ _ rfl rfl (w.heap.size+1) #[.int .i64 (kk:Int),.float .f64 xx,.string tt,.int .i64 (rr:Int),.slice aa nn cc,.map mm] rfl rfl _ hZ rfl rfl (one_six _ _ _ _ _ _ _ _) ?_;obtain⟨W2,hW2,hS2,hO2,hB2,_⟩:=storedV (w:=w) (W:=W.drew) #[.int .i64 (kk:Int),.float .f64 xx,.string tt,.int .i64 (rr:Int),.slice aa nn cc,.map mm] hZ (Nat.le_succ _) hBd;rw[hW2];have cS:W2.cell? ⟨w.heap.size,0,none⟩=some (.int .i64 (kk:Int)):=(World.cell?_of_block (w:=W.drew) (hO2 w.heap.size (by omega))).trans cA;clear hW2))
 all_goals
  go_wp2_with fail
  exact bodyPost_ret (res_two rfl _ _ _ _ _ rfl rfl hS2 rfl) rfl ⟨rfl,hB2⟩
end
end Go.Proofs.YtgffljllfenhkaaGreatDoor
