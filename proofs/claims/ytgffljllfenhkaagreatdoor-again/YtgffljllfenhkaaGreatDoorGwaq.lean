import Derived.Test.YtgffljllfenhkaaGreatDoorGwap
namespace Go.Proofs.YtgffljllfenhkaaGreatDoor
section
open Go.RowKit
attribute [local go_sem] Oper.semAt_some
variable {w w':World}{Q M B base:Nat}
def itoaB (n:Nat):ByteArray:=⟨(Lib.itoa (n:Int)).toArray⟩
def ItC (h0 : Option Obj) : Prop := ∀ W : World, W.heap[5]? = h0 → Lib.TabIs Tryz.prog W "internal/strconv.uint64pow10" .u64 Lib.pow10Tab
theorem itoa_any {h0:Option Obj}(hI:ItC h0) (hw:w.heap[5]?=h0) (n:Nat) (hn:n<=1000000) :
  Calls Tryz.prog 97 #[.int .i64 (n:Int)] w fun e w'=>e=.returned (.string (itoaB n))/\Below w.heap.size w w':=by
 refine (Tryz.strconv_Itoa (n:Int) (by omega) (by omega) w (hI w hw)).mono ?_;rintro e w1 ⟨rfl,k,os,rfl⟩;refine⟨rfl,rfl,rfl,rfl,?_,fun i hi=>?_⟩
 ·show w.heap.size<=(w.heap++os).size;simp
 ·show (w.heap++os)[i]?=w.heap[i]?;rw[Array.getElem?_append_left hi]
theorem put_new {o:Value}{out:List UInt8}{b:Nat}(ts:List ByteArray) (h:Wr w Q M B base o out b) (hn:ts.length<=1000) (hsz:∀ t ∈ ts,t.size<=90000) (cells:Array Value) (hc:cells=(ts.map Value.string).toArray) (n:Nat) (hnn:n=ts.length) (cap:Nat) (z:Nat) (hz:w.heap.size=z) :
  Calls Tryz.prog 61 #[.pointer (some ⟨Q,0,none⟩),.slice (some ⟨z,0,none⟩) n cap] (w.alloc (.cells cells 9)) (PostW Q M B base o w (putR ts out b)):=by
 subst hc hnn hz;have hB:Below w.heap.size w (w.alloc (.cells (ts.map Value.string).toArray 9)):=(Below.refl _ _).alloc (Nat.le_refl _) _;have hlt:=h.lt;have hown:=World.ownsRow.lt h.row;refine (wput_any ts (h.below hB) (g:=w.heap.size) (cap:=cap) (by simp) ⟨by omega,by omega,by omega,fun e=>by have:=(hown _ e).2;omega⟩ hn ?_ hsz).mono ?_
 ·intro i t hi;simp only[World.cell?];rw[heap_alloc_new];simp[hi]
 ·intro e w2 hp
  rcases hq:putR ts out b with⟨out',b'⟩|y
  ·rw[hq] at hp;obtain⟨h1,o',h2,h3⟩:=hp;exact⟨h1,o',h2,(Fw.below o hB).trans h3⟩
  ·rw[hq] at hp;obtain⟨h1,o',h3⟩:=hp;exact⟨h1,o',(Fw.below o hB).trans h3⟩
theorem PostW.okC {o:Value}{W:World}{r:Res (List UInt8)}{out':List UInt8}{b':Nat}{p:Program}{f:Nat}{args:Array Value}(h:Calls p f args W (PostW Q M B base o w r)) (hr:r=.ok out' b') :
  Calls p f args W fun e w'=>e=.returned (.tuple #[])/\∃ o',Wr w' Q M B base o' out' b'/\Fw Q M B o w o' w':=by subst hr;exact h
theorem PostW.noC {o:Value}{W:World}{r:Res (List UInt8)}{y:Why}{p:Program}{f:Nat}{args:Array Value}(h:Calls p f args W (PostW Q M B base o w r)) (hr:r=.no y) :
  Calls p f args W fun e w'=>e=.panicked (thrownY y)/\∃ o',Fw Q M B o w o' w':=by subst hr;exact h
end
section
open Go.RowKit
attribute [local go_sem] Oper.semAt_some
variable {w w':World}{Q M B base:Nat}
def rowsW:List Nat->List UInt8->Nat->Res (List UInt8)
 | [],out,b=>.ok out b
 | p::ps,out,b=>match putR [itoaB p,⟨#[10]⟩] out b with
  | .no y=>.no y
  | .ok out' b'=>rowsW ps out' b'
def tabW (l:List Nat) (out:List UInt8) (b:Nat):Res (List UInt8):=match putR [⟨#[120,114,101,102,32]⟩,itoaB l.length,⟨#[10]⟩] out b with
 | .no y=>.no y
 | .ok o1 b1=>match rowsW l o1 b1 with
  | .no y=>.no y
  | .ok o2 b2=>putR [⟨#[114,111,111,116,32,49,10,97,116,32]⟩,itoaB out.length,⟨#[10,101,110,100,10]⟩] o2 b2
theorem Fw.keeps {o o':Value}{w w':World}{out:List UInt8}{b:Nat}(F:Fw Q M B o w o' w') (h:Wr w Q M B base o out b) (k:Nat) (hk:k<base) (h1:k≠Q) (h2:k≠M) (h3:k≠B):w'.heap[k]?=w.heap[k]?:=
 F.block k (by have:=h.lt;omega) h1 h2 h3 (fun e=>by have:=(World.ownsRow.lt h.row k e).1;omega)
theorem nDigits_succ:∀ (n u:Nat),u<=n->Lib.nDigits u<=u+1
 | n,u,h=>by
  by_cases h10:u<10
  ·rw[Lib.nDigits_small h10];omega
  ·rw[Lib.nDigits_big h10]
   match n with
   | 0=>omega
   | n+1=>
    have:=nDigits_succ n (u/10) (by omega);omega
theorem itoaB_size (n:Nat) (hn:n<=80000):(itoaB n).size<=90000:=by
 show (Lib.itoa (n:Int)).toArray.size<=90000;have h:¬ (n:Int)<0:=by omega
 simp only[List.size_toArray,Lib.itoa,if_neg h,Lib.decDigits_length,Int.toNat_natCast];have:=nDigits_succ n n (Nat.le_refl _);omega
theorem three_size (a b:ByteArray) (n:Nat) (hn:n<=80000) (ha:a.size<=100) (hb:b.size<=100):∀ t ∈ [a,itoaB n,b],t.size<=90000:=by
 intro t ht;have:=itoaB_size n hn
 rcases List.mem_cons.1 ht with rfl|ht
 ·omega
 ·rcases List.mem_cons.1 ht with rfl|ht
  ·exact this
  ·have:t=b:=by simpa using ht
   rw[this];omega
set_option maxHeartbeats 4000000 in
set_option maxRecDepth 100000 in
theorem wtable_any {h0:Option Obj}{o:Value}{out:List UInt8}{b gp cp:Nat}(hI:ItC h0) (hw:w.heap[5]?=h0) (h22:22<Q/\22<M/\22<B/\22<base) (l:List Nat) (hl:l.length<=100) (hp:∀ p ∈ l,p<=80000) (h:Wr w Q M B base o out b)
  (hgp:gp<w.heap.size) (hgn:gp≠Q/\gp≠M/\gp≠B/\o.ownBlock≠some gp) (hrow:∀ i p,l[i]?=some p->w.cell? ⟨gp,i,none⟩=some (.int .i64 ((p:Nat):Int))) :
  Calls Tryz.prog 64 #[.pointer (some ⟨Q,0,none⟩),.slice (some ⟨gp,0,none⟩) l.length cp] w (PostW Q M B base o w (tabW l out b)):=by
 obtain⟨ao,cpo,rfl⟩:=h.shape;have c0:=h.c0;have hl9:=h.hl;have hlt:=h.lt
 go_enter Tryz.func64,Tryz.ntmps64
 go_wp2_with fail
 refine (itoa_any hI hw out.length (by omega)).mono ?_;rintro e w1 ⟨rfl,hB1⟩
 go_wp2_with fail
 refine (itoa_any hI ((hB1.block _ (by omega)).trans hw) l.length (by omega)).mono ?_;rintro e w2 ⟨rfl,hB2⟩;have hB12:Below w.heap.size w w2:=hB1.trans (hB2.mono hB1.size);have h2:=h.below hB12;have F2:Fw Q M B (.slice ao out.length cpo) w (.slice ao out.length cpo) w2:=Fw.below _ hB12;clear c0
 go_wp2_with fail
 have PA:=put_new [⟨#[120,114,101,102,32]⟩,itoaB l.length,⟨#[10]⟩] h2 (by simp) (three_size _ _ _ (by omega) (by decide) (by decide)) _ rfl 3 rfl 3 _ rfl
 rcases q3:putR [⟨#[120,114,101,102,32]⟩,itoaB l.length,⟨#[10]⟩] out b with⟨o3,b3⟩|y
 ·have HE3:Hid (tabW l out b=match rowsW l o3 b3 with
   | .no y=>.no y
   | .ok o2 b2=>putR [⟨#[114,111,111,116,32,49,10,97,116,32]⟩,itoaB out.length,⟨#[10,101,110,100,10]⟩] o2 b2):=by show tabW l out b=_;unfold tabW;rw[q3]
  refine (PostW.okC PA q3).mono ?_;rintro e w3 ⟨rfl,s3,h3,F3⟩;have F03:=F2.trans F3;clear PA q3
  go_wp2_with fail
  go_loopw [21] (fun v wr=>∃ (i b':Nat) (o':Value) (out':List UInt8),v=.int .i64 ((i:Nat):Int)/\i<=l.length/\Wr wr Q M B base o' out' b'/\Fw Q M B (.slice ao out.length cpo) w o' wr/\Hid (rowsW l o3 b3=rowsW (l.drop i) out' b'))
   (fun v _=>l.length-(intOf v).toNat)
  case atStart=>exact⟨0,b3,s3,o3,rfl,Nat.zero_le _,h3,F03,rfl⟩
  case round=>
   clear h3 F3 F03;obtain⟨i,b',o',out',rfl,hi,hr,hF,HE⟩:=hrel
   by_cases hil:i<l.length
   ·have hilI:(i:Int)<(l.length:Int):=by omega
    obtain⟨p,hpi⟩:∃ p,l[i]?=some p:=⟨l[i],List.getElem?_eq_getElem hil⟩;have hp8:=hp p (List.mem_of_getElem? hpi)
    have hcons:l.drop i=p::l.drop (i+1):=by
     rw[List.drop_eq_getElem_cons hil];congr 1;exact Option.some.inj ((List.getElem?_eq_getElem hil).symm.trans hpi)
    have HC:=hid hcons;clear hcons;have hcp:wr.cell? ⟨gp,i,none⟩=some (.int .i64 (p:Int)):=(World.cell?_of_block (w:=w) (hF.block gp hgp hgn.1 hgn.2.1 hgn.2.2.1 hgn.2.2.2)).trans (hrow i p hpi);have hw5:wr.heap[5]?=h0:=(hF.keeps h _ (by omega) (by omega) (by omega) (by omega)).trans hw
    go_wp2_with fail
    refine (itoa_any hI hw5 p (by omega)).mono ?_;rintro e w5 ⟨rfl,hB5⟩;have h5:=hr.below hB5;have F5:Fw Q M B o' wr o' w5:=Fw.below _ hB5
    have hs5:∀ t ∈ [itoaB p,⟨#[10]⟩],t.size<=90000:=fun t ht=>by
     have:=itoaB_size p hp8
     rcases List.mem_cons.1 ht with rfl|ht
     ·exact this
     ·have:t=⟨#[10]⟩:=by simpa using ht
      rw[this];decide
    have PB:=put_new [itoaB p,⟨#[10]⟩] h5 (by simp) hs5 _ rfl 2 rfl 2 _ rfl;clear hcp
    go_wp2_with fail
    rcases q6:putR [itoaB p,⟨#[10]⟩] out' b' with⟨o6,b6⟩|y
    ·have HE2:Hid (rowsW l o3 b3=rowsW (l.drop (i+1)) o6 b6):=(unh HE).trans (by rw[unh HC,rowsW,q6]);refine (PostW.okC PB q6).mono ?_;rintro e w6 ⟨rfl,s6,h6,F6⟩
     go_wp2_with fail
     go_roundw
     case rel=>exact⟨i+1,b6,s6,o6,by go_num,by omega,h6,(hF.trans F5).trans F6,HE2⟩
     case measure=>simp[intOf];omega
    ·have HN:Hid (tabW l out b=.no y):=(unh HE3).trans (by rw[unh HE,unh HC,rowsW,q6]);refine (PostW.noC PB q6).mono ?_;rintro e w6 ⟨rfl,s6,F6⟩;exact⟨rfl,PostW.no (unh HN) ((hF.trans F5).trans F6)⟩
   ·have hilI:¬ (i:Int)<(l.length:Int):=by omega
    have HE4:Hid (tabW l out b=putR [⟨#[114,111,111,116,32,49,10,97,116,32]⟩,itoaB out.length,⟨#[10,101,110,100,10]⟩] out' b'):=(unh HE3).trans (by rw[unh HE,List.drop_eq_nil_of_le (by omega),rowsW]);have PC:=put_new [⟨#[114,111,111,116,32,49,10,97,116,32]⟩,itoaB out.length,⟨#[10,101,110,100,10]⟩] hr (by simp) (three_size _ _ _ (by omega) (by decide) (by decide)) _ rfl 3 rfl 3 _ rfl
    go_wp2_with fail
    rcases q7:putR [⟨#[114,111,111,116,32,49,10,97,116,32]⟩,itoaB out.length,⟨#[10,101,110,100,10]⟩] out' b' with⟨o7,b7⟩|y
    ·refine (PostW.okC PC q7).mono ?_;rintro e w7 ⟨rfl,s7,h7,F7⟩
     go_wp2_with fail
     first | go_end0 | refine bodyPost_ret (results_none rfl _ _ _) rfl ?_
     exact PostW.ok ((unh HE4).trans q7) h7 (hF.trans F7)
    ·refine (PostW.noC PC q7).mono ?_;rintro e w7 ⟨rfl,s7,F7⟩;exact⟨rfl,PostW.no ((unh HE4).trans q7) (hF.trans F7)⟩
 ·have HN:Hid (tabW l out b=.no y):=by show tabW l out b=_;unfold tabW;rw[q3]
  refine (PostW.noC PA q3).mono ?_;rintro e w3 ⟨rfl,s3,F3⟩;exact⟨rfl,PostW.no (unh HN) (F2.trans F3)⟩
end
section
open Go.RowKit
attribute [local go_sem] Oper.semAt_some
variable {w w':World}{Q M B base:Nat}{S:Nat->Prop}
def NtC (G:World->Prop) (nt:Bool->Nat->Nat->ByteArray):Prop:=∀ (w:World) (neg:Bool) (m k:Nat),G w->m<10^6*10^k->k<=3 ->
 (nt neg m k).size<=90000/\Calls Tryz.prog 123 #[.float .f64 (fb neg m k)] w fun e w'=>e=.returned (.string (nt neg m k))/\Below w.heap.size w w'
def leafT (nt:Bool->Nat->Nat->ByteArray):Val->Option (List ByteArray)
 | .num neg m k=>some [nt neg m k]
 | .str t=>some [⟨#[40]⟩,t,⟨#[41]⟩]
 | .ref n=>some [⟨#[64]⟩,itoaB n]
 | _=>none
def leafOk:Val->Prop
 | .num _ m k=>m<10^6*10^k/\k<=3
 | .str t=>t.size<=90000
 | .ref n=>n<=80000
 | _=>False
set_option maxHeartbeats 4000000 in
set_option maxRecDepth 100000 in
theorem wleaf_any {G : World -> Prop}{nt : Bool -> Nat -> Nat -> ByteArray}(NT : NtC G nt) (hGB : ∀ w w', G w -> Below w.heap.size w w' -> G w') {h0 : Option Obj}(hI : ItC h0) (hw : w.heap[5]? = h0) (hG : G w) (h22 : 22<base) {o : Value}{out : List UInt8}{b : Nat}(h : Wr w Q M B base o out b)
    (v : Val) (hv : leafOk v) (ts : List ByteArray) (hts : leafT nt v = some ts) {kk xx : Nat} {tt : ByteArray} {rr : Nat} {aa : Option Addr} {nn cc : Nat} {mm : Option Nat} (hR : Rep w S v (vC kk xx tt rr (.slice aa nn cc) (.map mm))) :
    Calls Tryz.prog 98 #[.pointer (some ⟨Q, 0, none⟩), .agg #[.int .i64 (kk : Int), .float .f64 xx, .string tt, .int .i64 (rr : Int), .slice aa nn cc, .map mm]] w (PostW Q M B base o w (putR ts out b)) := by
  have hBa : Below w.heap.size w (w.alloc (.cells #[.int .i64 (kk : Int), .float .f64 xx, .string tt, .int .i64 (rr : Int), .slice aa nn cc, .map mm] 120)) := (Below.refl _ _).alloc (Nat.le_refl _) _;have hb : (w.alloc (.cells #[.int .i64 (kk : Int), .float .f64 xx, .string tt, .int .i64 (rr : Int), .slice aa nn cc, .map mm] 120)).heap[w.heap.size]? = some (.cells #[.int .i64 (kk : Int), .float .f64 xx, .string tt, .int .i64 (rr : Int), .slice aa nn cc, .map mm] 120 (0, 0)) := heap_alloc_new w _;have ha := h.below hBa;have hlt := h.lt;obtain⟨W, hW⟩ : ∃ W, w.alloc (.cells #[.int .i64 (kk : Int), .float .f64 xx, .string tt, .int .i64 (rr : Int), .slice aa nn cc, .map mm] 120) = W := ⟨_, rfl⟩;rw[hW] at hBa hb ha;have hGa : G W := hGB _ _ hG hBa;have hwa : W.heap[5]? = h0 := (hBa.block _ (by omega)).trans hw;have c0 : W.cell? ⟨w.heap.size, 0, none⟩ = some (.int .i64 (kk : Int)) := by simp[World.cell?, hb]
  have c1 : W.cell? ⟨w.heap.size, 1, none⟩ = some (.float .f64 xx) := by simp[World.cell?, hb]
  have c2 : W.cell? ⟨w.heap.size, 2, none⟩ = some (.string tt) := by simp[World.cell?, hb]
  have c3 : W.cell? ⟨w.heap.size, 3, none⟩ = some (.int .i64 (rr : Int)) := by simp[World.cell?, hb]
  have F0 : Fw Q M B o w o W := Fw.below _ hBa
  have fin : ∀ {W2 : World}, Fw Q M B o w o W2 -> Wr W2 Q M B base o out b -> ∀ (e : Ending) (w3 : World), PostW Q M B base o W2 (putR ts out b) e w3 -> PostW Q M B base o w (putR ts out b) e w3 := fun F2 _ e w3 hp => by
    rcases hq : putR ts out b with⟨o3, b3⟩|y
    · rw[hq] at hp
      obtain⟨e1, o', h1, h2⟩ := hp;exact⟨e1, o', h1, F2.trans h2⟩
    · rw[hq] at hp
      obtain⟨e1, o', h2⟩ := hp;exact⟨e1, o', F2.trans h2⟩
  cases v with
  | num neg m k =>
    unfold Rep at hR;obtain⟨rfl, rfl, rfl, rfl, _, _⟩ := vC_m hR;obtain⟨hm, hk⟩ := hv;cases hts;obtain⟨hsz, NA⟩ := NT W neg m k hGa hm hk;clear hR
    go_enter Tryz.func98, Tryz.ntmps98
    subst hW
    go_wp2_with fail
    refine NA.mono ?_;rintro e w2 ⟨rfl, hB2⟩;have h2 := ha.below hB2;have F2 := F0.trans (Fw.below (Q := Q) (M := M) (B := B) o hB2)
    have PA := put_new [nt neg m k] h2 (by simp) (fun t ht => by have : t = nt neg m k := by simpa using ht
                                                                 rw[this]; exact hsz) _ rfl 1 rfl 1 _ rfl
    have PB := PA.mono (fun e w3 hp => fin F2 h2 e w3 hp);clear c0 c1 c2 c3
    go_wp2_with fail
    rcases q : putR [nt neg m k] out b with⟨o3, b3⟩|y
    · refine (PostW.okC PB q).mono ?_
      rintro e w3 ⟨rfl, s3, h3, F3⟩;have HQ := hid q;clear q
      go_wp2_with fail
      first | go_end0 | refine bodyPost_ret (results_none rfl _ _ _) rfl ?_
      exact PostW.ok (unh HQ) h3 F3
    · refine (PostW.noC PB q).mono ?_
      rintro e w3 ⟨rfl, s3, F3⟩;exact⟨rfl, PostW.no rfl F3⟩
  | str t =>
    unfold Rep at hR;obtain⟨rfl, rfl, rfl, rfl, _, _⟩ := vC_m hR;have hsz : tt.size <= 90000 := hv;cases hts;clear hR
    go_enter Tryz.func98, Tryz.ntmps98
    subst hW
    have PA := put_new [⟨#[40]⟩, tt, ⟨#[41]⟩] ha (by simp) (fun t ht => by
      rcases List.mem_cons.1 ht with rfl|ht
      · decide
      · rcases List.mem_cons.1 ht with rfl | ht
        · exact hsz
        · have : t = ⟨#[41]⟩ := by simpa using ht
          rw[this]; decide) _ rfl 3 rfl 3 (w.heap.size + 1) (by simp)
    have PB := PA.mono (fun e w3 hp => fin F0 ha e w3 hp)
    go_wp2_with fail
    rcases q : putR [⟨#[40]⟩, tt, ⟨#[41]⟩] out b with⟨o3, b3⟩|y
    · refine (PostW.okC PB q).mono ?_
      rintro e w3 ⟨rfl, s3, h3, F3⟩;have HQ := hid q;clear q
      go_wp2_with fail
      first | go_end0 | refine bodyPost_ret (results_none rfl _ _ _) rfl ?_
      exact PostW.ok (unh HQ) h3 F3
    · refine (PostW.noC PB q).mono ?_
      rintro e w3 ⟨rfl, s3, F3⟩;exact⟨rfl, PostW.no rfl F3⟩
  | ref n =>
    unfold Rep at hR;obtain⟨rfl, rfl, rfl, rfl, _, _⟩ := vC_m hR;have hn8 : rr <= 80000 := hv;cases hts;clear hR;have IA := itoa_any hI hwa rr (by omega)
    go_enter Tryz.func98, Tryz.ntmps98
    subst hW
    go_wp2_with fail
    refine IA.mono ?_;rintro e w2 ⟨rfl, hB2⟩;have h2 := ha.below hB2;have F2 := F0.trans (Fw.below (Q := Q) (M := M) (B := B) o hB2)
    have PA := put_new [⟨#[64]⟩, itoaB rr] h2 (by simp) (fun t ht => by
      rcases List.mem_cons.1 ht with rfl|ht
      · decide
      · have : t = itoaB rr := by simpa using ht
        rw[this]; exact itoaB_size rr hn8) _ rfl 2 rfl 2 _ rfl
    have PB := PA.mono (fun e w3 hp => fin F2 h2 e w3 hp);clear c0 c1 c2 c3
    go_wp2_with fail
    rcases q : putR [⟨#[64]⟩, itoaB rr] out b with⟨o3, b3⟩|y
    · refine (PostW.okC PB q).mono ?_
      rintro e w3 ⟨rfl, s3, h3, F3⟩;have HQ := hid q;clear q
      go_wp2_with fail
      first | go_end0 | refine bodyPost_ret (results_none rfl _ _ _) rfl ?_
      exact PostW.ok (unh HQ) h3 F3
    · refine (PostW.noC PB q).mono ?_
      rintro e w3 ⟨rfl, s3, F3⟩;exact⟨rfl, PostW.no rfl F3⟩
  | _ => exact hv.elim
end
section
open Go.RowKit
attribute [local go_sem] Oper.semAt_some
variable {w w':World}{Q M B base:Nat}{S S':Nat->Prop}
def spB:ByteArray:=⟨#[32]⟩
def elemsW (nt:Bool->Nat->Nat->ByteArray):Nat->List Val->List UInt8->Nat->Res (List UInt8)
 | _,[],out,b=>.ok out b
 | i,v::l,out,b=>match (if 0<i then putR [spB] out b else .ok out b) with
  | .no y=>.no y
  | .ok o1 b1=>match putR ((leafT nt v).getD []) o1 b1 with
   | .no y=>.no y
   | .ok o2 b2=>elemsW nt (i+1) l o2 b2
def arrW (nt:Bool->Nat->Nat->ByteArray) (l:List Val) (out:List UInt8) (b:Nat):Res (List UInt8):=match putR [⟨#[91]⟩] out b with
 | .no y=>.no y
 | .ok o1 b1=>match elemsW nt 0 l o1 b1 with
  | .no y=>.no y
  | .ok o2 b2=>putR [⟨#[93]⟩] o2 b2
theorem leaf_rep {v:Val}{cs:List Value}(hv:leafOk v) (h:Rep w S v cs):Rep w' S' v cs:=by
 cases v <;> first | exact hv.elim | (unfold Rep at h ⊢;exact h)
theorem leaf_some (nt:Bool->Nat->Nat->ByteArray) {v:Val}(hv:leafOk v):leafT nt v=some ((leafT nt v).getD []):=by
 cases v <;> first | exact hv.elim | rfl
theorem one_put {o : Value}{out : List UInt8}{b : Nat}(t : ByteArray) (ht : t.size <= 100) (h : Wr w Q M B base o out b) (z : Nat) (hz : w.heap.size = z) :
    Calls Tryz.prog 61 #[.pointer (some ⟨Q, 0, none⟩), .slice (some ⟨z, 0, none⟩) 1 1] (w.alloc (.cells #[.string t] 9)) (PostW Q M B base o w (putR [t] out b)) :=
  put_new [t] h (by simp) (fun u hu => by have : u = t := by simpa using hu
                                          rw[this]; omega) _ rfl 1 rfl 1 z hz
set_option maxHeartbeats 4000000 in
set_option maxRecDepth 100000 in
theorem warray_any {G:World->Prop}{nt:Bool->Nat->Nat->ByteArray}(NT:NtC G nt) (hGB:∀ w w',G w->Below w.heap.size w w'->G w') (hGF:∀ (o o':Value) (w w':World),G w->Fw Q M B o w o' w'->(∀ k,o.ownBlock=some k->base<=k)->G w') {h0:Option Obj}(hI:ItC h0) (hw:w.heap[5]?=h0) (hG:G w) (h22:22<Q/\22<M/\22<B/\22<base)
  {o:Value} {out:List UInt8} {b gv cap:Nat} (h:Wr w Q M B base o out b) (l:List Val) (hl:l.length<=9000) (hv:∀ v ∈ l,leafOk v) (hgv:gv<w.heap.size) (hgn:gv≠Q/\gv≠M/\gv≠B/\o.ownBlock≠some gv)
  (hrow:∀ i v,l[i]?=some v->∃ kk xx tt rr aa nn cc mm,w.rangeAt gv (i*6) [.int .i64 ((kk:Nat):Int),.float .f64 xx,.string tt,.int .i64 ((rr:Nat):Int),.slice aa nn cc,.map mm]/\Rep w S v (vC kk xx tt rr (.slice aa nn cc) (.map mm))) :
  Calls Tryz.prog 124 #[.pointer (some ⟨Q,0,none⟩),.slice (some ⟨gv,0,none⟩) l.length cap] w (PostW Q M B base o w (arrW nt l out b)):=by
 go_enter Tryz.func124,Tryz.ntmps124
 go_wp2_with fail
 rcases q1:putR [⟨#[91]⟩] out b with⟨o1,b1⟩|y
 ·have HE1:Hid (arrW nt l out b=match elemsW nt 0 l o1 b1 with
   | .no y=>.no y
   | .ok o2 b2=>putR [⟨#[93]⟩] o2 b2):=by show arrW nt l out b=_;unfold arrW;rw[q1]
  refine (PostW.okC (one_put ⟨#[91]⟩ (by decide) h _ rfl) q1).mono ?_;rintro e w1 ⟨rfl,s1,h1,F1⟩
  go_wp2_with fail
  go_loopw [11] (fun v wr=>∃ (i b':Nat) (o':Value) (out':List UInt8),v=.int .i64 ((i:Nat):Int)/\i<=l.length/\Wr wr Q M B base o' out' b'/\Fw Q M B o w o' wr/\Hid (elemsW nt 0 l o1 b1=elemsW nt i (l.drop i) out' b'))
   (fun v _=>l.length-(intOf v).toNat)
  case atStart=>exact⟨0,b1,s1,o1,rfl,Nat.zero_le _,h1,F1,rfl⟩
  case round=>
   clear h1 F1;obtain⟨i,b',o',out',rfl,hi,hr,hF,HE⟩:=hrel;have hown0:∀ k,o.ownBlock=some k->base<=k:=fun k hk=>(World.ownsRow.lt h.row k hk).1
   by_cases hil:i<l.length
   ·have hilI:(i:Int)<(l.length:Int):=by omega
    obtain⟨v,hvi⟩:∃ v,l[i]?=some v:=⟨l[i],List.getElem?_eq_getElem hil⟩;have hvo:=hv v (List.mem_of_getElem? hvi)
    have hcons:l.drop i=v::l.drop (i+1):=by
     rw[List.drop_eq_getElem_cons hil];congr 1;exact Option.some.inj ((List.getElem?_eq_getElem hil).symm.trans hvi)
    have HC:=hid hcons;clear hcons;obtain⟨kk,xx,tt,rr,aa,nn,cc,mm,hra,hRep⟩:=hrow i v hvi;have hgb:wr.heap[gv]?=w.heap[gv]?:=hF.block gv hgv hgn.1 hgn.2.1 hgn.2.2.1 hgn.2.2.2;have hra':wr.rangeAt gv (i*6) [.int .i64 ((kk:Nat):Int),.float .f64 xx,.string tt,.int .i64 ((rr:Nat):Int),.slice aa nn cc,.map mm]:=fun j u hj=>(World.cell?_of_block (w:=w) hgb).trans (hra j u hj)
    have hBa:Below wr.heap.size wr (wr.alloc (.cells #[.int .i64 (kk:Int),.float .f64 xx,.string tt,.int .i64 (rr:Int),.slice aa nn cc,.map mm] 120)):=(Below.refl _ _).alloc (Nat.le_refl _) _;have ha:=hr.below hBa;have Fa:Fw Q M B o w o' _:=hF.trans (Fw.below o' hBa);have hblk:(wr.alloc (.cells #[.int .i64 (kk:Int),.float .f64 xx,.string tt,.int .i64 (rr:Int),.slice aa nn cc,.map mm] 120)).heap[wr.heap.size]?=some (.cells #[.int .i64 (kk:Int),.float .f64 xx,.string tt,.int .i64 (rr:Int),.slice aa nn cc,.map mm] 120 (0,0)):=heap_alloc_new wr _;have hza:(wr.alloc (.cells #[.int .i64 (kk:Int),.float .f64 xx,.string tt,.int .i64 (rr:Int),.slice aa nn cc,.map mm] 120)).heap.size=wr.heap.size+1:=by simp
    obtain⟨wo,rfl⟩:∃ wo,wo=wr:=⟨_,rfl⟩;obtain⟨W,hW⟩:∃ W,wo.alloc (.cells #[.int .i64 (kk:Int),.float .f64 xx,.string tt,.int .i64 (rr:Int),.slice aa nn cc,.map mm] 120)=W:=⟨_,rfl⟩;rw[hW] at ha Fa hblk hza;have HW:=hid hW;clear hBa hra hgb hW;have hlt:=hr.lt;have hown':=World.ownsRow.lt hr.row
    by_cases hi0:0<i
    ·have hi0I:(0:Int)<(i:Int):=by omega
     rcases q2:putR [spB] out' b' with⟨o2,b2⟩|y
     ·go_wp2_with (first | (refine load_mid rfl 120 _ rfl gv (i*6) rfl _ hra' Tryz.agV Tryz.sizeV ?_) | (refine wpList_store_row rfl 120 _ _ rfl wo.heap.size _ rfl rfl 120 _ (heap_alloc_new wo _) Tryz.sizeV rfl (one_six _ _ _ _ _ _ _ _) ?_;rw[setRow_alloc,unh HW]))
      refine (PostW.okC (one_put spB (by decide) ha _ hza) q2).mono ?_;rintro e w3 ⟨rfl,s3,h3,F3⟩;have F03:=Fa.trans F3;have hblk3:=(F3.block wo.heap.size (by omega) (by omega) (by omega) (by omega) (fun e=>by have:=(hown' _ e).2;omega)).trans hblk;have hwz:w3.heap[5]?=h0:=(F03.keeps h _ (by omega) (by omega) (by omega) (by omega)).trans hw;have hGz:G w3:=hGF o _ w w3 hG F03 hown0;have LA:=wleaf_any (S:=S) NT hGB hI hwz hGz h22.2.2.2 h3 v hvo _ (leaf_some nt hvo) (leaf_rep hvo hRep)
      rcases q4:putR ((leafT nt v).getD []) o2 b2 with⟨o4,b4⟩|y
      ·have HE2:Hid (elemsW nt 0 l o1 b1=elemsW nt (i+1) (l.drop (i+1)) o4 b4):=(unh HE).trans (by rw[unh HC,elemsW,if_pos hi0,q2];simp only[];rw[q4])
       go_wp2_with (refine load_row rfl 120 _ rfl wo.heap.size rfl 120 _ (0,0) hblk3 Tryz.agV Tryz.sizeV ?_)
       refine (PostW.okC LA q4).mono ?_;rintro e w4 ⟨rfl,s4,h4,F4⟩
       go_wp2_with fail
       go_roundw
       case rel=>exact⟨i+1,b4,s4,o4,by go_num,by omega,h4,F03.trans F4,HE2⟩
       case measure=>simp[intOf];omega
      ·have HN:Hid (arrW nt l out b=.no y):=(unh HE1).trans (by rw[unh HE,unh HC,elemsW,if_pos hi0,q2];simp only[];rw[q4])
       go_wp2_with (refine load_row rfl 120 _ rfl wo.heap.size rfl 120 _ (0,0) hblk3 Tryz.agV Tryz.sizeV ?_)
       refine (PostW.noC LA q4).mono ?_;rintro e w4 ⟨rfl,s4,F4⟩;exact⟨rfl,PostW.no (unh HN) (F03.trans F4)⟩
     ·have HN:Hid (arrW nt l out b=.no y):=(unh HE1).trans (by rw[unh HE,unh HC,elemsW,if_pos hi0,q2])
      go_wp2_with (first | (refine load_mid rfl 120 _ rfl gv (i*6) rfl _ hra' Tryz.agV Tryz.sizeV ?_) | (refine wpList_store_row rfl 120 _ _ rfl wo.heap.size _ rfl rfl 120 _ (heap_alloc_new wo _) Tryz.sizeV rfl (one_six _ _ _ _ _ _ _ _) ?_;rw[setRow_alloc,unh HW]))
      refine (PostW.noC (one_put spB (by decide) ha _ hza) q2).mono ?_;rintro e w3 ⟨rfl,s3,F3⟩;exact⟨rfl,PostW.no (unh HN) (Fa.trans F3)⟩
    ·have hi0I:¬ (0:Int)<(i:Int):=by omega
     go_wp2_with (first | (refine load_row rfl 120 _ rfl wo.heap.size rfl 120 _ (0,0) hblk Tryz.agV Tryz.sizeV ?_) | (refine load_mid rfl 120 _ rfl gv (i*6) rfl _ hra' Tryz.agV Tryz.sizeV ?_) | (refine wpList_store_row rfl 120 _ _ rfl wo.heap.size _ rfl rfl 120 _ (heap_alloc_new wo _) Tryz.sizeV rfl (one_six _ _ _ _ _ _ _ _) ?_;rw[setRow_alloc,unh HW]))
     have hwz:W.heap[5]?=h0:=(Fa.keeps h _ (by omega) (by omega) (by omega) (by omega)).trans hw;have hGz:G W:=hGF o _ w W hG Fa hown0;have LA:=wleaf_any (S:=S) NT hGB hI hwz hGz h22.2.2.2 ha v hvo _ (leaf_some nt hvo) (leaf_rep hvo hRep)
     rcases q4:putR ((leafT nt v).getD []) out' b' with⟨o4,b4⟩|y
     ·have HE2:Hid (elemsW nt 0 l o1 b1=elemsW nt (i+1) (l.drop (i+1)) o4 b4):=(unh HE).trans (by rw[unh HC,elemsW,if_neg hi0];simp only[];rw[q4]);refine (PostW.okC LA q4).mono ?_;rintro e w4 ⟨rfl,s4,h4,F4⟩
      go_wp2_with fail
      go_roundw
      case rel=>exact⟨i+1,b4,s4,o4,by go_num,by omega,h4,Fa.trans F4,HE2⟩
      case measure=>simp[intOf];omega
     ·have HN:Hid (arrW nt l out b=.no y):=(unh HE1).trans (by rw[unh HE,unh HC,elemsW,if_neg hi0];simp only[];rw[q4]);refine (PostW.noC LA q4).mono ?_;rintro e w4 ⟨rfl,s4,F4⟩;exact⟨rfl,PostW.no (unh HN) (Fa.trans F4)⟩
   ·have hilI:¬ (i:Int)<(l.length:Int):=by omega
    have HE4:Hid (arrW nt l out b=putR [⟨#[93]⟩] out' b'):=(unh HE1).trans (by rw[unh HE,List.drop_eq_nil_of_le (by omega),elemsW])
    go_wp2_with fail
    rcases q7:putR [⟨#[93]⟩] out' b' with⟨o7,b7⟩|y
    ·refine (PostW.okC (one_put ⟨#[93]⟩ (by decide) hr _ rfl) q7).mono ?_;rintro e w7 ⟨rfl,s7,h7,F7⟩;have HQ:=hid q7;clear q7
     go_wp2_with fail
     first | go_end0 | refine bodyPost_ret (results_none rfl _ _ _) rfl ?_
     exact PostW.ok ((unh HE4).trans (unh HQ)) h7 (hF.trans F7)
    ·refine (PostW.noC (one_put ⟨#[93]⟩ (by decide) hr _ rfl) q7).mono ?_;rintro e w7 ⟨rfl,s7,F7⟩;exact⟨rfl,PostW.no ((unh HE4).trans q7) (hF.trans F7)⟩
 ·have HN:Hid (arrW nt l out b=.no y):=by show arrW nt l out b=_;unfold arrW;rw[q1]
  refine (PostW.noC (one_put ⟨#[91]⟩ (by decide) h _ rfl) q1).mono ?_;rintro e w1 ⟨rfl,s1,F1⟩;exact⟨rfl,PostW.no (unh HN) F1⟩
end
section
open Go.RowKit
attribute [local go_sem] Oper.semAt_some
variable {w w':World}{Q M B base:Nat}{S S':Nat->Prop}
theorem RepL.get:∀ (l:List Val) {xs:List Value},RepL w S l xs->∀ (i:Nat) (v:Val),l[i]?=some v->∃ cs,Rep w S v cs/\∀ j u,cs[j]?=some u->xs[i*6+j]?=some u
 | [],_,_,i,v,hi=>by simp at hi
 | v'::l,_,h,i,v,hi=>by
  unfold RepL at h;obtain⟨cs,rest,e,hv,hl⟩:=h;have hc:=Rep.len _ hv;cases i with
  | zero=>
   simp at hi;subst hi;refine⟨cs,hv,fun j u hj=>?_⟩;have hjl:j<cs.length:=(List.getElem?_eq_some_iff.1 hj).1;rw[e,Nat.zero_mul,Nat.zero_add,List.getElem?_append_left hjl];exact hj
  | succ i=>
   obtain⟨c,hcv,hg⟩:=RepL.get l hl i v (by simpa using hi);refine⟨c,hcv,fun j u hj=>?_⟩;have:=hg j u hj;rw[e,List.getElem?_append_right (by omega),hc,show (i+1)*6+j-6=i*6+j by omega];exact this
def RepK (w:World) (S:Nat->Prop):Val->List Value->Prop
 | .arr l,cs=>∃ aa cc,cs=vC 8 0 eB 0 (.slice aa l.length cc) (.map none) /\
   ∀ i v,l[i]?=some v->∃ g kk xx tt rr a n c m,aa=some ⟨g,0,none⟩/\S g/\w.rangeAt g (i*6) [.int .i64 ((kk:Nat):Int),.float .f64 xx,.string tt,.int .i64 ((rr:Nat):Int),.slice a n c,.map m]/\Rep w S v (vC kk xx tt rr (.slice a n c) (.map m))
 | v,cs=>Rep w S v cs
theorem RepK.leaf {v:Val}{cs:List Value}(hv:leafOk v) (h:RepK w S v cs):Rep w S v cs:=by
 cases v <;> first | exact hv.elim | exact h
theorem RepK.shape {v:Val}{cs:List Value}(h:RepK w S v cs):∃ (k x:Nat) (t:ByteArray) (r:Nat) (a:Option Addr) (n c:Nat) (m:Option Nat),cs=vC k x t r (.slice a n c) (.map m):=by
 cases v
 case arr l=>
  obtain⟨aa,cc,e,_⟩:=h;exact⟨_,_,_,_,_,_,_,_,e⟩
 all_goals exact Rep.shape h
theorem RepK.kept (hS:∀ b,S b->S' b/\w'.heap[b]?=w.heap[b]?) (v:Val) {cs:List Value}(h:RepK w S v cs):RepK w' S' v cs:=by
 cases v
 case arr l=>
  obtain⟨aa,cc,e,hr⟩:=h;refine⟨aa,cc,e,fun i v hi=>?_⟩;obtain⟨g,kk,xx,tt,rr,a,n,c,m,e1,hg,hc,hv⟩:=hr i v hi;exact⟨g,kk,xx,tt,rr,a,n,c,m,e1,(hS g hg).1,fun j u hj=>(World.cell?_of_block (w:=w) (hS g hg).2).trans (hc j u hj),Rep.kept hS v hv⟩
 all_goals exact Rep.kept hS _ h
set_option maxHeartbeats 2000000 in
set_option maxRecDepth 100000 in
theorem warray_nil {nt:Bool->Nat->Nat->ByteArray}{o:Value}{out:List UInt8}{b:Nat}{aa:Option Addr}{cc:Nat}(h:Wr w Q M B base o out b) :
  Calls Tryz.prog 124 #[.pointer (some ⟨Q,0,none⟩),.slice aa 0 cc] w (PostW Q M B base o w (arrW nt [] out b)):=by
 go_enter Tryz.func124,Tryz.ntmps124
 go_wp2_with fail
 rcases q1:putR [⟨#[91]⟩] out b with⟨o1,b1⟩|y
 ·have HE1:Hid (arrW nt [] out b=putR [⟨#[93]⟩] o1 b1):=by show arrW nt [] out b=_;unfold arrW;rw[q1];rfl
  refine (PostW.okC (one_put ⟨#[91]⟩ (by decide) h _ rfl) q1).mono ?_;rintro e w1 ⟨rfl,s1,h1,F1⟩
  go_wp2_with fail
  go_loopw [11] (fun v wr=>v=.int .i64 0/\wr=w1) (fun _ _=>0)
  case atStart=>exact⟨rfl,rfl⟩
  case round=>
   obtain⟨rfl,rfl⟩:=hrel
   go_wp2_with fail
   rcases q7:putR [⟨#[93]⟩] o1 b1 with⟨o7,b7⟩|y
   ·refine (PostW.okC (one_put ⟨#[93]⟩ (by decide) h1 _ rfl) q7).mono ?_;rintro e w7 ⟨rfl,s7,h7,F7⟩;have HQ:=hid q7;clear q7
    go_wp2_with fail
    first | go_end0 | refine bodyPost_ret (results_none rfl _ _ _) rfl ?_
    exact PostW.ok ((unh HE1).trans (unh HQ)) h7 (F1.trans F7)
   ·refine (PostW.noC (one_put ⟨#[93]⟩ (by decide) h1 _ rfl) q7).mono ?_;rintro e w7 ⟨rfl,s7,F7⟩;exact⟨rfl,PostW.no ((unh HE1).trans q7) (F1.trans F7)⟩
 ·have HN:Hid (arrW nt [] out b=.no y):=by show arrW nt [] out b=_;unfold arrW;rw[q1]
  refine (PostW.noC (one_put ⟨#[91]⟩ (by decide) h _ rfl) q1).mono ?_;rintro e w1 ⟨rfl,s1,F1⟩;exact⟨rfl,PostW.no (unh HN) F1⟩
end
section
open Go.RowKit
attribute [local go_sem] Oper.semAt_some
variable {w w':World}{Q M B base:Nat}{S S':Nat->Prop}
set_option maxHeartbeats 4000000 in
set_option maxRecDepth 100000 in
theorem wvalue_arr {G:World->Prop}{nt:Bool->Nat->Nat->ByteArray}(NT:NtC G nt) (hGB:∀ w w',G w->Below w.heap.size w w'->G w') (hGF:∀ (o o':Value) (w w':World),G w->Fw Q M B o w o' w'->(∀ k,o.ownBlock=some k->base<=k)->G w') {h0:Option Obj}(hI:ItC h0) (hw:w.heap[5]?=h0) (hG:G w) (h22:22<Q/\22<M/\22<B/\22<base)
  {o:Value} {out:List UInt8} {b:Nat} (h:Wr w Q M B base o out b) (l:List Val) (hl:l.length<=9000) (hv:∀ v ∈ l,leafOk v)
  (hS:∀ b,S b->b<w.heap.size/\b≠Q/\b≠M/\b≠B/\o.ownBlock≠some b) {kk xx:Nat} {tt:ByteArray} {rr:Nat} {aa:Option Addr} {nn cc:Nat} {mm:Option Nat} (hR:RepK w S (.arr l) (vC kk xx tt rr (.slice aa nn cc) (.map mm))) :
  Calls Tryz.prog 98 #[.pointer (some ⟨Q,0,none⟩),.agg #[.int .i64 (kk:Int),.float .f64 xx,.string tt,.int .i64 (rr:Int),.slice aa nn cc,.map mm]] w (PostW Q M B base o w (arrW nt l out b)):=by
 have hBa:Below w.heap.size w (w.alloc (.cells #[.int .i64 (kk:Int),.float .f64 xx,.string tt,.int .i64 (rr:Int),.slice aa nn cc,.map mm] 120)):=(Below.refl _ _).alloc (Nat.le_refl _) _;have hb:(w.alloc (.cells #[.int .i64 (kk:Int),.float .f64 xx,.string tt,.int .i64 (rr:Int),.slice aa nn cc,.map mm] 120)).heap[w.heap.size]?=some (.cells #[.int .i64 (kk:Int),.float .f64 xx,.string tt,.int .i64 (rr:Int),.slice aa nn cc,.map mm] 120 (0,0)):=heap_alloc_new w _;have ha:=h.below hBa;have hlt:=h.lt;have F0:Fw Q M B o w o _:=Fw.below _ hBa;have hGa:G _:=hGB _ _ hG hBa;have hwa:=(hBa.block 5 (by omega)).trans hw;have hsz:=hBa.size;obtain⟨ea,ec,e,hrw⟩:=hR;obtain⟨rfl,rfl,rfl,rfl,e4,_⟩:=vC_m e;have hin:aa=ea/\nn=l.length/\cc=ec:=by simpa using e4
 obtain⟨rfl,rfl,rfl⟩:=hin;clear e e4
 have fin:∀ (e:Ending) (w3:World),PostW Q M B base o (w.alloc (.cells #[.int .i64 ((8:Nat):Int),.float .f64 0,.string eB,.int .i64 ((0:Nat):Int),.slice aa l.length cc,.map mm] 120)) (arrW nt l out b) e w3->PostW Q M B base o w (arrW nt l out b) e w3:=fun e w3 hp=>by
  rcases hq:arrW nt l out b with⟨o3,b3⟩|y
  ·rw[hq] at hp;obtain⟨e1,o',h1,h2⟩:=hp;exact⟨e1,o',h1,F0.trans h2⟩
  ·rw[hq] at hp;obtain⟨e1,o',h2⟩:=hp;exact⟨e1,o',F0.trans h2⟩
 have c0:(w.alloc (.cells #[.int .i64 ((8:Nat):Int),.float .f64 0,.string eB,.int .i64 ((0:Nat):Int),.slice aa l.length cc,.map mm] 120)).cell? ⟨w.heap.size,0,none⟩=some (.int .i64 8):=by simp only[World.cell?];rw[hb];rfl
 have c4:(w.alloc (.cells #[.int .i64 ((8:Nat):Int),.float .f64 0,.string eB,.int .i64 ((0:Nat):Int),.slice aa l.length cc,.map mm] 120)).cell? ⟨w.heap.size,4,none⟩=some (.slice aa l.length cc):=by simp only[World.cell?];rw[hb];rfl
 have AR:Calls Tryz.prog 124 #[.pointer (some ⟨Q,0,none⟩),.slice aa l.length cc] (w.alloc (.cells #[.int .i64 ((8:Nat):Int),.float .f64 0,.string eB,.int .i64 ((0:Nat):Int),.slice aa l.length cc,.map mm] 120)) (PostW Q M B base o w (arrW nt l out b)):=by
  rcases hl0:l with _|⟨v0,l0⟩
  ·subst hl0;exact (warray_nil ha).mono fin
  ·obtain⟨g,_,_,_,_,_,_,_,_,rfl,hSg,_,_⟩:=hrw 0 v0 (by rw[hl0];rfl);rw[← hl0];have hSg:=hS g hSg;refine (warray_any (S:=S) NT hGB hGF hI hwa hGa h22 ha l hl hv (gv:=g) (by have:=hSg.1;omega) ⟨hSg.2.1,hSg.2.2.1,hSg.2.2.2.1,hSg.2.2.2.2⟩ (fun i v hi=>?_)).mono fin;obtain⟨g',k2,x2,t2,r2,a2,n2,c2,m2,e2,_,hc,hcv⟩:=hrw i v hi;have:g=g':=by simpa using e2
   subst this;exact⟨k2,x2,t2,r2,a2,n2,c2,m2,fun j u hj=>(hBa.cell (by exact hSg.1)).trans (hc j u hj),leaf_rep (hv v (List.mem_of_getElem? hi)) hcv⟩
 clear hrw fin hb
 go_enter Tryz.func98,Tryz.ntmps98
 go_wp2_with fail
 rcases q:arrW nt l out b with⟨o3,b3⟩|y
 ·refine (PostW.okC AR q).mono ?_;rintro e w3 ⟨rfl,s3,h3,F3⟩;have HQ:=hid q;clear q
  go_wp2_with fail
  first | go_end0 | refine bodyPost_ret (results_none rfl _ _ _) rfl ?_
  exact PostW.ok (unh HQ) h3 F3
 ·refine (PostW.noC AR q).mono ?_;rintro e w3 ⟨rfl,s3,F3⟩;exact⟨rfl,PostW.no rfl F3⟩
end
end Go.Proofs.YtgffljllfenhkaaGreatDoor
