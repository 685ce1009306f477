import Derived.Test.YtgffljllfenhkaaGreatDoorGwam
namespace Go.Proofs.YtgffljllfenhkaaGreatDoor
section
open Go.RowKit
attribute [local go_sem] Oper.semAt_some
variable {w w':World}{S:Nat->Prop}
theorem ba_loop (bs:ByteArray):∀ (n i:Nat) (r:List UInt8),bs.size-i=n->ByteArray.toList.loop bs i r=r.reverse++bs.data.toList.drop i
 | 0,i,r,h=>by
  unfold ByteArray.toList.loop;rw[if_neg (by omega),List.drop_eq_nil_of_le (by rw[Array.length_toList];show bs.size<=i;omega),List.append_nil]
 | n+1,i,r,h=>by
  unfold ByteArray.toList.loop;rw[if_pos (by omega),ba_loop bs n (i+1) _ (by omega)];have hl:i<bs.data.toList.length:=by rw[Array.length_toList];show i<bs.size;omega
  rw[List.drop_eq_getElem_cons hl,List.reverse_cons,List.append_assoc];have hs:i<bs.data.size:=by rw[← Array.length_toList];exact hl
  have e:bs.get! i=bs.data.toList[i]:=by
   show bs.data[i]! = _;rw[getElem!_pos bs.data i hs];rfl
  rw[e];rfl
theorem ba_toList (bs:ByteArray):bs.toList=bs.data.toList:=by
 unfold ByteArray.toList;rw[ba_loop bs _ 0 [] rfl];rfl
theorem str_eq (t u:ByteArray):(t.toList==u.toList)=(t==u):=by
 rw[ba_toList,ba_toList]
 by_cases h:t=u
 ·rw[h,beqB rfl];simp
 ·rw[beqB' h,beq_eq_false_iff_ne];intro e;apply h;obtain⟨x⟩:=t;obtain⟨y⟩:=u;simp only[] at e;rw[Array.toList_inj.1 e]
def vget:Val->ByteArray->Val
 | .dict l,a=>(dget l a).getD .none
 | _,_=>.none
def isNameB:Val->ByteArray->Bool
 | .name u,t=>u==t
 | _,_=>false
theorem Tryz.nilLook (w:World) (a:ByteArray) (c:Bool):(Instr.lookup 118 (.map none) (.string a) c).run Tryz.prog w=.ok (if c then .tuple #[zeroV,.bool false] else zeroV) w:=by
 cases c <;> first | kernel_rfl | rfl
theorem vC_m {k k' x x':Nat}{t t':ByteArray}{r r':Nat}{sl sl' m m':Value}(h:vC k x t r sl m=vC k' x' t' r' sl' m'):k=k'/\x=x'/\t=t'/\r=r'/\sl=sl'/\m=m':=by
 unfold vC at h;simp at h;obtain⟨h1,h2,h3,h4,h5,h6⟩:=h;exact⟨by omega,h2,h3,by omega,h5,h6⟩
theorem Rep.look {v:Val}{k x:Nat}{t:ByteArray}{r:Nat}{sl m:Value}(h:Rep w S v (vC k x t r sl m)) (a:ByteArray) (ha:a.size<=maxLen) :
  ∃ (k' x':Nat) (t':ByteArray) (r':Nat) (b:Option Addr) (n c:Nat) (m':Option Nat),(Instr.lookup 118 m (.string a) false).run Tryz.prog w=.ok (.agg #[.int .i64 (k':Int),.float .f64 x',.string t',.int .i64 (r':Int),.slice b n c,.map m']) w/\Rep w S (vget v a) (vC k' x' t' r' (.slice b n c) (.map m')):=by
 have nil:m=.map none->vget v a=.none->∃ (k' x':Nat) (t':ByteArray) (r':Nat) (b:Option Addr) (n c:Nat) (m':Option Nat),(Instr.lookup 118 m (.string a) false).run Tryz.prog w=.ok (.agg #[.int .i64 (k':Int),.float .f64 x',.string t',.int .i64 (r':Int),.slice b n c,.map m']) w/\Rep w S (vget v a) (vC k' x' t' r' (.slice b n c) (.map m')):=by
  intro e1 e2;rw[e1,e2];exact⟨0,0,⟨#[]⟩,0,none,0,0,none,Tryz.nilLook w a false,by unfold Rep;rfl⟩
 cases v
 case dict l=>
  unfold Rep at h;obtain⟨M,n,f,e,hM,hV,hk,hD⟩:=h;obtain⟨_,_,_,_,_,rfl⟩:=vC_m e;have hl:=hV.look a ha false;show ∃ (k' x':Nat) (t':ByteArray) (r':Nat) (b:Option Addr) (n c:Nat) (m':Option Nat),_/\Rep w S ((dget l a).getD .none) _
  rcases hg:dget l a with _|y
  ·have h1:=dget_some a l;rw[hg,← hk a] at h1
   rcases hf:f a with _|u
   ·rw[hf] at hl;exact⟨0,0,⟨#[]⟩,0,none,0,0,none,hl,by unfold Rep;rfl⟩
   ·rw[hf] at h1;cases h1
  ·obtain⟨cs,hf,hr⟩:=RepD.get l hD y hg;obtain⟨k',x',t',r',b,n',c,m',rfl⟩:=hr.shape;rw[hf] at hl;exact⟨k',x',t',r',b,n',c,m',hl,hr⟩
 case arr l=>
  unfold Rep at h;obtain⟨sl',xs,e,_⟩:=h;exact nil (vC_m e).2.2.2.2.2 rfl
 all_goals
  unfold Rep at h;exact nil (vC_m h).2.2.2.2.2 rfl
theorem Rep.name {v:Val}{k x:Nat}{t:ByteArray}{r:Nat}{sl m:Value}(h:Rep w S v (vC k x t r sl m)) (u:ByteArray):isNameB v u=(decide (k=6)&&(t==u)):=by
 cases v <;> unfold Rep at h
 case arr l=>obtain⟨_,_,e,_⟩:=h;rw[(vC_m e).1];rfl
 case dict l=>obtain⟨_,_,_,e,_⟩:=h;rw[(vC_m e).1];rfl
 case name y=>rw[(vC_m h).1,(vC_m h).2.2.1];rfl
 all_goals (rw[(vC_m h).1];rfl)
set_option maxHeartbeats 1000000 in
theorem isName_any (w:World) (k x:Nat) (t:ByteArray) (r:Nat) (b:Option Addr) (n c:Nat) (m:Option Nat) (u:ByteArray) :
  Calls Tryz.prog 108 #[.agg #[.int .i64 (k:Int),.float .f64 x,.string t,.int .i64 (r:Int),.slice b n c,.map m],.string u] w fun e w'=>e=.returned (.bool (decide (k=6)&&(t==u)))/\Below w.heap.size w w':=by
 have hB:Below w.heap.size w (w.alloc (.cells #[.int .i64 (k:Int),.float .f64 x,.string t,.int .i64 (r:Int),.slice b n c,.map m] 120)):=(Below.refl _ _).alloc (Nat.le_refl _) _;have c0:(w.alloc (.cells #[.int .i64 (k:Int),.float .f64 x,.string t,.int .i64 (r:Int),.slice b n c,.map m] 120)).cell? ⟨w.heap.size,0,none⟩=some (.int .i64 (k:Int)):=by simp only[World.cell?];rw[heap_alloc_new];rfl
 have c2:(w.alloc (.cells #[.int .i64 (k:Int),.float .f64 x,.string t,.int .i64 (r:Int),.slice b n c,.map m] 120)).cell? ⟨w.heap.size,2,none⟩=some (.string t):=by simp only[World.cell?];rw[heap_alloc_new];rfl
 by_cases hk:k=6
 ·have ik:((k:Int)==6)=true:=beqI hk;have hse:=str_eq t u;obtain⟨q,hq⟩:∃ q,(t==u)=q:=⟨_,rfl⟩;rw[hq] at hse;have e:(decide (k=6)&&(t==u))=q:=by rw[hq];simp[hk]
  rw[e];clear e hk hq
  go_enter Tryz.func108,Tryz.ntmps108
  go_wp2_with fail
  go_ret
  exact⟨rfl,hB⟩
 ·have ik:((k:Int)==6)=false:=beqI' hk;have e:(decide (k=6)&&(t==u))=false:=by simp[hk]
  rw[e];clear e hk
  go_enter Tryz.func108,Tryz.ntmps108
  go_wp2_with fail
  go_ret
  exact⟨rfl,hB⟩
end
section
open Go.RowKit
attribute [local go_sem] Oper.semAt_some
variable {w w':World}{S:Nat->Prop}
def rootB:ByteArray:=⟨#[82,111,111,116]⟩
def pageB:ByteArray:=⟨#[80,97,103,101]⟩
def textB:ByteArray:=⟨#[84,101,120,116]⟩
def typeB:ByteArray:=⟨#[84,121,112,101]⟩
def matchT (o:Obj1) (t:ByteArray) (st:Bool):Bool:=isNameB (vget o.v typeB) t&&(o.has==st)
def tname (o:Obj1):ByteArray:=if matchT o rootB false then rootB else if matchT o pageB false then pageB else if matchT o textB true then textB else ByteArray.empty
set_option maxHeartbeats 4000000 in
set_option maxRecDepth 100000 in
theorem typeName_any (o : Obj1) {kk xx : Nat}{tt : ByteArray}{rr : Nat}{aa : Option Addr}{nn cc : Nat}{mm : Option Nat}(hR : Rep w S o.v (vC kk xx tt rr (.slice aa nn cc) (.map mm))) (hS : ∀ b, S b -> b<w.heap.size) :
    Calls Tryz.prog 107 #[.agg #[.int .i64 (kk : Int), .float .f64 xx, .string tt, .int .i64 (rr : Int), .slice aa nn cc, .map mm, .int .i64 (o.place : Int), .int .i64 (o.fin : Int), .bool o.has, .string o.stream]] w fun e w' => e = .returned (.string (tname o)) /\ Below w.heap.size w w' := by
  have hR1 : Rep (w.alloc (.cells #[.int .i64 (kk : Int), .float .f64 xx, .string tt, .int .i64 (rr : Int), .slice aa nn cc, .map mm, .int .i64 (o.place : Int), .int .i64 (o.fin : Int), .bool o.has, .string o.stream] 122)) S o.v (vC kk xx tt rr (.slice aa nn cc) (.map mm)) := Rep.kept (fun b hb => ⟨hb, Below.heap_alloc _ _ _ (hS b hb)⟩) o.v hR;obtain⟨k2, x2, t2, r2, b2, n2, c2, m2, hlk, hR2⟩ := hR1.look typeB (by unfold maxLen; decide);have hnm := fun u => hR2.name u
  unfold typeB at hlk;have c5 : (w.alloc (.cells #[.int .i64 (kk : Int), .float .f64 xx, .string tt, .int .i64 (rr : Int), .slice aa nn cc, .map mm, .int .i64 (o.place : Int), .int .i64 (o.fin : Int), .bool o.has, .string o.stream] 122)).cell? ⟨w.heap.size, 5, none⟩ = some (.map mm) := by simp only[World.cell?]; rw[heap_alloc_new]; rfl
  have hB2 : Below w.heap.size w (((w.alloc (.cells #[.int .i64 (kk : Int), .float .f64 xx, .string tt, .int .i64 (rr : Int), .slice aa nn cc, .map mm, .int .i64 (o.place : Int), .int .i64 (o.fin : Int), .bool o.has, .string o.stream] 122)).alloc (.cells #[.int .i64 (k2 : Int), .float .f64 x2, .string t2, .int .i64 (r2 : Int), .slice b2 n2 c2, .map m2] 120)).alloc (.cells #[.string ⟨#[82, 111, 111, 116]⟩, .string ⟨#[80, 97, 103, 101]⟩, .string ⟨#[84, 101, 120, 116]⟩] 9)) := (((Below.refl _ _).alloc (Nat.le_refl _) _).alloc (by simp) _).alloc (by simp; omega) _;have hz2 : (((w.alloc (.cells #[.int .i64 (kk : Int), .float .f64 xx, .string tt, .int .i64 (rr : Int), .slice aa nn cc, .map mm, .int .i64 (o.place : Int), .int .i64 (o.fin : Int), .bool o.has, .string o.stream] 122)).alloc (.cells #[.int .i64 (k2 : Int), .float .f64 x2, .string t2, .int .i64 (r2 : Int), .slice b2 n2 c2, .map m2] 120)).alloc (.cells #[.string ⟨#[82, 111, 111, 116]⟩, .string ⟨#[80, 97, 103, 101]⟩, .string ⟨#[84, 101, 120, 116]⟩] 9)).heap.size = w.heap.size + 3 := by simp
  have hb0 : (((w.alloc (.cells #[.int .i64 (kk : Int), .float .f64 xx, .string tt, .int .i64 (rr : Int), .slice aa nn cc, .map mm, .int .i64 (o.place : Int), .int .i64 (o.fin : Int), .bool o.has, .string o.stream] 122)).alloc (.cells #[.int .i64 (k2 : Int), .float .f64 x2, .string t2, .int .i64 (r2 : Int), .slice b2 n2 c2, .map m2] 120)).alloc (.cells #[.string ⟨#[82, 111, 111, 116]⟩, .string ⟨#[80, 97, 103, 101]⟩, .string ⟨#[84, 101, 120, 116]⟩] 9)).heap[w.heap.size]? = some (.cells #[.int .i64 (kk : Int), .float .f64 xx, .string tt, .int .i64 (rr : Int), .slice aa nn cc, .map mm, .int .i64 (o.place : Int), .int .i64 (o.fin : Int), .bool o.has, .string o.stream] 122 (0, 0)) := (Below.heap_alloc _ _ _ (by simp; omega)).trans ((Below.heap_alloc _ _ _ (by simp)).trans (heap_alloc_new w _));have hb1 : (((w.alloc (.cells #[.int .i64 (kk : Int), .float .f64 xx, .string tt, .int .i64 (rr : Int), .slice aa nn cc, .map mm, .int .i64 (o.place : Int), .int .i64 (o.fin : Int), .bool o.has, .string o.stream] 122)).alloc (.cells #[.int .i64 (k2 : Int), .float .f64 x2, .string t2, .int .i64 (r2 : Int), .slice b2 n2 c2, .map m2] 120)).alloc (.cells #[.string ⟨#[82, 111, 111, 116]⟩, .string ⟨#[80, 97, 103, 101]⟩, .string ⟨#[84, 101, 120, 116]⟩] 9)).heap[w.heap.size + 1]? = some (.cells #[.int .i64 (k2 : Int), .float .f64 x2, .string t2, .int .i64 (r2 : Int), .slice b2 n2 c2, .map m2] 120 (0, 0)) := (Below.heap_alloc _ _ _ (by simp)).trans (heap_alloc2_new w _ _)
  have hb2 : (((w.alloc (.cells #[.int .i64 (kk : Int), .float .f64 xx, .string tt, .int .i64 (rr : Int), .slice aa nn cc, .map mm, .int .i64 (o.place : Int), .int .i64 (o.fin : Int), .bool o.has, .string o.stream] 122)).alloc (.cells #[.int .i64 (k2 : Int), .float .f64 x2, .string t2, .int .i64 (r2 : Int), .slice b2 n2 c2, .map m2] 120)).alloc (.cells #[.string ⟨#[82, 111, 111, 116]⟩, .string ⟨#[80, 97, 103, 101]⟩, .string ⟨#[84, 101, 120, 116]⟩] 9)).heap[w.heap.size + 2]? = some (.cells #[.string ⟨#[82, 111, 111, 116]⟩, .string ⟨#[80, 97, 103, 101]⟩, .string ⟨#[84, 101, 120, 116]⟩] 9 (0, 0)) := by
    have := heap_alloc_new ((w.alloc (.cells #[.int .i64 (kk : Int), .float .f64 xx, .string tt, .int .i64 (rr : Int), .slice aa nn cc, .map mm, .int .i64 (o.place : Int), .int .i64 (o.fin : Int), .bool o.has, .string o.stream] 122)).alloc (.cells #[.int .i64 (k2 : Int), .float .f64 x2, .string t2, .int .i64 (r2 : Int), .slice b2 n2 c2, .map m2] 120)) (.cells #[.string ⟨#[82, 111, 111, 116]⟩, .string ⟨#[80, 97, 103, 101]⟩, .string ⟨#[84, 101, 120, 116]⟩] 9);simpa using this
  clear hR hR1 hR2
  go_enter Tryz.func107, Tryz.ntmps107
  go_wp2_with (refine wpList_store_row rfl 120 _ _ rfl (w.heap.size + 1) _ rfl rfl 120 _ (heap_alloc2_new w _ _) Tryz.sizeV rfl (one_six _ _ _ _ _ _ _ _) ?_; rw[setRow_alloc2])
  obtain⟨W2, hW2⟩ : ∃ W2, ((w.alloc (.cells #[.int .i64 (kk : Int), .float .f64 xx, .string tt, .int .i64 (rr : Int), .slice aa nn cc, .map mm, .int .i64 (o.place : Int), .int .i64 (o.fin : Int), .bool o.has, .string o.stream] 122)).alloc (.cells #[.int .i64 (k2 : Int), .float .f64 x2, .string t2, .int .i64 (r2 : Int), .slice b2 n2 c2, .map m2] 120)).alloc (.cells #[.string ⟨#[82, 111, 111, 116]⟩, .string ⟨#[80, 97, 103, 101]⟩, .string ⟨#[84, 101, 120, 116]⟩] 9) = W2 := ⟨_, rfl⟩;rw[hW2] at hB2 hz2 hb0 hb1 hb2 ⊢;clear hW2 hlk c5
  go_loopw [12] (fun v wr => ∃ i : Nat, v = .int .i64 (i : Int) /\ i <= 3 /\ Below (w.heap.size + 3) W2 wr /\ (0<i -> Hid (matchT o rootB false = false)) /\ (1<i -> Hid (matchT o pageB false = false)) /\ (2<i -> Hid (matchT o textB true = false)))
    (fun v _ => 3-(intOf v).toNat)
  case atStart => exact⟨0, rfl, by omega, Below.refl _ _, by omega, by omega, by omega⟩
  case round =>
    obtain⟨i, rfl, hi3, hB, e0, e1, e2⟩ := hrel;have hg0 := (hB.block w.heap.size (by omega)).trans hb0;have hg1 := (hB.block (w.heap.size + 1) (by omega)).trans hb1;have hg2 := (hB.block (w.heap.size + 2) (by omega)).trans hb2;have s0 : wr.cell? ⟨w.heap.size + 2, 0, none⟩ = some (.string ⟨#[82, 111, 111, 116]⟩) := by simp[World.cell?, hg2]
    have s1 : wr.cell? ⟨w.heap.size + 2, 1, none⟩ = some (.string ⟨#[80, 97, 103, 101]⟩) := by simp[World.cell?, hg2]
    have s2 : wr.cell? ⟨w.heap.size + 2, 2, none⟩ = some (.string ⟨#[84, 101, 120, 116]⟩) := by simp[World.cell?, hg2]
    have hsr := hB.size;have r0 : ((⟨#[82, 111, 111, 116]⟩ : ByteArray).toList==(⟨#[84, 101, 120, 116]⟩ : ByteArray).toList) = false := by rw[str_eq]; decide
    have r1 : ((⟨#[80, 97, 103, 101]⟩ : ByteArray).toList==(⟨#[84, 101, 120, 116]⟩ : ByteArray).toList) = false := by rw[str_eq]; decide
    have r2' : ((⟨#[84, 101, 120, 116]⟩ : ByteArray).toList==(⟨#[84, 101, 120, 116]⟩ : ByteArray).toList) = true := by rw[str_eq]; decide
    rcases (by omega : i = 0 \/ i = 1 \/ i = 2 \/ i = 3) with rfl|rfl|rfl|rfl
    · have hq := hnm rootB
      rcases hqb : (decide (k2 = 6)&&(t2==rootB)) with _|_
      · have hm : Hid (matchT o rootB false = false) := by show matchT o rootB false = false; unfold matchT; rw[hq, hqb]; rfl
        have IN := fun W => isName_any W k2 x2 t2 r2 b2 n2 c2 m2 rootB
        rw[hqb] at IN;unfold rootB at IN;clear hq hqb hnm
        go_wp2_with (first | (go_at_call 108; refine (IN _).mono ?_; rintro e w3 ⟨rfl, hB3⟩) | (refine load_row rfl 120 _ rfl (w.heap.size + 1) rfl 120 _ (0, 0) hg1 Tryz.agV Tryz.sizeV ?_))
        go_roundw
        case rel => exact⟨1, rfl, by omega, hB.trans (hB3.mono (by omega)), fun _ => hm, fun h => by omega, fun h => by omega⟩
        case measure => simp[intOf]
      · have IN := fun W => isName_any W k2 x2 t2 r2 b2 n2 c2 m2 rootB
        rw[hqb] at IN;unfold rootB at IN
        rcases hh : o.has with _|_
        all_goals
          have hm0 := hq.trans hqb;clear hq hqb hnm
          go_wp2_with (first | (go_at_call 108; refine (IN _).mono ?_; rintro e w3 ⟨rfl, hB3⟩; have hg3 := (hB3.block w.heap.size (by omega)).trans hg0; have h8 : w3.cell? ⟨w.heap.size, 8, none⟩ = some (.bool o.has) := (by simp only[World.cell?]; rw[hg3]; rfl); rw[hh] at h8) | (refine load_row rfl 120 _ rfl (w.heap.size + 1) rfl 120 _ (0, 0) hg1 Tryz.agV Tryz.sizeV ?_))
          have hBw : Below w.heap.size w w3 := hB2.trans ((hB.mono (by omega)).trans (hB3.mono (by omega)))
          first
          | (go_ret; have hm : matchT o rootB false = true := (by unfold matchT; rw[hm0, hh]; rfl); exact⟨congrArg (fun t => Ending.returned (Value.string t)) (Eq.symm (by unfold tname; rw[if_pos hm]; rfl)), hBw⟩)
          | (have hm : Hid (matchT o rootB false = false) := (by show matchT o rootB false = false; unfold matchT; rw[hm0, hh]; rfl)
             go_roundw
             case rel => exact⟨1, rfl, by omega, hB.trans (hB3.mono (by omega)), fun _ => hm, fun h => by omega, fun h => by omega⟩
             case measure => simp[intOf])
    · have hq := hnm pageB
      rcases hqb : (decide (k2 = 6)&&(t2==pageB)) with _|_
      · have hm : Hid (matchT o pageB false = false) := by show matchT o pageB false = false; unfold matchT; rw[hq, hqb]; rfl
        have IN := fun W => isName_any W k2 x2 t2 r2 b2 n2 c2 m2 pageB
        rw[hqb] at IN;unfold pageB at IN;clear hq hqb hnm
        go_wp2_with (first | (go_at_call 108; refine (IN _).mono ?_; rintro e w3 ⟨rfl, hB3⟩) | (refine load_row rfl 120 _ rfl (w.heap.size + 1) rfl 120 _ (0, 0) hg1 Tryz.agV Tryz.sizeV ?_))
        go_roundw
        case rel => exact⟨2, rfl, by omega, hB.trans (hB3.mono (by omega)), fun _ => e0 (by omega), fun _ => hm, fun h => by omega⟩
        case measure => simp[intOf]
      · have IN := fun W => isName_any W k2 x2 t2 r2 b2 n2 c2 m2 pageB
        rw[hqb] at IN;unfold pageB at IN
        rcases hh : o.has with _|_
        all_goals
          have hm0 := hq.trans hqb;clear hq hqb hnm
          go_wp2_with (first | (go_at_call 108; refine (IN _).mono ?_; rintro e w3 ⟨rfl, hB3⟩; have hg3 := (hB3.block w.heap.size (by omega)).trans hg0; have h8 : w3.cell? ⟨w.heap.size, 8, none⟩ = some (.bool o.has) := (by simp only[World.cell?]; rw[hg3]; rfl); rw[hh] at h8) | (refine load_row rfl 120 _ rfl (w.heap.size + 1) rfl 120 _ (0, 0) hg1 Tryz.agV Tryz.sizeV ?_))
          have hBw : Below w.heap.size w w3 := hB2.trans ((hB.mono (by omega)).trans (hB3.mono (by omega)))
          first
          | (go_ret; have hm : matchT o pageB false = true := (by unfold matchT; rw[hm0, hh]; rfl); exact⟨congrArg (fun t => Ending.returned (Value.string t)) (Eq.symm (by unfold tname; rw[if_neg (by rw[unh (e0 (by omega))]; simp), if_pos hm]; rfl)), hBw⟩)
          | (have hm : Hid (matchT o pageB false = false) := (by show matchT o pageB false = false; unfold matchT; rw[hm0, hh]; rfl)
             go_roundw
             case rel => exact⟨2, rfl, by omega, hB.trans (hB3.mono (by omega)), fun _ => e0 (by omega), fun _ => hm, fun h => by omega⟩
             case measure => simp[intOf])
    · have hq := hnm textB
      rcases hqb : (decide (k2 = 6)&&(t2==textB)) with _|_
      · have hm : Hid (matchT o textB true = false) := by show matchT o textB true = false; unfold matchT; rw[hq, hqb]; rfl
        have IN := fun W => isName_any W k2 x2 t2 r2 b2 n2 c2 m2 textB
        rw[hqb] at IN;unfold textB at IN;clear hq hqb hnm
        go_wp2_with (first | (go_at_call 108; refine (IN _).mono ?_; rintro e w3 ⟨rfl, hB3⟩) | (refine load_row rfl 120 _ rfl (w.heap.size + 1) rfl 120 _ (0, 0) hg1 Tryz.agV Tryz.sizeV ?_))
        go_roundw
        case rel => exact⟨3, rfl, by omega, hB.trans (hB3.mono (by omega)), fun _ => e0 (by omega), fun _ => e1 (by omega), fun _ => hm⟩
        case measure => simp[intOf]
      · have IN := fun W => isName_any W k2 x2 t2 r2 b2 n2 c2 m2 textB
        rw[hqb] at IN;unfold textB at IN
        rcases hh : o.has with _|_
        all_goals
          have hm0 := hq.trans hqb;clear hq hqb hnm
          go_wp2_with (first | (go_at_call 108; refine (IN _).mono ?_; rintro e w3 ⟨rfl, hB3⟩; have hg3 := (hB3.block w.heap.size (by omega)).trans hg0; have h8 : w3.cell? ⟨w.heap.size, 8, none⟩ = some (.bool o.has) := (by simp only[World.cell?]; rw[hg3]; rfl); rw[hh] at h8) | (refine load_row rfl 120 _ rfl (w.heap.size + 1) rfl 120 _ (0, 0) hg1 Tryz.agV Tryz.sizeV ?_))
          have hBw : Below w.heap.size w w3 := hB2.trans ((hB.mono (by omega)).trans (hB3.mono (by omega)))
          first
          | (go_ret; have hm : matchT o textB true = true := (by unfold matchT; rw[hm0, hh]; rfl); exact⟨congrArg (fun t => Ending.returned (Value.string t)) (Eq.symm (by unfold tname; rw[if_neg (by rw[unh (e0 (by omega))]; simp), if_neg (by rw[unh (e1 (by omega))]; simp), if_pos hm]; rfl)), hBw⟩)
          | (have hm : Hid (matchT o textB true = false) := (by show matchT o textB true = false; unfold matchT; rw[hm0, hh]; rfl)
             go_roundw
             case rel => exact⟨3, rfl, by omega, hB.trans (hB3.mono (by omega)), fun _ => e0 (by omega), fun _ => e1 (by omega), fun _ => hm⟩
             case measure => simp[intOf])
    · have ht : tname o = ByteArray.empty := by unfold tname; rw[if_neg (by rw[unh (e0 (by omega))]; simp), if_neg (by rw[unh (e1 (by omega))]; simp), if_neg (by rw[unh (e2 (by omega))]; simp)]
      have HT := hid ht;clear ht
      go_wp2_with fail
      go_ret
      exact⟨congrArg (fun t => Ending.returned (Value.string t)) (Eq.symm (unh HT)), hB2.trans (hB.mono (by omega))⟩
end
section
open Go.RowKit
variable {w w':World}{P B:Nat}{E:Env}{s s':St}{S S':Nat->Prop}
def oCells (cs:List Value) (o:Obj1):List Value:=cs++[Value.int .i64 (o.place:Int),Value.int .i64 (o.fin:Int),Value.bool o.has,Value.string o.stream]
def RepOs (w:World) (S:Nat->Prop):List Obj1->List Value->Prop
 | [],xs=>xs=[]
 | o::l,xs=>∃ cs rest,xs=oCells cs o++rest/\Rep w S o.v cs/\RepOs w S l rest
theorem RepOs.kept (hS:∀ b,S b->S' b/\w'.heap[b]?=w.heap[b]?):∀ (l:List Obj1) {xs:List Value},RepOs w S l xs->RepOs w' S' l xs
 | [],_,h=>h
 | o::l,_,h=>by
  obtain⟨cs,rest,e,hv,hl⟩:=h;exact⟨cs,rest,e,Rep.kept hS o.v hv,RepOs.kept hS l hl⟩
theorem RepOs.append {o:Obj1}{cs:List Value}(hv:Rep w S o.v cs):∀ (l:List Obj1) {xs:List Value},RepOs w S l xs->RepOs w S (l++[o]) (xs++oCells cs o)
 | [],_,h=>by
  have h':_=[]:=h;subst h';exact⟨cs,[],by simp,hv,rfl⟩
 | u::l,_,h=>by
  obtain⟨cu,rest,e,hu,hl⟩:=h;exact⟨cu,rest++oCells cs o,by rw[e,List.append_assoc],hu,RepOs.append hv l hl⟩
theorem oCells_len {o:Obj1}{cs:List Value}(hv:Rep w S o.v cs):(oCells cs o).length=10:=by unfold oCells;rw[List.length_append,Rep.len o.v hv];rfl
theorem RepOs.length:∀ (l:List Obj1) {xs:List Value},RepOs w S l xs->xs.length=l.length*10
 | [],_,h=>by have h':_=[]:=h;subst h';rfl
 | o::l,_,h=>by
  obtain⟨cs,rest,e,hv,hl⟩:=h;rw[e,List.length_append,oCells_len hv,RepOs.length l hl,List.length_cons];omega
theorem RepOs.get:∀ (l:List Obj1) {xs:List Value},RepOs w S l xs->∀ (i:Nat) (o:Obj1),l[i]?=some o->∃ cs,Rep w S o.v cs/\∀ j u,(oCells cs o)[j]?=some u->xs[i*10+j]?=some u
 | [],_,_,i,o,hi=>by simp at hi
 | o'::l,_,h,i,o,hi=>by
  obtain⟨cs,rest,e,hv,hl⟩:=h;cases i with
  | zero=>
   simp at hi;subst hi;refine⟨cs,hv,fun j u hj=>?_⟩;have hjl:j<(oCells cs o').length:=(List.getElem?_eq_some_iff.1 hj).1;rw[e,Nat.zero_mul,Nat.zero_add,List.getElem?_append_left hjl];exact hj
  | succ i=>
   obtain⟨c,hc,hg⟩:=RepOs.get l hl i o (by simpa using hi);refine⟨c,hc,fun j u hj=>?_⟩;have:=hg j u hj;rw[e,List.getElem?_append_right (by rw[oCells_len hv];omega),oCells_len hv,show (i+1)*10+j-10=i*10+j by omega];exact this
def objsR (f:ByteArray) (at_:Nat):List Nat->Nat->Nat->Res (List Obj1)
 | [],_,b=>.ok [] b
 | p::ps,num,b=>match objR f at_ p num b with
  | .no y=>.no y
  | .ok o b'=>match objsR f at_ ps (num+1) b' with
   | .no y=>.no y
   | .ok l b''=>.ok (o::l) b''
theorem objsR_cons_ok {f:ByteArray}{at_ p:Nat}{ps:List Nat}{num b b':Nat}{o:Obj1}(h:objR f at_ p num b=.ok o b'):objsR f at_ (p::ps) num b=match objsR f at_ ps (num+1) b' with
   | .no y=>.no y
   | .ok l b''=>.ok (o::l) b'':=by rw[objsR,h]
theorem objsR_cons_no {f:ByteArray}{at_ p:Nat}{ps:List Nat}{num b:Nat}{y:Why}(h:objR f at_ p num b=.no y):objsR f at_ (p::ps) num b=.no y:=by rw[objsR,h]
theorem places_inv:∀ (n:Nat) {s s':St}{l:List Nat},placesM E n s=.ok l s'->l.length=n/\∀ p ∈ l,p<=9999
 | 0,s,s',l,h=>by obtain⟨rfl,_⟩:=ret_inv h;simp
 | n+1,s,s',l,h=>by
  unfold placesM at h;obtain⟨p,s1,hp,k1⟩:=then_inv h;obtain⟨l',s2,hl,k2⟩:=then_inv k1;obtain⟨e,_⟩:=ret_inv k2;have h1:=line_inv hp;have h2:=places_inv n hl;rw[e];refine⟨by simp[h2.1],fun q hq=>?_⟩
  rcases List.mem_cons.1 hq with rfl|hq
  ·exact h1.2
  ·exact h2.2 q hq
theorem tabR_inv {f:ByteArray}{b b' at_ root:Nat}{l:List Nat}(h:tabR f b=.ok (at_,l,root) b'):at_<=f.size/\1<=l.length/\l.length<=30/\(∀ p ∈ l,p<=9999)/\1<=root/\root<=l.length:=by
 unfold tabR at h;split at h
 ·cases h
 ·split at h
  ·cases h
  ·rename_i hneg;have hxl:=xrefAt_le f
   rcases hq:Rdr.then (tableM (tabEnv f) (xrefAt f).toNat) (fun x=>Rdr.ret ((xrefAt f).toNat,x.1,x.2)) ⟨b-f.size,(xrefAt f).toNat,0,0,0⟩ with⟨x,s1⟩|y
   ·rw[hq] at h;have hx:x=(at_,l,root):=by unfold Out.res at h;cases h;rfl
    subst hx;obtain⟨y,s2,ht,k1⟩:=then_inv hq;obtain⟨e,_⟩:=ret_inv k1;unfold tableM at ht;obtain⟨n,s3,hn,k3⟩:=then_inv ht;obtain⟨l',s4,hl,k4⟩:=then_inv k3;obtain⟨r,s5,hr,k5⟩:=then_inv k4;obtain⟨_,s6,_,k6⟩:=then_inv k5;obtain⟨_,s7,_,k7⟩:=then_inv k6;obtain⟨_,s8,_,k8⟩:=then_inv k7;obtain⟨e2,_⟩:=ret_inv k8;have h1:=line_inv hn;have h2:=places_inv n hl;have h3:=line_inv hr;have e3:at_=(xrefAt f).toNat/\l=y.1/\root=y.2:=by simpa using e
    rw[e2] at e3;obtain⟨e4,e5,e6⟩:=e3;simp only[] at e5 e6;rw[e4,e5,e6];exact⟨by omega,by omega,by omega,h2.2,by omega,by omega⟩
   ·rw[hq] at h;cases h
structure Doc (w:World) (D B lo:Nat) (at_:Nat) (pl:List Nat) (root:Nat) (slp:Value) (slo:Value) (os:List Obj1) (xs:List Value):Prop where
 d:w.heap[D]?=some (.cells #[.int .i64 (at_:Int),slp,.int .i64 (root:Int),slo,chg B] 101 (0,0))
 p:w.ownsRow lo 3 1 slp pl.length (intsV pl)
 o:w.ownsRow lo 122 10 slo os.length xs
 r:RepOs w (fun b=>lo<=b/\b<w.heap.size/\b≠D/\slo.ownBlock≠some b/\slp.ownBlock≠some b) os xs
 lo:lo<=D
 ne:slo.ownBlock≠some D/\slp.ownBlock≠some D/\(∀ g,slo.ownBlock=some g->slp.ownBlock≠some g)
section
variable {D lo at_ root:Nat}{pl:List Nat}{slp slo:Value}{os:List Obj1}{xs:List Value}
theorem Doc.c0 (h:Doc w D B lo at_ pl root slp slo os xs):w.cell? ⟨D,0,none⟩=some (.int .i64 (at_:Int)):=by simp[World.cell?,h.d]
theorem Doc.c1 (h:Doc w D B lo at_ pl root slp slo os xs):w.cell? ⟨D,1,none⟩=some slp:=by simp[World.cell?,h.d]
theorem Doc.c2 (h:Doc w D B lo at_ pl root slp slo os xs):w.cell? ⟨D,2,none⟩=some (.int .i64 (root:Int)):=by simp[World.cell?,h.d]
theorem Doc.c3 (h:Doc w D B lo at_ pl root slp slo os xs):w.cell? ⟨D,3,none⟩=some slo:=by simp[World.cell?,h.d]
theorem Doc.c4 (h:Doc w D B lo at_ pl root slp slo os xs):w.cell? ⟨D,4,none⟩=some (chg B):=by simp[World.cell?,h.d]
theorem Doc.fr (h:Doc w D B lo at_ pl root slp slo os xs) (i:Nat):w.frozen? ⟨D,i,none⟩=false:=by simp[World.frozen?,h.d]
theorem Doc.ltD (h:Doc w D B lo at_ pl root slp slo os xs):D<w.heap.size:=(Array.getElem?_eq_some_iff.1 h.d).1
theorem Doc.kept (h:Doc w D B lo at_ pl root slp slo os xs) (F:Fb B w w') (hB:B<lo):Doc w' D B lo at_ pl root slp slo os xs:=by
 have hl:=h.lo;have hs:=F.size;refine⟨(F.block D h.ltD (by omega)).trans h.d,?_,?_,RepOs.kept (fun b hb=>?_) os h.r,h.lo,h.ne⟩
 ·exact ownsRow_blockI h.p (fun g hg=>F.block g (World.ownsRow.lt h.p g hg).2 (by have:=(World.ownsRow.lt h.p g hg).1;omega))
 ·refine⟨h.o.1,?_⟩
  rcases h.o.2 with hn|⟨g,cap,cur,e,h1,h2,rest⟩
  ·exact .inl hn
  ·exact .inr ⟨g,cap,cur,e,h1,(F.block g (Array.getElem?_eq_some_iff.1 h2).1 (by omega)).trans h2,rest⟩
 ·obtain⟨b1,b2,b3,b4,b5⟩:=hb;exact⟨⟨b1,by omega,b3,b4,b5⟩,F.block b b2 (by omega)⟩
end
end
section
open Go.RowKit
attribute [local go_sem] Oper.semAt_some
variable {w w':World}{P B:Nat}{D lo at_ root:Nat}{pl:List Nat}{slp slo:Value}{os:List Obj1}{xs:List Value}
def tnameAt (os:List Obj1) (n:Nat):ByteArray:=match os[n]? with
 | some o=>tname o
 | none=>ByteArray.empty
theorem Doc.obj (h:Doc w D B lo at_ pl root slp slo os xs) (n:Nat) (o:Obj1) (ho:os[n]?=some o) :
  ∃ g c kk xx tt rr aa nn cc mm,slo=.slice (some ⟨g,0,none⟩) os.length c/\os.length<=c/\g<w.heap.size/\lo<=g/\w.rangeAt g (n*10) [.int .i64 ((kk:Nat):Int),.float .f64 xx,.string tt,.int .i64 ((rr:Nat):Int),.slice aa nn cc,.map mm,.int .i64 (o.place:Int),.int .i64 (o.fin:Int),.bool o.has,.string o.stream] /\
   Rep w (fun b=>lo<=b/\b<w.heap.size/\b≠D/\slo.ownBlock≠some b/\slp.ownBlock≠some b) o.v (vC kk xx tt rr (.slice aa nn cc) (.map mm))/\(∀ j,j<10->w.frozen? ⟨g,n*10+j,none⟩=false):=by
 obtain⟨cs,hR,hx⟩:=RepOs.get os h.r n o ho;obtain⟨kk,xx,tt,rr,aa,nn,cc,mm,rfl⟩:=hR.shape;have hnl:n<os.length:=(List.getElem?_eq_some_iff.1 ho).1
 have hcl:∀ g,slo.ownBlock=some g->∀ j u,xs[j]?=some u->w.cell? ⟨g,j,none⟩=some u:=fun g hg j u hu=>by
  have:=World.ownsRow.cells h.o hg j u hu;rw[Addr.add_mid,Nat.zero_add] at this;exact this
 rcases h.o.2 with⟨_,hn⟩|⟨g,cap,cur,e,h1,h2,hcap,_⟩
 ·omega
 ·refine⟨g,cap,kk,xx,tt,rr,aa,nn,cc,mm,e,hcap,(Array.getElem?_eq_some_iff.1 h2).1,h1,fun j u hj=>?_,hR,fun j _=>by simp[World.frozen?,h2]⟩;exact hcl g (by rw[e];rfl) _ _ (hx j u hj)
theorem load_mid {ops:Array Oper}{rest:List Oper}{o:Oper}{a:Act}{w:World}{Q:Exit->Act->World->Prop}(hgd:o.guard=none) (ty:TypeId) (x:Operand) (ho:o.op=.load ty x)
  (b off:Nat) (hx:a.eval x=.pointer (some ⟨b,off,none⟩)) (cs:List Value) (hc:w.rangeAt b off cs)
  (hu:(Tryz.prog.underlying ty).map isAg=some true) (hi:(Tryz.prog.info? ty).map (·.size)=some cs.length)
  (h:wpList Tryz.prog ops Q rest (a.put o.dst (.agg cs.toArray)) w):wpList Tryz.prog ops Q (o::rest) a w:=by
 obtain⟨d,h1,h2⟩:=isStruct hu;refine wpList_load_mid hgd ty x ho b off hx cs d hc h1 ?_ hi h;cases d <;> first | rfl | cases h2
set_option maxHeartbeats 2000000 in
set_option maxRecDepth 100000 in
theorem typeOf_any (h:Doc w D B lo at_ pl root slp slo os xs) (n:Nat) :
  Calls Tryz.prog 70 #[.pointer (some ⟨D,0,none⟩),.int .i64 (n:Int)] w fun e w'=>e=.returned (.string (tnameAt os n))/\Below w.heap.size w w':=by
 have c3:=h.c3
 rcases ho:os[n]? with _|o
 ·have hnl:os.length<=n:=by simpa using ho
  have ht:Hid (tnameAt os n=ByteArray.empty):=by show tnameAt os n=_;unfold tnameAt;rw[ho]
  have hsl:∃ a c,slo=.slice a os.length c:=by
   rcases h.o.2 with⟨e,e2⟩|⟨g,cap,cur,e,_⟩
   ·exact⟨none,0,by rw[e,e2]⟩
   ·exact⟨_,_,e⟩
  obtain⟨a,c,rfl⟩:=hsl;have i1:(os.length:Int)<=(n:Int):=by omega
  go_enter Tryz.func70,Tryz.ntmps70
  go_wp2_with fail
  go_ret
  exact⟨congrArg (fun t=>Ending.returned (Value.string t)) (unh ht).symm,Below.refl _ _⟩
 ·have hnl:n<os.length:=(List.getElem?_eq_some_iff.1 ho).1;have ht:Hid (tnameAt os n=tname o):=by show tnameAt os n=_;unfold tnameAt;rw[ho]
  obtain⟨g,c,kk,xx,tt,rr,aa,nn,cc,mm,e,_,hg,hgl,hr,hR,_⟩:=h.obj n o ho;have TN:=typeName_any o hR (fun b hb=>hb.2.1);clear hR ho;subst e;have i1:¬ (os.length:Int)<=(n:Int):=by omega
  have i1':decide ((os.length:Int)<=(n:Int))=false:=by simp;omega
  have i1'':decide (os.length<=n)=false:=by simp;omega
  have i2:(n:Int)<(os.length:Int):=by omega
  go_enter Tryz.func70,Tryz.ntmps70
  go_wp2_with (first | (go_at_call 107;refine TN.mono ?_;rintro e w2 ⟨rfl,hB⟩) | (refine load_mid rfl 122 _ rfl g (n*10) rfl _ hr Tryz.agO Tryz.sizeO ?_))
  go_ret
  exact⟨congrArg (fun t=>Ending.returned (Value.string t)) (unh ht).symm,hB⟩
end
end Go.Proofs.YtgffljllfenhkaaGreatDoor
