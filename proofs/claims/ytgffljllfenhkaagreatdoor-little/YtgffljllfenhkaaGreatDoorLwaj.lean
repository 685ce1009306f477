import Derived.RangeFuncBox
import Derived.Lib.ItoaMem
import Derived.Maps.AppendAt
import Derived.Deep.DeepCutAuto
import Derived.Test.YtgffljllfenhkaaGreatDoorLwaa
import Derived.Test.YtgffljllfenhkaaGreatDoorLwac
import Derived.Test.YtgffljllfenhkaaGreatDoorLwai
section
namespace Go.Proofs.YtgffljllfenhkaaGreatDoor
open Go.RowKit
theorem PowTab.kept {w w':World} (h:PowTab w) (hb:w'.heap[16]?=w.heap[16]?):PowTab w':=by
 intro p h1 h2
 obtain ⟨a,b⟩:=h p h1 h2
 exact ⟨by rw [World.cell?_of_block (w:=w) hb];exact a,by rw [World.cell?_of_block (w:=w) hb];exact b⟩
theorem and1_i64 (a:Nat) (ha:a < 2 ^ 62):bits .and .i64 (a:Int) 1=((a % 2:Nat):Int):=by
 have h1:(BitVec.ofInt 64 (a:Int)).toNat=a:=by rw [BitVec.ofInt_natCast,BitVec.toNat_ofNat];exact Nat.mod_eq_of_lt (by omega)
 have h2:(BitVec.ofInt 64 (1:Int)).toNat=1:=by decide
 show IntKind.i64.wrap ((BitVec.ofInt 64 (a:Int) &&& BitVec.ofInt 64 (1:Int)).toNat:Int)=_
 rw [BitVec.toNat_and,h1,h2,Nat.and_one_is_mod,wraps_i64 _ (by omega) (by omega)]
set_option maxHeartbeats 4000000 in
set_option maxRecDepth 100000 in
theorem shortP_any (w:World) (mt q M k:Nat) (hq1:33≤q) (hq2:q≤62) (hk:k≤3) (hn:Near mt (10 ^ k) (M * 2 ^ q)) (hmt:mt≠2 ^ 52) (hT:PowTab w) (h16:16 < w.heap.size) :
  Calls Tryz.prog 215 #[.int .u64 ((mt * 2 ^ 11:Nat):Int),.int .i64 (-((q+11:Nat):Int))] w fun e w'=>e=.returned (.tuple #[.int .u64 ((M * 10 ^ (pf q - k) / 10:Nat):Int),.int .i64 (-((pf q - 1:Nat):Int))])∧Below w.heap.size w w':=by
 obtain ⟨hs,hw⟩:=sc_plain q hq1 hq2
 have hs2:=(s_least q hq1 hq2).1
 obtain ⟨r1,r2,r3⟩:=short_plain hk hn hs hw
 have hp1:=hs.p1
 have hp2:=hs.p2
 have hl1:=hs.l1
 have hl2:=hs.l2
 have hl3:=hs.l3
 have hpw:=hs.w
 have hlo:=hn.lo
 have hhi:=hn.hi
 have hpf:(-(q:Int)) * 78913 / 262144=-((pf q:Nat):Int):=by unfold pf;omega
 have hlf:((pf q:Nat):Int) * 108853 / 32768=((lpf (pf q):Nat):Int):=by unfold lpf;omega
 have hD10:M * 10 ^ (pf q - k) % 10=0:=by
  have:10 ^ (pf q - k)=10 * 10 ^ (pf q - k - 1):=by rw [← Nat.pow_succ'];congr 1;omega
  rw [this,← Nat.mul_assoc,Nat.mul_comm M 10,Nat.mul_assoc];simp
 have hPT:=fun p h1 h2=>hT p h1 h2
 obtain ⟨D,hD⟩:∃ D,M * 10 ^ (pf q - k)=D:=⟨_,rfl⟩
 rw [hD] at r1 r2 hD10 ⊢
 have hpm:10 ^ pf q * 2 ^ (63 - lpf (pf q)) < 2 ^ 64:=hpw
 have u1l:=us_lt (mt * 2 ^ 11 - 2 ^ 10) _ (q+8 - lpf (pf q)) (by omega) hpm hs2
 have u2l:=us_lt (mt * 2 ^ 11+2 ^ 10) _ (q+8 - lpf (pf q)) (by omega) hpm hs2
 have U1:=fun (W:World) (P:Nat) h=>uscale_any W P (mt * 2 ^ 11 - 2 ^ 10) (10 ^ pf q * 2 ^ (63 - lpf (pf q))) (q+8 - lpf (pf q)) h (by omega) hpm hl3
 have U2:=fun (W:World) (P:Nat) h=>uscale_any W P (mt * 2 ^ 11+2 ^ 10) (10 ^ pf q * 2 ^ (63 - lpf (pf q))) (q+8 - lpf (pf q)) h (by omega) hpm hl3
 obtain ⟨u1,hu1⟩:∃ u,us (mt * 2 ^ 11 - 2 ^ 10) (10 ^ pf q * 2 ^ (63 - lpf (pf q))) (q+8 - lpf (pf q))=u:=⟨_,rfl⟩
 obtain ⟨u2,hu2⟩:∃ u,us (mt * 2 ^ 11+2 ^ 10) (10 ^ pf q * 2 ^ (63 - lpf (pf q))) (q+8 - lpf (pf q))=u:=⟨_,rfl⟩
 rw [hu1] at r1 u1l U1
 rw [hu2] at r2 r3 u2l U2
 have hm0:((((mt * 2 ^ 11:Nat):Int)) == 9223372036854775808)=false:=by rw [beq_eq_false_iff_ne];omega
 have hand:=and1_i64 mt (by omega)
 obtain ⟨p,hp⟩:∃ p,pf q=p:=⟨_,rfl⟩
 rw [hp] at hpf hlf hp1 hp2 hl1 hl2 hl3 hpm U1 U2 ⊢
 obtain ⟨lp,hlp⟩:∃ lp,lpf p=lp:=⟨_,rfl⟩
 rw [hlp] at hlf hl1 hl2 hl3 hpm U1 U2
 obtain ⟨m,hm⟩:∃ m,mt * 2 ^ 11=m:=⟨_,rfl⟩
 rw [hm] at hm0 U1 U2 ⊢
 have hm11:(m:Int) / 2048=(mt:Int):=by omega
 obtain ⟨x1,hx1⟩:∃ x,m - 2 ^ 10=x:=⟨_,rfl⟩
 obtain ⟨x2,hx2⟩:∃ x,m+2 ^ 10=x:=⟨_,rfl⟩
 rw [hx1] at U1
 rw [hx2] at U2
 have hx1':(m:Int) - 1024=(x1:Int):=by omega
 have hx2':(m:Int)+1024=(x2:Int):=by omega
 have hxl1:x1 < 2 ^ 64:=by omega
 have hxl2:x2 < 2 ^ 64:=by omega
 have hml:m < 2 ^ 64:=by omega
 obtain ⟨o,ho⟩:∃ o,mt % 2=o:=⟨_,rfl⟩
 have ho1:o≤1:=by omega
 rw [ho] at hand r1 r2 r3
 obtain ⟨ee,hee⟩:∃ ee:Int,-((q+11:Nat):Int)=ee:=⟨_,rfl⟩
 rw [hee]
 have hlg:(ee+11) * 78913 / 262144=-(p:Int):=by rw [← hpf];congr 2;omega
 have hee1:-2000≤ee∧ee≤2000:=by omega
 have hsE:-(ee+(lp:Int)+3)=((q+8 - lp:Nat):Int):=by omega
 have hee2:-1085≤ee:=by omega
 have hm63:¬ ((m:Int)=9223372036854775808):=by rw [beq_eq_false_iff_ne] at hm0;exact hm0
 obtain ⟨d1,hd1⟩:∃ d,(u1+o+3) / 4=d:=⟨_,rfl⟩
 obtain ⟨d2,hd2⟩:∃ d,(u2 - o) / 4=d:=⟨_,rfl⟩
 rw [hd1] at r1
 rw [hd2] at r2
 obtain ⟨d,hd⟩:∃ d,D / 10=d:=⟨_,rfl⟩
 rw [hd] at r2 ⊢
 have hdd:(d2:Int) / 10=(d:Int):=by omega
 have hge:(d1:Int)≤(d:Int) * 10:=by omega
 have hd10:d * 10 < 2 ^ 62:=by omega
 have hpp:(p:Int) - 1=((p - 1:Nat):Int):=by omega
 have N1:=fun W=>nudge_up W u1 o u1l ho1
 have C1:=fun W=>ceil_any W (u1+o) (by omega)
 have N2:=fun W=>nudge_dn W u2 o u2l ho1 r3
 have C2:=fun W=>floor_any W (u2 - o) (by omega)
 rw [hd1] at C1
 rw [hd2] at C2
 have hB0:Below w.heap.size w (w.alloc (.cells #[.int .u64 0,.int .u64 0,.int .i64 0] 274)):=(Below.refl _ _).alloc (Nat.le_refl _) _
 have hT0:=hT.kept (hB0.block _ h16)
 have hP0:(w.alloc (.cells #[.int .u64 0,.int .u64 0,.int .i64 0] 274)).heap[w.heap.size]?=some (.cells #[.int .u64 0,.int .u64 0,.int .i64 0] 274 (0,0)):=World.alloc_heap_new w _
 have PS:=prescale_any _ w.heap.size p ee (lp:Int) 0 0 0 hP0 hT0 hp1 hp2 hee1 (by omega)
 rw [hlp,hsE] at PS
 obtain ⟨pm,hpme⟩:∃ pm,10 ^ p * 2 ^ (63 - lp)=pm:=⟨_,rfl⟩
 rw [hpme] at PS U1 U2 hpm
 clear hpme hlp hp hu1 hu2 hD hs hw hs2 hPT hn hlo hhi hm hx1 hx2 ho hd1 hd2 hd hT hT0 hP0 hee hpf hl1 hl2 hl3 hD10 r1 r2 r3 hq1 hq2
 go_enter Tryz.func215,Tryz.ntmps215
 go_wp2_with (first | (go_at_call 189;refine (log10_any _ _ (by omega) (by omega)).mono ?_;rintro e w1 ⟨rfl,rfl⟩) | (go_at_call 229;refine (log2_any _ _ (by omega) (by omega)).mono ?_;rintro e w1 ⟨rfl,rfl⟩))
 refine PS.mono ?_
 rintro e w1 ⟨rfl,hP1,hg1⟩
 have hB1:Below w.heap.size w w1:=hB0.grown hg1 hB0.size (fun k e=>by simp at e;omega)
 clear PS hB0
 go_wp2_with fail
 refine (U1 w1 _ hP1).mono ?_
 rintro e w2 ⟨rfl,hg2⟩
 have hP2:=(hg2.block w.heap.size (Array.getElem?_eq_some_iff.1 hP1).1 (by simp)).trans hP1
 have hB2:Below w.heap.size w w2:=hB1.grown hg2 hB1.size (fun k e=>by simp at e)
 clear U1 hP1 hg1 hB1
 go_wp2_with (first | (go_at_call 231;refine (N1 _).mono ?_;rintro e w3 ⟨rfl,rfl⟩) | (go_at_call 232;refine (C1 _).mono ?_;rintro e w3 ⟨rfl,rfl⟩))
 refine (U2 w2 _ hP2).mono ?_
 rintro e w4 ⟨rfl,hg4⟩
 have hB4:Below w.heap.size w w4:=hB2.grown hg4 hB2.size (fun k e=>by simp at e)
 clear U2 hP2 hg4 hB2 N1 C1 hg2
 go_wp2_with (first | (go_at_call 231;refine (N2 _).mono ?_;rintro e w3 ⟨rfl,rfl⟩) | (go_at_call 233;refine (C2 _).mono ?_;rintro e w3 ⟨rfl,rfl⟩))
 go_ret2
 exact ⟨rfl,hB4⟩
set_option maxHeartbeats 4000000 in
set_option maxRecDepth 100000 in
theorem shortS_any (w:World) (q M k:Nat) (hq1:33≤q) (hq2:q≤62) (hk:k≤3) (hn:Near (2 ^ 52) (10 ^ k) (M * 2 ^ q)) (hT:PowTab w) (h16:16 < w.heap.size) :
  Calls Tryz.prog 215 #[.int .u64 9223372036854775808,.int .i64 (-((q+11:Nat):Int))] w fun e w'=>e=.returned (.tuple #[.int .u64 ((M * 10 ^ (ps q - k) / 10:Nat):Int),.int .i64 (-((ps q - 1:Nat):Int))])∧Below w.heap.size w w':=by
 obtain ⟨hs,hw⟩:=sc_skew q hq1 hq2
 have hs2:=(s_least q hq1 hq2).2
 obtain ⟨r1,r2,_⟩:=short_skew hk hn hs hw
 have hp1:=hs.p1
 have hp2:=hs.p2
 have hl1:=hs.l1
 have hl2:=hs.l2
 have hl3:=hs.l3
 have hpf:(-(q:Int) * 631305 - 261663) / 2097152=-((ps q:Nat):Int):=by unfold ps;omega
 have hlf:((ps q:Nat):Int) * 108853 / 32768=((lpf (ps q):Nat):Int):=by unfold lpf;omega
 have hD10:M * 10 ^ (ps q - k) % 10=0:=by
  have:10 ^ (ps q - k)=10 * 10 ^ (ps q - k - 1):=by rw [← Nat.pow_succ'];congr 1;omega
  rw [this,← Nat.mul_assoc,Nat.mul_comm M 10,Nat.mul_assoc];simp
 obtain ⟨D,hD⟩:∃ D,M * 10 ^ (ps q - k)=D:=⟨_,rfl⟩
 rw [hD] at r1 r2 hD10 ⊢
 have hpm:10 ^ ps q * 2 ^ (63 - lpf (ps q)) < 2 ^ 64:=hs.w
 have u1l:=us_lt (2 ^ 63 - 2 ^ 9) _ (q+8 - lpf (ps q)) (by decide) hpm hs2
 have u2l:=us_lt (2 ^ 63+2 ^ 10) _ (q+8 - lpf (ps q)) (by decide) hpm hs2
 have U1:=fun (W:World) (P:Nat) h=>uscale_any W P (2 ^ 63 - 2 ^ 9) (10 ^ ps q * 2 ^ (63 - lpf (ps q))) (q+8 - lpf (ps q)) h (by decide) hpm hl3
 have U2:=fun (W:World) (P:Nat) h=>uscale_any W P (2 ^ 63+2 ^ 10) (10 ^ ps q * 2 ^ (63 - lpf (ps q))) (q+8 - lpf (ps q)) h (by decide) hpm hl3
 obtain ⟨u1,hu1⟩:∃ u,us (2 ^ 63 - 2 ^ 9) (10 ^ ps q * 2 ^ (63 - lpf (ps q))) (q+8 - lpf (ps q))=u:=⟨_,rfl⟩
 obtain ⟨u2,hu2⟩:∃ u,us (2 ^ 63+2 ^ 10) (10 ^ ps q * 2 ^ (63 - lpf (ps q))) (q+8 - lpf (ps q))=u:=⟨_,rfl⟩
 rw [hu1] at r1 u1l U1
 rw [hu2] at r2 u2l U2
 obtain ⟨p,hp⟩:∃ p,ps q=p:=⟨_,rfl⟩
 rw [hp] at hpf hlf hp1 hp2 hl1 hl2 hl3 hpm U1 U2 ⊢
 obtain ⟨lp,hlp⟩:∃ lp,lpf p=lp:=⟨_,rfl⟩
 rw [hlp] at hlf hl1 hl2 hl3 hpm U1 U2
 rw [show (2 ^ 63 - 2 ^ 9:Nat)=9223372036854775296 from rfl] at U1
 rw [show (2 ^ 63+2 ^ 10:Nat)=9223372036854776832 from rfl] at U2
 have hand:=and1_i64 (2 ^ 52) (by decide)
 rw [show ((2 ^ 52:Nat):Int)=4503599627370496 from rfl,show ((2 ^ 52 % 2:Nat):Int)=0 from rfl] at hand
 obtain ⟨ee,hee⟩:∃ ee:Int,-((q+11:Nat):Int)=ee:=⟨_,rfl⟩
 rw [hee]
 have hlg:((ee+11) * 631305 - 261663) / 2097152=-(p:Int):=by rw [← hpf];congr 3;omega
 have hee1:-2000≤ee∧ee≤2000:=by omega
 have hsE:-(ee+(lp:Int)+3)=((q+8 - lp:Nat):Int):=by omega
 have hee2:-1085 < ee:=by omega
 obtain ⟨d1,hd1⟩:∃ d,(u1+0+3) / 4=d:=⟨_,rfl⟩
 obtain ⟨d2,hd2⟩:∃ d,(u2 - 0) / 4=d:=⟨_,rfl⟩
 rw [hd1] at r1
 rw [hd2] at r2
 obtain ⟨d,hd⟩:∃ d,D / 10=d:=⟨_,rfl⟩
 rw [hd] at r2 ⊢
 have hdd:(d2:Int) / 10=(d:Int):=by omega
 have hge:(d1:Int)≤(d:Int) * 10:=by omega
 have hd10:d * 10 < 2 ^ 62:=by omega
 have hpp:(p:Int) - 1=((p - 1:Nat):Int):=by omega
 have N1:=fun W=>nudge_up W u1 0 u1l (by decide)
 have C1:=fun W=>ceil_any W (u1+0) (by omega)
 have N2:=fun W=>nudge_dn W u2 0 u2l (by decide) (by omega)
 have C2:=fun W=>floor_any W (u2 - 0) (by omega)
 rw [hd1] at C1
 rw [hd2] at C2
 rw [Nat.add_zero] at N1 C1
 rw [Nat.sub_zero] at N2 C2
 have hB0:Below w.heap.size w (w.alloc (.cells #[.int .u64 0,.int .u64 0,.int .i64 0] 274)):=(Below.refl _ _).alloc (Nat.le_refl _) _
 have hT0:=hT.kept (hB0.block _ h16)
 have hP0:(w.alloc (.cells #[.int .u64 0,.int .u64 0,.int .i64 0] 274)).heap[w.heap.size]?=some (.cells #[.int .u64 0,.int .u64 0,.int .i64 0] 274 (0,0)):=World.alloc_heap_new w _
 have PS:=prescale_any _ w.heap.size p ee (lp:Int) 0 0 0 hP0 hT0 hp1 hp2 hee1 (by omega)
 rw [hlp,hsE] at PS
 obtain ⟨pm,hpme⟩:∃ pm,10 ^ p * 2 ^ (63 - lp)=pm:=⟨_,rfl⟩
 rw [hpme] at PS U1 U2 hpm
 clear hpme hlp hp hu1 hu2 hD hs hw hs2 hn hd1 hd2 hd hT hT0 hP0 hee hpf hl1 hl2 hl3 hD10 r1 r2 hq1 hq2
 go_enter Tryz.func215,Tryz.ntmps215
 go_wp2_with (first | (go_at_call 227;refine (skewed_any _ _ (by omega) (by omega)).mono ?_;rintro e w1 ⟨rfl,rfl⟩) | (go_at_call 229;refine (log2_any _ _ (by omega) (by omega)).mono ?_;rintro e w1 ⟨rfl,rfl⟩))
 refine PS.mono ?_
 rintro e w1 ⟨rfl,hP1,hg1⟩
 have hB1:Below w.heap.size w w1:=hB0.grown hg1 hB0.size (fun k e=>by simp at e;omega)
 clear PS hB0
 go_wp2_with fail
 refine (U1 w1 _ hP1).mono ?_
 rintro e w2 ⟨rfl,hg2⟩
 have hP2:=(hg2.block w.heap.size (Array.getElem?_eq_some_iff.1 hP1).1 (by simp)).trans hP1
 have hB2:Below w.heap.size w w2:=hB1.grown hg2 hB1.size (fun k e=>by simp at e)
 clear U1 hP1 hg1 hB1
 go_wp2_with (first | (go_at_call 231;refine (N1 _).mono ?_;rintro e w3 ⟨rfl,rfl⟩) | (go_at_call 232;refine (C1 _).mono ?_;rintro e w3 ⟨rfl,rfl⟩))
 refine (U2 w2 _ hP2).mono ?_
 rintro e w4 ⟨rfl,hg4⟩
 have hB4:Below w.heap.size w w4:=hB2.grown hg4 hB2.size (fun k e=>by simp at e)
 clear U2 hP2 hg4 hB2 N1 C1 hg2
 go_wp2_with (first | (go_at_call 231;refine (N2 _).mono ?_;rintro e w3 ⟨rfl,rfl⟩) | (go_at_call 233;refine (C2 _).mono ?_;rintro e w3 ⟨rfl,rfl⟩))
 go_ret2
 exact ⟨rfl,hB4⟩
end Go.Proofs.YtgffljllfenhkaaGreatDoor
end
section
namespace Go.Proofs.YtgffljllfenhkaaGreatDoor
open Go.RowKit
def sl (l:List UInt8):Nat→Nat
 | 0=>0
 | n+1=>if l.getD n 0=48 then sl l n else n+1
theorem sl_hit {l:List UInt8} {n:Nat} (h:l.getD n 0=48):sl l (n+1)=sl l n:=by rw [sl,if_pos h]
theorem sl_miss {l:List UInt8} {n:Nat} (h:¬ l.getD n 0=48):sl l (n+1)=n+1:=by rw [sl,if_neg h]
theorem sl_le (l:List UInt8):∀ n,sl l n≤n
 | 0=>Nat.le_refl _
 | n+1=>by unfold sl;split;(have:=sl_le l n;omega);omega
def Byt (w:World) (B:Nat) (l:List UInt8):Prop:=∀ j,j < l.length→w.cell? ⟨B,j,none⟩=some (.int .u8 ((l.getD j 0).toNat:Int))
theorem heap_putRow_other (w:World) (B n k:Nat) (dk:Array UInt8) (h:k≠B):((Sort.putRow (fun (b:UInt8)=>Value.int .u8 (b.toNat:Int)) w B 0 dk).drewN n).heap[k]?=w.heap[k]?:=by
 show (Sort.putRow (fun (b:UInt8)=>Value.int .u8 (b.toNat:Int)) w B 0 dk).heap[k]?=_
 unfold Sort.putRow Sort.mapBlock
 show (w.heap.modify B _)[k]?=_
 rw [Array.getElem?_modify,if_neg (fun e=>h e.symm)]
theorem nDigits_le:∀ (k u:Nat),u < 10 ^ (k+1)→Lib.nDigits u≤k+1
 | 0,u,h=>by rw [Lib.nDigits_small (by simpa using h)];exact Nat.le_refl _
 | k+1,u,h=>by
  by_cases hu:u < 10
  ·rw [Lib.nDigits_small hu];omega
  ·rw [Lib.nDigits_big hu]
   have:=nDigits_le k (u / 10) (by rw [Nat.pow_succ] at h;omega)
   omega
theorem decDigits_len (d:Nat):(Lib.decDigits d).length=Lib.nDigits d:=Lib.decDigits_length d
set_option maxHeartbeats 2000000 in
set_option maxRecDepth 100000 in
theorem setDigits_any (w:World) (B d:Nat) (p:Int) (arr:Array Value) (hB:w.heap[B]?=some (.cells arr 248 (0,0))) (ha:arr=Array.replicate 32 (.int .u8 0)) (hd1:1≤d) (hd2:d < 10 ^ 18) (hp:-100≤p∧p≤100) :
  Calls Tryz.prog 210 #[.slice (some ⟨B,0,none⟩) 32 32,.int .u64 (d:Int),.int .i64 p,.int .i64 ((Lib.nDigits d:Nat):Int)] w fun e w'=>
   e=.returned (.tuple #[.int .i64 ((Lib.nDigits d:Nat)+p),.int .i64 ((sl (Lib.decDigits d) (Lib.nDigits d):Nat):Int)])∧Byt w' B (Lib.decDigits d)∧w.grownBy w' (some B):=by
 have hnd1:=Lib.nDigits_pos d
 have hnd2:Lib.nDigits d≤18:=nDigits_le 17 d hd2
 have hlt:=Lib.lt_pow_nDigits d
 have hH:Sort.Holds (fun (b:UInt8)=>Value.int .u8 (b.toNat:Int)) w B 0 (Array.replicate (Lib.nDigits d) (0:UInt8)):=fun j hj=>by
  have hj':j < Lib.nDigits d:=by simpa using hj
  have h0:arr[j]?=some (.int .u8 0):=by rw [ha,Array.getElem?_replicate,if_pos (by omega)]
  refine ⟨?_,by simp [World.frozen?,hB]⟩
  simp only [World.cell?,hB,Nat.zero_add]
  rw [h0,getElem!_pos _ j hj]
  simp
 have FB:=Tryz.internal_strconv_formatBase10 B 0 32 d (Array.replicate (Lib.nDigits d) (0:UInt8)) w hH (by simpa using hlt) (by omega) (by simp;omega)
 rw [Array.size_replicate] at FB
 obtain ⟨nd,hnd⟩:∃ nd,Lib.nDigits d=nd:=⟨_,rfl⟩
 have hlen:=decDigits_len d
 rw [hnd] at FB hnd1 hnd2 hlen hH ⊢
 obtain ⟨l,hl⟩:∃ l,Lib.decDigits d=l:=⟨_,rfl⟩
 rw [hl]
 go_enter Tryz.func210,Tryz.ntmps210
 go_wp2_with fail
 refine FB.mono ?_
 rintro e w1 ⟨rfl,n,v',dk,hw1,hinv⟩
 have hdk:dk.size=nd:=hinv.size
 have hby:Byt w1 B (Lib.decDigits d):=fun j hj=>by
  rw [hlen] at hj
  have h1:=Sort.cell?_putRow (fun (b:UInt8)=>Value.int .u8 (b.toNat:Int)) w B 0 _ dk hH (by simp [hdk]) j (by omega)
  rw [hw1]
  show (Sort.putRow (fun (b:UInt8)=>Value.int .u8 (b.toNat:Int)) w B 0 dk).cell? ⟨B,j,none⟩=_
  rw [Nat.zero_add] at h1
  rw [h1]
  have h2:=Lib.row_is_numeral (by rw [hnd];exact hinv) j (by rw [hlen];exact hj)
  rw [← h2,List.getD_eq_getElem?_getD,List.getElem?_eq_getElem (by rw [hlen];exact hj)];rfl
 have hgr:w.grownBy w1 (some B):=by
  rw [hw1]
  refine ⟨rfl,rfl,rfl,by simp [World.drewN],fun k hk hne=>?_⟩
  exact heap_putRow_other _ _ _ _ _ (fun e=>hne (by rw [e]))
 clear hw1 hinv hdk FB hH
 rw [hl] at hby
 go_wp2_with fail
 go_loop [3] (fun v=>∃ n:Nat,n≤nd∧v=.int .i64 (n:Int)∧sl l n=sl l nd) (fun v=>(intOf v).toNat)
 case atStart=>exact ⟨nd,Nat.le_refl _,rfl,rfl⟩
 case round=>
  obtain ⟨n,hn,rfl,he⟩:=hrel
  have HE:=hid he
  clear he
  cases n with
  | zero=>
   have FIN:Hid (sl l nd=0):=(unh HE).symm
   clear HE
   go_wp2_with fail
   go_ret2
   refine ⟨?_,hby,hgr⟩
   rw [unh FIN];rfl
  | succ n=>
   have hc:=hby n (by rw [← hl,hlen];omega)
   have hi0:((n+1:Nat):Int) - 1=(n:Int):=by omega
   obtain ⟨b,hb⟩:∃ b:UInt8,l.getD n 0=b:=⟨_,rfl⟩
   rw [hb] at hc
   by_cases hz:b=48
   ·have HS:Hid (sl l n=sl l nd):=(sl_hit (hb.trans hz)).symm.trans (unh HE)
    have hb48:((b.toNat:Int) == 48)=true:=by rw [hz];rfl
    clear HE hz hb
    go_wp2_with fail
    exact ⟨⟨n,by omega,rfl,unh HS⟩,by simp [intOf]⟩
   ·have FIN:Hid (sl l nd=n+1):=(unh HE).symm.trans (sl_miss (by rw [hb];exact hz))
    have hb48:((b.toNat:Int) == 48)=false:=by
     rw [beq_eq_false_iff_ne];intro e;apply hz
     have:b.toNat=48:=by omega
     exact UInt8.toNat_inj.1 (by rw [this];rfl)
    clear HE hz hb
    go_wp2_with fail
    go_ret2
    refine ⟨?_,hby,hgr⟩
    rw [unh FIN];rfl
end Go.Proofs.YtgffljllfenhkaaGreatDoor
end
section
namespace Go.Proofs.YtgffljllfenhkaaGreatDoor
open Go.RowKit
def byteV (c:UInt8):Value:=.int .u8 (c.toNat:Int)
def Row8 (w:World) (base:Nat) (o:Value) (out:List UInt8):Prop:=w.ownsRow base 5 1 o out.length (out.map byteV)
structure Fr (B:Nat) (o:Value) (w:World) (o':Value) (w':World):Prop where
 os:w'.os=w.os
 tape:w'.tape=w.tape
 output:w'.output=w.output
 size:w.heap.size≤w'.heap.size
 block:∀ k,k < w.heap.size→k≠B→o.ownBlock≠some k→w'.heap[k]?=w.heap[k]?
 own:o'.ownBlock=o.ownBlock∨∃ g,o'.ownBlock=some g∧w.heap.size≤g
theorem Fr.refl (B:Nat) (o:Value) (w:World):Fr B o w o w:=⟨rfl,rfl,rfl,Nat.le_refl _,fun _ _ _ _=>rfl,.inl rfl⟩
theorem Fr.trans {B:Nat} {o o' o'':Value} {w w' w'':World} (h:Fr B o w o' w') (k:Fr B o' w' o'' w''):Fr B o w o'' w'':=by
 refine ⟨k.os.trans h.os,k.tape.trans h.tape,k.output.trans h.output,Nat.le_trans h.size k.size,?_,?_⟩
 ·intro b hb h1 h2
  rw [k.block b (Nat.lt_of_lt_of_le hb h.size) h1 ?_,h.block b hb h1 h2]
  rcases h.own with e | ⟨g,e,hg⟩
  ·rw [e];exact h2
  ·rw [e];intro e';simp at e';omega
 ·rcases k.own with e | ⟨g,e,hg⟩
  ·rcases h.own with e' | ⟨g,e',hg⟩
   ·exact .inl (e.trans e')
   ·exact .inr ⟨g,e.trans e',hg⟩
  ·exact .inr ⟨g,e,Nat.le_trans h.size hg⟩
theorem Fr.of_grown {B:Nat} {w w':World} (o:Value) (h:w.grownBy w' (some B)):Fr B o w o w':=
 ⟨h.os,h.tape,h.output,h.size,fun k hk h1 _=>h.block k hk (fun e=>h1 (by simpa using e)),.inl rfl⟩
theorem Fr.of_grown_none {B:Nat} {w w':World} (o:Value) (h:w.grownBy w' none):Fr B o w o w':=
 ⟨h.os,h.tape,h.output,h.size,fun k hk _ _=>h.block k hk (fun e=>by cases e),.inl rfl⟩
theorem Fr.alloc (B:Nat) (o:Value) (w:World) (x:Obj):Fr B o w o (w.alloc x):=Fr.of_grown_none o (World.grownBy_alloc w x none)
theorem Fr.drewN (B:Nat) (o:Value) (w:World) (n:Nat):Fr B o w o (w.drewN n):=⟨rfl,rfl,rfl,Nat.le_refl _,fun _ _ _ _=>rfl,.inl rfl⟩
theorem Fr.drew (B:Nat) (o:Value) (w:World):Fr B o w o w.drew:=⟨rfl,rfl,rfl,Nat.le_refl _,fun _ _ _ _=>rfl,.inl rfl⟩
theorem Row8.shape {w:World} {base:Nat} {o:Value} {out:List UInt8} (h:Row8 w base o out):∃ a cap,o=.slice a out.length cap:=by
 rcases h.2 with ⟨e,hn⟩ | ⟨g,cap,_,e,_⟩
 ·exact ⟨none,0,by rw [hn];exact e⟩
 ·exact ⟨_,_,e⟩
theorem Row8.kept {w w':World} {base:Nat} {o:Value} {out:List UInt8} {r:Option Nat} (h:Row8 w base o out) (hg:w.grownBy w' r) (hne:o.ownBlock=none∨o.ownBlock≠r):Row8 w' base o out:=
 World.ownsRow.kept h hg hne
theorem Row8.ne {w:World} {B:Nat} {o:Value} {out:List UInt8} (h:Row8 w (B+1) o out):o.ownBlock=none∨o.ownBlock≠some B:=by
 right;intro e;have:=World.ownsRow.lt h B e;omega
theorem Bt.kept {w w':World} {B:Nat} {s:ByteArray} {p:Nat} {bad:Bool} {o:Value} {r:Option Nat} (h:Bt w B s p bad o) (hg:w.grownBy w' r) (hne:r≠some B):Bt w' B s p bad o:=by
 have hl:=h.lt
 unfold Bt at h ⊢
 rw [hg.block B hl (fun e=>hne e.symm)];exact h
theorem Fr.put {B:Nat} {o o':Value} {w w1 w2:World} (h:w.grownBy w1 o.ownBlock) (hat:o'.ownBlock=o.ownBlock∨o'.ownBlock=some (w.heap.size+1)) (k:w1.grownBy w2 (some B)):Fr B o w o' w2:=by
 refine ⟨k.os.trans h.os,k.tape.trans h.tape,k.output.trans h.output,Nat.le_trans h.size k.size,?_,?_⟩
 ·intro b hb h1 h2
  rw [k.block b (Nat.lt_of_lt_of_le hb h.size) (fun e=>h1 (by simpa using e)),h.block b hb (fun e=>h2 e.symm)]
 ·rcases hat with e | e
  ·exact .inl e
  ·exact .inr ⟨_,e,by omega⟩
theorem Bt.alloc {w:World} {B:Nat} {s:ByteArray} {p:Nat} {bad:Bool} {o:Value} (h:Bt w B s p bad o) (x:Obj):Bt (w.alloc x) B s p bad o:=
 h.kept (World.grownBy_alloc w x none) (by simp)
theorem Tryz.underlying102:Tryz.prog.underlying 102=some (.slice 5):=by kernel_rfl
theorem Tryz.info5:(Tryz.prog.info? 5).map (fun i=>(i.zero,i.size,i.bytes))=some (some (.int .u8 0),1,1):=by kernel_rfl
end Go.Proofs.YtgffljllfenhkaaGreatDoor
end
section
namespace Go.Proofs.YtgffljllfenhkaaGreatDoor
open Go.RowKit
structure Fx (w0:World) (b0 B:Nat) (l:List UInt8) (dv:Value) (out:List UInt8) (w:World):Prop where
 row:Row8 w b0 dv out
 byt:Byt w B l
 blt:B < w.heap.size
 ne:dv.ownBlock≠some B
 bel:Below b0 w0 w
 hb:b0≤w.heap.size
 len:out.length≤60
theorem Fx.step {w0:World} {b0 B:Nat} {l:List UInt8} {dv v':Value} {out:List UInt8} {w w1:World} (h:Fx w0 b0 B l dv out w) (c:UInt8) (ci:Int) (hc:ci=(c.toNat:Int)) (hl60:out.length < 60)
  (hown:w1.ownsRow b0 5 1 v' (out.length+1) (out.map byteV++[.int .u8 ci])) (hgrow:(w.alloc (.cells #[.int .u8 ci] 5)).grownBy w1 dv.ownBlock)
  (hat:v'.ownBlock=dv.ownBlock∨v'.ownBlock=some (w.alloc (.cells #[.int .u8 ci] 5)).heap.size):Fx w0 b0 B l v' (out++[c]) w1:=by
 have hg:=grownBy_trans (World.grownBy_alloc w (.cells #[.int .u8 ci] 5) dv.ownBlock) hgrow
 have hbB:=hg.block B h.blt (fun e=>h.ne e.symm)
 have hlt:=hg.size
 have hblt:=h.blt
 refine ⟨?_,?_,Nat.lt_of_lt_of_le h.blt hg.size,?_,?_,Nat.le_trans h.hb hg.size,by simp;omega⟩
 ·unfold Row8
  have e:(out++[c]).map byteV=out.map byteV++[.int .u8 ci]:=by rw [List.map_append,hc];rfl
  rw [e,List.length_append];exact hown
 ·intro j hj
  rw [World.cell?_of_block (w:=w) hbB];exact h.byt j hj
 ·rcases hat with e | e
  ·rw [e];exact h.ne
  ·rw [e];intro e';simp at e';omega
 ·refine h.bel.grown hg h.hb (fun k e=>?_)
  exact (World.ownsRow.lt h.row k e).1
theorem rep_snoc (i:Nat):List.replicate (i+1) (48:UInt8)=List.replicate i 48++[48]:=List.replicate_succ'
theorem take_snoc {l ld:List UInt8} {n off i:Nat} {c:UInt8} (hld:ld=l.take n) (hi:off+i < n) (hn:n≤l.length) (hc:l.getD (off+i) 0=c):(ld.drop off).take (i+1)=(ld.drop off).take i++[c]:=by
 have hl:off+i < l.length:=by omega
 have h1:(ld.drop off)[i]?=some c:=by
  rw [List.getElem?_drop,hld,List.getElem?_take,if_pos hi,List.getElem?_eq_getElem hl]
  rw [List.getD_eq_getElem?_getD,List.getElem?_eq_getElem hl] at hc
  simpa using hc
 rw [List.take_add_one,h1];rfl
def textF (neg:Bool) (l:List UInt8) (dp:Int):List UInt8:=
 (if neg then [45] else [])++(if 0 < dp then l.take dp.toNat++List.replicate (dp.toNat - l.length) 48 else [48]) ++
  (if dp < l.length then 46::(List.replicate (-dp).toNat 48++l.drop dp.toNat) else [])
set_option maxHeartbeats 8000000 in
set_option maxRecDepth 100000 in
theorem fmtA_any (w:World) (b0 B:Nat) (l ld:List UInt8) (dv:Value) (neg:Bool) (n:Nat) (z:Nat) (hz:z≤3) (h:Fx w b0 B l dv [] w) (hl:l.length≤20) (hld:ld=l.take n) (hn1:1≤n) (hn:n≤l.length) :
  Calls Tryz.prog 208 #[dv,.bool neg,.slice (some ⟨B,0,none⟩) 32 32,.int .i64 (-(z:Int)),.int .i64 (n:Int),.int .i64 ((n:Int)+(z:Int)),.int .u8 102,.bool true] w fun e w'=>∃ dv',e=.returned dv'∧Fx w b0 B l dv' (textF neg ld (-(z:Int))) w':=by
 obtain ⟨i0,hi,hz0,hz1,hz2⟩:=info_parts Tryz.info5
 have hldl:ld.length=n:=by rw [hld,List.length_take];omega
 have TX:Hid (textF neg ld (-(z:Int))=(if neg then [45] else [])++[48]++[46]++List.replicate z 48++(ld.drop 0).take n):=by
  show textF neg ld (-(z:Int))=_
  unfold textF;rw [if_neg (show ¬ (0:Int) < -(z:Int) by omega),if_pos (show -(z:Int) < (ld.length:Int) by omega),show (-(-(z:Int))).toNat=z by omega,show (-(z:Int)).toNat=0 by omega,List.drop_zero,List.take_of_length_le (by omega)];simp
 obtain ⟨tx,htx⟩:∃ tx,textF neg ld (-(z:Int))=tx:=⟨_,rfl⟩
 rw [htx] at TX ⊢
 obtain ⟨t0,ht0⟩:∃ t0:List UInt8,(if neg then [45] else [])=t0:=⟨_,rfl⟩
 have ht1:t0.length≤1:=by rw [← ht0];cases neg <;> simp
 rw [ht0] at TX
 clear htx
 have a1:max (0:Int) (z:Int)=(z:Int):=by omega
 have a2:min ((n:Int)+(z:Int)) (z:Int)=(z:Int):=by omega
 have a3:-(z:Int)+(z:Int)=0:=by omega
 have a4:(n:Int)+(z:Int) - (z:Int)=(n:Int):=by omega
 have a5:max (0:Int) (n:Int)=(n:Int):=by omega
 have a6:min (n:Int) (n:Int)=(n:Int):=by omega
 have a7:(0:Int) < (n:Int)+(z:Int):=by omega
 have a8:¬ (z:Int) < 0:=by omega
 go_enter Tryz.func208,Tryz.ntmps208
 cases neg with
 | false=>
  have hF:Fx w b0 B l dv t0 w:=by rw [← ht0];exact h
  clear h
  go_upto_region 55 with fail
  go_upto_region 67 with (at_builtin;refine wpList_append_own_at _ rfl _ _ 102 rfl b0 5 i0 (.int .u8 0) 1 1 Tryz.underlying102 hi hz0 hz1 hz2 rfl (by decide) _ _ _ rfl (World.ownsRow.alloc hF.row _) ⟨_,0,none⟩ 1 1 [_] rfl rfl (cell_one_new _ _ _) (by simp [Value.oneCell']) (by unfold maxLen;have:=hF.len;omega) (by have:=hF.len;omega) (by have:=hF.hb;simp;omega) ?_;intro v' w' hown' hgrow _ hat)
  have hP:=hF.step (v':=v') 48 48 rfl (by first | omega | (simp;omega)) hown' hgrow hat
  clear hF hown' hgrow hat
  obtain ⟨p1,hp1⟩:∃ p:List UInt8,t0++[48]=p:=⟨_,rfl⟩
  rw [hp1] at hP
  have hF:=hP
  clear hP
  have hp1l:p1.length≤2:=by rw [← hp1];simp;omega
  go_upto_region 69 with (at_builtin;refine wpList_append_own_at _ rfl _ _ 102 rfl b0 5 i0 (.int .u8 0) 1 1 Tryz.underlying102 hi hz0 hz1 hz2 rfl (by decide) _ _ _ rfl (World.ownsRow.alloc hF.row _) ⟨_,0,none⟩ 1 1 [_] rfl rfl (cell_one_new _ _ _) (by simp [Value.oneCell']) (by unfold maxLen;have:=hF.len;omega) (by have:=hF.len;omega) (by have:=hF.hb;simp;omega) ?_;intro v' w' hown' hgrow _ hat)
  have hP:=hF.step (v':=v') 46 46 rfl (by first | omega | (simp;omega)) hown' hgrow hat
  clear hF hown' hgrow hat
  obtain ⟨p2,hp2⟩:∃ p:List UInt8,p1++[46]=p:=⟨_,rfl⟩
  rw [hp2] at hP
  have hF:=hP
  clear hP
  have hp2l:p2.length≤3:=by rw [← hp2];simp;omega
  go_wp2_with fail
  go_loopw [0,240] (fun dvx iv wr=>∃ i:Nat,i≤z∧iv=.int .i64 (i:Int)∧Fx w b0 B l dvx (p2++List.replicate i 48) wr)
   (fun _ iv _=>z - (intOf iv).toNat)
  case atStart=>exact ⟨0,Nat.zero_le _,rfl,by simpa using hF⟩
  case round=>
   clear hF
   obtain ⟨i,hi1,rfl,hF⟩:=hrel
   by_cases hlt:i < z
   ·have hlI:(i:Int) < ((z:Nat):Int):=by omega
    have HF:=hid hF
    go_wp2_with (at_builtin;refine wpList_append_own_at _ rfl _ _ 102 rfl b0 5 i0 (.int .u8 0) 1 1 Tryz.underlying102 hi hz0 hz1 hz2 rfl (by decide) _ _ _ rfl (World.ownsRow.alloc hF.row _) ⟨_,0,none⟩ 1 1 [_] rfl rfl (cell_one_new _ _ _) (by simp [Value.oneCell']) (by unfold maxLen;have:=hF.len;omega) (by have:=hF.len;omega) (by have:=hF.hb;simp;omega) ?_;intro v' w' hown' hgrow _ hat)
    have hN:=(unh HF).step 48 48 rfl (by simp;omega) hown' hgrow hat
    rw [List.append_assoc,← rep_snoc] at hN
    first | exact ⟨⟨i+1,by omega,by go_num,hN⟩,by simp [intOf];omega⟩ | (refine ⟨?_,by simp [intOf];omega⟩;(repeat apply Exists.intro);exact ⟨⟨i+1,by omega,by go_num,hN⟩,rfl⟩)
   ·have hie:z=i:=by omega
    subst hie
    clear hlt hi1
    obtain ⟨p3,hp3⟩:∃ p:List UInt8,p2++List.replicate z 48=p:=⟨_,rfl⟩
    rw [hp3] at hF
    have hp3l:p3.length≤6:=by rw [← hp3];simp;omega
    go_wp2_with fail
    go_loopw [0,247] (fun dvx iv wr=>∃ i:Nat,i≤n∧iv=.int .i64 (i:Int)∧Fx w b0 B l dvx (p3++(ld.drop 0).take i) wr)
     (fun _ iv _=>n - (intOf iv).toNat)
    case atStart=>exact ⟨0,Nat.zero_le _,rfl,by simpa using hF⟩
    case round=>
     clear hF
     obtain ⟨i,hi1,rfl,hF⟩:=hrel
     by_cases hlt:i < n
     ·have hlI:(i:Int) < ((n:Nat):Int):=by omega
      have hcell:=hF.byt (0+i) (by omega)
      obtain ⟨cb,hcb⟩:∃ c:UInt8,l.getD (0+i) 0=c:=⟨_,rfl⟩
      rw [hcb] at hcell
      have HCB:=hid hcb
      clear hcb
      have hix:(0+i:Nat) < 32:=by omega
      rw [Nat.zero_add] at hcell hix
      have HF:=hid hF
      go_wp2_with (at_builtin;refine wpList_append_own_at _ rfl _ _ 102 rfl b0 5 i0 (.int .u8 0) 1 1 Tryz.underlying102 hi hz0 hz1 hz2 rfl (by decide) _ _ _ rfl (World.ownsRow.alloc hF.row _) ⟨_,0,none⟩ 1 1 [_] rfl rfl (cell_one_new _ _ _) (by simp [Value.oneCell']) (by unfold maxLen;have:=hF.len;omega) (by have:=hF.len;omega) (by have:=hF.hb;simp;omega) ?_;intro v' w' hown' hgrow _ hat)
      have hN:=(unh HF).step cb _ rfl (by simp;omega) hown' hgrow hat
      rw [List.append_assoc,← take_snoc hld (by omega) hn (unh HCB)] at hN
      first | exact ⟨⟨i+1,by omega,by go_num,hN⟩,by simp [intOf];omega⟩ | (refine ⟨?_,by simp [intOf];omega⟩;(repeat apply Exists.intro);exact ⟨⟨i+1,by omega,by go_num,hN⟩,rfl⟩)
     ·have hie:n=i:=by omega
      subst hie
      clear hlt hi1
      obtain ⟨p4,hp4⟩:∃ p:List UInt8,p3++(ld.drop 0).take n=p:=⟨_,rfl⟩
      rw [hp4] at hF
      have hp4l:p4.length≤30:=by rw [← hp4];simp;omega
      go_wp2_with fail
      go_loopw [0,261] (fun dvx iv wr=>∃ i:Nat,i≤0∧iv=.int .i64 (i:Int)∧Fx w b0 B l dvx (p4++List.replicate i 48) wr)
       (fun _ iv _=>0 - (intOf iv).toNat)
      case atStart=>exact ⟨0,Nat.zero_le _,rfl,by simpa using hF⟩
      case round=>
       clear hF
       obtain ⟨i,hi1,rfl,hF⟩:=hrel
       by_cases hlt:i < 0
       ·exact absurd hlt (by omega)
       ·have hie:0=i:=by omega
        subst hie
        clear hlt hi1
        have TX2:Hid (tx=p4):=by have:=unh TX;rw [hp1,hp2,hp3,hp4] at this;exact this
        rw [List.replicate_zero,List.append_nil] at hF
        go_wp2_with fail
        go_ret
        exact ⟨_,rfl,by rw [unh TX2];exact hF⟩
 | true=>
  go_upto_region 55 with (at_builtin;refine wpList_append_own_at _ rfl _ _ 102 rfl b0 5 i0 (.int .u8 0) 1 1 Tryz.underlying102 hi hz0 hz1 hz2 rfl (by decide) _ _ _ rfl (World.ownsRow.alloc h.row _) ⟨_,0,none⟩ 1 1 [_] rfl rfl (cell_one_new _ _ _) (by simp [Value.oneCell']) (by unfold maxLen;have:=h.len;omega) (by have:=h.len;omega) (by have:=h.hb;simp;omega) ?_;intro v' w' hown' hgrow _ hat)
  have hF:Fx w b0 B l v' t0 w':=by rw [← ht0];exact h.step 45 45 rfl (by simp) hown' hgrow hat
  clear h hown' hgrow hat
  go_upto_region 67 with (at_builtin;refine wpList_append_own_at _ rfl _ _ 102 rfl b0 5 i0 (.int .u8 0) 1 1 Tryz.underlying102 hi hz0 hz1 hz2 rfl (by decide) _ _ _ rfl (World.ownsRow.alloc hF.row _) ⟨_,0,none⟩ 1 1 [_] rfl rfl (cell_one_new _ _ _) (by simp [Value.oneCell']) (by unfold maxLen;have:=hF.len;omega) (by have:=hF.len;omega) (by have:=hF.hb;simp;omega) ?_;intro v' w' hown' hgrow _ hat)
  have hP:=hF.step (v':=v') 48 48 rfl (by first | omega | (simp;omega)) hown' hgrow hat
  clear hF hown' hgrow hat
  obtain ⟨p1,hp1⟩:∃ p:List UInt8,t0++[48]=p:=⟨_,rfl⟩
  rw [hp1] at hP
  have hF:=hP
  clear hP
  have hp1l:p1.length≤2:=by rw [← hp1];simp;omega
  go_upto_region 69 with (at_builtin;refine wpList_append_own_at _ rfl _ _ 102 rfl b0 5 i0 (.int .u8 0) 1 1 Tryz.underlying102 hi hz0 hz1 hz2 rfl (by decide) _ _ _ rfl (World.ownsRow.alloc hF.row _) ⟨_,0,none⟩ 1 1 [_] rfl rfl (cell_one_new _ _ _) (by simp [Value.oneCell']) (by unfold maxLen;have:=hF.len;omega) (by have:=hF.len;omega) (by have:=hF.hb;simp;omega) ?_;intro v' w' hown' hgrow _ hat)
  have hP:=hF.step (v':=v') 46 46 rfl (by first | omega | (simp;omega)) hown' hgrow hat
  clear hF hown' hgrow hat
  obtain ⟨p2,hp2⟩:∃ p:List UInt8,p1++[46]=p:=⟨_,rfl⟩
  rw [hp2] at hP
  have hF:=hP
  clear hP
  have hp2l:p2.length≤3:=by rw [← hp2];simp;omega
  go_wp2_with fail
  go_loopw [0,240] (fun dvx iv wr=>∃ i:Nat,i≤z∧iv=.int .i64 (i:Int)∧Fx w b0 B l dvx (p2++List.replicate i 48) wr)
   (fun _ iv _=>z - (intOf iv).toNat)
  case atStart=>exact ⟨0,Nat.zero_le _,rfl,by simpa using hF⟩
  case round=>
   clear hF
   obtain ⟨i,hi1,rfl,hF⟩:=hrel
   by_cases hlt:i < z
   ·have hlI:(i:Int) < ((z:Nat):Int):=by omega
    have HF:=hid hF
    go_wp2_with (at_builtin;refine wpList_append_own_at _ rfl _ _ 102 rfl b0 5 i0 (.int .u8 0) 1 1 Tryz.underlying102 hi hz0 hz1 hz2 rfl (by decide) _ _ _ rfl (World.ownsRow.alloc hF.row _) ⟨_,0,none⟩ 1 1 [_] rfl rfl (cell_one_new _ _ _) (by simp [Value.oneCell']) (by unfold maxLen;have:=hF.len;omega) (by have:=hF.len;omega) (by have:=hF.hb;simp;omega) ?_;intro v' w' hown' hgrow _ hat)
    have hN:=(unh HF).step 48 48 rfl (by simp;omega) hown' hgrow hat
    rw [List.append_assoc,← rep_snoc] at hN
    first | exact ⟨⟨i+1,by omega,by go_num,hN⟩,by simp [intOf];omega⟩ | (refine ⟨?_,by simp [intOf];omega⟩;(repeat apply Exists.intro);exact ⟨⟨i+1,by omega,by go_num,hN⟩,rfl⟩)
   ·have hie:z=i:=by omega
    subst hie
    clear hlt hi1
    obtain ⟨p3,hp3⟩:∃ p:List UInt8,p2++List.replicate z 48=p:=⟨_,rfl⟩
    rw [hp3] at hF
    have hp3l:p3.length≤6:=by rw [← hp3];simp;omega
    go_wp2_with fail
    go_loopw [0,247] (fun dvx iv wr=>∃ i:Nat,i≤n∧iv=.int .i64 (i:Int)∧Fx w b0 B l dvx (p3++(ld.drop 0).take i) wr)
     (fun _ iv _=>n - (intOf iv).toNat)
    case atStart=>exact ⟨0,Nat.zero_le _,rfl,by simpa using hF⟩
    case round=>
     clear hF
     obtain ⟨i,hi1,rfl,hF⟩:=hrel
     by_cases hlt:i < n
     ·have hlI:(i:Int) < ((n:Nat):Int):=by omega
      have hcell:=hF.byt (0+i) (by omega)
      obtain ⟨cb,hcb⟩:∃ c:UInt8,l.getD (0+i) 0=c:=⟨_,rfl⟩
      rw [hcb] at hcell
      have HCB:=hid hcb
      clear hcb
      have hix:(0+i:Nat) < 32:=by omega
      rw [Nat.zero_add] at hcell hix
      have HF:=hid hF
      go_wp2_with (at_builtin;refine wpList_append_own_at _ rfl _ _ 102 rfl b0 5 i0 (.int .u8 0) 1 1 Tryz.underlying102 hi hz0 hz1 hz2 rfl (by decide) _ _ _ rfl (World.ownsRow.alloc hF.row _) ⟨_,0,none⟩ 1 1 [_] rfl rfl (cell_one_new _ _ _) (by simp [Value.oneCell']) (by unfold maxLen;have:=hF.len;omega) (by have:=hF.len;omega) (by have:=hF.hb;simp;omega) ?_;intro v' w' hown' hgrow _ hat)
      have hN:=(unh HF).step cb _ rfl (by simp;omega) hown' hgrow hat
      rw [List.append_assoc,← take_snoc hld (by omega) hn (unh HCB)] at hN
      first | exact ⟨⟨i+1,by omega,by go_num,hN⟩,by simp [intOf];omega⟩ | (refine ⟨?_,by simp [intOf];omega⟩;(repeat apply Exists.intro);exact ⟨⟨i+1,by omega,by go_num,hN⟩,rfl⟩)
     ·have hie:n=i:=by omega
      subst hie
      clear hlt hi1
      obtain ⟨p4,hp4⟩:∃ p:List UInt8,p3++(ld.drop 0).take n=p:=⟨_,rfl⟩
      rw [hp4] at hF
      have hp4l:p4.length≤30:=by rw [← hp4];simp;omega
      go_wp2_with fail
      go_loopw [0,261] (fun dvx iv wr=>∃ i:Nat,i≤0∧iv=.int .i64 (i:Int)∧Fx w b0 B l dvx (p4++List.replicate i 48) wr)
       (fun _ iv _=>0 - (intOf iv).toNat)
      case atStart=>exact ⟨0,Nat.zero_le _,rfl,by simpa using hF⟩
      case round=>
       clear hF
       obtain ⟨i,hi1,rfl,hF⟩:=hrel
       by_cases hlt:i < 0
       ·exact absurd hlt (by omega)
       ·have hie:0=i:=by omega
        subst hie
        clear hlt hi1
        have TX2:Hid (tx=p4):=by have:=unh TX;rw [hp1,hp2,hp3,hp4] at this;exact this
        rw [List.replicate_zero,List.append_nil] at hF
        go_wp2_with fail
        go_ret
        exact ⟨_,rfl,by rw [unh TX2];exact hF⟩
end Go.Proofs.YtgffljllfenhkaaGreatDoor
end
