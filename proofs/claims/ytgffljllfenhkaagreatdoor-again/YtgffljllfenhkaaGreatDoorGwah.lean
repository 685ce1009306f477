import Derived.Test.YtgffljllfenhkaaGreatDoorProg
import Derived.WalkKit
import Derived.WalkSpells
import Derived.WalkLawsBesides
import Derived.Deep.QuietTactic
import Derived.BigQuiet
import Derived.OwnWalkIn
import Derived.TacticsInMore
import Derived.LoopNIn
import Derived.LoopIn
import Derived.Laws.CopyOwn
import Derived.Laws.Bits64b
import Derived.Laws.ShiftsVarLaws
import Derived.Lib.Mul64
import Derived.Deep.RegionWith
import Derived.RangeFuncBox
import Derived.Test.YtgffljllfenhkaaGreatDoorGwaa
import Derived.Test.YtgffljllfenhkaaGreatDoorGwad
namespace Go.Proofs.YtgffljllfenhkaaGreatDoor
section
theorem or_one (x:Nat):x ||| 1=x+(1-x%2):=by
 have h1:(x ||| 1)/2=x/2:=by
  have:=Nat.or_div_two_pow (a:=x) (b:=1) (n:=1);simpa using this
 have h2:(x ||| 1)%2=1:=by
  have:=Nat.or_mod_two_pow (a:=x) (b:=1) (n:=1);rw[Nat.pow_one] at this;rw[this];have:x%2=0\/x%2=1:=by omega
  rcases this with h|h <;> rw[h] <;> rfl
 omega
def us (x pm s:Nat):Nat:=
 if x*pm/2^64/2^s*2^s≠x*pm/2^64 then (x*pm/2^64/2^s) ||| 1 else (x*pm/2^64/2^s) ||| (if 1<x*pm%2^64 then 1 else 0)
def stk (X T:Nat):Nat:=if X%T=0 then X/T else (X/T) ||| 1
theorem us_eq (x pm s:Nat) (hx:x%2=0):us x pm s=stk (x*pm) (2^(64+s)):=by
 have hX:x*pm%2=0:=by rw[Nat.mul_mod,hx];simp
 obtain⟨X,hXe⟩:∃ X,x*pm=X:=⟨_,rfl⟩;unfold us stk;rw[hXe] at hX ⊢;have hd:X/2^64/2^s=X/2^(64+s):=by rw[Nat.div_div_eq_div_mul,← Nat.pow_add]
 have hm:X%2^(64+s)=X%2^64+2^64*(X/2^64%2^s):=by rw[Nat.pow_add,Nat.mod_mul]
 have hdm:=Nat.div_add_mod (X/2^64) (2^s);have hcomm:=Nat.mul_comm (2^s) (X/2^64/2^s);obtain⟨hi,hhi⟩:∃ hi,X/2^64=hi:=⟨_,rfl⟩;rw[hhi] at hd hm hdm hcomm ⊢
 by_cases c:hi/2^s*2^s≠hi
 ·rw[if_pos c,hd,if_neg (by omega)]
 ·rw[if_neg c,hd];have hz:hi%2^s=0:=by omega
  rw[hz] at hm
  by_cases c2:X%2^64=0
  ·rw[if_neg (by omega),if_pos (by omega),Nat.or_zero]
  ·rw[if_pos (by omega),if_neg (by omega)]
theorem stk_up {X T D:Nat}(hT:0<T) (h:X<=4*D*T):(X=4*D*T/\stk X T=4*D)\/stk X T+1<=4*D:=by
 rcases Nat.lt_or_eq_of_le h with h|h
 ·right
  have hl:X/T<4*D:=Nat.div_lt_of_lt_mul (by rw[Nat.mul_comm];exact h);unfold stk;split
  ·omega
  ·rw[or_one];omega
 ·left
  refine⟨h,?_⟩;unfold stk;rw[h,Nat.mul_mod_left,if_pos rfl,Nat.mul_div_cancel _ hT]
theorem stk_dn {X T D:Nat}(hT:0<T) (h:4*D*T<=X):(X=4*D*T/\stk X T=4*D)\/4*D+1<=stk X T:=by
 rcases Nat.lt_or_eq_of_le h with h|h
 ·right
  have hl:4*D<=X/T:=(Nat.le_div_iff_mul_le hT).2 (Nat.le_of_lt h);have hdm:=Nat.div_add_mod X T;unfold stk;split
  ·rename_i hz
   have:X/T≠4*D:=by
    intro e;rw[e,hz,Nat.mul_comm T (4*D)] at hdm;omega
   omega
  ·rw[or_one];omega
 ·left
  refine⟨h.symm,?_⟩;unfold stk;rw[← h,Nat.mul_mod_left,if_pos rfl,Nat.mul_div_cancel _ hT]
theorem short_core {Xmin Xmax T D odd:Nat}(hT:0<T) (h1:Xmin<=4*D*T) (h1e:Xmin=4*D*T->odd=0) (h2:4*D*T<=Xmax) (h2e:Xmax=4*D*T->odd=0)
  (h3:Xmax<4*(D+10)*T) (ho:odd<=1) (h10:D%10=0) :
  (stk Xmin T+odd+3)/4<=D/\(stk Xmax T-odd)/4/10=D/10/\odd<=stk Xmax T:=by
 have a:=stk_up hT h1;have b:=stk_dn hT h2;have c:=stk_up hT (Nat.le_of_lt h3)
 have c':stk Xmax T+1<=4*(D+10):=by
  rcases c with⟨e,_⟩|c
  ·omega
  ·exact c
 refine⟨?_,?_,?_⟩
 ·rcases a with⟨e,a⟩|a
  ·have:=h1e e;omega
  ·omega
 ·rcases b with⟨e,b⟩|b
  ·have:=h2e e;omega
  ·omega
 ·rcases b with⟨e,b⟩|b
  ·have:=h2e e;omega
  ·omega
structure Sc (q p lp:Nat):Prop where
 p1:10<=p
 p2:p<=19
 l1:lp<=63
 l2:lp<=q+8
 l3:q+8-lp<=63
 w:10^p*2^(63-lp)<2^64
 w1:2^63<=10^p*2^(63-lp)
theorem pow_split (p k:Nat) (h:k<=p):10^p=10^k*10^(p-k):=by rw[← Nat.pow_add];congr 1;omega
theorem short_plain {mt k M q p lp:Nat}(hk:k<=3) (hn:Near mt (10^k) (M*2^q)) (hs:Sc q p lp) (hw:10^p<10*2^q) :
  (us (mt*2^11-2^10) (10^p*2^(63-lp)) (q+8-lp)+mt%2+3)/4<=M*10^(p-k)/\(us (mt*2^11+2^10) (10^p*2^(63-lp)) (q+8-lp)-mt%2)/4/10=M*10^(p-k)/10/\mt%2<=us (mt*2^11+2^10) (10^p*2^(63-lp)) (q+8-lp):=by
 have hp1:=hs.p1;have hlo:=hn.lo;rw[us_eq _ _ _ (by omega),us_eq _ _ _ (by omega)];obtain⟨c,hc⟩:∃ c,10^(p-k)*2^(73-lp)=c:=⟨_,rfl⟩;have hl1:=hs.l1;have hl2:=hs.l2;have e1:2^(73-lp)=2^10*2^(63-lp):=by rw[← Nat.pow_add];congr 1;omega
 have hD4:4*(M*10^(p-k))*2^(64+(q+8-lp))=2*(M*2^q)*c:=by
  have:2^(64+(q+8-lp))*2=2^q*2^(73-lp):=by rw[← Nat.pow_succ,← Nat.pow_add];congr 1;omega
  have e2:4*(M*10^(p-k))*2^(64+(q+8-lp))=2*M*10^(p-k)*(2^(64+(q+8-lp))*2):=by
   rw[show (4:Nat)=2*2 from rfl];ac_rfl
  rw[e2,this,← hc]
  ac_rfl
 have hx1:(mt*2^11-2^10)*(10^p*2^(63-lp))=((2*mt-1)*10^k)*c:=by
  have:mt*2^11-2^10=(2*mt-1)*2^10:=by omega
  rw[this,pow_split p k (by omega),← hc,e1]
  ac_rfl
 have hx2:(mt*2^11+2^10)*(10^p*2^(63-lp))=((2*mt+1)*10^k)*c:=by
  have:mt*2^11+2^10=(2*mt+1)*2^10:=by omega
  rw[this,pow_split p k (by omega),← hc,e1]
  ac_rfl
 have hcpos:0<c:=by rw[← hc];exact Nat.mul_pos (Nat.pow_pos (by decide)) (Nat.two_pow_pos _)
 have ht:1<=10^k:=Nat.one_le_pow _ _ (by decide);have hu:=hn.up;have hd:=hn.dn;have hue:=hn.upe;have hde:=hn.dne;have m1:(2*mt-1)*10^k=2*(mt*10^k)-10^k:=by rw[Nat.sub_mul,Nat.one_mul,Nat.mul_assoc]
 have m2:(2*mt+1)*10^k=2*(mt*10^k)+10^k:=by rw[Nat.add_mul,Nat.one_mul,Nat.mul_assoc]
 have hmt:10^k<=mt*10^k:=Nat.le_mul_of_pos_left _ (by omega);refine short_core (Nat.two_pow_pos _) ?_ ?_ ?_ ?_ ?_ (by omega) ?_
 ·rw[hx1,hD4];exact Nat.mul_le_mul_right _ (by omega)
 ·rw[hx1,hD4];intro e;have:=Nat.eq_of_mul_eq_mul_right hcpos e;exact hue (by omega)
 ·rw[hx2,hD4];exact Nat.mul_le_mul_right _ (by omega)
 ·rw[hx2,hD4];intro e;have:=Nat.eq_of_mul_eq_mul_right hcpos e;exact hde (by omega)
 ·have e3:4*(M*10^(p-k)+10)*2^(64+(q+8-lp))=2*(M*2^q)*c+20*(2*2^(64+(q+8-lp))):=by
   rw[Nat.mul_add,Nat.add_mul,hD4];omega
  have e4:2*2^(64+(q+8-lp))=2^q*2^(73-lp):=by rw[← Nat.pow_succ',← Nat.pow_add];congr 1;omega
  have e5:10^k*c=10^p*2^(73-lp):=by rw[← hc,pow_split p k (by omega),Nat.mul_assoc]
  have e6:10^p*2^(73-lp)<10*2^q*2^(73-lp):=Nat.mul_lt_mul_of_pos_right hw (Nat.two_pow_pos _);rw[hx2,e3,e4];have e7:(2*mt+1)*10^k*c<=(2*(M*2^q)+2*10^k)*c:=Nat.mul_le_mul_right _ (by omega);have e8:(2*(M*2^q)+2*10^k)*c=2*(M*2^q)*c+2*(10^p*2^(73-lp)):=by rw[Nat.add_mul,Nat.mul_assoc 2 (10^k) c,e5]
  rw[e8] at e7;rw[Nat.mul_assoc] at e6;omega
 ·have:10^(p-k)=10*10^(p-k-1):=by rw[← Nat.pow_succ'];congr 1;omega
  rw[this,← Nat.mul_assoc,Nat.mul_comm M 10,Nat.mul_assoc];simp
theorem short_skew {k M q p lp:Nat}(hk:k<=3) (hn:Near (2^52) (10^k) (M*2^q)) (hs:Sc q p lp) (hw:3*10^p<40*2^q) :
  (us (2^63-2^9) (10^p*2^(63-lp)) (q+8-lp)+0+3)/4<=M*10^(p-k)/\(us (2^63+2^10) (10^p*2^(63-lp)) (q+8-lp)-0)/4/10=M*10^(p-k)/10/\0<=us (2^63+2^10) (10^p*2^(63-lp)) (q+8-lp):=by
 have hp1:=hs.p1;rw[us_eq _ _ _ (by decide),us_eq _ _ _ (by decide)];obtain⟨c,hc⟩:∃ c,10^(p-k)*2^(72-lp)=c:=⟨_,rfl⟩;have hl1:=hs.l1;have hl2:=hs.l2;have e1:2^(72-lp)=2^9*2^(63-lp):=by rw[← Nat.pow_add];congr 1;omega
 have hD4:4*(M*10^(p-k))*2^(64+(q+8-lp))=4*(M*2^q)*c:=by
  have:2^(64+(q+8-lp))=2^q*2^(72-lp):=by rw[← Nat.pow_add];congr 1;omega
  rw[this,← hc];ac_rfl
 have hx1:(2^63-2^9)*(10^p*2^(63-lp))=((4*2^52-1)*10^k)*c:=by
  have:2^63-2^9=(4*2^52-1)*2^9:=by decide
  rw[this,pow_split p k (by omega),← hc,e1];ac_rfl
 have hx2:(2^63+2^10)*(10^p*2^(63-lp))=((4*2^52+2)*10^k)*c:=by
  have:2^63+2^10=(4*2^52+2)*2^9:=by decide
  rw[this,pow_split p k (by omega),← hc,e1];ac_rfl
 have hd:=hn.dn;have hsk:=hn.sk rfl;have ht:1<=10^k:=Nat.one_le_pow _ _ (by decide);obtain⟨t,htt⟩:∃ t,10^k=t:=⟨_,rfl⟩;obtain⟨X,hX⟩:∃ X,M*2^q=X:=⟨_,rfl⟩;rw[htt,hX] at hd hsk;rw[htt] at hx1 hx2 ht;rw[hX] at hD4;refine short_core (Nat.two_pow_pos _) ?_ (fun _=>rfl) ?_ (fun _=>rfl) ?_ (by omega) ?_
 ·rw[hx1,hD4];exact Nat.mul_le_mul_right _ (by omega)
 ·rw[hx2,hD4];exact Nat.mul_le_mul_right _ (by omega)
 ·have e3:4*(M*10^(p-k)+10)*2^(64+(q+8-lp))=4*X*c+40*2^(64+(q+8-lp)):=by
   rw[Nat.mul_add,Nat.add_mul,hD4]
  have e4:2^(64+(q+8-lp))=2^q*2^(72-lp):=by rw[← Nat.pow_add];congr 1;omega
  have e5:t*c=10^p*2^(72-lp):=by rw[← hc,pow_split p k (by omega),← htt,Nat.mul_assoc]
  have e6:3*10^p*2^(72-lp)<40*2^q*2^(72-lp):=Nat.mul_lt_mul_of_pos_right hw (Nat.two_pow_pos _);rw[hx2,e3,e4];have e7:(4*2^52+2)*t*c<=(4*X+3*t)*c:=Nat.mul_le_mul_right _ (by omega);have e8:(4*X+3*t)*c=4*X*c+3*(10^p*2^(72-lp)):=by rw[Nat.add_mul,Nat.mul_assoc 3 t c,e5]
  rw[e8] at e7;rw[Nat.mul_assoc,Nat.mul_assoc] at e6;omega
 ·have:10^(p-k)=10*10^(p-k-1):=by rw[← Nat.pow_succ'];congr 1;omega
  rw[this,← Nat.mul_assoc,Nat.mul_comm M 10,Nat.mul_assoc];simp
end
section
open Go.RowKit
theorem grownBy_setCell (w:World) (B i:Nat) (v:Value):w.grownBy (w.setCell ⟨B,i,none⟩ v) (some B):=
 ⟨rfl,rfl,rfl,by simp,fun k _ hne=>Below.heap_setCell _ _ _ _ (by intro e;apply hne;rw[e])⟩
theorem grownBy_drewN {w w':World}{r:Option Nat}(h:w.grownBy w' r) (n:Nat):w.grownBy (w'.drewN n) r:=⟨h.os,h.tape,h.output,h.size,h.block⟩
theorem grownBy_refl (w:World) (r:Option Nat):w.grownBy w r:=⟨rfl,rfl,rfl,Nat.le_refl _,fun _ _ _=>rfl⟩
theorem grownBy_trans {a b c:World}{r:Option Nat}(h:a.grownBy b r) (k:b.grownBy c r):a.grownBy c r:=
 ⟨k.os.trans h.os,k.tape.trans h.tape,k.output.trans h.output,Nat.le_trans h.size k.size,fun i hi hr=>(k.block i (Nat.lt_of_lt_of_le hi h.size) hr).trans (h.block i hi hr)⟩
theorem Tryz.underlying9:Tryz.prog.underlying 9=some .string:=by kernel_rfl
theorem index_byte (s:ByteArray) (p:Nat) (h:p/8<s.size) (w:World) :
  (Instr.index 9 (.string s) (.int .i64 ((p:Int)/8))).run Tryz.prog w=.ok (.int .u8 ((s.data.toList.getD (p/8) 0).toNat:Int)) w:=by
 rw[run_index_string w _ _ _ _ Tryz.underlying9,dif_pos ⟨by omega,by omega⟩];have e:((p:Int)/8).toNat=p/8:=by omega
 congr 3;simp only[e];rw[List.getD_eq_getElem?_getD];simp[ByteArray.getElem_eq_getElem_data,h]
end
section
open Go.RowKit
def pf (q:Nat):Nat:=(q*78913+262143)/262144
def ps (q:Nat):Nat:=(q*631305+261663+2097151)/2097152
def lpf (p:Nat):Nat:=p*108853/32768
theorem sc_plain (q:Nat) (h1:33<=q) (h2:q<=62):Sc q (pf q) (lpf (pf q))/\10^pf q<10*2^q:=by
 have h:∀ i:Fin 30,(10<=pf (33+i.1)/\pf (33+i.1)<=19/\lpf (pf (33+i.1))<=63/\lpf (pf (33+i.1))<=33+i.1+8/\33+i.1+8-lpf (pf (33+i.1))<=63 /\
   10^pf (33+i.1)*2^(63-lpf (pf (33+i.1)))<2^64/\2^63<=10^pf (33+i.1)*2^(63-lpf (pf (33+i.1))))/\10^pf (33+i.1)<10*2^(33+i.1):=by decide
 have:=h ⟨q-33,by omega⟩;rw[show 33+(⟨q-33,by omega⟩:Fin 30).1=q by simp;omega] at this;obtain⟨⟨a,b,c,d,e,f,g⟩,i⟩:=this;exact⟨⟨a,b,c,d,e,f,g⟩,i⟩
theorem sc_skew (q:Nat) (h1:33<=q) (h2:q<=62):Sc q (ps q) (lpf (ps q))/\3*10^ps q<40*2^q:=by
 have h:∀ i:Fin 30,(10<=ps (33+i.1)/\ps (33+i.1)<=19/\lpf (ps (33+i.1))<=63/\lpf (ps (33+i.1))<=33+i.1+8/\33+i.1+8-lpf (ps (33+i.1))<=63 /\
   10^ps (33+i.1)*2^(63-lpf (ps (33+i.1)))<2^64/\2^63<=10^ps (33+i.1)*2^(63-lpf (ps (33+i.1))))/\3*10^ps (33+i.1)<40*2^(33+i.1):=by decide
 have:=h ⟨q-33,by omega⟩;rw[show 33+(⟨q-33,by omega⟩:Fin 30).1=q by simp;omega] at this;obtain⟨⟨a,b,c,d,e,f,g⟩,i⟩:=this;exact⟨⟨a,b,c,d,e,f,g⟩,i⟩
theorem s_least (q:Nat) (h1:33<=q) (h2:q<=62):2<=q+8-lpf (pf q)/\2<=q+8-lpf (ps q):=by
 have h:∀ i:Fin 30,2<=33+i.1+8-lpf (pf (33+i.1))/\2<=33+i.1+8-lpf (ps (33+i.1)):=by decide
 have:=h ⟨q-33,by omega⟩;rw[show 33+(⟨q-33,by omega⟩:Fin 30).1=q by simp;omega] at this;exact this
theorem us_lt (x pm s:Nat) (hx:x<2^64) (hp:pm<2^64) (hs:2<=s):us x pm s<2^63:=by
 have h1:x*pm/2^64<2^64:=Nat.div_lt_of_lt_mul (Nat.mul_lt_mul'' hx hp);have h2:2^2<=2^s:=Nat.pow_le_pow_right (by decide) hs;have h3:x*pm/2^64/2^s<=x*pm/2^64/2^2:=Nat.div_le_div_left h2 (by decide);unfold us;split
 ·rw[or_one];omega
 ·split
  ·rw[or_one];omega
  ·rw[Nat.or_zero];omega
theorem grown_drew {w w':World}{r:Option Nat}(h:w.grownBy w' r):w.grownBy w'.drew r:=⟨h.os,h.tape,h.output,h.size,h.block⟩
theorem u64_wrap (n:Int):IntKind.u64.wrap n=n%18446744073709551616:=by
 simp[IntKind.wrap,IntKind.bits,IntKind.signed]
set_option maxHeartbeats 400000 in
theorem log10_any (w:World) (x:Int) (h1:-2000<=x) (h2:x<=2000) :
  Calls Tryz.prog 189 #[.int .i64 x] w fun e w'=>e=.returned (.int .i64 (x*78913/262144))/\w=w':=by
 go_enter Tryz.func189,Tryz.ntmps189
 go_wp2
 go_ret
 exact⟨rfl,rfl⟩
set_option maxHeartbeats 400000 in
theorem log2_any (w:World) (x:Int) (h1:-2000<=x) (h2:x<=2000) :
  Calls Tryz.prog 229 #[.int .i64 x] w fun e w'=>e=.returned (.int .i64 (x*108853/32768))/\w=w':=by
 go_enter Tryz.func229,Tryz.ntmps229
 go_wp2
 go_ret
 exact⟨rfl,rfl⟩
set_option maxHeartbeats 400000 in
theorem skewed_any (w:World) (x:Int) (h1:-2000<=x) (h2:x<=2000) :
  Calls Tryz.prog 227 #[.int .i64 x] w fun e w'=>e=.returned (.int .i64 ((x*631305-261663)/2097152))/\w=w':=by
 go_enter Tryz.func227,Tryz.ntmps227
 go_wp2
 go_ret
 exact⟨rfl,rfl⟩
set_option maxHeartbeats 400000 in
theorem bool2_any (w:World) (b:Bool) :
  Calls Tryz.prog 248 #[.bool b] w fun e w'=>e=.returned (.int .u64 (if b then 1 else 0))/\w=w':=by
 cases b
 ·go_enter Tryz.func248,Tryz.ntmps248
  go_wp2
  go_ret
  exact⟨rfl,rfl⟩
 ·go_enter Tryz.func248,Tryz.ntmps248
  go_wp2
  go_ret
  exact⟨rfl,rfl⟩
theorem bool2_t (w:World):Calls Tryz.prog 248 #[.bool true] w fun e w'=>e=.returned (.int .u64 1)/\w=w':=bool2_any w true
theorem bool2_f (w:World):Calls Tryz.prog 248 #[.bool false] w fun e w'=>e=.returned (.int .u64 0)/\w=w':=bool2_any w false
set_option maxHeartbeats 400000 in
theorem ceil_any (w:World) (u:Nat) (h:u<2^63) :
  Calls Tryz.prog 232 #[.int .u64 (u:Int)] w fun e w'=>e=.returned (.int .u64 (((u+3)/4:Nat):Int))/\w=w':=by
 go_enter Tryz.func232,Tryz.ntmps232
 go_wp2
 go_ret
 refine⟨congrArg (fun n=>Ending.returned (Value.int .u64 n)) ?_,rfl⟩;omega
set_option maxHeartbeats 400000 in
theorem floor_any (w:World) (u:Nat) (h:u<2^63) :
  Calls Tryz.prog 233 #[.int .u64 (u:Int)] w fun e w'=>e=.returned (.int .u64 ((u/4:Nat):Int))/\w=w':=by
 go_enter Tryz.func233,Tryz.ntmps233
 go_wp2
 go_ret
 refine⟨congrArg (fun n=>Ending.returned (Value.int .u64 n)) ?_,rfl⟩;omega
set_option maxHeartbeats 400000 in
theorem nudge_up (w:World) (u o:Nat) (h:u<2^63) (ho:o<=1) :
  Calls Tryz.prog 231 #[.int .u64 (u:Int),.int .i64 (o:Int)] w fun e w'=>e=.returned (.int .u64 ((u+o:Nat):Int))/\w=w':=by
 go_enter Tryz.func231,Tryz.ntmps231
 go_wp2
 go_ret
 refine⟨congrArg (fun n=>Ending.returned (Value.int .u64 n)) ?_,rfl⟩;omega
set_option maxHeartbeats 400000 in
theorem nudge_dn (w:World) (u o:Nat) (h:u<2^63) (ho:o<=1) (hu:o<=u) :
  Calls Tryz.prog 231 #[.int .u64 (u:Int),.int .i64 (-(o:Int))] w fun e w'=>e=.returned (.int .u64 ((u-o:Nat):Int))/\w=w':=by
 go_enter Tryz.func231,Tryz.ntmps231
 go_wp2
 go_ret
 refine⟨congrArg (fun n=>Ending.returned (Value.int .u64 n)) ?_,rfl⟩;rw[u64_wrap,u64_wrap];omega
def PowTab (w:World):Prop:=∀ p:Nat,10<=p->p<=19->w.cell? ⟨16,(p+348)*2,none⟩=some (.int .u64 ((10^p*2^(63-lpf p):Nat):Int))/\w.cell? ⟨16,(p+348)*2+1,none⟩=some (.int .u64 0)
set_option maxHeartbeats 1000000 in
set_option maxRecDepth 100000 in
theorem prescale_any (w:World) (P p:Nat) (e lp:Int) (a b:Int) (c:Int) (hP:w.heap[P]?=some (.cells #[.int .u64 a,.int .u64 b,.int .i64 c] 274 (0,0))) (hT:PowTab w) (hp1:10<=p) (hp2:p<=19)
  (he:-2000<=e/\e<=2000) (hl:-2000<=lp/\lp<=2000) :
  Calls Tryz.prog 228 #[.pointer (some ⟨P,0,none⟩),.int .i64 e,.int .i64 (p:Int),.int .i64 lp] w fun en w'=>en=.returned (.tuple #[])/\w'.heap[P]?=some (.cells #[.int .u64 ((10^p*2^(63-lpf p):Nat):Int),.int .u64 0,.int .i64 (-(e+lp+3))] 274 (0,0))/\w.grownBy w' (some P):=by
 obtain⟨h1,h2⟩:=hT p hp1 hp2;have c0:w.cell? ⟨P,0,none⟩=some (.int .u64 a):=by simp[World.cell?,hP]
 have c1:w.cell? ⟨P,1,none⟩=some (.int .u64 b):=by simp[World.cell?,hP]
 have c2:w.cell? ⟨P,2,none⟩=some (.int .i64 c):=by simp[World.cell?,hP]
 have f0:w.frozen? ⟨P,0,none⟩=false:=by simp[World.frozen?,hP]
 have f1:w.frozen? ⟨P,1,none⟩=false:=by simp[World.frozen?,hP]
 have f2:w.frozen? ⟨P,2,none⟩=false:=by simp[World.frozen?,hP]
 obtain⟨pm,hpm⟩:∃ pm:Nat,10^p*2^(63-lpf p)=pm:=⟨_,rfl⟩;rw[hpm] at h1 ⊢;clear hpm hT
 go_enter Tryz.func228,Tryz.ntmps228
 go_wp2
 first | go_end0 | refine bodyPost_ret (results_none rfl _ _ _) rfl ?_
 have e1:=heap_setCell_same w P 0 _ _ (.int .u64 (pm:Int)) hP;have e2:=heap_setCell_same _ P 1 _ _ (.int .u64 0) e1;have e3:=heap_setCell_same _ P 2 _ _ (.int .i64 (-(e+lp+3))) e2;exact⟨rfl,by simpa using e3,grownBy_trans (grownBy_trans (grownBy_setCell w P 0 _) (grownBy_setCell _ P 1 _)) (grownBy_setCell _ P 2 _)⟩
end
section
open Go.RowKit
theorem low32 (a:Nat) (ha:a<2^64):bits .and .u64 (a:Int) 4294967295=((a%4294967296:Nat):Int):=by
 have h:=bits_and_u64_nat a 4294967295 (by omega) (by omega);rw[show a &&& 4294967295=a%4294967296 from Nat.and_two_pow_sub_one_eq_mod a 32] at h;exact h
theorem fits64 (a:Nat) (ha:a<18446744073709551616):IntKind.u64.wrap (a:Int)=(a:Int):=by rw[u64_wrap];omega
theorem cast_div32 (a:Nat):(a:Int)/4294967296=((a/4294967296:Nat):Int):=by omega
theorem cast_mul' (a b:Nat):(a:Int)*(b:Int)=((a*b:Nat):Int):=(Int.natCast_mul a b).symm
theorem cast_add' (a b:Nat):(a:Int)+(b:Int)=((a+b:Nat):Int):=(Int.natCast_add a b).symm
theorem wrap64N (a:Nat):IntKind.u64.wrap (a:Int)=((a%18446744073709551616:Nat):Int):=by rw[u64_wrap];omega
set_option maxHeartbeats 1000000 in
theorem mul64_any (w:World) (x y:Nat) (hx:x<2^64) (hy:y<2^64) :
  Calls Tryz.prog 223 #[.int .u64 (x:Int),.int .u64 (y:Int)] w fun e w'=>e=.returned (.tuple #[.int .u64 ((x*y/2^64:Nat):Int),.int .u64 ((x*y%2^64:Nat):Int)])/\w=w':=by
 obtain⟨b1,b2,b3,hh⟩:=Lib.mul64_hi x y hx hy;have p1:=Lib.half_mul_le (a:=x/4294967296) (b:=y/4294967296) (by omega) (by omega);have p2:=Lib.half_mul_le (a:=x/4294967296) (b:=y%4294967296) (by omega) (by omega);have p3:=Lib.half_mul_le (a:=x%4294967296) (b:=y/4294967296) (by omega) (by omega);have q1:x/4294967296*(y/4294967296)<18446744073709551616:=by omega
 have q2:x/4294967296*(y%4294967296)<18446744073709551616:=by omega
 have q3:x%4294967296*(y/4294967296)<18446744073709551616:=by omega
 have q4:x/4294967296*(y/4294967296)+(x/4294967296*(y%4294967296)+x%4294967296*(y%4294967296)/4294967296)/4294967296<18446744073709551616:=by omega
 have hxy:x*y/18446744073709551616<18446744073709551616:=Nat.div_lt_of_lt_mul (Nat.mul_lt_mul'' hx hy)
 go_enter Tryz.func223,Tryz.ntmps223
 go_wp2
 simp only[low32 x hx,low32 y hy,cast_div32,cast_mul',cast_add',fits64 _ b1,fits64 _ q2,fits64 _ b2,low32 _ b2,fits64 _ q3,fits64 _ b3,fits64 _ q1,fits64 _ q4,wrap64N (x*y),hh,fits64 _ hxy]
 go_ret2
 exact⟨rfl,rfl⟩
theorem or_u64 (a b:Nat) (ha:a<2^64) (hb:b<2^64):bits .or .u64 (a:Int) (b:Int)=((a ||| b:Nat):Int):=by
 exact bits_or_u64_nat a b (by omega) (by omega)
set_option maxHeartbeats 2000000 in
set_option maxRecDepth 100000 in
theorem uscale_any (w:World) (P x pm s:Nat) (hP:w.heap[P]?=some (.cells #[.int .u64 (pm:Int),.int .u64 0,.int .i64 (s:Int)] 274 (0,0))) (hx:x<2^64) (hpm:pm<2^64) (hs:s<=63) :
  Calls Tryz.prog 230 #[.int .u64 (x:Int),.pointer (some ⟨P,0,none⟩)] w fun e w'=>e=.returned (.int .u64 (us x pm s:Int))/\w.grownBy w' none:=by
 have c0:w.cell? ⟨P,0,none⟩=some (.int .u64 (pm:Int)):=by simp[World.cell?,hP]
 have c1:w.cell? ⟨P,1,none⟩=some (.int .u64 0):=by simp[World.cell?,hP]
 have c2:w.cell? ⟨P,2,none⟩=some (.int .i64 (s:Int)):=by simp[World.cell?,hP]
 have h63:bits .and .i64 (s:Int) 63=(s:Int):=by
  have h:∀ i:Fin 64,bits .and .i64 (i.1:Int) 63=(i.1:Int):=by decide
  exact h ⟨s,by omega⟩
 obtain⟨hi,hhi⟩:∃ hi,x*pm/2^64=hi:=⟨_,rfl⟩;obtain⟨mid,hmid⟩:∃ mid,x*pm%2^64=mid:=⟨_,rfl⟩;have hm:=mul64_any w x pm hx hpm;have hhl:hi<2^64:=by rw[← hhi];exact Nat.div_lt_of_lt_mul (Nat.mul_lt_mul'' hx hpm)
 have hml:mid<2^64:=by rw[← hmid];exact Nat.mod_lt _ (Nat.two_pow_pos _)
 have hz:=mul64_any w x 0 hx (by decide);rw[hhi,hmid] at hm;have US:Hid (us x pm s=if hi/2^s*2^s≠hi then (hi/2^s) ||| 1 else (hi/2^s) ||| (if 1<mid then 1 else 0)):=by unfold us;rw[hhi,hmid];rfl
 obtain⟨u,hu⟩:∃ u,us x pm s=u:=⟨_,rfl⟩;rw[hu] at US ⊢;clear hhi hmid hu;have hle:hi/2^s*2^s<=hi:=Nat.div_mul_le_self hi (2^s);have hyl:hi/2^s<=hi:=Nat.div_le_self _ _;obtain⟨y,hy⟩:∃ y,hi/2^s=y:=⟨_,rfl⟩;have hdv:(hi:Int)/2^s=(y:Int):=by rw[← hy];simp
 rw[hy] at US hle hyl;clear hy;obtain⟨z,hz'⟩:∃ z,y*2^s=z:=⟨_,rfl⟩
 have hwz:IntKind.u64.wrap ((y:Int)*2^s)=(z:Int):=by
  have e:(y:Int)*2^s=(z:Int):=by rw[← hz'];simp
  rw[e,u64_wrap];rw[hz'] at hle;omega
 rw[hz'] at US hle;clear hz';have hor1:=or_u64 y 1 (by omega) (by decide);have hor0:=or_u64 y 0 (by omega) (by decide)
 by_cases hc:z=hi
 ·have hne:((z:Int) != (hi:Int))=false:=by simp[hc]
  have U2:Hid (u=y ||| (if 1<mid then 1 else 0)):=by have:=unh US;rw[if_neg (by omega)] at this;exact this
  have hm0:decide ((mid:Int)<0)=false:=by simp
  clear US hc
  go_enter Tryz.func230,Tryz.ntmps230
  go_wp2_with fail
  refine hm.mono ?_;rintro e w1 ⟨rfl,rfl⟩;clear hm
  go_wp2_with (first | (go_at_call 223;refine hz.mono ?_;rintro e w1 ⟨rfl,rfl⟩) | (go_at_call 248;refine (bool2_f _).mono ?_;rintro e w1 ⟨rfl,rfl⟩))
  clear hz;have hwm:=fits64 mid (by omega)
  by_cases h1m:1<mid
  ·have hg:decide ((1:Int)<(mid:Int))=true:=by simp;omega
   have U3:Hid (u=y ||| 1):=by have:=unh U2;rw[if_pos h1m] at this;exact this
   clear U2 h1m
   go_region_with (go_at_call 248;refine (bool2_t _).mono ?_;rintro e w1 ⟨rfl,rfl⟩)
   all_goals
    go_wp2_with fail
    go_ret
    refine⟨?_,grown_drew (grownBy_refl _ _)⟩;rw[unh U3];exact congrArg (fun n=>Ending.returned (Value.int .u64 n)) hor1
  ·have hg:decide ((1:Int)<(mid:Int))=false:=by simp;omega
   have U3:Hid (u=y ||| 0):=by have:=unh U2;rw[if_neg h1m] at this;exact this
   clear U2 h1m
   go_region_with (go_at_call 248;refine (bool2_f _).mono ?_;rintro e w1 ⟨rfl,rfl⟩)
   all_goals
    go_wp2_with fail
    go_ret
    refine⟨?_,grown_drew (grownBy_refl _ _)⟩;rw[unh U3];exact congrArg (fun n=>Ending.returned (Value.int .u64 n)) hor0
 ·have hne:((z:Int) != (hi:Int))=true:=by simp;omega
  have U2:Hid (u=y ||| 1):=by have:=unh US;rw[if_pos hc] at this;exact this
  clear US hc hz
  go_enter Tryz.func230,Tryz.ntmps230
  go_wp2_with fail
  refine hm.mono ?_;rintro e w1 ⟨rfl,rfl⟩;clear hm
  go_wp2_with fail
  go_ret
  refine⟨?_,grownBy_refl _ _⟩;rw[unh U2];exact congrArg (fun n=>Ending.returned (Value.int .u64 n)) hor1
end
section
open Go.RowKit
theorem PowTab.kept {w w':World}(h:PowTab w) (hb:w'.heap[16]?=w.heap[16]?):PowTab w':=by
 intro p h1 h2;obtain⟨a,b⟩:=h p h1 h2;exact⟨by rw[World.cell?_of_block (w:=w) hb];exact a,by rw[World.cell?_of_block (w:=w) hb];exact b⟩
theorem and1_i64 (a:Nat) (ha:a<2^62):bits .and .i64 (a:Int) 1=((a%2:Nat):Int):=by
 have h1:(BitVec.ofInt 64 (a:Int)).toNat=a:=by rw[BitVec.ofInt_natCast,BitVec.toNat_ofNat];exact Nat.mod_eq_of_lt (by omega)
 have h2:(BitVec.ofInt 64 (1:Int)).toNat=1:=by decide
 show IntKind.i64.wrap ((BitVec.ofInt 64 (a:Int) &&& BitVec.ofInt 64 (1:Int)).toNat:Int)=_;rw[BitVec.toNat_and,h1,h2,Nat.and_one_is_mod,wraps_i64 _ (by omega) (by omega)]
set_option maxHeartbeats 4000000 in
set_option maxRecDepth 100000 in
theorem shortP_any (w:World) (mt q M k:Nat) (hq1:33<=q) (hq2:q<=62) (hk:k<=3) (hn:Near mt (10^k) (M*2^q)) (hmt:mt≠2^52) (hT:PowTab w) (h16:16<w.heap.size) :
  Calls Tryz.prog 215 #[.int .u64 ((mt*2^11:Nat):Int),.int .i64 (-((q+11:Nat):Int))] w fun e w'=>e=.returned (.tuple #[.int .u64 ((M*10^(pf q-k)/10:Nat):Int),.int .i64 (-((pf q-1:Nat):Int))])/\Below w.heap.size w w':=by
 obtain⟨hs,hw⟩:=sc_plain q hq1 hq2;have hs2:=(s_least q hq1 hq2).1;obtain⟨r1,r2,r3⟩:=short_plain hk hn hs hw;have hp1:=hs.p1;have hp2:=hs.p2;have hl1:=hs.l1;have hl2:=hs.l2;have hl3:=hs.l3;have hpw:=hs.w;have hlo:=hn.lo;have hhi:=hn.hi;have hpf:(-(q:Int))*78913/262144=-((pf q:Nat):Int):=by unfold pf;omega
 have hlf:((pf q:Nat):Int)*108853/32768=((lpf (pf q):Nat):Int):=by unfold lpf;omega
 have hD10:M*10^(pf q-k)%10=0:=by
  have:10^(pf q-k)=10*10^(pf q-k-1):=by rw[← Nat.pow_succ'];congr 1;omega
  rw[this,← Nat.mul_assoc,Nat.mul_comm M 10,Nat.mul_assoc];simp
 have hPT:=fun p h1 h2=>hT p h1 h2
 obtain⟨D,hD⟩:∃ D,M*10^(pf q-k)=D:=⟨_,rfl⟩;rw[hD] at r1 r2 hD10 ⊢;have hpm:10^pf q*2^(63-lpf (pf q))<2^64:=hpw;have u1l:=us_lt (mt*2^11-2^10) _ (q+8-lpf (pf q)) (by omega) hpm hs2;have u2l:=us_lt (mt*2^11+2^10) _ (q+8-lpf (pf q)) (by omega) hpm hs2;have U1:=fun (W:World) (P:Nat) h=>uscale_any W P (mt*2^11-2^10) (10^pf q*2^(63-lpf (pf q))) (q+8-lpf (pf q)) h (by omega) hpm hl3
 have U2:=fun (W:World) (P:Nat) h=>uscale_any W P (mt*2^11+2^10) (10^pf q*2^(63-lpf (pf q))) (q+8-lpf (pf q)) h (by omega) hpm hl3
 obtain⟨u1,hu1⟩:∃ u,us (mt*2^11-2^10) (10^pf q*2^(63-lpf (pf q))) (q+8-lpf (pf q))=u:=⟨_,rfl⟩;obtain⟨u2,hu2⟩:∃ u,us (mt*2^11+2^10) (10^pf q*2^(63-lpf (pf q))) (q+8-lpf (pf q))=u:=⟨_,rfl⟩;rw[hu1] at r1 u1l U1;rw[hu2] at r2 r3 u2l U2;have hm0:((((mt*2^11:Nat):Int))==9223372036854775808)=false:=by rw[beq_eq_false_iff_ne];omega
 have hand:=and1_i64 mt (by omega);obtain⟨p,hp⟩:∃ p,pf q=p:=⟨_,rfl⟩;rw[hp] at hpf hlf hp1 hp2 hl1 hl2 hl3 hpm U1 U2 ⊢;obtain⟨lp,hlp⟩:∃ lp,lpf p=lp:=⟨_,rfl⟩;rw[hlp] at hlf hl1 hl2 hl3 hpm U1 U2;obtain⟨m,hm⟩:∃ m,mt*2^11=m:=⟨_,rfl⟩;rw[hm] at hm0 U1 U2 ⊢;have hm11:(m:Int)/2048=(mt:Int):=by omega
 obtain⟨x1,hx1⟩:∃ x,m-2^10=x:=⟨_,rfl⟩;obtain⟨x2,hx2⟩:∃ x,m+2^10=x:=⟨_,rfl⟩;rw[hx1] at U1;rw[hx2] at U2;have hx1':(m:Int)-1024=(x1:Int):=by omega
 have hx2':(m:Int)+1024=(x2:Int):=by omega
 have hxl1:x1<2^64:=by omega
 have hxl2:x2<2^64:=by omega
 have hml:m<2^64:=by omega
 obtain⟨o,ho⟩:∃ o,mt%2=o:=⟨_,rfl⟩;have ho1:o<=1:=by omega
 rw[ho] at hand r1 r2 r3;obtain⟨ee,hee⟩:∃ ee:Int,-((q+11:Nat):Int)=ee:=⟨_,rfl⟩;rw[hee];have hlg:(ee+11)*78913/262144=-(p:Int):=by rw[← hpf];congr 2;omega
 have hee1:-2000<=ee/\ee<=2000:=by omega
 have hsE:-(ee+(lp:Int)+3)=((q+8-lp:Nat):Int):=by omega
 have hee2:-1085<=ee:=by omega
 have hm63:¬ ((m:Int)=9223372036854775808):=by rw[beq_eq_false_iff_ne] at hm0;exact hm0
 obtain⟨d1,hd1⟩:∃ d,(u1+o+3)/4=d:=⟨_,rfl⟩;obtain⟨d2,hd2⟩:∃ d,(u2-o)/4=d:=⟨_,rfl⟩;rw[hd1] at r1;rw[hd2] at r2;obtain⟨d,hd⟩:∃ d,D/10=d:=⟨_,rfl⟩;rw[hd] at r2 ⊢;have hdd:(d2:Int)/10=(d:Int):=by omega
 have hge:(d1:Int)<=(d:Int)*10:=by omega
 have hd10:d*10<2^62:=by omega
 have hpp:(p:Int)-1=((p-1:Nat):Int):=by omega
 have N1:=fun W=>nudge_up W u1 o u1l ho1
 have C1:=fun W=>ceil_any W (u1+o) (by omega)
 have N2:=fun W=>nudge_dn W u2 o u2l ho1 r3
 have C2:=fun W=>floor_any W (u2-o) (by omega)
 rw[hd1] at C1;rw[hd2] at C2;have hB0:Below w.heap.size w (w.alloc (.cells #[.int .u64 0,.int .u64 0,.int .i64 0] 274)):=(Below.refl _ _).alloc (Nat.le_refl _) _;have hT0:=hT.kept (hB0.block _ h16);have hP0:(w.alloc (.cells #[.int .u64 0,.int .u64 0,.int .i64 0] 274)).heap[w.heap.size]?=some (.cells #[.int .u64 0,.int .u64 0,.int .i64 0] 274 (0,0)):=World.alloc_heap_new w _;have PS:=prescale_any _ w.heap.size p ee (lp:Int) 0 0 0 hP0 hT0 hp1 hp2 hee1 (by omega);rw[hlp,hsE] at PS;obtain⟨pm,hpme⟩:∃ pm,10^p*2^(63-lp)=pm:=⟨_,rfl⟩;rw[hpme] at PS U1 U2 hpm;clear hpme hlp hp hu1 hu2 hD hs hw hs2 hPT hn hlo hhi hm hx1 hx2 ho hd1 hd2 hd hT hT0 hP0 hee hpf hl1 hl2 hl3 hD10 r1 r2 r3 hq1 hq2
 go_enter Tryz.func215,Tryz.ntmps215
 go_wp2_with (first | (go_at_call 189;refine (log10_any _ _ (by omega) (by omega)).mono ?_;rintro e w1 ⟨rfl,rfl⟩) | (go_at_call 229;refine (log2_any _ _ (by omega) (by omega)).mono ?_;rintro e w1 ⟨rfl,rfl⟩))
 refine PS.mono ?_;rintro e w1 ⟨rfl,hP1,hg1⟩;have hB1:Below w.heap.size w w1:=hB0.grown hg1 hB0.size (fun k e=>by simp at e;omega);clear PS hB0
 go_wp2_with fail
 refine (U1 w1 _ hP1).mono ?_;rintro e w2 ⟨rfl,hg2⟩;have hP2:=(hg2.block w.heap.size (Array.getElem?_eq_some_iff.1 hP1).1 (by simp)).trans hP1;have hB2:Below w.heap.size w w2:=hB1.grown hg2 hB1.size (fun k e=>by simp at e);clear U1 hP1 hg1 hB1
 go_wp2_with (first | (go_at_call 231;refine (N1 _).mono ?_;rintro e w3 ⟨rfl,rfl⟩) | (go_at_call 232;refine (C1 _).mono ?_;rintro e w3 ⟨rfl,rfl⟩))
 refine (U2 w2 _ hP2).mono ?_;rintro e w4 ⟨rfl,hg4⟩;have hB4:Below w.heap.size w w4:=hB2.grown hg4 hB2.size (fun k e=>by simp at e);clear U2 hP2 hg4 hB2 N1 C1 hg2
 go_wp2_with (first | (go_at_call 231;refine (N2 _).mono ?_;rintro e w3 ⟨rfl,rfl⟩) | (go_at_call 233;refine (C2 _).mono ?_;rintro e w3 ⟨rfl,rfl⟩))
 go_ret2
 exact⟨rfl,hB4⟩
set_option maxHeartbeats 4000000 in
set_option maxRecDepth 100000 in
theorem shortS_any (w:World) (q M k:Nat) (hq1:33<=q) (hq2:q<=62) (hk:k<=3) (hn:Near (2^52) (10^k) (M*2^q)) (hT:PowTab w) (h16:16<w.heap.size) :
  Calls Tryz.prog 215 #[.int .u64 9223372036854775808,.int .i64 (-((q+11:Nat):Int))] w fun e w'=>e=.returned (.tuple #[.int .u64 ((M*10^(ps q-k)/10:Nat):Int),.int .i64 (-((ps q-1:Nat):Int))])/\Below w.heap.size w w':=by
 obtain⟨hs,hw⟩:=sc_skew q hq1 hq2;have hs2:=(s_least q hq1 hq2).2;obtain⟨r1,r2,_⟩:=short_skew hk hn hs hw;have hp1:=hs.p1;have hp2:=hs.p2;have hl1:=hs.l1;have hl2:=hs.l2;have hl3:=hs.l3;have hpf:(-(q:Int)*631305-261663)/2097152=-((ps q:Nat):Int):=by unfold ps;omega
 have hlf:((ps q:Nat):Int)*108853/32768=((lpf (ps q):Nat):Int):=by unfold lpf;omega
 have hD10:M*10^(ps q-k)%10=0:=by
  have:10^(ps q-k)=10*10^(ps q-k-1):=by rw[← Nat.pow_succ'];congr 1;omega
  rw[this,← Nat.mul_assoc,Nat.mul_comm M 10,Nat.mul_assoc];simp
 obtain⟨D,hD⟩:∃ D,M*10^(ps q-k)=D:=⟨_,rfl⟩;rw[hD] at r1 r2 hD10 ⊢;have hpm:10^ps q*2^(63-lpf (ps q))<2^64:=hs.w;have u1l:=us_lt (2^63-2^9) _ (q+8-lpf (ps q)) (by decide) hpm hs2;have u2l:=us_lt (2^63+2^10) _ (q+8-lpf (ps q)) (by decide) hpm hs2;have U1:=fun (W:World) (P:Nat) h=>uscale_any W P (2^63-2^9) (10^ps q*2^(63-lpf (ps q))) (q+8-lpf (ps q)) h (by decide) hpm hl3
 have U2:=fun (W:World) (P:Nat) h=>uscale_any W P (2^63+2^10) (10^ps q*2^(63-lpf (ps q))) (q+8-lpf (ps q)) h (by decide) hpm hl3
 obtain⟨u1,hu1⟩:∃ u,us (2^63-2^9) (10^ps q*2^(63-lpf (ps q))) (q+8-lpf (ps q))=u:=⟨_,rfl⟩;obtain⟨u2,hu2⟩:∃ u,us (2^63+2^10) (10^ps q*2^(63-lpf (ps q))) (q+8-lpf (ps q))=u:=⟨_,rfl⟩;rw[hu1] at r1 u1l U1;rw[hu2] at r2 u2l U2;obtain⟨p,hp⟩:∃ p,ps q=p:=⟨_,rfl⟩;rw[hp] at hpf hlf hp1 hp2 hl1 hl2 hl3 hpm U1 U2 ⊢;obtain⟨lp,hlp⟩:∃ lp,lpf p=lp:=⟨_,rfl⟩;rw[hlp] at hlf hl1 hl2 hl3 hpm U1 U2;rw[show (2^63-2^9:Nat)=9223372036854775296 from rfl] at U1;rw[show (2^63+2^10:Nat)=9223372036854776832 from rfl] at U2;have hand:=and1_i64 (2^52) (by decide);rw[show ((2^52:Nat):Int)=4503599627370496 from rfl,show ((2^52%2:Nat):Int)=0 from rfl] at hand;obtain⟨ee,hee⟩:∃ ee:Int,-((q+11:Nat):Int)=ee:=⟨_,rfl⟩;rw[hee];have hlg:((ee+11)*631305-261663)/2097152=-(p:Int):=by rw[← hpf];congr 3;omega
 have hee1:-2000<=ee/\ee<=2000:=by omega
 have hsE:-(ee+(lp:Int)+3)=((q+8-lp:Nat):Int):=by omega
 have hee2:-1085<ee:=by omega
 obtain⟨d1,hd1⟩:∃ d,(u1+0+3)/4=d:=⟨_,rfl⟩;obtain⟨d2,hd2⟩:∃ d,(u2-0)/4=d:=⟨_,rfl⟩;rw[hd1] at r1;rw[hd2] at r2;obtain⟨d,hd⟩:∃ d,D/10=d:=⟨_,rfl⟩;rw[hd] at r2 ⊢;have hdd:(d2:Int)/10=(d:Int):=by omega
 have hge:(d1:Int)<=(d:Int)*10:=by omega
 have hd10:d*10<2^62:=by omega
 have hpp:(p:Int)-1=((p-1:Nat):Int):=by omega
 have N1:=fun W=>nudge_up W u1 0 u1l (by decide)
 have C1:=fun W=>ceil_any W (u1+0) (by omega)
 have N2:=fun W=>nudge_dn W u2 0 u2l (by decide) (by omega)
 have C2:=fun W=>floor_any W (u2-0) (by omega)
 rw[hd1] at C1;rw[hd2] at C2;rw[Nat.add_zero] at N1 C1;rw[Nat.sub_zero] at N2 C2;have hB0:Below w.heap.size w (w.alloc (.cells #[.int .u64 0,.int .u64 0,.int .i64 0] 274)):=(Below.refl _ _).alloc (Nat.le_refl _) _;have hT0:=hT.kept (hB0.block _ h16);have hP0:(w.alloc (.cells #[.int .u64 0,.int .u64 0,.int .i64 0] 274)).heap[w.heap.size]?=some (.cells #[.int .u64 0,.int .u64 0,.int .i64 0] 274 (0,0)):=World.alloc_heap_new w _;have PS:=prescale_any _ w.heap.size p ee (lp:Int) 0 0 0 hP0 hT0 hp1 hp2 hee1 (by omega);rw[hlp,hsE] at PS;obtain⟨pm,hpme⟩:∃ pm,10^p*2^(63-lp)=pm:=⟨_,rfl⟩;rw[hpme] at PS U1 U2 hpm;clear hpme hlp hp hu1 hu2 hD hs hw hs2 hn hd1 hd2 hd hT hT0 hP0 hee hpf hl1 hl2 hl3 hD10 r1 r2 hq1 hq2
 go_enter Tryz.func215,Tryz.ntmps215
 go_wp2_with (first | (go_at_call 227;refine (skewed_any _ _ (by omega) (by omega)).mono ?_;rintro e w1 ⟨rfl,rfl⟩) | (go_at_call 229;refine (log2_any _ _ (by omega) (by omega)).mono ?_;rintro e w1 ⟨rfl,rfl⟩))
 refine PS.mono ?_;rintro e w1 ⟨rfl,hP1,hg1⟩;have hB1:Below w.heap.size w w1:=hB0.grown hg1 hB0.size (fun k e=>by simp at e;omega);clear PS hB0
 go_wp2_with fail
 refine (U1 w1 _ hP1).mono ?_;rintro e w2 ⟨rfl,hg2⟩;have hP2:=(hg2.block w.heap.size (Array.getElem?_eq_some_iff.1 hP1).1 (by simp)).trans hP1;have hB2:Below w.heap.size w w2:=hB1.grown hg2 hB1.size (fun k e=>by simp at e);clear U1 hP1 hg1 hB1
 go_wp2_with (first | (go_at_call 231;refine (N1 _).mono ?_;rintro e w3 ⟨rfl,rfl⟩) | (go_at_call 232;refine (C1 _).mono ?_;rintro e w3 ⟨rfl,rfl⟩))
 refine (U2 w2 _ hP2).mono ?_;rintro e w4 ⟨rfl,hg4⟩;have hB4:Below w.heap.size w w4:=hB2.grown hg4 hB2.size (fun k e=>by simp at e);clear U2 hP2 hg4 hB2 N1 C1 hg2
 go_wp2_with (first | (go_at_call 231;refine (N2 _).mono ?_;rintro e w3 ⟨rfl,rfl⟩) | (go_at_call 233;refine (C2 _).mono ?_;rintro e w3 ⟨rfl,rfl⟩))
 go_ret2
 exact⟨rfl,hB4⟩
end
end Go.Proofs.YtgffljllfenhkaaGreatDoor
