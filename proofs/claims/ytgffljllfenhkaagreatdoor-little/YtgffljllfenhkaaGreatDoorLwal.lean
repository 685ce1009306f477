import Derived.Laws.IdiomStrings
import Derived.Lib.BufferRead
import Derived.Deep.DeepCutAuto
import Derived.WalkMore
import Derived.Test.YtgffljllfenhkaaGreatDoorLwaa
import Derived.Test.YtgffljllfenhkaaGreatDoorLwak
section
namespace Go.Proofs.YtgffljllfenhkaaGreatDoor
open Go.RowKit
theorem Tryz.mk24 (w:World):(Instr.makeSlice 102 (.int .i64 0) (.int .i64 24)).run Tryz.prog w=.ok (.slice (some ⟨w.heap.size,0,none⟩) 0 24) (w.alloc (.cells #[.int .u8 0,.int .u8 0,.int .u8 0,.int .u8 0,.int .u8 0,.int .u8 0,.int .u8 0,.int .u8 0,.int .u8 0,.int .u8 0,.int .u8 0,.int .u8 0,.int .u8 0,.int .u8 0,.int .u8 0,.int .u8 0,.int .u8 0,.int .u8 0,.int .u8 0,.int .u8 0,.int .u8 0,.int .u8 0,.int .u8 0,.int .u8 0] 5)):=by kernel_rfl
def bstr (out:List UInt8):ByteArray:=⟨out.toArray⟩
theorem Tryz.und5:Tryz.prog.underlying 5=some (.int .u8):=by kernel_rfl
theorem Tryz.und9:Tryz.prog.underlying 9=some .string:=by kernel_rfl
theorem Row8.bstr {w:World} {base:Nat} {o:Value} {out:List UInt8} (h:Row8 w base o out):(convert 102 9 o).run Tryz.prog w=.ok (.string (bstr out)) w:=by
 rcases h.2 with ⟨e,hn⟩ | ⟨g,cap,cur,e,hb,hg,hc,_,_,ht⟩
 ·have:out=[]:=List.eq_nil_of_length_eq_zero hn
  subst this
  rw [e]
  exact Lib.run_convert_nil_bytes w _ _ _ 0 Tryz.underlying102 Tryz.und5 Tryz.und9
 ·rw [e]
  refine run_convert_bytes_back w _ _ 5 ⟨g,0,none⟩ cap out Tryz.underlying102 Tryz.und5 Tryz.und9 (fun j hj=>?_)
  exact World.ownsRow.cells h (g:=g) (by rw [e];rfl) j _ (by rw [List.getElem?_map,List.getElem?_eq_getElem hj];rfl)
set_option maxHeartbeats 1000000 in
set_option maxRecDepth 100000 in
theorem format_any (w:World) (neg:Bool) (mt q b d p:Nat) (hq1:33≤q) (hq2:q≤62) (h1:2 ^ 52≤mt) (h2:mt < 2 ^ 53) (hb:b=Ieee.double.word neg ((1074 - q) * 2 ^ 52+mt))
  (hd1:1≤d) (hd2:d < 10 ^ 18) (hp1:10≤p) (hp2:p≤19) (hdp:-3≤(Lib.nDigits d:Int) - ((p - 1:Nat):Int)∧(Lib.nDigits d:Int) - ((p - 1:Nat):Int)≤7)
  (ND:∀ W:World,Below w.heap.size w W→Calls Tryz.prog 163 #[.int .u64 (d:Int)] W fun e w'=>e=.returned (.int .i64 ((Lib.nDigits d:Nat):Int))∧w'=W)
  (SF:∀ W:World,Below w.heap.size w W→Calls Tryz.prog 215 #[.int .u64 ((mt * 2 ^ 11:Nat):Int),.int .i64 (-((q+11:Nat):Int))] W fun e w'=>e=.returned (.tuple #[.int .u64 (d:Int),.int .i64 (-((p - 1:Nat):Int))])∧Below W.heap.size W w') :
  Calls Tryz.prog 166 #[.float .f64 b,.int .u8 102,.int .i64 (-1),.int .i64 64] w fun e w'=>e=.returned (.string (bstr (numT neg d ((Lib.nDigits d:Nat) - ((p - 1:Nat):Int)))))∧Below w.heap.size w w':=by
 have hmk:=Tryz.mk24 w
 have hmx:max (3:Int) 24=24:=by decide
 obtain ⟨arr,harr⟩:∃ arr:Array Value,#[.int .u8 0,.int .u8 0,.int .u8 0,.int .u8 0,.int .u8 0,.int .u8 0,.int .u8 0,.int .u8 0,.int .u8 0,.int .u8 0,.int .u8 0,.int .u8 0,.int .u8 0,.int .u8 0,.int .u8 0,.int .u8 0,.int .u8 0,.int .u8 0,.int .u8 0,.int .u8 0,.int .u8 0,.int .u8 0,.int .u8 0,.int .u8 0]=arr:=⟨_,rfl⟩
 have hsz:arr.size=24:=by rw [← harr];rfl
 rw [harr] at hmk
 have hB0:Below w.heap.size w (w.alloc (.cells arr 5)):=(Below.refl _ _).alloc (Nat.le_refl _) _
 have hrow:Row8 (w.alloc (.cells arr 5)) w.heap.size (.slice (some ⟨w.heap.size,0,none⟩) 0 24) []:=by
  exact ⟨rfl,.inr ⟨w.heap.size,24,arr,rfl,Nat.le_refl _,World.alloc_heap_new w _,Nat.zero_le _,by unfold maxLen;omega,by rw [hsz],rfl⟩⟩
 have FA:=ftoa_any (w.alloc (.cells arr 5)) w.heap.size (.slice (some ⟨w.heap.size,0,none⟩) 0 24) neg mt q b d p hq1 hq2 h1 h2 hb hrow (by simp) (fun k e=>by simp [Value.ownBlock] at e;simp;omega) hd1 hd2 hp1 hp2 hdp
  (fun W hW=>ND W (hB0.trans (hW.mono (by simp)))) (fun W hW=>SF W (hB0.trans (hW.mono (by simp))))
 clear hb harr ND SF
 go_enter Tryz.func166,Tryz.ntmps166
 go_wp2_with fail
 refine FA.mono ?_
 rintro e w2 ⟨dv',B,l,rfl,hF⟩
 have hcv:=hF.row.bstr
 go_wp2_with fail
 go_ret
 exact ⟨rfl,hB0.trans hF.bel⟩
set_option maxHeartbeats 1000000 in
theorem sformat_any (w:World) (b:Nat) (s:ByteArray) (FF:Calls Tryz.prog 166 #[.float .f64 b,.int .u8 102,.int .i64 (-1),.int .i64 64] w fun e w'=>e=.returned (.string s)∧Below w.heap.size w w') :
  Calls Tryz.prog 144 #[.float .f64 b,.int .u8 102,.int .i64 (-1),.int .i64 64] w fun e w'=>e=.returned (.string s)∧Below w.heap.size w w':=by
 go_enter Tryz.func144,Tryz.ntmps144
 go_wp2_with fail
 refine FF.mono ?_
 rintro e w2 ⟨rfl,hB⟩
 go_wp2_with fail
 go_ret
 exact ⟨rfl,hB⟩
theorem cmp_eq0 (x:Int) (h:compare x 0=.eq):x=0:=by
 simp only [compare,compareOfLessAndEq] at h
 split at h
 ·cases h
 ·split at h
  ·assumption
  ·cases h
theorem word_ne0 (neg:Bool) (q mt:Nat) (hq1:33≤q) (hq2:q≤62) (h1:2 ^ 52≤mt) (h2:mt < 2 ^ 53):(FloatKind.f64.format.order (Ieee.double.word neg ((1074 - q) * 2 ^ 52+mt)) 0 == some .eq)=false:=by
 rw [beq_eq_false_iff_ne]
 show Ieee.double.order _ 0≠_
 unfold Ieee.Format.order
 have hz:Ieee.double.read 0=.number false 0 (-1074):=by decide
 rw [read_word neg (1074 - q) mt h1 h2 (by omega),hz]
 unfold Ieee.Datum.order
 simp only [Ieee.signed,Nat.zero_shiftLeft]
 intro e
 have hs:∀ k,mt <<< k≠0:=fun k=>by rw [Nat.shiftLeft_eq];have:=Nat.two_pow_pos k;exact Nat.mul_ne_zero (by omega) (by omega)
 have e3:=cmp_eq0 _ (Option.some.inj e)
 revert e3
 cases neg
 ·simp only [Bool.false_eq_true,if_false];intro e3;exact hs _ (Int.natCast_eq_zero.1 e3)
 ·simp only [if_true];intro e3;exact hs _ (Int.natCast_eq_zero.1 (Int.neg_eq_zero.1 e3))
set_option maxHeartbeats 1000000 in
theorem numberText_any (w:World) (b:Nat) (s:ByteArray) (hne:(FloatKind.f64.format.order b 0 == some .eq)=false) (FF:Calls Tryz.prog 144 #[.float .f64 b,.int .u8 102,.int .i64 (-1),.int .i64 64] w fun e w'=>e=.returned (.string s)∧Below w.heap.size w w') :
  Calls Tryz.prog 123 #[.float .f64 b] w fun e w'=>e=.returned (.string s)∧Below w.heap.size w w':=by
 go_enter Tryz.func123,Tryz.ntmps123
 go_wp2_with fail
 refine FF.mono ?_
 rintro e w2 ⟨rfl,hB⟩
 go_wp2_with fail
 go_ret
 exact ⟨rfl,hB⟩
set_option maxHeartbeats 1000000 in
theorem numberText_zero (w:World) (neg:Bool):Calls Tryz.prog 123 #[.float .f64 (if neg then 9223372036854775808 else 0)] w fun e w'=>e=.returned (.string (bstr [48]))∧w=w':=by
 cases neg
 ·have h0:(FloatKind.f64.format.order 0 0 == some .eq)=true:=by decide
  go_enter Tryz.func123,Tryz.ntmps123
  go_wp2_with fail
  go_ret
  exact ⟨rfl,rfl⟩
 ·have h0:(FloatKind.f64.format.order 9223372036854775808 0 == some .eq)=true:=by decide
  go_enter Tryz.func123,Tryz.ntmps123
  go_wp2_with fail
  go_ret
  exact ⟨rfl,rfl⟩
end Go.Proofs.YtgffljllfenhkaaGreatDoor
end
section
namespace Go.Proofs.YtgffljllfenhkaaGreatDoor
open Go.RowKit
structure NumTx (s:ByteArray) (neg:Bool) (ni nf:Nat):Prop where
 i1:1≤ni
 i2:ni≤6
 f2:nf≤3
 size:s.size=neg.toNat+ni+(if nf=0 then 0 else 1+nf)
 sg:neg=true→bt s 0=45
 di:∀ j,j < ni→48≤bt s (neg.toNat+j)∧bt s (neg.toNat+j)≤57
 pt:nf≠0→bt s (neg.toNat+ni)=46
 df:∀ j,j < nf→48≤bt s (neg.toNat+ni+1+j)∧bt s (neg.toNat+ni+1+j)≤57
def vF (s:ByteArray) (o ni:Nat):Nat→Nat
 | 0=>vI s o ni
 | j+1=>10 * vF s o ni j+(bt s (o+ni+1+j) - 48)
theorem vI_lt {s:ByteArray} {neg:Bool} {ni nf:Nat} (h:NumTx s neg ni nf):∀ j,j≤ni→vI s neg.toNat j < 10 ^ j
 | 0,_=>by unfold vI;decide
 | j+1,hj=>by
  have:=vI_lt h j (by omega)
  have hd:=h.di j (by omega)
  rw [Nat.pow_succ];unfold vI;omega
theorem vF_lt {s:ByteArray} {neg:Bool} {ni nf:Nat} (h:NumTx s neg ni nf):∀ j,j≤nf→vF s neg.toNat ni j < 10 ^ (ni+j)
 | 0,_=>by unfold vF;exact vI_lt h ni (Nat.le_refl _)
 | j+1,hj=>by
  have:=vF_lt h j (by omega)
  have hd:=h.df j (by omega)
  rw [show ni+(j+1)=(ni+j)+1 by omega,Nat.pow_succ];unfold vF;omega
theorem pow_mono9 {a:Nat} (h:a≤9):10 ^ a≤1000000000:=Nat.pow_le_pow_right (n:=10) (by decide) h
theorem str_index (s:ByteArray) (i:Nat) (hi:i < s.size) (w:World):(Instr.index 9 (.string s) (.int .i64 (i:Int))).run Tryz.prog w=.ok (.int .u8 ((bt s i:Nat):Int)) w:=by
 rw [run_index_string w _ _ _ _ Tryz.underlying9,dif_pos ⟨by omega,by omega⟩]
 congr 3
 simp only [Int.toNat_natCast]
 unfold bt
 rw [List.getD_eq_getElem?_getD]
 simp [ByteArray.getElem_eq_getElem_data,hi]
def RdS (s:ByteArray) (neg:Bool) (ni nf t:Nat) (mant nd:Nat) (dp:Int) (dot:Bool):Prop:=
 (t≤ni∧dot=false∧mant=vI s neg.toNat t∧nd≤t∧(nd=0 ↔ mant=0)∧-(t:Int)≤dp∧dp≤0) ∨
 (∃ u,u≤nf∧nf≠0∧t=ni+1+u∧dot=true∧mant=vF s neg.toNat ni u∧nd≤ni+u∧(nd=0 ↔ mant=0)∧dp=(nd:Int) - (u:Int))
theorem RdS.digit {s:ByteArray} {neg:Bool} {ni nf t mant nd:Nat} {dp:Int} {dot:Bool} (hN:NumTx s neg ni nf) (h:RdS s neg ni nf t mant nd dp dot) (hd:t < ni∨(∃ u,u < nf∧t=ni+1+u)) :
  48≤bt s (neg.toNat+t)∧bt s (neg.toNat+t)≤57∧mant < 1000000000∧nd≤9 ∧
  (bt s (neg.toNat+t)=48→nd=0→RdS s neg ni nf (t+1) mant nd (dp - 1) dot) ∧
  (¬ (bt s (neg.toNat+t)=48∧nd=0)→RdS s neg ni nf (t+1) (10 * mant+(bt s (neg.toNat+t) - 48)) (nd+1) dp dot):=by
 have hi2:=hN.i2
 have hf2:=hN.f2
 rcases h with ⟨h1,h2,h3,h4,h5,h6,h7⟩ | ⟨u,hu,hnf,ht,h2,h3,h4,h5,h6⟩
 ·have hlt:t < ni:=by
   rcases hd with h | ⟨u,_,h⟩
   ·exact h
   ·omega
  have hb:=hN.di t hlt
  have hv:=vI_lt hN t (by omega)
  have hp:=pow_mono9 (a:=t) (by omega)
  refine ⟨hb.1,hb.2,by omega,by omega,fun e1 e2=>.inl ⟨by omega,h2,?_,by omega,h5,by omega,by omega⟩,fun hne=>.inl ⟨by omega,h2,?_,by omega,?_,by omega,by omega⟩⟩
  ·show mant=10 * vI s neg.toNat t+(bt s (neg.toNat+t) - 48)
   have:=h5.1 e2;omega
  ·show _=10 * vI s neg.toNat t+(bt s (neg.toNat+t) - 48)
   omega
  ·by_cases hz:nd=0
   ·have:mant=0:=h5.1 hz
    have:¬ bt s (neg.toNat+t)=48:=fun e=>hne ⟨e,hz⟩
    omega
   ·have:¬ mant=0:=fun e=>hz (h5.2 e)
    omega
 ·have hlt:u < nf:=by
   rcases hd with h | ⟨u',h,h'⟩
   ·omega
   ·omega
  have hb:=hN.df u hlt
  rw [show neg.toNat+ni+1+u=neg.toNat+t by omega] at hb
  have hv:=vF_lt hN u (by omega)
  have hp:=pow_mono9 (a:=ni+u) (by omega)
  have ev:vF s neg.toNat ni (u+1)=10 * vF s neg.toNat ni u+(bt s (neg.toNat+t) - 48):=by
   show 10 * vF s neg.toNat ni u+(bt s (neg.toNat+ni+1+u) - 48)=_
   rw [show neg.toNat+ni+1+u=neg.toNat+t by omega]
  refine ⟨hb.1,hb.2,by omega,by omega,fun e1 e2=>.inr ⟨u+1,by omega,hnf,by omega,h2,?_,by omega,h5,by omega⟩,fun hne=>.inr ⟨u+1,by omega,hnf,by omega,h2,?_,by omega,?_,by omega⟩⟩
  ·rw [ev];have:=h5.1 e2;omega
  ·rw [ev];omega
  ·by_cases hz:nd=0
   ·have:mant=0:=h5.1 hz
    have:¬ bt s (neg.toNat+t)=48:=fun e=>hne ⟨e,hz⟩
    omega
   ·have:¬ mant=0:=fun e=>hz (h5.2 e)
    omega
theorem RdS.point {s:ByteArray} {neg:Bool} {ni nf mant nd:Nat} {dp:Int} {dot:Bool} (h:RdS s neg ni nf ni mant nd dp dot) (hnf:nf≠0):dot=false∧RdS s neg ni nf (ni+1) mant nd (nd:Int) true:=by
 rcases h with ⟨h1,h2,h3,h4,h5,h6,h7⟩ | ⟨u,hu,hnf,ht,_⟩
 ·exact ⟨h2,.inr ⟨0,by omega,hnf,rfl,rfl,h3,h4,h5,by omega⟩⟩
 ·omega
end Go.Proofs.YtgffljllfenhkaaGreatDoor
end
section
namespace Go.Proofs.YtgffljllfenhkaaGreatDoor
open Go.RowKit
theorem NumTx.all {s:ByteArray} {neg:Bool} {ni nf:Nat} (h:NumTx s neg ni nf) (i:Nat) (h1:neg.toNat≤i) (h2:i < s.size):46≤bt s i∧bt s i≤57:=by
 have hsz:=h.size
 by_cases hi:i < neg.toNat+ni
 ·have:=h.di (i - neg.toNat) (by omega)
  rw [show neg.toNat+(i - neg.toNat)=i by omega] at this;omega
 ·by_cases hf:nf=0
  ·rw [if_pos hf] at hsz;omega
  ·rw [if_neg hf] at hsz
   by_cases he:i=neg.toNat+ni
   ·have:=h.pt hf;rw [he];omega
   ·have:=h.df (i - (neg.toNat+ni+1)) (by omega)
    rw [show neg.toNat+ni+1+(i - (neg.toNat+ni+1))=i by omega] at this;omega
theorem NumTx.len {s:ByteArray} {neg:Bool} {ni nf:Nat} (h:NumTx s neg ni nf):s.size≤11∧neg.toNat < s.size:=by
 have hsz:=h.size
 have h1:=h.i1
 have h2:=h.i2
 have h3:=h.f2
 have:neg.toNat≤1:=by cases neg <;> simp
 split at hsz <;> omega
theorem or32 (c:Nat) (h1:46≤c) (h2:c≤57):bits .or .u8 (c:Int) 32=(c:Int):=by
 have h:∀ i:Fin 12,bits .or .u8 ((46+i.1:Nat):Int) 32=((46+i.1:Nat):Int):=by decide
 have:=h ⟨c - 46,by omega⟩
 rw [show 46+(⟨c - 46,by omega⟩:Fin 12).1=c by simp;omega] at this
 exact this
theorem results_tmp7 {fn:Func} {t0 t1 t2 t3 t4 t5 t6:Tmp} (h:fn.results=#[.tmp t0,.tmp t1,.tmp t2,.tmp t3,.tmp t4,.tmp t5,.tmp t6]) (tmps:Array Value) (P:Program) (w:World) :
  (results fn tmps).run P w=.ok (.tuple #[tmps.getD t0 undef,tmps.getD t1 undef,tmps.getD t2 undef,tmps.getD t3 undef,tmps.getD t4 undef,tmps.getD t5 undef,tmps.getD t6 undef]) w:=by
 simp [results,h]
set_option maxHeartbeats 4000000 in
set_option maxRecDepth 100000 in
theorem readFloat_pos (w:World) (s:ByteArray) (neg:Bool) (hneg:neg=false) (ni nf:Nat) (hN:NumTx s neg ni nf) :
  Calls Tryz.prog 253 #[.string s] w fun e w'=>e=.returned (.tuple #[.int .u64 ((vF s neg.toNat ni nf:Nat):Int),.int .i64 (if vF s neg.toNat ni nf=0 then 0 else -(nf:Int)),.bool neg,.bool false,.bool false,.int .i64 (s.size:Int),.bool true])∧w.grownBy w' none:=by
 obtain ⟨hl1,hl2⟩:=hN.len
 have hge:¬ (s.size:Int)≤0:=by omega
 have hsz0:¬ s.size=0:=by omega
 obtain ⟨ex,hex⟩:∃ ex:Int,(if vF s neg.toNat ni nf=0 then 0 else -(nf:Int))=ex:=⟨_,rfl⟩
 obtain ⟨M,hM⟩:∃ M,vF s neg.toNat ni nf=M:=⟨_,rfl⟩
 rw [hex,hM]
 rw [hM] at hex
 have HEX:=hid hex
 have HM:=hid hM
 clear hex hM
 go_enter Tryz.func253,Tryz.ntmps253
 subst hneg
 have hb:=hN.all 0 (by simp) (by omega)
 obtain ⟨c,hc⟩:∃ c,bt s 0=c:=⟨_,rfl⟩
 have x0:∀ w,(Instr.index 9 (.string s) (.int .i64 0)).run Tryz.prog w=.ok (.int .u8 (c:Int)) w:=fun w=>by rw [← hc];exact str_index s 0 (by omega) w
 rw [hc] at hb
 have e1:((c:Int) == 43)=false:=by rw [beq_eq_false_iff_ne];omega
 have e2:((c:Int) == 45)=false:=by rw [beq_eq_false_iff_ne];omega
 go_wp2_with fail
 go_step3
 go_upto_region 12 with fail
 go_cut [54] (fun v wx=>v=.bool false∧wx=w)
 case first=>
  by_cases h3:(2:Nat) < s.size
  ·have h3I:(2:Int) < (s.size:Int):=by omega
   have hb1:=hN.all 1 (by simp) (by omega)
   obtain ⟨c1,hc1⟩:∃ c,bt s 1=c:=⟨_,rfl⟩
   have x1:∀ w,(Instr.index 9 (.string s) (.int .i64 1)).run Tryz.prog w=.ok (.int .u8 (c1:Int)) w:=fun w=>by rw [← hc1];exact str_index s 1 (by omega) w
   rw [hc1] at hb1
   have h32:=or32 c1 hb1.1 hb1.2
   have e3:((c1:Int) == 120)=false:=by rw [beq_eq_false_iff_ne];omega
   by_cases hz:c=48
   ·have e4:((c:Int) == 48)=true:=by rw [hz];rfl
    clear hz hc
    go_wp2_with (go_at_call 226;refine (Tryz.internal_strconv_lower _ _).mono ?_;rintro e w1 ⟨rfl,rfl⟩)
    go_meet
    case rel=>exact ⟨rfl,rfl⟩
   ·have e4:((c:Int) == 48)=false:=by rw [beq_eq_false_iff_ne];omega
    go_wp2_with fail
    go_meet
    case rel=>exact ⟨rfl,rfl⟩
  ·have h3I:¬ (2:Int) < (s.size:Int):=by omega
   go_wp2_with fail
   go_meet
   case rel=>exact ⟨rfl,rfl⟩
 case rest=>
  obtain ⟨rfl,rfl⟩:=hcut
  go_wp2_with fail
  go_step3
  go_wp2_with fail
  clear x0
  go_loop [2,5,7,9,13,14,15,16,17] (fun va v5 vb v9 vc vd ve vf vg=>∃ (i t mant nd:Nat) (dp:Int) (dot:Bool),v5=.bool false∧v9=.bool false∧va=.int .u64 (mant:Int)∧vb=.int .i64 (i:Int)∧vc=.bool dot∧vd=.bool (decide (0 < t))∧ve=.int .i64 (nd:Int)∧vf=.int .i64 (nd:Int)∧vg=.int .i64 dp∧i=0+t∧i≤s.size∧RdS s false ni nf t mant nd dp dot)
   (fun _ _ vb _ _ _ _ _ _=>s.size - (intOf vb).toNat)
  case atStart=>exact ⟨0,0,0,0,0,false,rfl,rfl,rfl,rfl,rfl,rfl,rfl,rfl,rfl,rfl,by omega,.inl ⟨by omega,rfl,rfl,by omega,by omega,by omega,by omega⟩⟩
  case round=>
   obtain ⟨i,t,mant,nd,dp,dot,rfl,rfl,rfl,rfl,rfl,rfl,rfl,rfl,rfl,hit,his,hR⟩:=hrel
   have HIT:=hid hit
   by_cases hend:i < s.size
   ·have hendI:(i:Int) < (s.size:Int):=by omega
    have hidx:=str_index s i hend
    have hsz:=hN.size
    have hni:=hN.i1
    have htn:(false:Bool).toNat=0:=rfl
    by_cases hpt:t=ni
    ·have hnf:nf≠0:=by
      intro e;rw [if_pos e] at hsz;omega
     have hb46:bt s i=46:=by have:=hN.pt hnf;rw [htn] at this;rw [hit,hpt];exact this
     rw [hb46] at hidx
     subst hpt
     obtain ⟨hdot,hR2⟩:=hR.point hnf
     subst hdot
     have HR:=hid hR2
     have h0t:decide (0 < t)=true:=by simp;omega
     clear hR hR2 hit hb46 hsz
     go_wp2_with fail
     exact ⟨⟨i+1,t+1,mant,nd,(nd:Int),true,rfl,rfl,rfl,by go_num,rfl,by simp;omega,rfl,rfl,rfl,by have:=unh HIT;omega,by omega,unh HR⟩,by simp [intOf];omega⟩
    ·have hd:t < ni∨(∃ u,u < nf∧t=ni+1+u):=by
      rcases hR with ⟨h1,_⟩ | ⟨u,hu,hnf,ht,_⟩
      ·left;omega
      ·right;refine ⟨u,?_,ht⟩;rw [if_neg hnf] at hsz;omega
     obtain ⟨d1,d2,hm9,hn9,Z,NZ⟩:=hR.digit hN hd
     have hdpb:-20≤dp∧dp≤20:=by
      have:=hN.i2
      have:=hN.f2
      rcases hR with ⟨_,_,_,_,_,h6,h7⟩ | ⟨u,hu,_,_,_,_,h4,_,h6⟩ <;> omega
     have hw64:wrap64 (dp - 1)=dp - 1:=by unfold wrap64;omega
     rw [htn,← hit] at d1 d2 Z NZ
     obtain ⟨c,hc⟩:∃ c,bt s i=c:=⟨_,rfl⟩
     rw [hc] at hidx d1 d2 Z NZ
     have e95:((c:Int) == 95)=false:=by rw [beq_eq_false_iff_ne];omega
     have e46:((c:Int) == 46)=false:=by rw [beq_eq_false_iff_ne];omega
     have l48:(48:Int)≤(c:Int):=by omega
     have l57:(c:Int)≤57:=by omega
     have ltn:(nd:Int) < 19:=by omega
     clear hR hd hit hc hsz hpt
     by_cases hcz:c=48
     ·have e48:((c:Int) == 48)=true:=by rw [hcz];rfl
      by_cases hnz:nd=0
      ·have en0:((nd:Int) == 0)=true:=by rw [hnz];rfl
       have HR:=hid (Z hcz hnz)
       clear Z NZ hcz hnz
       go_wp2_with fail
       exact ⟨⟨i+1,t+1,mant,nd,dp - 1,dot,rfl,rfl,rfl,by go_num,rfl,by simp,rfl,rfl,by first | rfl | rw [hw64],by have:=unh HIT;omega,by omega,unh HR⟩,by simp [intOf];omega⟩
      ·have en0:((nd:Int) == 0)=false:=by rw [beq_eq_false_iff_ne];omega
       have HR:=hid (NZ (fun e=>hnz e.2))
       clear Z NZ hcz hnz
       go_wp2_with fail
       exact ⟨⟨i+1,t+1,10 * mant+(c - 48),nd+1,dp,dot,rfl,rfl,congrArg (Value.int .u64) (by omega),by go_num,rfl,by simp,by go_num,by go_num,rfl,by have:=unh HIT;omega,by omega,unh HR⟩,by simp [intOf];omega⟩
     ·have e48:((c:Int) == 48)=false:=by rw [beq_eq_false_iff_ne];omega
      have HR:=hid (NZ (fun e=>hcz e.1))
      clear Z NZ hcz
      go_wp2_with fail
      exact ⟨⟨i+1,t+1,10 * mant+(c - 48),nd+1,dp,dot,rfl,rfl,congrArg (Value.int .u64) (by omega),by go_num,rfl,by simp,by go_num,by go_num,rfl,by have:=unh HIT;omega,by omega,unh HR⟩,by simp [intOf];omega⟩
   ·have hendI:¬ (i:Int) < (s.size:Int):=by omega
    have hsz:=hN.size
    have htn:(false:Bool).toNat=0:=rfl
    have hni:=hN.i1
    have hie:i=s.size:=by omega
    have h0t:decide (0 < t)=true:=by simp;split at hsz <;> omega
    have KEY:mant=M∧(if M=0 then (0:Int) else (if dot then dp else (nd:Int)) - (nd:Int))=ex∧-20≤dp∧dp≤20∧nd≤9:=by
     have hM:=unh HM
     have hE:=unh HEX
     have:=hN.i2
     have:=hN.f2
     rcases hR with ⟨h1,h2,h3,h4,h5,h6,h7⟩ | ⟨u,hu,hnf,ht,h2,h3,h4,h5,h6⟩
     ·have hf0:nf=0:=by by_cases hf:nf=0;exact hf;rw [if_neg hf] at hsz;omega
      have ht:t=ni:=by rw [if_pos hf0] at hsz;omega
      subst hf0
      have:mant=M:=by rw [h3,ht,← hM];rfl
      refine ⟨this,?_,by omega,by omega,by omega⟩
      rw [h2,← hE];simp
     ·rw [if_neg hnf] at hsz
      have hu':u=nf:=by omega
      subst hu'
      have:mant=M:=by rw [h3,hM]
      refine ⟨this,?_,by omega,by omega,by omega⟩
      rw [h2,← hE]
      split
      ·rfl
      ·simp;omega
    obtain ⟨rfl,hex2,hb1,hb2,hb3⟩:=KEY
    have HX:=hid hex2
    clear hR hsz hit hex2 HEX HM
    cases dot with
    | false=>
     by_cases hm0:mant=0
     ·have em:((mant:Int) != 0)=false:=by rw [hm0];rfl
      have hx:ex=0:=by have:=unh HX;rw [if_pos hm0] at this;exact this.symm
      subst hx
      clear HX hm0
      go_wp2_with fail
      (try simp only [Exit.inBlock,Exit.then])
      refine bodyPost_ret (results_tmp7 rfl _ _ _) rfl ?_
      exact ⟨by first | rfl | rw [hie],by first | exact grownBy_refl _ _ | exact hgw⟩
     ·have em:((mant:Int) != 0)=true:=by simp;omega
      have hx:(nd:Int) - (nd:Int)=ex:=by have:=unh HX;rw [if_neg hm0] at this;simpa using this
      clear HX hm0
      go_wp2_with fail
      (try simp only [Exit.inBlock,Exit.then])
      refine bodyPost_ret (results_tmp7 rfl _ _ _) rfl ?_
      exact ⟨by first | rfl | rw [hie],by first | exact grownBy_refl _ _ | exact hgw⟩
    | true=>
     by_cases hm0:mant=0
     ·have em:((mant:Int) != 0)=false:=by rw [hm0];rfl
      have hx:ex=0:=by have:=unh HX;rw [if_pos hm0] at this;exact this.symm
      subst hx
      clear HX hm0
      go_wp2_with fail
      (try simp only [Exit.inBlock,Exit.then])
      refine bodyPost_ret (results_tmp7 rfl _ _ _) rfl ?_
      exact ⟨by first | rfl | rw [hie],by first | exact grownBy_refl _ _ | exact hgw⟩
     ·have em:((mant:Int) != 0)=true:=by simp;omega
      have hx:dp - (nd:Int)=ex:=by have:=unh HX;rw [if_neg hm0] at this;simpa using this
      clear HX hm0
      go_wp2_with fail
      (try simp only [Exit.inBlock,Exit.then])
      refine bodyPost_ret (results_tmp7 rfl _ _ _) rfl ?_
      exact ⟨by first | rfl | rw [hie],by first | exact grownBy_refl _ _ | exact hgw⟩
end Go.Proofs.YtgffljllfenhkaaGreatDoor
end
section
namespace Go.Proofs.YtgffljllfenhkaaGreatDoor
open Go.RowKit
set_option maxHeartbeats 4000000 in
set_option maxRecDepth 100000 in
theorem readFloat_neg (w:World) (s:ByteArray) (neg:Bool) (hneg:neg=true) (ni nf:Nat) (hN:NumTx s neg ni nf) :
  Calls Tryz.prog 253 #[.string s] w fun e w'=>e=.returned (.tuple #[.int .u64 ((vF s neg.toNat ni nf:Nat):Int),.int .i64 (if vF s neg.toNat ni nf=0 then 0 else -(nf:Int)),.bool neg,.bool false,.bool false,.int .i64 (s.size:Int),.bool true])∧w.grownBy w' none:=by
 obtain ⟨hl1,hl2⟩:=hN.len
 have hge:¬ (s.size:Int)≤0:=by omega
 have hsz0:¬ s.size=0:=by omega
 obtain ⟨ex,hex⟩:∃ ex:Int,(if vF s neg.toNat ni nf=0 then 0 else -(nf:Int))=ex:=⟨_,rfl⟩
 obtain ⟨M,hM⟩:∃ M,vF s neg.toNat ni nf=M:=⟨_,rfl⟩
 rw [hex,hM]
 rw [hM] at hex
 have HEX:=hid hex
 have HM:=hid hM
 clear hex hM
 go_enter Tryz.func253,Tryz.ntmps253
 subst hneg
 have hb0:=hN.sg rfl
 have x00:∀ w,(Instr.index 9 (.string s) (.int .i64 0)).run Tryz.prog w=.ok (.int .u8 45) w:=fun w=>by have:=str_index s 0 (by omega) w;rw [hb0] at this;exact this
 have hl2':1 < s.size:=hl2
 have hb:=hN.all 1 (by simp) (by omega)
 obtain ⟨c,hc⟩:∃ c,bt s 1=c:=⟨_,rfl⟩
 have x0:∀ w,(Instr.index 9 (.string s) (.int .i64 1)).run Tryz.prog w=.ok (.int .u8 (c:Int)) w:=fun w=>by rw [← hc];exact str_index s 1 (by omega) w
 rw [hc] at hb
 go_wp2_with fail
 go_step3
 go_upto_region 12 with fail
 go_cut [54] (fun v wx=>v=.bool false∧wx=w)
 case first=>
  by_cases h3:(3:Nat) < s.size
  ·have h3I:(3:Int) < (s.size:Int):=by omega
   have hb1:=hN.all 2 (by simp) (by omega)
   obtain ⟨c1,hc1⟩:∃ c,bt s 2=c:=⟨_,rfl⟩
   have x1:∀ w,(Instr.index 9 (.string s) (.int .i64 2)).run Tryz.prog w=.ok (.int .u8 (c1:Int)) w:=fun w=>by rw [← hc1];exact str_index s 2 (by omega) w
   rw [hc1] at hb1
   have h32:=or32 c1 hb1.1 hb1.2
   have e3:((c1:Int) == 120)=false:=by rw [beq_eq_false_iff_ne];omega
   by_cases hz:c=48
   ·have e4:((c:Int) == 48)=true:=by rw [hz];rfl
    clear hz hc
    go_wp2_with (go_at_call 226;refine (Tryz.internal_strconv_lower _ _).mono ?_;rintro e w1 ⟨rfl,rfl⟩)
    go_meet
    case rel=>exact ⟨rfl,rfl⟩
   ·have e4:((c:Int) == 48)=false:=by rw [beq_eq_false_iff_ne];omega
    go_wp2_with fail
    go_meet
    case rel=>exact ⟨rfl,rfl⟩
  ·have h3I:¬ (3:Int) < (s.size:Int):=by omega
   go_wp2_with fail
   go_meet
   case rel=>exact ⟨rfl,rfl⟩
 case rest=>
  obtain ⟨rfl,rfl⟩:=hcut
  go_wp2_with fail
  go_step3
  go_wp2_with fail
  clear x0
  go_loop [2,5,7,9,13,14,15,16,17] (fun va v5 vb v9 vc vd ve vf vg=>∃ (i t mant nd:Nat) (dp:Int) (dot:Bool),v5=.bool false∧v9=.bool false∧va=.int .u64 (mant:Int)∧vb=.int .i64 (i:Int)∧vc=.bool dot∧vd=.bool (decide (0 < t))∧ve=.int .i64 (nd:Int)∧vf=.int .i64 (nd:Int)∧vg=.int .i64 dp∧i=1+t∧i≤s.size∧RdS s true ni nf t mant nd dp dot)
   (fun _ _ vb _ _ _ _ _ _=>s.size - (intOf vb).toNat)
  case atStart=>exact ⟨1,0,0,0,0,false,rfl,rfl,rfl,rfl,rfl,rfl,rfl,rfl,rfl,rfl,by omega,.inl ⟨by omega,rfl,rfl,by omega,by omega,by omega,by omega⟩⟩
  case round=>
   obtain ⟨i,t,mant,nd,dp,dot,rfl,rfl,rfl,rfl,rfl,rfl,rfl,rfl,rfl,hit,his,hR⟩:=hrel
   have HIT:=hid hit
   by_cases hend:i < s.size
   ·have hendI:(i:Int) < (s.size:Int):=by omega
    have hidx:=str_index s i hend
    have hsz:=hN.size
    have hni:=hN.i1
    have htn:(true:Bool).toNat=1:=rfl
    by_cases hpt:t=ni
    ·have hnf:nf≠0:=by
      intro e;rw [if_pos e] at hsz;omega
     have hb46:bt s i=46:=by have:=hN.pt hnf;rw [htn] at this;rw [hit,hpt];exact this
     rw [hb46] at hidx
     subst hpt
     obtain ⟨hdot,hR2⟩:=hR.point hnf
     subst hdot
     have HR:=hid hR2
     have h0t:decide (0 < t)=true:=by simp;omega
     clear hR hR2 hit hb46 hsz
     go_wp2_with fail
     exact ⟨⟨i+1,t+1,mant,nd,(nd:Int),true,rfl,rfl,rfl,by go_num,rfl,by simp;omega,rfl,rfl,rfl,by have:=unh HIT;omega,by omega,unh HR⟩,by simp [intOf];omega⟩
    ·have hd:t < ni∨(∃ u,u < nf∧t=ni+1+u):=by
      rcases hR with ⟨h1,_⟩ | ⟨u,hu,hnf,ht,_⟩
      ·left;omega
      ·right;refine ⟨u,?_,ht⟩;rw [if_neg hnf] at hsz;omega
     obtain ⟨d1,d2,hm9,hn9,Z,NZ⟩:=hR.digit hN hd
     have hdpb:-20≤dp∧dp≤20:=by
      have:=hN.i2
      have:=hN.f2
      rcases hR with ⟨_,_,_,_,_,h6,h7⟩ | ⟨u,hu,_,_,_,_,h4,_,h6⟩ <;> omega
     have hw64:wrap64 (dp - 1)=dp - 1:=by unfold wrap64;omega
     rw [htn,← hit] at d1 d2 Z NZ
     obtain ⟨c,hc⟩:∃ c,bt s i=c:=⟨_,rfl⟩
     rw [hc] at hidx d1 d2 Z NZ
     have e95:((c:Int) == 95)=false:=by rw [beq_eq_false_iff_ne];omega
     have e46:((c:Int) == 46)=false:=by rw [beq_eq_false_iff_ne];omega
     have l48:(48:Int)≤(c:Int):=by omega
     have l57:(c:Int)≤57:=by omega
     have ltn:(nd:Int) < 19:=by omega
     clear hR hd hit hc hsz hpt
     by_cases hcz:c=48
     ·have e48:((c:Int) == 48)=true:=by rw [hcz];rfl
      by_cases hnz:nd=0
      ·have en0:((nd:Int) == 0)=true:=by rw [hnz];rfl
       have HR:=hid (Z hcz hnz)
       clear Z NZ hcz hnz
       go_wp2_with fail
       exact ⟨⟨i+1,t+1,mant,nd,dp - 1,dot,rfl,rfl,rfl,by go_num,rfl,by simp,rfl,rfl,by first | rfl | rw [hw64],by have:=unh HIT;omega,by omega,unh HR⟩,by simp [intOf];omega⟩
      ·have en0:((nd:Int) == 0)=false:=by rw [beq_eq_false_iff_ne];omega
       have HR:=hid (NZ (fun e=>hnz e.2))
       clear Z NZ hcz hnz
       go_wp2_with fail
       exact ⟨⟨i+1,t+1,10 * mant+(c - 48),nd+1,dp,dot,rfl,rfl,congrArg (Value.int .u64) (by omega),by go_num,rfl,by simp,by go_num,by go_num,rfl,by have:=unh HIT;omega,by omega,unh HR⟩,by simp [intOf];omega⟩
     ·have e48:((c:Int) == 48)=false:=by rw [beq_eq_false_iff_ne];omega
      have HR:=hid (NZ (fun e=>hcz e.1))
      clear Z NZ hcz
      go_wp2_with fail
      exact ⟨⟨i+1,t+1,10 * mant+(c - 48),nd+1,dp,dot,rfl,rfl,congrArg (Value.int .u64) (by omega),by go_num,rfl,by simp,by go_num,by go_num,rfl,by have:=unh HIT;omega,by omega,unh HR⟩,by simp [intOf];omega⟩
   ·have hendI:¬ (i:Int) < (s.size:Int):=by omega
    have hsz:=hN.size
    have htn:(true:Bool).toNat=1:=rfl
    have hni:=hN.i1
    have hie:i=s.size:=by omega
    have h0t:decide (0 < t)=true:=by simp;split at hsz <;> omega
    have KEY:mant=M∧(if M=0 then (0:Int) else (if dot then dp else (nd:Int)) - (nd:Int))=ex∧-20≤dp∧dp≤20∧nd≤9:=by
     have hM:=unh HM
     have hE:=unh HEX
     have:=hN.i2
     have:=hN.f2
     rcases hR with ⟨h1,h2,h3,h4,h5,h6,h7⟩ | ⟨u,hu,hnf,ht,h2,h3,h4,h5,h6⟩
     ·have hf0:nf=0:=by by_cases hf:nf=0;exact hf;rw [if_neg hf] at hsz;omega
      have ht:t=ni:=by rw [if_pos hf0] at hsz;omega
      subst hf0
      have:mant=M:=by rw [h3,ht,← hM];rfl
      refine ⟨this,?_,by omega,by omega,by omega⟩
      rw [h2,← hE];simp
     ·rw [if_neg hnf] at hsz
      have hu':u=nf:=by omega
      subst hu'
      have:mant=M:=by rw [h3,hM]
      refine ⟨this,?_,by omega,by omega,by omega⟩
      rw [h2,← hE]
      split
      ·rfl
      ·simp;omega
    obtain ⟨rfl,hex2,hb1,hb2,hb3⟩:=KEY
    have HX:=hid hex2
    clear hR hsz hit hex2 HEX HM
    cases dot with
    | false=>
     by_cases hm0:mant=0
     ·have em:((mant:Int) != 0)=false:=by rw [hm0];rfl
      have hx:ex=0:=by have:=unh HX;rw [if_pos hm0] at this;exact this.symm
      subst hx
      clear HX hm0
      go_wp2_with fail
      (try simp only [Exit.inBlock,Exit.then])
      refine bodyPost_ret (results_tmp7 rfl _ _ _) rfl ?_
      exact ⟨by first | rfl | rw [hie],by first | exact grownBy_refl _ _ | exact hgw⟩
     ·have em:((mant:Int) != 0)=true:=by simp;omega
      have hx:(nd:Int) - (nd:Int)=ex:=by have:=unh HX;rw [if_neg hm0] at this;simpa using this
      clear HX hm0
      go_wp2_with fail
      (try simp only [Exit.inBlock,Exit.then])
      refine bodyPost_ret (results_tmp7 rfl _ _ _) rfl ?_
      exact ⟨by first | rfl | rw [hie],by first | exact grownBy_refl _ _ | exact hgw⟩
    | true=>
     by_cases hm0:mant=0
     ·have em:((mant:Int) != 0)=false:=by rw [hm0];rfl
      have hx:ex=0:=by have:=unh HX;rw [if_pos hm0] at this;exact this.symm
      subst hx
      clear HX hm0
      go_wp2_with fail
      (try simp only [Exit.inBlock,Exit.then])
      refine bodyPost_ret (results_tmp7 rfl _ _ _) rfl ?_
      exact ⟨by first | rfl | rw [hie],by first | exact grownBy_refl _ _ | exact hgw⟩
     ·have em:((mant:Int) != 0)=true:=by simp;omega
      have hx:dp - (nd:Int)=ex:=by have:=unh HX;rw [if_neg hm0] at this;simpa using this
      clear HX hm0
      go_wp2_with fail
      (try simp only [Exit.inBlock,Exit.then])
      refine bodyPost_ret (results_tmp7 rfl _ _ _) rfl ?_
      exact ⟨by first | rfl | rw [hie],by first | exact grownBy_refl _ _ | exact hgw⟩
end Go.Proofs.YtgffljllfenhkaaGreatDoor
end
section
namespace Go.Proofs.YtgffljllfenhkaaGreatDoor
open Go.RowKit
structure FT (T:Nat) (w:World):Prop where
 opt:w.cell? ⟨11,0,none⟩=some (.bool true)
 info:w.cell? ⟨19,0,none⟩=some (.int .u64 52)
 tab:∃ (a:Addr) (cap:Nat),a.block=T∧w.cell? ⟨22,0,none⟩=some (.slice (some a) 23 cap)∧∀ k,1≤k→k≤3→w.cell? (a.add k)=some (.float .f64 (pw k))
set_option maxHeartbeats 1000000 in
theorem cpl_zero (w:World) (t:ByteArray) (h:1≤t.size) (h1:48≤bt t 0) (h2:bt t 0≤57) :
  Calls Tryz.prog 264 #[.string t,.string ⟨#[105,110,102,105,110,105,116,121]⟩] w fun e w'=>e=.returned (.int .i64 0)∧w=w':=by
 obtain ⟨c,hc⟩:∃ c,bt t 0=c:=⟨_,rfl⟩
 have x0:∀ w,(Instr.index 9 (.string t) (.int .i64 0)).run Tryz.prog w=.ok (.int .u8 (c:Int)) w:=fun w=>by rw [← hc];exact str_index t 0 (by omega) w
 have x1:∀ w,(Instr.index 9 (.string ⟨#[105,110,102,105,110,105,116,121]⟩) (.int .i64 0)).run Tryz.prog w=.ok (.int .u8 105) w:=fun w=>str_index ⟨#[105,110,102,105,110,105,116,121]⟩ 0 (by decide) w
 rw [hc] at h1 h2
 have hmin:(0:Int) < min 8 (t.size:Int):=by omega
 have i1:decide ((65:Int)≤(c:Int))=false:=by simp;omega
 have i1':¬ (65:Int)≤(c:Int):=by omega
 have i2:((c:Int) == 105)=false:=by rw [beq_eq_false_iff_ne];omega
 have i2':((c:Int) != 105)=true:=by rw [bne,i2];rfl
 clear hc h1 h2
 go_enter Tryz.func264,Tryz.ntmps264
 go_wp2_with fail
 go_loop [6] (fun v=>v=.int .i64 0) (fun _=>0)
 case atStart=>rfl
 case round=>
  subst hrel
  go_wp2_with fail
  go_ret
  exact ⟨rfl,rfl⟩
set_option maxHeartbeats 1000000 in
theorem special_pos (w:World) (s:ByteArray) (h:1≤s.size) (h1:48≤bt s 0) (h2:bt s 0≤57) :
  Calls Tryz.prog 252 #[.string s] w fun e w'=>e=.returned (.tuple #[.float .f64 0,.int .i64 0,.bool false])∧w=w':=by
 obtain ⟨c,hc⟩:∃ c,bt s 0=c:=⟨_,rfl⟩
 have x0:∀ w,(Instr.index 9 (.string s) (.int .i64 0)).run Tryz.prog w=.ok (.int .u8 (c:Int)) w:=fun w=>by rw [← hc];exact str_index s 0 (by omega) w
 rw [hc] at h1 h2
 have hz:((s.size:Int) == 0)=false:=by rw [beq_eq_false_iff_ne];omega
 have hz':¬ s.size=0:=by omega
 have i1:((c:Int) == 43)=false:=by rw [beq_eq_false_iff_ne];omega
 have i2:((c:Int) == 45)=false:=by rw [beq_eq_false_iff_ne];omega
 have i3:((c:Int) == 105)=false:=by rw [beq_eq_false_iff_ne];omega
 have i4:((c:Int) == 73)=false:=by rw [beq_eq_false_iff_ne];omega
 have i5:((c:Int) == 110)=false:=by rw [beq_eq_false_iff_ne];omega
 have i6:((c:Int) == 78)=false:=by rw [beq_eq_false_iff_ne];omega
 clear hc h1 h2
 go_enter Tryz.func252,Tryz.ntmps252
 go_wp2_with fail
 go_ret3
 exact ⟨rfl,rfl⟩
set_option maxHeartbeats 1000000 in
theorem special_neg (w:World) (s:ByteArray) (h:2≤s.size) (h0:bt s 0=45) (h1:48≤bt s 1) (h2:bt s 1≤57) :
  Calls Tryz.prog 252 #[.string s] w fun e w'=>e=.returned (.tuple #[.float .f64 0,.int .i64 0,.bool false])∧w=w':=by
 have x0:∀ w,(Instr.index 9 (.string s) (.int .i64 0)).run Tryz.prog w=.ok (.int .u8 45) w:=fun w=>by have:=str_index s 0 (by omega) w;rw [h0] at this;exact this
 have hz:((s.size:Int) == 0)=false:=by rw [beq_eq_false_iff_ne];omega
 have hz':¬ s.size=0:=by omega
 have l1:(1:Int)≤(s.size:Int):=by omega
 have hb:bt (s.extract 1 s.size) 0=bt s 1:=by
  unfold bt
  simp only [ByteArray.data_extract,Array.toList_extract,List.getD_eq_getElem?_getD,List.extract_eq_take_drop,List.getElem?_take,List.getElem?_drop]
  rw [if_pos (by omega)]
 have CP:=cpl_zero w (s.extract 1 s.size) (by rw [ByteArray.size_extract];omega) (by rw [hb];exact h1) (by rw [hb];exact h2)
 clear h0 h1 h2 hb
 go_enter Tryz.func252,Tryz.ntmps252
 go_wp2_with (go_at_call 264;refine CP.mono ?_;rintro e w1 ⟨rfl,rfl⟩)
 go_ret3
 exact ⟨rfl,rfl⟩
end Go.Proofs.YtgffljllfenhkaaGreatDoor
end
