import Derived.ProofKit
import Derived.LaidMore
import Derived.OpenShut
import Derived.MakeChecks
import Derived.Stop.Joined
import Derived.Lib.LaidTab
import Derived.Lay
import Derived.Test.YtgffljllfenhkaaGreatDoorGwbm
import Derived.Test.YtgffljllfenhkaaGreatDoorRows
namespace Go.Proofs.YtgffljllfenhkaaGreatDoor
section
open Go.ChangeShapes Go.WideShapes Go.ChangeAt Go.WideMaps Go.WideElems Go.RowKit
theorem Tryz.own:ownKnob Tryz.prog.godebug=none:=by kernel_rfl
theorem Tryz.cellsInt:Tryz.prog.cellsOf 3=1:=by kernel_rfl
theorem Tryz.arr19:Tryz.prog.underlying 163=some (.array 19 3):=by kernel_rfl
theorem Tryz.arr29:Tryz.prog.underlying 184=some (.array 29 3):=by kernel_rfl
theorem Tryz.arr30:Tryz.prog.underlying 185=some (.array 30 3):=by kernel_rfl
theorem Tryz.arr20:Tryz.prog.underlying 231=some (.array 20 211):=by kernel_rfl
theorem Tryz.undU:Tryz.prog.underlying 211=some (.int .u64):=by kernel_rfl
theorem Tryz.undF:Tryz.prog.underlying 116=some (.float .f64):=by kernel_rfl
theorem Tryz.undFs:Tryz.prog.underlying 329=some (.slice 116):=by kernel_rfl
def laidL:List (String×DataW Unit):=Rows.harmlessRow.laid
theorem tab_of {H:Type}{enc:TypeId×Value->H}{sp:Nat->Bool}{held:Bool}{base:Nat}{name:String}{n t G G' t' fuel:Nat}{T:List Nat}{W:World}{cs:Array Value}{d:DataW H}{p:List MemPlace}(ht:Tryz.prog.underlying t=some (.array n 3)) (hn:T.length<=n)
  (hG:Tryz.prog.globalNamed name=some G) (hty:(Tryz.prog.globals[G]?).map (·.type)=some t) (hg:Tryz.prog.globalNamed name=some G') (ht':(Tryz.prog.globals[G']?).map (·.type)=some t') (hv:W.var? Tryz.prog name=some cs)
  (hd:DataW.trod enc Tryz.prog W base sp held fuel t' cs.toList=some (d,p)) (hdT:d=.agg (T.map fun x:Nat=>.lit (.int .i64 (x:Int)))):Tab W G T:=by
 obtain rfl:=Option.some.inj (hG.symm.trans hg);obtain rfl:=Option.some.inj (hty.symm.trans ht');subst hdT;obtain⟨xs,m,rfl,hx,hlen,hxn,hel⟩:=DataW.trod_array ht hd;intro i hi;have h1:=hel i (by omega);rw[Tryz.cellsInt,Nat.mul_one] at h1;rw[List.getElem?_eq_getElem (show i<xs.length by omega)] at h1;obtain⟨k,hk1,hk2,_⟩:=DataW.trod_int Tryz.underlying3 h1;simp only[Prod.mk.injEq,DataW.agg.injEq] at hx;have h2:(T.map fun x:Nat=>DataW.lit (H:=H) (.int .i64 (x:Int)))[i]?=(xs.map (·.1))[i]?:=by rw[hx.1]
 rw[List.getElem?_map,List.getElem?_map,List.getElem?_eq_getElem hi,List.getElem?_eq_getElem (show i<xs.length by omega),hk2] at h2;simp at h2
 have h3:cs.toList[i]?=some (.int .i64 k):=by
  have:((cs.toList.drop i).take 1)[0]?=some (.int .i64 k):=by rw[hk1];rfl
  rw[List.getElem?_take,if_pos (by omega),List.getElem?_drop] at this;exact this
 rw[World.var?_cell hG hv i,← Array.getElem?_toList,h3,← h2];unfold nth;rw[List.getD_eq_getElem?_getD,List.getElem?_eq_getElem hi];rfl
theorem var_lt {W:World}{name:String}{G:Nat}{cs:Array Value}(hG:Tryz.prog.globalNamed name=some G) (hv:W.var? Tryz.prog name=some cs):G<W.heap.size:=by
 simp only[World.var?,hG,Option.bind_some] at hv;refine Nat.lt_of_not_le fun h=>?_
 rw[Array.getElem?_eq_none h] at hv;cases hv
theorem trod_float {H:Type}{enc:TypeId×Value->H}{P:Program}{w:World}{base:Nat}{spare:Nat->Bool}{held:Bool}{fuel:Nat}{t:TypeId}{cs:List Value}{x:DataW H×List MemPlace}{k:FloatKind}(ht:P.underlying t=some (.float k)) (h:DataW.trod enc P w base spare held fuel t cs=some x):∃ b,cs=[.float k b]/\x=(.lit (.float k b),[]):=by
 cases fuel with
 | zero=>simp[DataW.trod] at h
 | succ n=>
  unfold DataW.trod at h;rw[ht] at h;split at h <;> simp_all
def structF (P:Program) (t:TypeId):List (TypeId×Nat):=match P.underlying t with
 | some (.struct fs)=>fs.toList.map fun f=>(f.type,f.offset)
 | _=>[]
theorem structF_get {P:Program}{t:TypeId}{l:List (TypeId×Nat)}(h:structF P t=l) (hl:l≠[]):∃ fs:Array Field,P.underlying t=some (.struct fs)/\fs.toList.map (fun f=>(f.type,f.offset))=l:=by
 unfold structF at h;split at h
 ·rename_i fs hf;exact⟨fs,hf,h⟩
 ·exact absurd h.symm hl
theorem field_at {fs:Array Field}{l:List (TypeId×Nat)}(h:fs.toList.map (fun f=>(f.type,f.offset))=l) {i:Nat}{a:TypeId×Nat}(hi:l[i]?=some a):∃ f,fs[i]?=some f/\f.type=a.1/\f.offset=a.2:=by
 rw[← h,List.getElem?_map,Array.getElem?_toList] at hi
 rcases hf:fs[i]? with _|f
 ·rw[hf] at hi;cases hi
 ·rw[hf] at hi;have:(f.type,f.offset)=a:=by simpa using hi
  exact⟨f,rfl,by rw[← this],by rw[← this]⟩
theorem Tryz.hiLo:structF Tryz.prog 294=[(211,0),(211,1)]:=by kernel_rfl
theorem Tryz.arr696:Tryz.prog.underlying 295=some (.array 696 294):=by kernel_rfl
theorem Tryz.cellsHL:Tryz.prog.cellsOf 294=2:=by kernel_rfl
theorem Tryz.cellsU:Tryz.prog.cellsOf 211=1:=by kernel_rfl
theorem pow_rows:((List.range 10).all fun j=>Go.Pinned.pow10Rows[j+10+348]? == some (10^(j+10)*2^(63-lpf (j+10)),0))=true:=by decide +kernel
theorem one_cell {l:List Value}{i:Nat}{v:Value}(h:(l.drop i).take 1=[v]):l[i]?=some v:=by
 have:((l.drop i).take 1)[0]?=some v:=by rw[h];rfl
 rw[List.getElem?_take,if_pos (by omega),List.getElem?_drop] at this;exact this
theorem pow_of {sp:Nat->Bool}{held:Bool}{base:Nat}{G' t' fuel:Nat}{W:World}{cs:Array Value}{p:List MemPlace}
  (hg : Tryz.prog.globalNamed "internal/strconv.pow10Tab" = some G') (ht' : (Tryz.prog.globals[G']?).map (·.type) = some t') (hv : W.var? Tryz.prog "internal/strconv.pow10Tab" = some cs)
  (hd:DataW.trod (fun _=>()) Tryz.prog W base sp held fuel t' cs.toList=some (Go.Pinned.pow10Tab,p)):PowTab W:=by
 have hG : Tryz.prog.globalNamed "internal/strconv.pow10Tab" = some 16 := by kernel_rfl
 have hty:(Tryz.prog.globals[16]?).map (·.type)=some 295:=by kernel_rfl
 obtain rfl:=Option.some.inj (hG.symm.trans hg);obtain rfl:=Option.some.inj (hty.symm.trans ht');obtain⟨xs,m,rfl,hx,hlen,hxn,hel⟩:=DataW.trod_array Tryz.arr696 hd;obtain⟨fs,hfs,hfl⟩:=structF_get Tryz.hiLo (by simp);intro q hq1 hq2;have h1:=hel (q+348) (by omega);rw[Tryz.cellsHL,List.getElem?_eq_getElem (show q+348<xs.length by omega)] at h1;obtain⟨ys,m2,rfl,hy,_,hyn,hyl⟩:=DataW.trod_struct hfs h1;have hrow:=List.all_eq_true.1 pow_rows (q-10) (by simp;omega);rw[show q-10+10=q by omega] at hrow;have hrow':Go.Pinned.pow10Rows[q+348]?=some (10^q*2^(63-lpf q),0):=by simpa using hrow
 have hdat:(xs[q+348]'(by omega)).1=.agg [.lit (.int .u64 ((10^q*2^(63-lpf q):Nat):Int)),.lit (.int .u64 0)]:=by
  have h2:=congrArg Prod.fst hx;have h3:Go.Pinned.pow10Tab=.agg (xs.map (·.1)):=h2;unfold Go.Pinned.pow10Tab at h3;have h4:(Go.Pinned.pow10Rows.map fun x=>(DataW.agg [.lit (.int .u64 (x.1:Int)),.lit (.int .u64 (x.2:Int))]:DataW Unit))=xs.map (·.1):=by injection h3
  have h5:=congrArg (fun l=>l[q+348]?) h4;simp only[List.getElem?_map,hrow',List.getElem?_eq_getElem (show q+348<xs.length by omega),Option.map_some,Option.some.injEq] at h5;rw[← h5];rfl
 obtain⟨f0,hf0,ht0,hof0⟩:=field_at hfl (i:=0) rfl;obtain⟨f1,hf1,ht1,hof1⟩:=field_at hfl (i:=1) rfl;have g0:=hyl 0 f0 hf0;have g1:=hyl 1 f1 hf1;rw[ht0,hof0,Tryz.cellsU] at g0;rw[ht1,hof1,Tryz.cellsU] at g1;have hfs2:fs.size=2:=by have:=congrArg List.length hfl;simpa using this
 rw[List.getElem?_eq_getElem (show 0<ys.length by omega)] at g0;rw[List.getElem?_eq_getElem (show 1<ys.length by omega)] at g1;obtain⟨n0,e0,x0,_⟩:=DataW.trod_int Tryz.undU g0;obtain⟨n1,e1,x1,_⟩:=DataW.trod_int Tryz.undU g1;have hyy:(xs[q+348]'(by omega)).1=.agg (ys.map (·.1)):=by rw[hy]
 rw[hdat] at hyy;have hya:[DataW.lit (H:=Unit) (.int .u64 ((10^q*2^(63-lpf q):Nat):Int)),.lit (.int .u64 0)]=ys.map (·.1):=by injection hyy
 have z0:=congrArg (fun l=>l[0]?) hya;have z1:=congrArg (fun l=>l[1]?) hya;simp only[List.getElem?_map,List.getElem?_eq_getElem (show 0<ys.length by omega),x0] at z0;simp only[List.getElem?_map,List.getElem?_eq_getElem (show 1<ys.length by omega),x1] at z1;have z0':DataW.lit (H:=Unit) (.int .u64 ((10^q*2^(63-lpf q):Nat):Int))=.lit (.int .u64 n0):=Option.some.inj z0;have z1':DataW.lit (H:=Unit) (.int .u64 0)=.lit (.int .u64 n1):=Option.some.inj z1;injection z0' with z0''
 injection z0'' with _ z0a
 injection z1' with z1''
 injection z1'' with _ z1a
 have k0:cs.toList[(q+348)*2]?=some (.int .u64 n0):=by
  have h0:((cs.toList.drop ((q+348)*2)).take 2)[0]?=some (.int .u64 n0):=one_cell e0;rw[List.getElem?_take,if_pos (by omega),List.getElem?_drop,Nat.add_zero] at h0;exact h0
 have k1:cs.toList[(q+348)*2+1]?=some (.int .u64 n1):=by
  have h0:((cs.toList.drop ((q+348)*2)).take 2)[1]?=some (.int .u64 n1):=one_cell e1;rw[List.getElem?_take,if_pos (by omega),List.getElem?_drop] at h0;exact h0
 rw[Array.getElem?_toList,← z0a] at k0;rw[Array.getElem?_toList,← z1a] at k1;exact⟨(World.var?_cell hG hv _).trans k0,(World.var?_cell hG hv _).trans k1⟩
end
section
open Go.ChangeShapes Go.WideShapes Go.ChangeAt Go.WideMaps Go.WideElems Go.RowKit
theorem Tryz.finfo:structF Tryz.prog 313=[(183,0),(183,1),(3,2)]:=by kernel_rfl
theorem Tryz.undUi:Tryz.prog.underlying 183=some (.int .u64):=by kernel_rfl
theorem Tryz.cellsUi:Tryz.prog.cellsOf 183=1:=by kernel_rfl
theorem addr_zero (x:Addr):x.add 0=x:=by unfold Addr.add;exact if_pos rfl
theorem Tryz.cellsF:Tryz.prog.cellsOf 116=1:=by kernel_rfl
theorem Tryz.undBo:Tryz.prog.underlying 4=some .bool:=by kernel_rfl
theorem opt_of {sp:Nat->Bool}{held:Bool}{base:Nat}{G' t' fuel:Nat}{W:World}{cs:Array Value}{p:List MemPlace}
  (hg : Tryz.prog.globalNamed "internal/strconv.optimize" = some G') (ht' : (Tryz.prog.globals[G']?).map (·.type) = some t') (hv : W.var? Tryz.prog "internal/strconv.optimize" = some cs)
  (hd:DataW.trod (fun _=>()) Tryz.prog W base sp held fuel t' cs.toList=some (.lit (.bool true),p)):W.cell? ⟨11,0,none⟩=some (.bool true):=by
 have hG : Tryz.prog.globalNamed "internal/strconv.optimize" = some 11 := by kernel_rfl
 have hty:(Tryz.prog.globals[11]?).map (·.type)=some 4:=by kernel_rfl
 obtain rfl:=Option.some.inj (hG.symm.trans hg);obtain rfl:=Option.some.inj (hty.symm.trans ht');obtain⟨b,hc,hx⟩:=DataW.trod_bool Tryz.undBo hd;have:b=true:=by simpa using (congrArg Prod.fst hx).symm
 rw[World.var?_cell hG hv 0,← Array.getElem?_toList,hc,this];rfl
theorem info_of {sp:Nat->Bool}{held:Bool}{base:Nat}{G' t' fuel:Nat}{W:World}{cs:Array Value}{p:List MemPlace}
  (hg : Tryz.prog.globalNamed "internal/strconv.float64info" = some G') (ht' : (Tryz.prog.globals[G']?).map (·.type) = some t') (hv : W.var? Tryz.prog "internal/strconv.float64info" = some cs)
  (hd:DataW.trod (fun _=>()) Tryz.prog W base sp held fuel t' cs.toList=some (Rows.laid_internal_strconv_float64info,p)):W.cell? ⟨19,0,none⟩=some (.int .u64 52):=by
 have hG : Tryz.prog.globalNamed "internal/strconv.float64info" = some 19 := by kernel_rfl
 have hty:(Tryz.prog.globals[19]?).map (·.type)=some 313:=by kernel_rfl
 obtain rfl:=Option.some.inj (hG.symm.trans hg);obtain rfl:=Option.some.inj (hty.symm.trans ht');obtain⟨fs,hfs,hfl⟩:=structF_get Tryz.finfo (by simp);obtain⟨ys,m2,rfl,hy,_,hyn,hyl⟩:=DataW.trod_struct hfs hd;obtain⟨f0,hf0,ht0,hof0⟩:=field_at hfl (i:=0) rfl;have g0:=hyl 0 f0 hf0;rw[ht0,hof0,Tryz.cellsUi] at g0;have hfs2:fs.size=3:=by have:=congrArg List.length hfl;simpa using this
 rw[List.getElem?_eq_getElem (show 0<ys.length by omega)] at g0;obtain⟨n0,e0,x0,_⟩:=DataW.trod_int Tryz.undUi g0;have hyy:Rows.laid_internal_strconv_float64info=.agg (ys.map (·.1)):=congrArg Prod.fst hy;unfold Rows.laid_internal_strconv_float64info at hyy;have hya:[DataW.lit (H:=Unit) (.int .u64 52),.lit (.int .u64 11),.lit (.int .i64 (-1023))]=ys.map (·.1):=by injection hyy
 have z0:=congrArg (fun l=>l[0]?) hya;simp only[List.getElem?_map,List.getElem?_eq_getElem (show 0<ys.length by omega),x0] at z0;have z0':DataW.lit (H:=Unit) (.int .u64 52)=.lit (.int .u64 n0):=Option.some.inj z0;have z0a:(52:Int)=n0:=by simpa using z0'
 have k0:=one_cell e0;rw[Array.getElem?_toList,← z0a] at k0;exact (World.var?_cell hG hv _).trans k0
theorem float_of {held:Bool}{G' t' fuel:Nat}{W:World}{cs:Array Value}{p:List MemPlace}{sp:Nat->Bool}
  (hg : Tryz.prog.globalNamed "internal/strconv.float64pow10" = some G') (ht' : (Tryz.prog.globals[G']?).map (·.type) = some t') (hv : W.var? Tryz.prog "internal/strconv.float64pow10" = some cs)
  (hd:DataW.trod (fun _=>()) Tryz.prog W 0 sp held fuel t' cs.toList=some (Rows.laid_internal_strconv_float64pow10,p)) :
  ∃ (a:Addr) (cap:Nat),W.cell? ⟨22,0,none⟩=some (.slice (some a) 23 cap)/\∀ k,1<=k->k<=3->W.cell? (a.add k)=some (.float .f64 (pw k)):=by
 have hG : Tryz.prog.globalNamed "internal/strconv.float64pow10" = some 22 := by kernel_rfl
 have hty:(Tryz.prog.globals[22]?).map (·.type)=some 329:=by kernel_rfl
 obtain rfl:=Option.some.inj (hG.symm.trans hg);obtain rfl:=Option.some.inj (hty.symm.trans ht')
 rcases DataW.trod_slice Tryz.undFs hd with⟨_,hx⟩|⟨a,len,cap,elems,rest,n,rfl,hc,hx,_,_,_,hel,hcell,_⟩
 ·have:=congrArg Prod.fst hx;unfold Rows.laid_internal_strconv_float64pow10 at this;cases this
 ·have h1:=congrArg Prod.fst hx;unfold Rows.laid_internal_strconv_float64pow10 at h1;simp only[] at h1;injection h1 with h2 h3
  have hl:elems.length=23:=by have:=congrArg List.length h2;simpa using this.symm
  have hlen:len=23:=by omega
  subst hlen;refine⟨a,cap,?_,fun k k1 k3=>?_⟩
  ·rw[World.var?_cell hG hv 0,← Array.getElem?_toList,hc];rfl
  ·have hk:=hcell k (by omega);rw[Tryz.cellsF,Nat.mul_one,List.getElem?_eq_getElem (show k<elems.length by omega)] at hk
   rcases hq:W.cells? 0 (a.add k) 1 with _|vs
   ·rw[hq] at hk;cases hk
   ·rw[hq] at hk;simp only[Option.bind_some] at hk;obtain⟨b,e,hb⟩:=trod_float Tryz.undF hk;have h5:=congrArg (fun l=>l[k]?) h2;simp only[List.getElem?_map,List.getElem?_eq_getElem (show k<elems.length by omega),hb] at h5
    have hv1:W.cell? (a.add k)=some (.float .f64 b):=by
     unfold World.cells? at hq;rw[if_pos (Nat.zero_le _)] at hq;have he:vs=[.float .f64 b]:=e;rw[he] at hq;have ha0:=addr_zero (a.add k);have hr:List.range 1=[0]:=rfl;rw[hr,List.mapM_cons,ha0] at hq
     rcases hz:W.cell? (a.add k) with _|z
     ·rw[hz] at hq;cases hq
     ·rw[hz] at hq;have:z=.float .f64 b:=by simpa using hq
      rw[this]
    rw[hv1]
    match k,k1,k3,h5 with
    | 1,_,_,h5=>simp at h5;rw[← h5];rfl
    | 2,_,_,h5=>simp at h5;rw[← h5];rfl
    | 3,_,_,h5=>simp at h5;rw[← h5];rfl
set_option maxRecDepth 100000 in
theorem of_laid {W:World}(h:laidMetH Tryz.prog laidL W):∃ T,AllT W T:=by
 rw[MakeChecks.laidMetH_plain _ _ _ (by kernel_rfl)] at h;obtain⟨ps,h,_,_⟩:=h;obtain⟨g0,t0,c0,f0,p0,q0,hg0,ht0,hv0,hd0,h,_⟩:=h;obtain⟨g1,t1,c1,f1,p1,q1,hg1,ht1,hv1,hd1,h,_⟩:=h;obtain⟨g2,t2,c2,f2,p2,q2,hg2,ht2,hv2,hd2,h,_⟩:=h;obtain⟨g3,t3,c3,f3,p3,q3,hg3,ht3,hv3,hd3,h,_⟩:=h;obtain⟨g4,t4,c4,f4,p4,q4,hg4,ht4,hv4,hd4,h,_⟩:=h;obtain⟨g5,t5,c5,f5,p5,q5,hg5,ht5,hv5,hd5,h,_⟩:=h;obtain⟨g6,t6,c6,f6,p6,q6,hg6,ht6,hv6,hd6,h,_⟩:=h;obtain⟨g7,t7,c7,f7,p7,q7,hg7,ht7,hv7,hd7,h,_⟩:=h;obtain⟨g8,t8,c8,f8,p8,q8,hg8,ht8,hv8,hd8,h,_⟩:=h;obtain⟨g9,t9,c9,f9,p9,q9,hg9,ht9,hv9,hd9,h,_⟩:=h;obtain⟨g10,t10,c10,f10,p10,q10,hg10,ht10,hv10,hd10,h,_⟩:=h;obtain⟨g11,t11,c11,f11,p11,q11,hg11,ht11,hv11,hd11,h,_⟩:=h;obtain⟨g12,t12,c12,f12,p12,q12,hg12,ht12,hv12,hd12,h,_⟩:=h;obtain⟨g13,t13,c13,f13,p13,q13,hg13,ht13,hv13,hd13,h,_⟩:=h;obtain⟨g14,t14,c14,f14,p14,q14,hg14,ht14,hv14,hd14,h,_⟩:=h;obtain⟨g15,t15,c15,f15,p15,q15,hg15,ht15,hv15,hd15,h,_⟩:=h;obtain⟨g16,t16,c16,f16,p16,q16,hg16,ht16,hv16,hd16,h,_⟩:=h;obtain⟨g17,t17,c17,f17,p17,q17,hg17,ht17,hv17,hd17,h,_⟩:=h;have k11:Tab W 10 orderT:=tab_of Tryz.arr19 (by decide) (by kernel_rfl) (by kernel_rfl) hg11 ht11 hv11 hd11 rfl;have k12:Tab W 6 baseT:=tab_of Tryz.arr29 (by decide) (by kernel_rfl) (by kernel_rfl) hg12 ht12 hv12 hd12 rfl;have k13:Tab W 7 extraT:=tab_of Tryz.arr29 (by decide) (by kernel_rfl) (by kernel_rfl) hg13 ht13 hv13 hd13 rfl;have k14:Tab W 8 farT:=tab_of Tryz.arr30 (by decide) (by kernel_rfl) (by kernel_rfl) hg14 ht14 hv14 hd14 rfl;have k15:Tab W 9 moreT:=tab_of Tryz.arr30 (by decide) (by kernel_rfl) (by kernel_rfl) hg15 ht15 hv15 hd15 rfl;have k17:=pow_of hg17 ht17 hv17 hd17;have k4:=opt_of hg4 ht4 hv4 hd4;have k3:=info_of hg3 ht3 hv3 hd3;obtain⟨a,cap,ha,hp⟩:=float_of hg6 ht6 hv6 hd6
 have k8 : Lib.TabIs Tryz.prog W "internal/strconv.uint64pow10" .u64 Lib.pow10Tab := by
  have hG : Tryz.prog.globalNamed "internal/strconv.uint64pow10" = some 5 := by kernel_rfl
  have hty:(Tryz.prog.globals[5]?).map (·.type)=some 231:=by kernel_rfl
  obtain rfl:=Option.some.inj (hG.symm.trans hg8);obtain rfl:=Option.some.inj (hty.symm.trans ht8);unfold Lib.TabIs;rw[hv8,← Lib.cells_of_tab (zs:=Lib.pow10Tab) Tryz.arr20 Tryz.undU Tryz.cellsU (by kernel_rfl) (show DataW.trod _ _ _ _ _ _ _ _ _=some (Lib.tabData .u64 Lib.pow10Tab,p8) from hd8)]
 exact⟨a.block,⟨k12,k13,k14,k15,k11⟩,k8,k17,⟨k4,k3,a,cap,rfl,ha,hp⟩,var_lt (G:=22) (by kernel_rfl) hv6⟩
end
section
open Go.ChangeShapes Go.WideShapes Go.ChangeAt Go.WideMaps Go.WideElems Go.RowKit
open Go.ChangeMaps (open_string shut_string)
theorem post_new {H:Type}{enc:TypeId×Value->H}{P:Program}{f:Func}{s:ChangeSpec}{apart fresh handsOn again:Bool}{W W':World}{args:Array Value}{v:Value}{ds gs:List (DataW H)}
  (hW:DataW.Whole enc P f.params.toList s.vars apart W args.toList ds gs [])
  (hres:∀ (b:Nat) (sp:Nat->Bool) (hd:Bool),DataW.TrodAll enc P W' b sp hd f.resultTypes.toList (v.resultList f.resultTypes.size) (s.fn H (ds++gs)).results [])
  (hargs:∀ sp:Nat->Bool,DataW.TrodAll enc P W' 0 sp true f.params.toList args.toList (s.fn H (ds++gs)).args [])
  (hvars:∀ sp:Nat->Bool,DataW.TrodVars enc P W' sp s.vars (s.fn H (ds++gs)).vars [])
  (hk:Below W.heap.size W W')
  (hok:∀ (j:Nat) (t:TypeId) (r:Value),f.resultTypes[j]?=some t->(v.resultList f.resultTypes.size)[j]?=some r->Value.okWide P W' .any 0 t r) :
  s.post enc P f apart fresh handsOn again W args v W':=by
 refine⟨ds,gs,[],[],[],[],hW,hres _ _ _,hargs _,hvars _,hk.frame _,fun _=>?_⟩;refine⟨hok,_,_,([]++[])++[],⟨[]++[],[],trodAll_append (hargs _) (hres _ _ _),hvars _,rfl,?_,?_⟩,?_⟩
 ·intro b off hp;simp at hp
 ·intro _;simp
 ·intro p hp _;simp at hp
set_option maxRecDepth 100000 in
theorem laid_met (os:Os) (args:Array Value):laidMetH Tryz.prog laidL ((World.laidAll Tryz.prog os laidL).forCall (fun _ _=>0) ⟨#[],args,[]⟩).memory:=by
 rw[MakeChecks.laidMetH_plain _ _ _ (by kernel_rfl)];exact laidMet_laidAll _ (by kernel_rfl) (by kernel_rfl)
end
end Go.Proofs.YtgffljllfenhkaaGreatDoor
