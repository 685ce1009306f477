import Derived.Lay
import Derived.Test.YtgffljllfenhkaaGreatDoorHwbs
section
namespace Go.Proofs.YtgffljllfenhkaaGreatDoor
open Go.ChangeShapes Go.WideShapes Go.ChangeAt Go.WideMaps Go.WideElems Go.RowKit
theorem Tryz.finfo:structF Tryz.prog 313=[(183,0),(183,1),(3,2)]:=by kernel_rfl
theorem Tryz.undUi:Tryz.prog.underlying 183=some (.int .u64):=by kernel_rfl
theorem Tryz.cellsUi:Tryz.prog.cellsOf 183=1:=by kernel_rfl
theorem addr_zero (x:Addr):x.add 0=x:=by unfold Addr.add;exact if_pos rfl
theorem Tryz.cellsF:Tryz.prog.cellsOf 116=1:=by kernel_rfl
theorem Tryz.undBo:Tryz.prog.underlying 4=some .bool:=by kernel_rfl
theorem opt_of {sp:Nat→Bool} {held:Bool} {base:Nat} {G' t' fuel:Nat} {W:World} {cs:Array Value} {p:List MemPlace}
  (hg : Tryz.prog.globalNamed "internal/strconv.optimize" = some G') (ht' : (Tryz.prog.globals[G']?).map (·.type) = some t') (hv : W.var? Tryz.prog "internal/strconv.optimize" = some cs)
  (hd:DataW.trod (fun _=>()) Tryz.prog W base sp held fuel t' cs.toList=some (.lit (.bool true),p)):W.cell? ⟨11,0,none⟩=some (.bool true):=by
 have hG : Tryz.prog.globalNamed "internal/strconv.optimize" = some 11 := by kernel_rfl
 have hty:(Tryz.prog.globals[11]?).map (·.type)=some 4:=by kernel_rfl
 obtain rfl:=Option.some.inj (hG.symm.trans hg)
 obtain rfl:=Option.some.inj (hty.symm.trans ht')
 obtain ⟨b,hc,hx⟩:=DataW.trod_bool Tryz.undBo hd
 have:b=true:=by simpa using (congrArg Prod.fst hx).symm
 rw [World.var?_cell hG hv 0,← Array.getElem?_toList,hc,this];rfl
theorem info_of {sp:Nat→Bool} {held:Bool} {base:Nat} {G' t' fuel:Nat} {W:World} {cs:Array Value} {p:List MemPlace}
  (hg : Tryz.prog.globalNamed "internal/strconv.float64info" = some G') (ht' : (Tryz.prog.globals[G']?).map (·.type) = some t') (hv : W.var? Tryz.prog "internal/strconv.float64info" = some cs)
  (hd:DataW.trod (fun _=>()) Tryz.prog W base sp held fuel t' cs.toList=some (Rows.laid_internal_strconv_float64info,p)):W.cell? ⟨19,0,none⟩=some (.int .u64 52):=by
 have hG : Tryz.prog.globalNamed "internal/strconv.float64info" = some 19 := by kernel_rfl
 have hty:(Tryz.prog.globals[19]?).map (·.type)=some 313:=by kernel_rfl
 obtain rfl:=Option.some.inj (hG.symm.trans hg)
 obtain rfl:=Option.some.inj (hty.symm.trans ht')
 obtain ⟨fs,hfs,hfl⟩:=structF_get Tryz.finfo (by simp)
 obtain ⟨ys,m2,rfl,hy,_,hyn,hyl⟩:=DataW.trod_struct hfs hd
 obtain ⟨f0,hf0,ht0,hof0⟩:=field_at hfl (i:=0) rfl
 have g0:=hyl 0 f0 hf0
 rw [ht0,hof0,Tryz.cellsUi] at g0
 have hfs2:fs.size=3:=by have:=congrArg List.length hfl;simpa using this
 rw [List.getElem?_eq_getElem (show 0 < ys.length by omega)] at g0
 obtain ⟨n0,e0,x0,_⟩:=DataW.trod_int Tryz.undUi g0
 have hyy:Rows.laid_internal_strconv_float64info=.agg (ys.map (·.1)):=congrArg Prod.fst hy
 unfold Rows.laid_internal_strconv_float64info at hyy
 have hya:[DataW.lit (H:=Unit) (.int .u64 52),.lit (.int .u64 11),.lit (.int .i64 (-1023))]=ys.map (·.1):=by injection hyy
 have z0:=congrArg (fun l=>l[0]?) hya
 simp only [List.getElem?_map,List.getElem?_eq_getElem (show 0 < ys.length by omega),x0] at z0
 have z0':DataW.lit (H:=Unit) (.int .u64 52)=.lit (.int .u64 n0):=Option.some.inj z0
 have z0a:(52:Int)=n0:=by simpa using z0'
 have k0:=one_cell e0
 rw [Array.getElem?_toList,← z0a] at k0
 exact (World.var?_cell hG hv _).trans k0
theorem float_of {held:Bool} {G' t' fuel:Nat} {W:World} {cs:Array Value} {p:List MemPlace} {sp:Nat→Bool}
  (hg : Tryz.prog.globalNamed "internal/strconv.float64pow10" = some G') (ht' : (Tryz.prog.globals[G']?).map (·.type) = some t') (hv : W.var? Tryz.prog "internal/strconv.float64pow10" = some cs)
  (hd:DataW.trod (fun _=>()) Tryz.prog W 0 sp held fuel t' cs.toList=some (Rows.laid_internal_strconv_float64pow10,p)) :
  ∃ (a:Addr) (cap:Nat),W.cell? ⟨22,0,none⟩=some (.slice (some a) 23 cap)∧∀ k,1≤k→k≤3→W.cell? (a.add k)=some (.float .f64 (pw k)):=by
 have hG : Tryz.prog.globalNamed "internal/strconv.float64pow10" = some 22 := by kernel_rfl
 have hty:(Tryz.prog.globals[22]?).map (·.type)=some 329:=by kernel_rfl
 obtain rfl:=Option.some.inj (hG.symm.trans hg)
 obtain rfl:=Option.some.inj (hty.symm.trans ht')
 rcases DataW.trod_slice Tryz.undFs hd with ⟨_,hx⟩ | ⟨a,len,cap,elems,rest,n,rfl,hc,hx,_,_,_,hel,hcell,_⟩
 ·have:=congrArg Prod.fst hx
  unfold Rows.laid_internal_strconv_float64pow10 at this
  cases this
 ·have h1:=congrArg Prod.fst hx
  unfold Rows.laid_internal_strconv_float64pow10 at h1
  simp only [] at h1
  injection h1 with h2 h3
  have hl:elems.length=23:=by have:=congrArg List.length h2;simpa using this.symm
  have hlen:len=23:=by omega
  subst hlen
  refine ⟨a,cap,?_,fun k k1 k3=>?_⟩
  ·rw [World.var?_cell hG hv 0,← Array.getElem?_toList,hc];rfl
  ·have hk:=hcell k (by omega)
   rw [Tryz.cellsF,Nat.mul_one,List.getElem?_eq_getElem (show k < elems.length by omega)] at hk
   rcases hq:W.cells? 0 (a.add k) 1 with _ | vs
   ·rw [hq] at hk;cases hk
   ·rw [hq] at hk
    simp only [Option.bind_some] at hk
    obtain ⟨b,e,hb⟩:=trod_float Tryz.undF hk
    have h5:=congrArg (fun l=>l[k]?) h2
    simp only [List.getElem?_map,List.getElem?_eq_getElem (show k < elems.length by omega),hb] at h5
    have hv1:W.cell? (a.add k)=some (.float .f64 b):=by
     unfold World.cells? at hq
     rw [if_pos (Nat.zero_le _)] at hq
     have he:vs=[.float .f64 b]:=e
     rw [he] at hq
     have ha0:=addr_zero (a.add k)
     have hr:List.range 1=[0]:=rfl
     rw [hr,List.mapM_cons,ha0] at hq
     rcases hz:W.cell? (a.add k) with _ | z
     ·rw [hz] at hq;cases hq
     ·rw [hz] at hq
      have:z=.float .f64 b:=by simpa using hq
      rw [this]
    rw [hv1]
    match k,k1,k3,h5 with
    | 1,_,_,h5=>simp at h5;rw [← h5];rfl
    | 2,_,_,h5=>simp at h5;rw [← h5];rfl
    | 3,_,_,h5=>simp at h5;rw [← h5];rfl
set_option maxRecDepth 100000 in
theorem of_laid {W:World} (h:laidMetH Tryz.prog laidL W):∃ T,AllT W T:=by
 rw [MakeChecks.laidMetH_plain _ _ _ (by kernel_rfl)] at h
 obtain ⟨ps,h,_,_⟩:=h
 obtain ⟨g0,t0,c0,f0,p0,q0,hg0,ht0,hv0,hd0,h,_⟩:=h
 obtain ⟨g1,t1,c1,f1,p1,q1,hg1,ht1,hv1,hd1,h,_⟩:=h
 obtain ⟨g2,t2,c2,f2,p2,q2,hg2,ht2,hv2,hd2,h,_⟩:=h
 obtain ⟨g3,t3,c3,f3,p3,q3,hg3,ht3,hv3,hd3,h,_⟩:=h
 obtain ⟨g4,t4,c4,f4,p4,q4,hg4,ht4,hv4,hd4,h,_⟩:=h
 obtain ⟨g5,t5,c5,f5,p5,q5,hg5,ht5,hv5,hd5,h,_⟩:=h
 obtain ⟨g6,t6,c6,f6,p6,q6,hg6,ht6,hv6,hd6,h,_⟩:=h
 obtain ⟨g7,t7,c7,f7,p7,q7,hg7,ht7,hv7,hd7,h,_⟩:=h
 obtain ⟨g8,t8,c8,f8,p8,q8,hg8,ht8,hv8,hd8,h,_⟩:=h
 obtain ⟨g9,t9,c9,f9,p9,q9,hg9,ht9,hv9,hd9,h,_⟩:=h
 obtain ⟨g10,t10,c10,f10,p10,q10,hg10,ht10,hv10,hd10,h,_⟩:=h
 obtain ⟨g11,t11,c11,f11,p11,q11,hg11,ht11,hv11,hd11,h,_⟩:=h
 obtain ⟨g12,t12,c12,f12,p12,q12,hg12,ht12,hv12,hd12,h,_⟩:=h
 obtain ⟨g13,t13,c13,f13,p13,q13,hg13,ht13,hv13,hd13,h,_⟩:=h
 obtain ⟨g14,t14,c14,f14,p14,q14,hg14,ht14,hv14,hd14,h,_⟩:=h
 obtain ⟨g15,t15,c15,f15,p15,q15,hg15,ht15,hv15,hd15,h,_⟩:=h
 obtain ⟨g16,t16,c16,f16,p16,q16,hg16,ht16,hv16,hd16,h,_⟩:=h
 obtain ⟨g17,t17,c17,f17,p17,q17,hg17,ht17,hv17,hd17,h,_⟩:=h
 have k11:Tab W 10 orderT:=tab_of Tryz.arr19 (by decide) (by kernel_rfl) (by kernel_rfl) hg11 ht11 hv11 hd11 rfl
 have k12:Tab W 6 baseT:=tab_of Tryz.arr29 (by decide) (by kernel_rfl) (by kernel_rfl) hg12 ht12 hv12 hd12 rfl
 have k13:Tab W 7 extraT:=tab_of Tryz.arr29 (by decide) (by kernel_rfl) (by kernel_rfl) hg13 ht13 hv13 hd13 rfl
 have k14:Tab W 8 farT:=tab_of Tryz.arr30 (by decide) (by kernel_rfl) (by kernel_rfl) hg14 ht14 hv14 hd14 rfl
 have k15:Tab W 9 moreT:=tab_of Tryz.arr30 (by decide) (by kernel_rfl) (by kernel_rfl) hg15 ht15 hv15 hd15 rfl
 have k17:=pow_of hg17 ht17 hv17 hd17
 have k4:=opt_of hg4 ht4 hv4 hd4
 have k3:=info_of hg3 ht3 hv3 hd3
 obtain ⟨a,cap,ha,hp⟩:=float_of hg6 ht6 hv6 hd6
 have k8 : Lib.TabIs Tryz.prog W "internal/strconv.uint64pow10" .u64 Lib.pow10Tab := by
  have hG : Tryz.prog.globalNamed "internal/strconv.uint64pow10" = some 5 := by kernel_rfl
  have hty:(Tryz.prog.globals[5]?).map (·.type)=some 231:=by kernel_rfl
  obtain rfl:=Option.some.inj (hG.symm.trans hg8)
  obtain rfl:=Option.some.inj (hty.symm.trans ht8)
  unfold Lib.TabIs
  rw [hv8,← Lib.cells_of_tab (zs:=Lib.pow10Tab) Tryz.arr20 Tryz.undU Tryz.cellsU (by kernel_rfl) (show DataW.trod _ _ _ _ _ _ _ _ _=some (Lib.tabData .u64 Lib.pow10Tab,p8) from hd8)]
 exact ⟨a.block,⟨k12,k13,k14,k15,k11⟩,k8,k17,⟨k4,k3,a,cap,rfl,ha,hp⟩,var_lt (G:=22) (by kernel_rfl) hv6⟩
end Go.Proofs.YtgffljllfenhkaaGreatDoor
end
section
namespace Go.Proofs.YtgffljllfenhkaaGreatDoor
open Go.ChangeShapes Go.WideShapes Go.ChangeAt Go.WideMaps Go.WideElems Go.RowKit
open Go.ChangeMaps (open_string shut_string)
theorem post_new {H:Type} {enc:TypeId×Value→H} {P:Program} {f:Func} {s:ChangeSpec} {apart fresh handsOn again:Bool} {W W':World} {args:Array Value} {v:Value} {ds gs:List (DataW H)}
  (hW:DataW.Whole enc P f.params.toList s.vars apart W args.toList ds gs [])
  (hres:∀ (b:Nat) (sp:Nat→Bool) (hd:Bool),DataW.TrodAll enc P W' b sp hd f.resultTypes.toList (v.resultList f.resultTypes.size) (s.fn H (ds++gs)).results [])
  (hargs:∀ sp:Nat→Bool,DataW.TrodAll enc P W' 0 sp true f.params.toList args.toList (s.fn H (ds++gs)).args [])
  (hvars:∀ sp:Nat→Bool,DataW.TrodVars enc P W' sp s.vars (s.fn H (ds++gs)).vars [])
  (hk:Below W.heap.size W W')
  (hok:∀ (j:Nat) (t:TypeId) (r:Value),f.resultTypes[j]?=some t→(v.resultList f.resultTypes.size)[j]?=some r→Value.okWide P W' .any 0 t r) :
  s.post enc P f apart fresh handsOn again W args v W':=by
 refine ⟨ds,gs,[],[],[],[],hW,hres _ _ _,hargs _,hvars _,hk.frame _,fun _=>?_⟩
 refine ⟨hok,_,_,([]++[])++[],⟨[]++[],[],trodAll_append (hargs _) (hres _ _ _),hvars _,rfl,?_,?_⟩,?_⟩
 ·intro b off hp
  simp at hp
 ·intro _
  simp
 ·intro p hp _
  simp at hp
set_option maxRecDepth 100000 in
theorem laid_met (os:Os) (args:Array Value):laidMetH Tryz.prog laidL ((World.laidAll Tryz.prog os laidL).forCall (fun _ _=>0) ⟨#[],args,[]⟩).memory:=by
 rw [MakeChecks.laidMetH_plain _ _ _ (by kernel_rfl)]
 exact laidMet_laidAll _ (by kernel_rfl) (by kernel_rfl)
end Go.Proofs.YtgffljllfenhkaaGreatDoor
end
