import Derived.Defers
import Derived.Recover
import Derived.Test.YtgffljllfenhkaaGreatDoorGwax
import Derived.Test.YtgffljllfenhkaaGreatDoorGwbk
import Derived.Test.YtgffljllfenhkaaGreatDoorGwbl
namespace Go.Proofs.YtgffljllfenhkaaGreatDoor
section
open Go.RowKit
theorem grownBy_set1 (w:World) (g i:Nat) (v:Value):w.grownBy (w.setCell ⟨g,i,none⟩ v) (some g):=
 ⟨rfl,rfl,rfl,by simp,fun k _ hk=>Below.heap_setCell _ _ _ _ (fun e=>hk (by rw[e]))⟩
set_option maxHeartbeats 1000000 in
set_option maxRecDepth 100000 in
theorem catchY_panicking (h:Nat) (y:Why) (w:World) (hh:w.heap[h]?=some (.cells #[.int .i64 0,.int .i64 0] 45 (0,0))) :
  CallsD Tryz.prog 35 #[.pointer (some ⟨h,0,none⟩)] (.panicking (thrownY y)) w fun e u' w'=>
   e=.returned (.tuple #[])/\u'=.panicking [{ v:=.iface 45 (.agg #[.int .i64 (y.1:Int),.int .i64 (y.2:Int)]),recovered:=true }]/\w'.heap[h]?=some (.cells #[.int .i64 (y.1:Int),.int .i64 (y.2:Int)] 45 (0,0))/\w.grownBy w' (some h):=by
 have c0:w.cell? ⟨h,0,none⟩=some (.int .i64 0):=by simp[World.cell?,hh]
 have c1:w.cell? ⟨h,1,none⟩=some (.int .i64 0):=by simp[World.cell?,hh]
 have f0:w.frozen? ⟨h,0,none⟩=false:=by simp[World.frozen?,hh]
 have f1:w.frozen? ⟨h,1,none⟩=false:=by simp[World.frozen?,hh]
 have hlt:h<w.heap.size:=(Array.getElem?_eq_some_iff.1 hh).1;have hta:∀ w:World,(Instr.typeAssert (.iface 45 (.agg #[.int .i64 (y.1:Int),.int .i64 (y.2:Int)])) 20 45 true).run Tryz.prog w=.ok (.tuple #[.agg #[.int .i64 (y.1:Int),.int .i64 (y.2:Int)],.bool true]) w:=fun _=>by kernel_rfl
 unfold thrownY;refine callsD_of_wpS Tryz.func35 rfl fun c₀ cs hu=>?_
 apply wpS_seq;apply wpS_region;simp[wpOpsS,go_sem,recoverD,hu,Tryz.ntmps35,Exit.thenS];rw[show Array.replicate 10 undef=#[undef,undef,undef,undef,undef,undef,undef,undef,undef,undef] from rfl];simp only[List.setIfInBounds_toArray,List.set_cons_zero,List.set_cons_succ,List.append_toArray,List.cons_append,List.nil_append];refine wpS_of_wp ?_
 go_wp2_with fail
 have hgr:=World.grownBy_alloc ((w.setCell ⟨h,0,none⟩ (.int .i64 (y.1:Int))).setCell ⟨h,1,none⟩ (.int .i64 (y.2:Int))) (.cells #[.int .i64 (y.1:Int),.int .i64 (y.2:Int)] 45) (some h);have hg2:=gTrans (gTrans (grownBy_set1 w h 0 (.int .i64 (y.1:Int))) (grownBy_set1 (w.setCell ⟨h,0,none⟩ (.int .i64 (y.1:Int))) h 1 (.int .i64 (y.2:Int)))) hgr
 have hfin:(((w.setCell ⟨h,0,none⟩ (.int .i64 (y.1:Int))).setCell ⟨h,1,none⟩ (.int .i64 (y.2:Int))).alloc (.cells #[.int .i64 (y.1:Int),.int .i64 (y.2:Int)] 45)).heap[h]?=some (.cells #[.int .i64 (y.1:Int),.int .i64 (y.2:Int)] 45 (0,0)):=by
  rw[Below.heap_alloc _ _ _ (by simpa using hlt)];have e1:=heap_setCell_same w h 0 _ _ (.int .i64 (y.1:Int)) hh;have e2:=heap_setCell_same (w.setCell ⟨h,0,none⟩ (.int .i64 (y.1:Int))) h 1 _ _ (.int .i64 (y.2:Int)) e1;exact e2
 simp[bodyPostS,results,Tryz.results35];exact⟨hfin,hg2⟩
theorem catchY_idle (h:Nat) (w:World) :
  CallsD Tryz.prog 35 #[.pointer (some ⟨h,0,none⟩)] .returning w fun e u' w'=>e=.returned (.tuple #[])/\u'=.returning/\w'=w:=by
 refine callsD_of_wpS Tryz.func35 rfl fun c₀ cs hu=>?_
 apply wpS_seq;apply wpS_region;simp[wpOpsS,go_sem,recoverD,hu,Tryz.ntmps35,Exit.thenS];refine wpS_of_wp ?_
 go_wp2_with fail
 cases c₀
 simp_all[bodyPostS,results,Tryz.results35]
def WorkY (w:World) (R:Res (List UInt8)) (g:Nat) (e:Ending) (w':World):Prop:=
 (∃ t b w2,R=.ok t b/\e=.returned (.tuple #[])/\Below w.heap.size w w2/\w'=w2.setCell ⟨g+2,0,none⟩ (.string (bstr t)))\/(∃ y,R=.no y/\e=.panicked (thrownY y)/\Below w.heap.size w w')
def RinseC (w:World) (f:ByteArray) (st ou:Int) (R:Res (List UInt8)):Prop:=∀ W,Below w.heap.size w W->Calls Tryz.prog 24 #[.string f,.agg #[.int .i64 st,.int .i64 ou]] W (PostN W (fun t v=>v=.string (bstr t)) R)
set_option maxHeartbeats 1000000 in
set_option maxRecDepth 100000 in
theorem workY_any {w0:World}{f x:ByteArray}{st ou:Int}{R:Res (List UInt8)}(RC:RinseC w0 f st ou R) (w:World) (hw:Below w0.heap.size w0 w) (g:Nat) (hg:w.heap[g]?=some (.cells #[.string f] 9 (0,0))) (hl:w.heap[g+1]?=some (.cells #[.int .i64 st,.int .i64 ou] 32 (0,0))) (hx:w.heap[g+2]?=some (.cells #[.string x] 9 (0,0))) :
  Calls Tryz.prog 23 #[.pointer (some ⟨g,0,none⟩),.pointer (some ⟨g+1,0,none⟩),.pointer (some ⟨g+2,0,none⟩)] w (WorkY w R g):=by
 have c0:w.cell? ⟨g,0,none⟩=some (.string f):=by simp[World.cell?,hg]
 have RW:=RC w hw
 go_enter Tryz.func23,Tryz.ntmps23
 go_wp2_with (refine load_row rfl 32 _ rfl (g+1) rfl 32 _ (0,0) hl Tryz.agLi Tryz.sizeLi ?_)
 refine RW.mono ?_;rintro e w2 ⟨hB2,h2⟩;have hx2:=(hB2.block (g+2) (Array.getElem?_eq_some_iff.1 hx).1).trans hx;have c1:w2.cell? ⟨g+2,0,none⟩=some (.string x):=by simp[World.cell?,hx2]
 have f1:w2.frozen? ⟨g+2,0,none⟩=false:=by simp[World.frozen?,hx2]
 rcases hR:R with⟨t,b⟩|y
 ·rw[hR] at h2;obtain⟨v,rfl,rfl⟩:=h2;have HR:=hid hR;clear hR
  go_wp2_with fail
  refine bodyPost_ret (results_none rfl _ _ _) rfl ?_;exact .inl ⟨t,b,w2,unh HR,rfl,hB2,rfl⟩
 ·rw[hR] at h2;subst h2;exact⟨rfl,.inr ⟨y,rfl,rfl,hB2⟩⟩
def AnsY (w:World) (R:Res (List UInt8)) (g:Nat) (e:Ending) (w':World):Prop:=
 w.grownBy w' (some (g+2))/\((∃ t b,R=.ok t b/\e=.returned (.agg #[.int .i64 0,.int .i64 0])/\w'.heap[g+2]?=some (.cells #[.string (bstr t)] 9 (0,0)))\/(∃ y:Why,R=.no y/\e=.returned (.agg #[.int .i64 (y.1:Int),.int .i64 (y.2:Int)])/\w'.heap[g+2]?=w.heap[g+2]?))
set_option maxHeartbeats 1000000 in
set_option maxRecDepth 100000 in
theorem answerY_any {w0:World}{f x:ByteArray}{st ou:Int}{R:Res (List UInt8)}(RC:RinseC w0 f st ou R) (w:World) (hw:Below w0.heap.size w0 w) (g:Nat) (hg:w.heap[g]?=some (.cells #[.string f] 9 (0,0))) (hl:w.heap[g+1]?=some (.cells #[.int .i64 st,.int .i64 ou] 32 (0,0))) (hx:w.heap[g+2]?=some (.cells #[.string x] 9 (0,0))) :
  Calls Tryz.prog 22 #[.func (.func 23) #[] #[.pointer (some ⟨g,0,none⟩),.pointer (some ⟨g+1,0,none⟩),.pointer (some ⟨g+2,0,none⟩)]] w (AnsY w R g):=by
 have hmf:∀ (fn:Fn) (first cap:Array Value) (w:World),(Instr.makeFunc fn first cap).run Tryz.prog w=.ok (.func fn first cap) w:=fun _ _ _ _=>rfl
 have hltg:g+2<w.heap.size:=(Array.getElem?_eq_some_iff.1 hx).1;have hBa:Below w.heap.size w (w.alloc (.cells #[.int .i64 0,.int .i64 0] 45)):=(Below.refl _ _).alloc (Nat.le_refl _) _
 go_enter_defers Tryz.func22,Tryz.ntmps22
 go_wp2_with fail
 refine (workY_any RC _ (hw.trans (hBa.mono hw.size)) g ((hBa.block g (by omega)).trans hg) ((hBa.block (g+1) (by omega)).trans hl) ((hBa.block (g+2) hltg).trans hx)).mono ?_;rintro e w2 (⟨out,bb,w3,ho,rfl,hB,rfl⟩|⟨y,ho,rfl,hB⟩)
 ·have hB3:Below w.heap.size w w3:=hBa.trans (hB.mono (by simp));have hh3:w3.heap[w.heap.size]?=some (.cells #[.int .i64 0,.int .i64 0] 45 (0,0)):=(hB.block _ (by simp)).trans (World.alloc_heap_new w _);have hx3:=(hB3.block (g+2) hltg).trans hx;obtain⟨W,hW⟩:∃ W,w3.setCell ⟨g+2,0,none⟩ (.string (bstr out))=W:=⟨_,rfl⟩;have hhW:W.heap[w.heap.size]?=some (.cells #[.int .i64 0,.int .i64 0] 45 (0,0)):=by rw[← hW,Below.heap_setCell _ _ _ _ (by show w.heap.size≠g+2;omega)];exact hh3
  have hxW:W.heap[g+2]?=some (.cells #[.string (bstr out)] 9 (0,0)):=by rw[← hW];exact heap_setCell_same w3 (g+2) 0 _ _ _ hx3
  have hgW:w.grownBy W (some (g+2)):=by
   rw[← hW];exact gTrans ⟨hB3.os,hB3.tape,hB3.output,hB3.size,fun k hk _=>hB3.block k hk⟩ (grownBy_set1 w3 (g+2) 0 _)
  have c0:W.cell? ⟨w.heap.size,0,none⟩=some (.int .i64 0):=by simp[World.cell?,hhW]
  have c1:W.cell? ⟨w.heap.size,1,none⟩=some (.int .i64 0):=by simp[World.cell?,hhW]
  have f0:W.frozen? ⟨w.heap.size,0,none⟩=false:=by simp[World.frozen?,hhW]
  have f1:W.frozen? ⟨w.heap.size,1,none⟩=false:=by simp[World.frozen?,hhW]
  rw[hW];have HO:=hid ho;clear hW ho hh3 hx3 hB hB3
  go_wp2_with fail
  refine leaves_cons (f:=35) (args:=#[.pointer (some ⟨w.heap.size,0,none⟩)]) (by simp) (by simp[go_sem]) ?_;refine (catchY_idle w.heap.size _).mono ?_;rintro e u' w'' ⟨rfl,rfl,rfl⟩;simp[Leaves,settle,results,Tryz.results22,go_sem,c0,c1];refine⟨⟨hgW.os,hgW.tape,hgW.output,by simpa using hgW.size,fun k hk hne=>?_⟩,.inl ⟨out,bb,unh HO,rfl,?_⟩⟩
  ·rw[Below.heap_setCell _ _ _ _ (by show k≠w.heap.size;omega),Below.heap_setCell _ _ _ _ (by show k≠w.heap.size;omega)];exact hgW.block k hk hne
  ·rw[Below.heap_setCell _ _ _ _ (by show g+2≠w.heap.size;omega),Below.heap_setCell _ _ _ _ (by show g+2≠w.heap.size;omega)];exact hxW
 ·have hB2:Below w.heap.size w w2:=hBa.trans (hB.mono (by simp));have hh2:w2.heap[w.heap.size]?=some (.cells #[.int .i64 0,.int .i64 0] 45 (0,0)):=(hB.block _ (by simp)).trans (World.alloc_heap_new w _);refine leaves_cons (f:=35) (args:=#[.pointer (some ⟨w.heap.size,0,none⟩)]) (by simp) (by simp[go_sem]) ?_;refine (catchY_panicking w.heap.size y _ hh2).mono ?_;rintro e u' w'' ⟨rfl,rfl,hh4,hg4⟩;have c0:w''.cell? ⟨w.heap.size,0,none⟩=some (.int .i64 (y.1:Int)):=by simp[World.cell?,hh4]
  have c1:w''.cell? ⟨w.heap.size,1,none⟩=some (.int .i64 (y.2:Int)):=by simp[World.cell?,hh4]
  simp[Leaves,settle,results,Tryz.results22,go_sem,c0,c1];exact⟨⟨hg4.os.trans hB2.os,hg4.tape.trans hB2.tape,hg4.output.trans hB2.output,Nat.le_trans hB2.size hg4.size,fun k hk _=>(hg4.block k (Nat.lt_of_lt_of_le hk hB2.size) (by simp;omega)).trans (hB2.block k hk)⟩,.inr ⟨y,ho,rfl,(hg4.block (g+2) (by have:=hB2.size;omega) (by simp;omega)).trans (hB2.block (g+2) hltg)⟩⟩
def ansOf:Res (List UInt8)->Value
 | .ok t _=>.tuple #[.string (bstr t),.int .i64 0,.int .i64 0]
 | .no y=>.tuple #[.string ⟨#[]⟩,.int .i64 (y.1:Int),.int .i64 (y.2:Int)]
theorem Tryz.sizeRe:(Tryz.prog.info? 45).map (·.size)=some 2:=by kernel_rfl
set_option maxHeartbeats 2000000 in
set_option maxRecDepth 100000 in
theorem Rinse_any {f:ByteArray}{st ou:Int}{R:Res (List UInt8)}(w:World) (RC:RinseC w f st ou R) :
  Calls Tryz.prog 12 #[.string f,.agg #[.int .i64 st,.int .i64 ou]] w fun e w'=>e=.returned (ansOf R)/\Below w.heap.size w w':=by
 have hmf:∀ (fn:Fn) (first cap:Array Value) (w:World),(Instr.makeFunc fn first cap).run Tryz.prog w=.ok (.func fn first cap) w:=fun _ _ _ _=>rfl
 have hB2:Below w.heap.size w ((w.alloc (.cells #[.string f] 9)).alloc (.cells #[.int .i64 st,.int .i64 ou] 32)):=((Below.refl _ _).alloc (Nat.le_refl _) _).alloc (by simp) _;have g0:((w.alloc (.cells #[.string f] 9)).alloc (.cells #[.int .i64 st,.int .i64 ou] 32)).heap[w.heap.size]?=some (.cells #[.string f] 9 (0,0)):=heap_alloc2_old w _ _;have g1:((w.alloc (.cells #[.string f] 9)).alloc (.cells #[.int .i64 st,.int .i64 ou] 32)).heap[w.heap.size+1]?=some (.cells #[.int .i64 st,.int .i64 ou] 32 (0,0)):=heap_alloc2_new w _ _
 go_enter Tryz.func12,Tryz.ntmps12
 go_upto_region 2 with fail
 have hs2:((w.alloc (.cells #[.string f] 9)).alloc (.cells #[.int .i64 st,.int .i64 ou] 32)).heap.size=w.heap.size+2:=by simp
 obtain⟨W2,hW2⟩:∃ W2,(w.alloc (.cells #[.string f] 9)).alloc (.cells #[.int .i64 st,.int .i64 ou] 32)=W2:=⟨_,rfl⟩;rw[hW2] at hB2 g0 g1 hs2 ⊢;clear hW2;have hB3:Below w.heap.size w (W2.alloc (.cells #[.string ⟨#[]⟩] 9)):=hB2.alloc (by omega) _;have k0:=(Below.heap_alloc W2 (.cells #[.string ⟨#[]⟩] 9) w.heap.size (by omega)).trans g0;have k1:=(Below.heap_alloc W2 (.cells #[.string ⟨#[]⟩] 9) (w.heap.size+1) (by omega)).trans g1;have k2:(W2.alloc (.cells #[.string ⟨#[]⟩] 9)).heap[w.heap.size+2]?=some (.cells #[.string ⟨#[]⟩] 9 (0,0)):=by rw[← hs2];exact heap_alloc_new W2 _
 obtain⟨W,hW⟩:∃ W,W2.alloc (.cells #[.string ⟨#[]⟩] 9)=W:=⟨_,rfl⟩;rw[hW] at hB3 k0 k1 k2 ⊢;clear hW hs2 g0 g1 hB2;have AN:=answerY_any RC W hB3 w.heap.size k0 k1 k2
 go_wp2_with fail
 refine AN.mono ?_;rintro e w3 ⟨hg,(⟨t,b,hR,rfl,hx⟩|⟨y,hR,rfl,hx⟩)⟩
 ·have hBw3:Below w.heap.size w w3:=⟨hg.os.trans hB3.os,hg.tape.trans hB3.tape,hg.output.trans hB3.output,Nat.le_trans hB3.size hg.size,fun k hk=>(hg.block k (by have:=hB3.size;omega) (by simp;omega)).trans (hB3.block k hk)⟩;have hcx:w3.cell? ⟨w.heap.size+2,0,none⟩=some (.string (bstr t)):=by simp[World.cell?,hx]
  have hlx:w.heap.size+2<w3.heap.size:=(Array.getElem?_eq_some_iff.1 hx).1;have hcy:(w3.alloc (.cells #[.int .i64 0,.int .i64 0] 45)).cell? ⟨w.heap.size+2,0,none⟩=some (.string (bstr t)):=(World.cell?_of_block (w:=w3) (Below.heap_alloc w3 _ _ hlx)).trans hcx;have hnw:(w3.alloc (.cells #[.int .i64 0,.int .i64 0] 45)).heap[w3.heap.size]?=some (.cells #[.int .i64 0,.int .i64 0] 45 (0,0)):=heap_alloc_new w3 _;obtain⟨W4,hW4⟩:∃ W4,w3.alloc (.cells #[.int .i64 0,.int .i64 0] 45)=W4:=⟨_,rfl⟩;have hB4:Below w.heap.size w W4:=by rw[← hW4];exact hBw3.alloc hBw3.size _
  rw[hW4] at hcy hnw;have HW4:=hid hW4;clear hW4 hcx;have n0:W4.cell? ⟨w3.heap.size,0,none⟩=some (.int .i64 0):=by simp[World.cell?,hnw]
  have n1:W4.cell? ⟨w3.heap.size,1,none⟩=some (.int .i64 0):=by simp[World.cell?,hnw]
  have HR:=hid hR;clear hR
  go_upto_region 3 with (refine wpList_store_row rfl 45 _ _ rfl w3.heap.size _ rfl rfl 45 _ (heap_alloc_new w3 _) Tryz.sizeRe rfl (by simp[Value.oneCell']) ?_;rw[setRow_alloc,unh HW4])
  go_quiet (fail)
  go_wp2_with fail
  refine bodyPost_ret (results_tmp3 rfl _ _ _) rfl ?_;exact⟨by rw[unh HR];rfl,⟨hB4.os,hB4.tape,hB4.output,hB4.size,hB4.block⟩⟩
 ·have hBw3:Below w.heap.size w w3:=⟨hg.os.trans hB3.os,hg.tape.trans hB3.tape,hg.output.trans hB3.output,Nat.le_trans hB3.size hg.size,fun k hk=>(hg.block k (by have:=hB3.size;omega) (by simp;omega)).trans (hB3.block k hk)⟩;rw[k2] at hx;have hcx:w3.cell? ⟨w.heap.size+2,0,none⟩=some (.string ⟨#[]⟩):=by simp[World.cell?,hx]
  have hlx:w.heap.size+2<w3.heap.size:=(Array.getElem?_eq_some_iff.1 hx).1;have hcy:(w3.alloc (.cells #[.int .i64 (y.1:Int),.int .i64 (y.2:Int)] 45)).cell? ⟨w.heap.size+2,0,none⟩=some (.string ⟨#[]⟩):=(World.cell?_of_block (w:=w3) (Below.heap_alloc w3 _ _ hlx)).trans hcx;have hnw:(w3.alloc (.cells #[.int .i64 (y.1:Int),.int .i64 (y.2:Int)] 45)).heap[w3.heap.size]?=some (.cells #[.int .i64 (y.1:Int),.int .i64 (y.2:Int)] 45 (0,0)):=heap_alloc_new w3 _;obtain⟨W4,hW4⟩:∃ W4,w3.alloc (.cells #[.int .i64 (y.1:Int),.int .i64 (y.2:Int)] 45)=W4:=⟨_,rfl⟩;have hB4:Below w.heap.size w W4:=by rw[← hW4];exact hBw3.alloc hBw3.size _
  rw[hW4] at hcy hnw;have HW4:=hid hW4;clear hW4 hcx;have n0:W4.cell? ⟨w3.heap.size,0,none⟩=some (.int .i64 (y.1:Int)):=by simp[World.cell?,hnw]
  have n1:W4.cell? ⟨w3.heap.size,1,none⟩=some (.int .i64 (y.2:Int)):=by simp[World.cell?,hnw]
  have HR:=hid hR;clear hR
  go_upto_region 3 with (refine wpList_store_row rfl 45 _ _ rfl w3.heap.size _ rfl rfl 45 _ (heap_alloc_new w3 _) Tryz.sizeRe rfl (by simp[Value.oneCell']) ?_;rw[setRow_alloc,unh HW4])
  go_quiet (fail)
  go_wp2_with fail
  refine bodyPost_ret (results_tmp3 rfl _ _ _) rfl ?_;exact⟨by rw[unh HR];rfl,⟨hB4.os,hB4.tape,hB4.output,hB4.size,hB4.block⟩⟩
end
section
open Go.RowKit
def Lim (m:Rdr (List UInt8)):Prop:=∀ t o t',m t=.ok o t'->o.length<=2000
theorem Lim.then {α:Type}{m:Rdr α}{f:α->Rdr (List UInt8)}(h:∀ a,Lim (f a)):Lim (m.then f):=fun t o t' e=>by
 obtain⟨a,t1,_,h2⟩:=then_invX e;exact h a t1 o t' h2
theorem Lim.then2 {m:Rdr (List UInt8)}{f:List UInt8->Rdr (List UInt8)}(hm:Lim m) (h:∀ a,a.length<=2000->Lim (f a)):Lim (m.then f):=fun t o t' e=>by
 obtain⟨a,t1,h1,h2⟩:=then_invX e;exact h a (hm _ _ _ h1) t1 o t' h2
theorem Lim.ret {o:List UInt8}(h:o.length<=2000):Lim (Rdr.ret o):=fun t o' t' e=>by
 unfold Rdr.ret at e;cases e;exact h
theorem Lim.put (V:Ux) (out:List UInt8) (c:UInt8):Lim (putX V out c):=fun t o t' e=>by
 unfold putX at e;split at e
 ·cases e
 ·split at e
  ·cases e;rw[List.length_append];simp;omega
  ·cases e
theorem Lim.no (y:Why):Lim (fun _=>.no y):=fun t o t' e=>by cases e
theorem Lim.ite {c:Prop} [Decidable c] {a b:Rdr (List UInt8)}(h1:Lim a) (h2:Lim b):Lim (if c then a else b):=by
 by_cases hc:c
 ·rw[if_pos hc];exact h1
 ·rw[if_neg hc];exact h2
theorem Lim.copyN (V:Ux) (back:Nat):∀ (n:Nat) (out:List UInt8),out.length<=2000->Lim (copyNX V back n out)
 | 0,out,h=>by unfold copyNX;exact Lim.ret h
 | n+1,out,h=>by unfold copyNX;exact (Lim.put V out _).then2 (fun o ho=>Lim.copyN V back n o ho)
theorem Lim.storeN (V:Ux):∀ (n:Nat) (out:List UInt8),out.length<=2000->Lim (storeNX V n out)
 | 0,out,h=>by unfold storeNX;exact Lim.ret h
 | n+1,out,h=>by unfold storeNX;exact Lim.then (fun x=>(Lim.put V out _).then2 (fun o ho=>Lim.storeN V n o ho))
theorem Lim.blk (V:Ux) (l dl:List Nat):∀ (f:Nat) (out:List UInt8),out.length<=2000->Lim (blkX V l dl f out)
 | 0,out,h=>by unfold blkX;exact Lim.no _
 | f+1,out,h=>by
  unfold blkX;refine Lim.then (fun g=>?_);split
  ·exact (Lim.put V out _).then2 (fun o ho=>Lim.blk V l dl f o ho)
  ·split
   ·exact Lim.ret h
   ·refine Lim.then (fun n=>Lim.then (fun d=>Lim.then (fun back=>?_)));refine Lim.then2 ?_ (fun o ho=>Lim.blk V l dl f o ho);unfold copyBX;exact Lim.then (fun _=>Lim.copyN V back n out h)
theorem Lim.block (V:Ux) (out:List UInt8) (h:out.length<=2000):Lim (blockX V out):=by
 unfold blockX;refine Lim.then (fun k=>?_);split
 ·unfold storedX;exact Lim.then (fun _=>Lim.then (fun n=>Lim.then (fun m=>Lim.then (fun _=>Lim.storeN V n out h))))
 ·split
  ·exact Lim.then (fun c=>Lim.blk V c.1 c.2 80000 out h)
  ·exact Lim.ite (Lim.then (fun c=>Lim.blk V c.1 c.2 80000 out h)) (Lim.no _)
theorem Lim.blocks (V:Ux):∀ (f:Nat) (out:List UInt8),out.length<=2000->Lim (blocksX V f out)
 | 0,out,h=>by unfold blocksX;exact Lim.no _
 | f+1,out,h=>by
  unfold blocksX;refine Lim.then (fun last=>(Lim.block V out h).then2 (fun o ho=>?_));split
  ·exact Lim.ret ho
  ·exact Lim.blocks V f o ho
theorem unpackU_small (s:ByteArray) (n b:Nat) (r:ByteArray) (b':Nat) (h:unpackU s n b=.ok r b'):r.size<=9000:=by
 unfold unpackU at h
 rcases hq:unpackX ⟨s,n,0⟩ ⟨b,0,0,0,0⟩ with⟨out,t⟩|y
 ·rw[hq] at h;cases h
  have hL:Lim (unpackX ⟨s,n,0⟩):=by
   unfold unpackX
   exact (Lim.blocks _ 80000 [] (by simp)).then2 (fun o ho t o' t' e=>by
    obtain⟨_,t1,_,h2⟩:=then_invX e
    exact Lim.ret ho t1 o' t' h2)
  have:=hL _ _ _ hq;show out.toArray.size<=9000;rw[List.size_toArray];omega
 ·rw[hq] at h;cases h
structure AllT (w:World) (T:Nat):Prop where
 p:PTabs w
 i : Lib.TabIs Tryz.prog w "internal/strconv.uint64pow10" .u64 Lib.pow10Tab
 t:PowTab w
 f:FT T w
 z:22<w.heap.size
theorem tabIs_blk {w w' : World} (h : Lib.TabIs Tryz.prog w "internal/strconv.uint64pow10" .u64 Lib.pow10Tab) (hb : w'.heap[5]? = w.heap[5]?) : Lib.TabIs Tryz.prog w' "internal/strconv.uint64pow10" .u64 Lib.pow10Tab := by
 have hg : Tryz.prog.globalNamed "internal/strconv.uint64pow10" = some 5 := by kernel_rfl
 unfold Lib.TabIs World.var? at h ⊢;rw[hg] at h ⊢;simpa[hb] using h
theorem PTabs.blk2 {w w':World}(h:PTabs w) (hb:∀ k,k<=22->k<w.heap.size->w'.heap[k]?=w.heap[k]?):PTabs w':=
 ⟨h.base.blk (hb _ (by decide) (World.block_lt_of_cell? w _ (h.base 0 (by decide)))),h.extra.blk (hb _ (by decide) (World.block_lt_of_cell? w _ (h.extra 0 (by decide)))),h.far.blk (hb _ (by decide) (World.block_lt_of_cell? w _ (h.far 0 (by decide)))),h.more.blk (hb _ (by decide) (World.block_lt_of_cell? w _ (h.more 0 (by decide)))),h.order.blk (hb _ (by decide) (World.block_lt_of_cell? w _ (h.order 0 (by decide))))⟩
theorem AllT.below {w w':World}{T:Nat}(h:AllT w T) (hB:Below w.heap.size w w'):AllT w' T:=by
 have hz:=h.z;have n1:5<=22:=by decide
 have n2:16<=22:=by decide
 exact⟨h.p.blk2 (fun k _ hk=>hB.block k hk),tabIs_blk h.i (hB.block _ (by omega)),h.t.kept (hB.block _ (by omega)),h.f.kept (fun k hk=>hB.block k (by have:=h.f.lt;omega)),Nat.lt_of_lt_of_le hz hB.size⟩
theorem rinse_all {w:World}{T:Nat}(hA:AllT w T) (f:ByteArray) (hf:f.size<9223372036854775808) (st ou:Int):RinseC w f st ou (rinseR unpackU ntB f st ou):=by
 intro W hB;have hW:=hA.below hB;have hz:=hW.z;have hI:ItC W.heap[5]?:=fun W' h=>tabIs_blk hW.i h
 have hP:∀ W':World,W'.heap[16]?=W.heap[16]?->PowTab W':=fun W' h=>hW.t.kept h
 have n1:5<=22:=by decide
 have n2:16<=22:=by decide
 refine rinse_any (G:=fun V=>PTabs V/\NtG W.heap[5]? W.heap[16]? V) (T:=T) ?_ ?_ ?_ (write_any hI hP (fun _ h=>h.2)) unpackU_small ⟨hW.p,⟨rfl,rfl⟩,by omega,by omega⟩ hz hW.f hW.f.lt.2.2.2 f hf st ou
 ·intro B v v' hB hv h F;exact⟨h.1.blk2 (fun k h2 hk=>F.block k hk (by omega)),⟨(F.block _ h.2.2.1 (by omega)).trans h.2.1.1,(F.block _ h.2.2.2 (by omega)).trans h.2.1.2⟩,Nat.lt_of_lt_of_le h.2.2.1 F.size,Nat.lt_of_lt_of_le h.2.2.2 F.size⟩
 ·intro B g v v' hB hg h F;exact⟨h.1.blk2 (fun k h2 hk=>F.block k hk (by omega) (by omega)),⟨(F.block _ h.2.2.1 (by omega) (by omega)).trans h.2.1.1,(F.block _ h.2.2.2 (by omega) (by omega)).trans h.2.1.2⟩,Nat.lt_of_lt_of_le h.2.2.1 F.size,Nat.lt_of_lt_of_le h.2.2.2 F.size⟩
 ·intro B hB v b num s h hBd hs hn;exact punpack_walk v s B b num hs hBd h.1 hB
end
section
def leastL:List UInt8:=[68,79,67,49,10,49,32,60,60,47,84,121,112,101,47,82,111,111,116,62,62,59,10,120,114,101,102,32,49,10,53,10,114,111,111,116,32,49,10,97,116,32,50,51,10,101,110,100,10]
def evilL:List UInt8:=[68,79,67,49,10,49,32,60,60,47,69,118,105,108,40,120,41,47,84,121,112,101,47,82,111,111,116,62,62,59,120,114,101,102,32,49,10,53,10,114,111,111,116,32,49,10,97,116,32,51,48,10,101,110,100,10]
def isOk (r:Res (List UInt8)) (t:List UInt8):Bool:=match r with
 | .ok o _=>o==t
 | .no _=>false
theorem isOk_of {r : Res (List UInt8)} {t : List UInt8} (h : isOk r t = true) : ∃ b, r = .ok t b := by
  cases r with
  | ok o b => exact ⟨b, by have : o = t := by simpa [isOk] using h
                           rw [this]⟩
  | no y => cases h
theorem least_ok:isOk (rinseR unpackU ntB (bstr leastL) 100000000 9000) leastL=true:=by decide +kernel
theorem evil_ok:isOk (rinseR unpackU ntB (bstr evilL) 100000000 9000) leastL=true:=by decide +kernel
end
section
variable {os:List Obj1}{nt:Bool->Nat->Nat->ByteArray}
theorem renL_nums:∀ (l acc:List Val) {olds o':List Nat}{b b':Nat}{l':List Val},renL l acc olds b=.ok (l',o') b'->(∀ v ∈ l,isNum v=true)->l'=acc++l
 | [],acc,_,_,_,_,_,h,_=>by simp only[renL,Res.ok.injEq,Prod.mk.injEq] at h;rw[← h.1.1];simp
 | v::l,acc,olds,o',b,b',l',h,hr=>by
  simp only[renL] at h;have hv:=hr v (by simp);have e:renLeaf olds v b=.ok (v,olds) b:=by cases v <;> first | rfl | (simp[isNum] at hv)
  rw[e] at h;rw[renL_nums l _ h (fun u hu=>hr u (by simp[hu]))];simp
theorem keepL_cons {o:Obj1}{r:Rule}{rs:List Rule}{acc fs:List (ByteArray×Val)}{olds o':List Nat}{b b':Nat}(h:keepL os o (r::rs) acc olds b=.ok (fs,o') b') :
  (∃ b1,keepL os o rs acc olds b1=.ok (fs,o') b')\/∃ x x' o2 b1 b2,r.right os (vget o.v r.key) b=.ok (x,true) b1/\renV olds x b1=.ok (x',o2) b2/\keepL os o rs (acc++[(r.key,x')]) o2 b2=.ok (fs,o') b':=by
 simp only[keepL] at h
 rcases hq:r.right os (vget o.v r.key) b with⟨⟨v,t⟩,b1⟩|y
 ·rw[hq] at h
  rcases t with _|_
  ·exact .inl ⟨b1,h⟩
  ·simp only at h
   rcases hq2:renV olds v b1 with⟨⟨v',o2⟩,b2⟩|y
   ·rw[hq2] at h;exact .inr ⟨v,v',o2,b1,b2,rfl,hq2,h⟩
   ·rw[hq2] at h;cases h
 ·rw[hq] at h;cases h
end
section
variable {os:List Obj1}{nt:Bool->Nat->Nat->ByteArray}
def TyR (os:List Obj1) (n:Nat):Prop:=tnameAt os n=pageB\/tnameAt os n=textB
def ExtR (os:List Obj1) (olds olds':List Nat):Prop:=∃ ext,olds'=olds++ext/\∀ n ∈ ext,TyR os n
theorem ExtR.refl (os:List Obj1) (olds:List Nat):ExtR os olds olds:=⟨[],by simp,by simp⟩
theorem ExtR.trans {a c d:List Nat}(h:ExtR os a c) (k:ExtR os c d):ExtR os a d:=by
 obtain⟨x,rfl,hx⟩:=h;obtain⟨y,rfl,hy⟩:=k;refine⟨x++y,by rw[List.append_assoc],fun n hn=>?_⟩
 rcases List.mem_append.1 hn with h1|h1
 ·exact hx n h1
 ·exact hy n h1
theorem numR_x {olds olds' : List Nat} {old b m b' : Nat} (ht : TyR os old) (h : numR olds old b = .ok (m, olds') b') : ExtR os olds olds' := by
  unfold numR at h
  split at h
  · cases h
  · split at h
    · cases h; exact ExtR.refl _ _
    · cases h
      exact ⟨[old], rfl, fun n hn => by have : n = old := by simpa using hn
                                        rw [this]; exact ht⟩
def leafTy (os:List Obj1) (v:Val):Prop:=∀ n,v=.ref n->TyR os n
theorem renLeaf_x {olds olds':List Nat}{b b':Nat}{v v':Val}(hr:leafTy os v) (h:renLeaf olds v b=.ok (v',olds') b'):ExtR os olds olds':=by
 cases v
 case ref n=>
  simp only[renLeaf] at h
  rcases hq:numR olds n b with⟨⟨m,o2⟩,b2⟩|y
  ·rw[hq] at h;simp only[Res.ok.injEq,Prod.mk.injEq] at h;rw[← h.1.2];exact numR_x (hr n rfl) hq
  ·rw[hq] at h;cases h
 all_goals (simp only[renLeaf,Res.ok.injEq,Prod.mk.injEq] at h;rw[← h.1.2];exact ExtR.refl _ _)
theorem renL_x:∀ (l acc:List Val) {olds o':List Nat}{b b':Nat}{l':List Val},(∀ v ∈ l,leafTy os v)->renL l acc olds b=.ok (l',o') b'->ExtR os olds o'
 | [],acc,_,_,_,_,_,_,h=>by simp only[renL,Res.ok.injEq,Prod.mk.injEq] at h;rw[← h.1.2];exact ExtR.refl _ _
 | v::l,acc,olds,o',b,b',l',hr,h=>by
  simp only[renL] at h
  rcases hq:renLeaf olds v b with⟨⟨v',o2⟩,b2⟩|y
  ·rw[hq] at h;exact (renLeaf_x (hr v (by simp)) hq).trans (renL_x l _ (fun u hu=>hr u (by simp[hu])) h)
  ·rw[hq] at h;cases h
def refsTy (os:List Obj1):Val->Prop
 | .arr l=>∀ v ∈ l,leafTy os v
 | v=>leafTy os v
theorem renV_x {olds o':List Nat}{b b':Nat}{v v':Val}(hr:refsTy os v) (h:renV olds v b=.ok (v',o') b'):ExtR os olds o':=by
 cases v
 case arr l=>
  simp only[renV] at h
  rcases hq:renL l [] olds b with⟨⟨l',o2⟩,b2⟩|y
  ·rw[hq] at h;simp only[Res.ok.injEq,Prod.mk.injEq] at h;rw[← h.1.2];exact renL_x l [] hr hq
  ·rw[hq] at h;cases h
 all_goals (simp only[renV] at h;exact renLeaf_x hr h)
theorem refTo_ty {ty:ByteArray}{v:Val}(ht:ty=pageB\/ty=textB) (h:refTo os ty v=true):leafTy os v:=by
 cases v
 case ref n=>
  intro m e;cases e;have h1:tnameAt os n=ty:=by haveI:=lawfulB;unfold refTo at h;exact eq_of_beq h
  unfold TyR;rw[h1];exact ht
 all_goals simp[refTo] at h
theorem right_ty {r:Rule}{v x:Val}{b b':Nat}(h:r.right os v b=.ok (x,true) b'):refsTy os x:=by
 cases r
 case kids=>
  simp only[Rule.right,kidsR] at h;split at h
  ·cases h
  ·simp only[Res.ok.injEq,Prod.mk.injEq] at h;obtain⟨⟨rfl,_⟩,_⟩:=h;exact fun e he=>refTo_ty (.inl rfl) (List.mem_filter.1 he).2
 case title=>
  simp only[Rule.right,Res.ok.injEq,Prod.mk.injEq] at h;obtain⟨⟨rfl,h2⟩,_⟩:=h;cases v <;> first | (simp[isStr] at h2;done) | exact fun m e=>by cases e
 case box=>
  simp only[Rule.right,Res.ok.injEq,Prod.mk.injEq] at h;obtain⟨⟨rfl,h2⟩,_⟩:=h;rw[Bool.and_eq_true] at h2;cases v
  case arr l=>
   have hm:∀ e ∈ l,isNum e=true:=List.all_eq_true.1 h2.2;intro e he m em;have:=hm e he;rw[em] at this;cases this
  all_goals (simp[elemsOf] at h2)
 case next=>
  simp only[Rule.right,refR] at h;split at h
  ·cases h
  ·simp only[Res.ok.injEq,Prod.mk.injEq] at h;obtain⟨⟨rfl,h2⟩,_⟩:=h;have:=refTo_ty (.inl rfl) h2;cases v <;> first | (simp[refTo] at h2;done) | exact this
 case text=>
  simp only[Rule.right,refR] at h;split at h
  ·cases h
  ·simp only[Res.ok.injEq,Prod.mk.injEq] at h;obtain⟨⟨rfl,h2⟩,_⟩:=h;have:=refTo_ty (.inr rfl) h2;cases v <;> first | (simp[refTo] at h2;done) | exact this
theorem keepL_x {o:Obj1}:∀ (rs:List Rule) (acc:List (ByteArray×Val)) {olds o':List Nat}{b b':Nat}{fs:List (ByteArray×Val)},keepL os o rs acc olds b=.ok (fs,o') b'->ExtR os olds o'
 | [],acc,_,_,_,_,_,h=>by simp only[keepL,Res.ok.injEq,Prod.mk.injEq] at h;rw[← h.1.2];exact ExtR.refl _ _
 | r::rs,acc,olds,o',b,b',fs,h=>by
  rcases keepL_cons h with⟨b1,h1⟩|⟨x,x',o2,b1,b2,h1,h2,h3⟩
  ·exact keepL_x rs acc h1
  ·exact (renV_x (right_ty h1) h2).trans (keepL_x rs _ h3)
theorem rowsW_out:∀ (l:List Nat) {out out':List UInt8}{b b':Nat},rowsW l out b=.ok out' b'->out'=out++l.flatMap (fun p=>(itoaB p).data.toList++[10])/\(out.length<=9000->out'.length<=9000)
 | [],out,out',b,b',h=>by simp only[rowsW,Res.ok.injEq] at h;rw[← h.1];simp
 | p::l,out,out',b,b',h=>by
  simp only[rowsW] at h
  rcases hq:putR [itoaB p,⟨#[10]⟩] out b with⟨o1,b1⟩|y
  ·rw[hq] at h;obtain⟨e1,l1⟩:=putR_out _ hq;obtain⟨e2,l2⟩:=rowsW_out l h;refine⟨?_,fun ho=>l2 (l1 ho)⟩;rw[e2,e1];simp[List.append_assoc]
  ·rw[hq] at h;cases h
end
section
open Go.RowKit
theorem num_any (w:World) (n:Int):Calls Tryz.prog 11 #[.int .i64 n] w fun e w'=>e=.returned (.int .i64 n)/\w=w':=by
 go_enter Tryz.func11,Tryz.ntmps11
 go_wp2
 go_ret
 exact⟨rfl,rfl⟩
theorem Rinse_all {w:World}{T:Nat}(hA:AllT w T) (f:ByteArray) (hf:f.size<9223372036854775808) (st ou:Int) :
  Calls Tryz.prog 12 #[.string f,.agg #[.int .i64 st,.int .i64 ou]] w fun e w'=>e=.returned (ansOf (rinseR unpackU ntB f st ou))/\Below w.heap.size w w':=Rinse_any w (rinse_all hA f hf st ou)
set_option maxHeartbeats 1000000 in
set_option maxRecDepth 100000 in
theorem alive_any {w:World}{T:Nat}(hA:AllT w T):Calls Tryz.prog 17 #[] w fun e w'=>e=.returned (.bool true)/\Below w.heap.size w w':=by
 obtain⟨b1,e1⟩:=isOk_of least_ok;obtain⟨b2,e2⟩:=isOk_of evil_ok;have R1:=Rinse_all hA ⟨#[68,79,67,49,10,49,32,60,60,47,84,121,112,101,47,82,111,111,116,62,62,59,10,120,114,101,102,32,49,10,53,10,114,111,111,116,32,49,10,97,116,32,50,51,10,101,110,100,10]⟩ (by decide) 100000000 9000;have R2:=fun (W:World) (hW:Below w.heap.size w W)=>Rinse_all (hA.below hW) ⟨#[68,79,67,49,10,49,32,60,60,47,69,118,105,108,40,120,41,47,84,121,112,101,47,82,111,111,116,62,62,59,120,114,101,102,32,49,10,53,10,114,111,111,116,32,49,10,97,116,32,51,48,10,101,110,100,10]⟩ (by decide) 100000000 9000
 have e1':rinseR unpackU ntB ⟨#[68,79,67,49,10,49,32,60,60,47,84,121,112,101,47,82,111,111,116,62,62,59,10,120,114,101,102,32,49,10,53,10,114,111,111,116,32,49,10,97,116,32,50,51,10,101,110,100,10]⟩ 100000000 9000=.ok leastL b1:=e1;have e2':rinseR unpackU ntB ⟨#[68,79,67,49,10,49,32,60,60,47,69,118,105,108,40,120,41,47,84,121,112,101,47,82,111,111,116,62,62,59,120,114,101,102,32,49,10,53,10,114,111,111,116,32,49,10,97,116,32,51,48,10,101,110,100,10]⟩ 100000000 9000=.ok leastL b2:=e2;rw[e1'] at R1;simp only[e2'] at R2;have eb:∀ b:Nat,ansOf (.ok leastL b)=.tuple #[.string ⟨#[68,79,67,49,10,49,32,60,60,47,84,121,112,101,47,82,111,111,116,62,62,59,10,120,114,101,102,32,49,10,53,10,114,111,111,116,32,49,10,97,116,32,50,51,10,101,110,100,10]⟩,.int .i64 0,.int .i64 0]:=fun _=>rfl
 rw[eb] at R1;simp only[eb] at R2;clear e1 e2 e1' e2' eb
 go_enter Tryz.func17,Tryz.ntmps17
 go_wp2_with fail
 refine R1.mono ?_;rintro e w1 ⟨rfl,hB1⟩;have R2':=R2 w1 hB1;clear R1 R2
 go_wp2_with fail
 refine R2'.mono ?_;rintro e w2 ⟨rfl,hB2⟩;have hB3:=hB1.trans (hB2.mono hB1.size);clear R2'
 go_wp2_with (first | (go_at_call 11;refine (num_any _ _).mono ?_;rintro e w3 ⟨rfl,rfl⟩))
 go_ret
 exact⟨rfl,hB3⟩
set_option maxHeartbeats 1000000 in
theorem most_any {w:World}{T:Nat}(hA:AllT w T) (f:ByteArray) (hf:f.size<9223372036854775808) :
  Calls Tryz.prog 18 #[.string f] w fun e w'=>e=.returned (ansOf (rinseR unpackU ntB f 100000000 9000))/\Below w.heap.size w w':=by
 have R1:=Rinse_all hA f hf 100000000 9000
 obtain⟨s,e,p,hans⟩:∃ (s:ByteArray) (e p:Int),ansOf (rinseR unpackU ntB f 100000000 9000)=.tuple #[.string s,.int .i64 e,.int .i64 p]:=by
  cases rinseR unpackU ntB f 100000000 9000 with
  | ok t b=>exact⟨_,_,_,rfl⟩
  | no y=>exact⟨_,_,_,rfl⟩
 rw[hans] at R1 ⊢;clear hans
 go_enter Tryz.func18,Tryz.ntmps18
 go_wp2_with fail
 refine R1.mono ?_;rintro e w1 ⟨rfl,hB1⟩;clear R1
 go_wp2_with (first | (go_at_call 11;refine (num_any _ _).mono ?_;rintro e w3 ⟨rfl,rfl⟩))
 first | refine bodyPost_ret (results_tmp3 rfl _ _ _) rfl ?_ | go_ret
 exact⟨rfl,hB1⟩
end
end Go.Proofs.YtgffljllfenhkaaGreatDoor
