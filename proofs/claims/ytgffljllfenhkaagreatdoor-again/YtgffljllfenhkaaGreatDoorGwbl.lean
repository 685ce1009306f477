import Derived.Test.YtgffljllfenhkaaGreatDoorGwba
import Derived.Test.YtgffljllfenhkaaGreatDoorGwbk
namespace Go.Proofs.YtgffljllfenhkaaGreatDoor
section
open Go.RowKit
attribute [local go_sem] Oper.semAt_some
variable {w w0 w':World}{B D DV lo at_ root:Nat}{pl:List Nat}{slp slo:Value}{os:List Obj1}{xs:List Value}
theorem Tryz.sizeWr:(Tryz.prog.info? 104).map (·.size)=some 3:=by kernel_rfl
theorem _root_.Go.RowKit.Below.a {w W:World}(h:Below w.heap.size w W) (o:Obj):Below w.heap.size w (W.alloc o):=h.alloc h.size o
def Hold (p:Prop):Prop:=p
theorem hold_in {p:Prop}(h:Hold p):p:=h
theorem hold_k {F:Fence}{n:Nat}{P:Program}{ops:Array Oper}{rest:List Oper}{d:Option Tmp}{x:Operand}{ty:TypeId}{ps:String}{af:Array Edge}{gd:Option (Nat×Bool)}{a:Act}{w:World}{Q:Exit->Act->World->Prop}
  (h:Hold (wpListIn F n P ops Q ({ dst:=d,op:=.load 111 x,type:=ty,pos:=ps,after:=af,guard:=gd }::rest) a w)):wpListIn F n P ops Q ({ dst:=d,op:=.load 111 x,type:=ty,pos:=ps,after:=af,guard:=gd }::rest) a w:=h
theorem tname_small (o:Obj1):(tname o).size<=80000:=by
 unfold tname;split
 ·decide
 ·split
  ·decide
  ·split <;> decide
theorem wpF_block {f:FuncId}{P:Program}{Q:Exit->Act->World->Prop}{a:Act}{w:World}{id:Nat}{c:Code}(h:wpF f P c (Exit.inBlock id Q) a w):wpF f P (Code.block id c) Q a w:=by
 intro b k cs hro hb;have h0:(lone (b.atR a (.code (.block id c)::k)) cs w).fenced P Fence.wide:=fenced_wide _ _;obtain⟨e,a₁,w₁,hq,harr⟩:=h b (.inBlock id::k) cs hro hb;cases e with
 | normal=>exact⟨.normal,a₁,w₁,hq,.head h0 stepR_block (StepsIn.trans harr (.one (fenced_wide _ _) stepR_inBlock))⟩
 | exit id'=>
  by_cases hid:id'=id
  ·simp only[Exit.inBlock,hid,if_true] at hq;exact⟨.normal,a₁,w₁,hq,.head h0 stepR_block (harr.1 k (by simp[exitTo,hid]))⟩
  ·simp only[Exit.inBlock,hid,if_false] at hq;have this:(id==id')=false:=by simp;exact fun h=>hid h.symm
   have hx:exitTo id' (.inBlock id::k)=exitTo id' k:=by simp[exitTo,this]
   exact⟨.exit id',a₁,w₁,hq,fun k' hk=>.head h0 stepR_block (harr.1 k' (by rw[hx];exact hk)),
    fun hr' hk=>let ⟨k₁,h1,h2⟩:=harr.2 hr' (by rw[hx];exact hk);⟨k₁,h1,.head h0 stepR_block h2⟩⟩
 | goto l=>
  have hx:gotoIn l (.inBlock id::k)=gotoIn l k:=by simp[gotoIn]
  exact⟨_,a₁,w₁,hq,fun k' hk=>.head h0 stepR_block (harr.1 k' (by rw[hx];exact hk)),
   fun hr' hk=>let ⟨k₁,h1,h2⟩:=harr.2 hr' (by rw[hx];exact hk);⟨k₁,h1,.head h0 stepR_block h2⟩⟩
 | ret=>exact⟨_,a₁,w₁,hq,.of_steps (.one h0 stepR_block) harr⟩
 | panic ch=>exact⟨_,a₁,w₁,hq,.of_steps (.one h0 stepR_block) harr⟩
 | outgrown=>exact⟨_,a₁,w₁,hq,.of_steps (.one h0 stepR_block) harr⟩
theorem Fw.fb {Q M:Nat}{W0 w1 w2:World}{o o':Value}(h:Fb B W0 w1) (F:Fw Q M B o w1 o' w2) (hQ:W0.heap.size<=Q) (hM:W0.heap.size<=M) (ho:∀ k,o.ownBlock=some k->W0.heap.size<=k):Fb B W0 w2:=
 ⟨F.os.trans h.os,F.tape.trans h.tape,F.output.trans h.output,Nat.le_trans h.size F.size,fun k hk hb=>(F.block k (Nat.lt_of_lt_of_le hk h.size) (by omega) (by omega) hb (fun e=>by have:=ho k e;omega)).trans (h.block k hk hb)⟩
theorem asdI_w {F:Fence}{n:Nat}{P:Program}{d:Option Tmp}{x y:Operand}{ty:TypeId}{ps:String}{af:Array Edge}{gd:Option (Nat×Bool)}{a:Act}{w:World}{K:Act->World->Prop}{Q:Exit->Act->World->Prop} :
  Oper.wpIn F n P { dst:=d,op:=.store 104 x y,type:=ty,pos:=ps,after:=af,guard:=gd } a w K Q=AsdI F n P { dst:=d,op:=.store 104 x y,type:=ty,pos:=ps,after:=af,guard:=gd } a w K Q:=rfl
theorem AsdI.store {n:Nat}{o:Oper}{a:Act}{w:World}{K:Act->World->Prop}{Q:Exit->Act->World->Prop}(T:TypeId) (sz:Nat) (x y:Operand) (ho:o.op=.store T x y) (hd:o.dst=none)
  (g:Nat) (cells:Array Value) (hx:a.eval x=.pointer (some ⟨g,0,none⟩)) (hy:a.eval y=.agg cells) (old:Array Value) (hg:w.heap[g]?=some (.cells old T (0,0))) (hT:(Tryz.prog.info? T).map (·.size)=some sz) (ho6:old.size=sz) (h6:cells.size=sz) (h1:cells.all (·.oneCell')=true)
  (h:K a (w.setRow g cells)):AsdI Fence.wide n Tryz.prog o a w K Q:=wpIn_of_wp (Asd.store T sz x y ho hd g cells hx hy old hg hT ho6 h6 h1 h)
attribute [local go_sem ↓] asdI_w wpI_at_zero wpI_at_succ
theorem reach_len {nt:Bool->Nat->Nat->ByteArray}:∀ (f i:Nat) (olds places:List Nat) (out:List UInt8) (b:Nat) {pl:List Nat}{out':List UInt8}{b':Nat},reachW nt os f i olds places out b=.ok (pl,out') b'->places.length<=pl.length/\pl.length<=places.length+f/\out.length<=out'.length/\(∀ p ∈ pl,p ∈ places\/p<=out'.length)
 | 0,_,_,_,_,_,_,_,_,h=>by cases h
 | f+1,i,olds,places,out,b,pl,out',b',h=>by
  rw[reachW] at h
  rcases hn:olds[i]? with _|n
  ·rw[hn] at h;simp only[Res.ok.injEq,Prod.mk.injEq] at h;rw[← h.1.1,← h.1.2];exact⟨Nat.le_refl _,by omega,Nat.le_refl _,fun p hp=>.inl hp⟩
  ·rw[hn] at h;simp only at h
   rcases hob:os[n]? with _|o
   ·rw[hob] at h;cases h
   ·rw[hob] at h;simp only at h
    rcases hk:keepL os o (rulesOf (tname o)) [] olds b with⟨⟨fs,olds'⟩,b1⟩|y
    ·rw[hk] at h;simp only at h
     rcases hw:objW nt (i+1) (tname o) fs o.stream out b1 with⟨o2,b2⟩|y
     ·rw[hw] at h;simp only at h;obtain⟨e1,_⟩:=objW_out nt hw;have hle:out.length<=o2.length:=by rw[e1,List.length_append];omega
      obtain⟨h1,h2,h3,h4⟩:=reach_len f (i+1) olds' (places++[out.length]) o2 b2 h;rw[List.length_append] at h1 h2;simp at h1 h2;refine⟨by omega,by omega,by omega,fun p hp=>?_⟩
      rcases h4 p hp with h5|h5
      ·rcases List.mem_append.1 h5 with h6|h6
       ·exact .inl h6
       ·have:p=out.length:=by simpa using h6
        exact .inr (by omega)
      ·exact .inr h5
     ·rw[hw] at h;cases h
    ·rw[hk] at h;cases h
theorem reach_some {nt:Bool->Nat->Nat->ByteArray}{root:Nat}{out out':List UInt8}{b b':Nat}{pl:List Nat}(h:reachW nt os 40 0 [root] [] out b=.ok (pl,out') b'):0<pl.length:=by
 rw[reachW] at h;simp only[List.getElem?_cons_zero] at h
 rcases hob:os[root]? with _|o
 ·rw[hob] at h;cases h
 ·rw[hob] at h;simp only at h
  rcases hk:keepL os o (rulesOf (tname o)) [] [root] b with⟨⟨fs,olds'⟩,b1⟩|y
  ·rw[hk] at h;simp only at h
   rcases hw:objW nt (0+1) (tname o) fs o.stream out b1 with⟨o2,b2⟩|y
   ·rw[hw] at h;simp only at h;have:=(reach_len _ _ _ _ _ _ h).1;simp at this;omega
   ·rw[hw] at h;cases h
  ·rw[hk] at h;cases h
set_option maxHeartbeats 8000000 in
set_option maxRecDepth 100000 in
theorem write_any {h0t h1t : Option Obj}(hI : ItC h0t) (hP : ∀ W : World, W.heap[16]? = h1t -> PowTab W) {G : World -> Prop}(hGn : ∀ w, G w -> NtG h0t h1t w) : WriteC G ntB := by
  intro W0 B D lo b at_ root pl slp slo os xs hG h22 hlo hD hBud hos;obtain⟨h31, hroot, hrt, hVO⟩ := hos;have hmix : Tryz.prog.follows .mixedOrders = true := by kernel_rfl
  have c4 := hD.c4;unfold chg at c4;refine callsIn_wide.1 (callsIn_of_wpF (n := 9) Tryz.func39 rfl ?_);simp only[Tryz.ntmps39, List.size_toArray, List.length_cons, List.length_nil, Nat.reduceAdd, Nat.reduceSub, Array.replicate_succ, Array.replicate_zero, List.push_toArray, List.append_toArray, List.nil_append, List.cons_append];refine wpF_seq (wpF_of (n := 9) ?_)
  gi_wp2_with fail
  have AL : ∀ w, Below W0.heap.size W0 w -> Calls Tryz.prog 38 #[.int .i64 9000, .agg #[.int .i64 11, .int .i64 0]] w fun e w' => ∃ M : Nat, e = .returned (.func (.func 60) #[] #[.pointer (some ⟨M, 0, none⟩), .pointer (some ⟨M + 1, 0, none⟩)]) /\ Hid (w.heap.size = M /\ w'.heap.size = M + 2) /\ w'.heap[M]? = some (.cells #[.int .i64 9000] 3 (0, 0)) /\ w'.heap[M + 1]? = some (.cells #[.int .i64 11, .int .i64 0] 45 (0, 0)) /\ Below w.heap.size w w' /\ Below W0.heap.size W0 w' := fun w hw => (allow_n w 9000 11 0).mono (fun e w' ⟨h1, h2, h3, h4, h5⟩ => ⟨_, h1, ⟨rfl, h5⟩, h2, h3, h4, hw.trans (h4.mono hw.size)⟩)
  have HcD : ∀ W, Below W0.heap.size W0 W -> W.cell? ⟨D, 4, none⟩ = some (.func (.func 60) #[] #[.pointer (some ⟨B, 0, none⟩), .pointer (some ⟨B + 1, 0, none⟩)]) := fun W hW => (World.cell?_of_block (w := W0) (hW.block D hD.ltD)).trans c4
  have hBd : Below W0.heap.size W0 W0.drew := bdrew W0;have hBz : Below W0.heap.size W0 (W0.alloc (.cells #[.slice none 0 0, .nilFunc, .nilFunc] 104)).drew := hBd.a _;have hqz : (W0.alloc (.cells #[.slice none 0 0, .nilFunc, .nilFunc] 104)).drew.heap[W0.heap.size]? = some (.cells #[.slice none 0 0, .nilFunc, .nilFunc] 104 (0, 0)) := heap_alloc_new W0 _;have hzz : (W0.alloc (.cells #[.slice none 0 0, .nilFunc, .nilFunc] 104)).drew.heap.size = W0.heap.size + 1 := by show (W0.alloc _).heap.size = _; simp
  have HZZ := hid hzz;clear hzz;have cz := HcD _ hBz;have cz2 := HcD (W0.alloc (.cells #[.slice none 0 0, .nilFunc, .nilFunc] 104)) ((Below.refl _ _).a _);have hone : ∀ M : Nat, (#[.slice none 0 0, .func (.func 60) #[] #[.pointer (some ⟨M, 0, none⟩), .pointer (some ⟨M + 1, 0, none⟩)], .func (.func 60) #[] #[.pointer (some ⟨B, 0, none⟩), .pointer (some ⟨B + 1, 0, none⟩)]] : Array Value).all (·.oneCell') = true := fun M => by simp[Value.oneCell']
  refine wpF_seq (wpF_of (n := 9) (wpIn_mono (Q := Exit.then (fun a' w' => ∃ Q M : Nat, a' = { tmps := #[.pointer (some ⟨D, 0, none⟩), undef, .string ⟨#[]⟩, .pointer (some ⟨Q, 0, none⟩), undef, undef, undef, .agg #[.int .i64 11, .int .i64 0], .func (.func 60) #[] #[.pointer (some ⟨M, 0, none⟩), .pointer (some ⟨M + 1, 0, none⟩)], .pointer (some ⟨D, 0, none⟩), .pointer (some ⟨D, 0, none⟩), .pointer (some ⟨D, 4, none⟩), .func (.func 60) #[] #[.pointer (some ⟨B, 0, none⟩), .pointer (some ⟨B + 1, 0, none⟩)],
      .agg #[.slice none 0 0, .func (.func 60) #[] #[.pointer (some ⟨M, 0, none⟩), .pointer (some ⟨M + 1, 0, none⟩)], .func (.func 60) #[] #[.pointer (some ⟨B, 0, none⟩), .pointer (some ⟨B + 1, 0, none⟩)]], undef, undef, undef, undef, undef, undef, undef, undef, undef, undef, undef, undef, undef, undef, undef, undef, undef, undef, undef, undef], defers := [] } /\
      Below W0.heap.size W0 w' /\ (W0.heap.size <= Q /\ W0.heap.size <= M /\ Q ≠ M /\ Q ≠ M + 1 /\ Q<w'.heap.size /\ M + 1<w'.heap.size) /\
      w'.heap[Q]? = some (.cells #[.slice none 0 0, .func (.func 60) #[] #[.pointer (some ⟨M, 0, none⟩), .pointer (some ⟨M + 1, 0, none⟩)], .func (.func 60) #[] #[.pointer (some ⟨B, 0, none⟩), .pointer (some ⟨B + 1, 0, none⟩)]] 104 (0, 0)) /\
      w'.heap[M]? = some (.cells #[.int .i64 9000] 3 (0, 0)) /\ w'.heap[M + 1]? = some (.cells #[.int .i64 11, .int .i64 0] 45 (0, 0))) (fun _ _ _ => False)) ?walk ?rest))
  case walk =>
    gi_region_with_o (first
      | (refine⟨trivial, ?_⟩; gi_at_call 38; refine (callsIn_wide.2 (AL _ (by first | exact hBd | exact hBz))).mono ?_; rintro e w3 ⟨M, rfl, hM, hMa, hMb, hBM, hB3⟩; have c43 := HcD w3 hB3; have c43z := HcD (w3.alloc (.cells #[.slice none 0 0, .nilFunc, .nilFunc] 104)) (hB3.a _); (first | (have hQ3 : w3.heap[W0.heap.size]? = some (.cells #[.slice none 0 0, .nilFunc, .nilFunc] 104 (0, 0)) := (hBM.block W0.heap.size (by rw[unh HZZ]; omega)).trans hqz) | skip))
      | (with_reducible refine AsdI.here ?_; first
         | (refine AsdI.store 104 3 _ _ rfl rfl W0.heap.size _ rfl rfl _ hQ3 Tryz.sizeWr rfl rfl (hone M) ?_)
         | (refine AsdI.store 104 3 _ _ rfl rfl w3.heap.size _ rfl rfl _ (heap_alloc_new w3 _) Tryz.sizeWr rfl rfl (hone M) ?_; rw[setRow_alloc])))
    all_goals first
      | exact⟨w3.heap.size, M, rfl, hB3.a _, by have h1 := (unh hM).1; have h2 := (unh hM).2; have h3 : W0.drew.heap.size = W0.heap.size := rfl; rw[World.size_alloc]; omega, heap_alloc_new w3 _, (Below.heap_alloc _ _ _ (by have h2 := (unh hM).2; omega)).trans hMa, (Below.heap_alloc _ _ _ (by have h2 := (unh hM).2; omega)).trans hMb⟩
      | exact⟨W0.heap.size, M, rfl, below_setRow hB3 (Nat.le_refl _) _, by have h1 := (unh hM).1; have h2 := (unh hM).2; rw[unh HZZ] at h1; rw[size_setRow]; omega, setRow_heap _ _ _ _ _ _ hQ3, (setRow_other _ _ _ _ (by have h1 := (unh hM).1; rw[unh HZZ] at h1; omega)).trans hMa, (setRow_other _ _ _ _ (by have h1 := (unh hM).1; rw[unh HZZ] at h1; omega)).trans hMb⟩
  case rest =>
    clear AL HcD cz cz2 hBz hqz HZZ hone hBd c4;intro e a' w1 hm;cases e with
    | normal =>
      obtain⟨Q, M, rfl, hB1, hsz, hq1, hm1, hy1⟩ := hm;have hbl := hBud.lt;have hs1 := hB1.size;have hW1 : Wr w1 Q M B w1.heap.size (.slice none 0 0) [] b := ⟨hq1, hm1, hy1, hBud.of_blocks (fun k hk => hB1.block k (by omega)), ⟨rfl, .inl ⟨rfl, rfl⟩⟩, Nat.zero_le _, by omega, by omega⟩
      have hszH : ∀ t ∈ [headB], t.size <= 90000 := by
        intro t ht;have : t = headB := by simpa using ht
        rw[this]; decide
      have PB := put_new [headB] hW1 (by simp) hszH #[.string ⟨#[68, 79, 67, 49, 10]⟩] rfl 1 rfl 1 _ rfl;refine wpF_seq (wpF_of (n := 9) ?_)
      gi_wp2_with fail
      refine⟨trivial, ?_⟩
      rcases q1 : putR [headB] [] b with⟨out, b1⟩|y
      · refine (callsIn_wide.2 (PostW.okC PB q1)).mono ?_
        rintro e w2 ⟨rfl, ow, hW2, F2⟩
        gi_wp2_with fail
        refine wpF_seq (wpF_of (n := 9) ?_)
        gi_wp2_with fail
        have F02 : Fb B W0 w2 := F2.fb (Fb.of_below hB1) (by omega) (by omega) (fun k e => by simp[Value.ownBlock] at e);have hs2 := F2.size;have hb1 := hW2.lt;obtain⟨w3, hw3⟩ : ∃ w3, w2.alloc (.cells #[.slice none 0 0] 52) = w3 := ⟨_, rfl⟩;have hB3 : Below w2.heap.size w2 w3 := by rw[← hw3]; exact (Below.refl _ _).a _
        have hz3 : w3.heap.size = w2.heap.size + 1 := by rw[← hw3]; simp
        have hp3 : w3.heap[w2.heap.size]? = some (.cells #[.slice none 0 0] 52 (0, 0)) := by rw[← hw3]; exact heap_alloc_new w2 _
        rw[hw3];refine wpF_seq (wpF_seq (wpF_of (n := 9) ?_));have HZ3 := hid hz3;clear hw3 hz3
        gi_wp2_with fail
        refine⟨trivial, (callsIn_wide.2 (reached_any w3 D)).mono ?_⟩;rintro e w4 ⟨rfl, hw4⟩;have hz3 := unh HZ3;have hB4 : Below w3.heap.size w3 w4 := by rw[← hw4]; exact (Below.refl _ _).a _
        have hz4 : w4.heap.size = w3.heap.size + 1 := by rw[← hw4]; simp
        have hd4 : w4.heap[w3.heap.size]? = some (.cells #[.pointer (some ⟨D, 0, none⟩)] 75 (0, 0)) := by rw[← hw4]; exact heap_alloc_new w3 _
        have hp4 := (hB4.block w2.heap.size (by omega)).trans hp3;have hW4 := (hW2.below hB3).below hB4;have F04 : Fb B W0 w4 := F02.trans ((Fb.of_below hB3).trans (Fb.of_below hB4));clear hw4 hp3;have hDl := hD.ltD;have hDB : D ≠ B := by have := hD.lo; omega
        have hsu : Hid (w3.heap.size = w2.heap.size + 1 /\ w4.heap.size = w2.heap.size + 2 /\ w1.heap.size <= w2.heap.size /\ W0.heap.size <= w1.heap.size /\ (W0.heap.size <= Q /\ W0.heap.size <= M /\ Q ≠ M /\ Q ≠ M + 1 /\ Q<w1.heap.size /\ M + 1<w1.heap.size) /\ B + 1<W0.heap.size /\ D<W0.heap.size) := ⟨hz3, by omega, hs2, hs1, hsz, hbl, hDl⟩;clear HZ3 hz3 hz4
        gi_wp2_with fail
        refine wpF_block (range_reach (nt := ntB) (m := 9) (Q := Q) (R := M) (bw := w1.heap.size) (PL := w2.heap.size) (DV := w3.heap.size) (ow := ow) (out0 := out) (b0 := b1) hD hlo h31 hroot hVO rfl rfl ?_ hW4 hp4 F04 hd4
          (fun i K cs => { tmps := #[.pointer (some ⟨D, 0, none⟩), undef, .string ⟨#[]⟩, .pointer (some ⟨Q, 0, none⟩), .pointer (some ⟨w2.heap.size, 0, none⟩), .int .i64 ((i + 1 : Nat) : Int), .pointer (some ⟨K, 0, none⟩), .agg #[.int .i64 11, .int .i64 0], (.func (.func 60) #[] #[.pointer (some ⟨M, 0, none⟩), .pointer (some ⟨M + 1, 0, none⟩)]), .pointer (some ⟨D, 0, none⟩), .pointer (some ⟨D, 0, none⟩), .pointer (some ⟨D, 4, none⟩), (.func (.func 60) #[] #[.pointer (some ⟨B, 0, none⟩), .pointer (some ⟨B + 1, 0, none⟩)]), .agg #[.slice none 0 0, (.func (.func 60) #[] #[.pointer (some ⟨M, 0, none⟩), .pointer (some ⟨M + 1, 0, none⟩)]), (.func (.func 60) #[] #[.pointer (some ⟨B, 0, none⟩), .pointer (some ⟨B + 1, 0, none⟩)])], .slice (some ⟨w1.heap.size, 0, none⟩) 1 1, .tuple #[], .pointer (some ⟨D, 0, none⟩), .func (.func 94) #[] #[.pointer (some ⟨w3.heap.size, 0, none⟩)], .int .i64 ((i + 1 : Nat) : Int), .agg cs, undef, undef, undef, undef, undef, undef, undef, undef, undef, undef, undef, undef, undef, undef], defers := [] }) ?_ ?_ ?_ ?_)
        · skip
          intro NV hNV;obtain⟨u1, u2, u3, u4, u5, u6, u7⟩ := unh hsu;exact⟨by omega, by omega, by omega⟩
        · skip
          intro l i cs W Kp h3 hone hK;have hK' : Kp _ _ := hK
          gi_wp2_with (refine storeI_row rfl 111 _ _ rfl W.heap.size cs rfl rfl 111 _ (heap_alloc_new W _) (by rw[h3]; exact Tryz.sizeKt) (by rw[h3]; rfl) hone ?_; rw[setRow_alloc])
          exact hK
        · intro l i K s1 s2 NV lr o ow sp olds pls out b W ob fs af cf hi hob hpl hs hJ how hsp hv1 hv2 hv3 hK hKR hfs hfl
          subst hpl;obtain⟨i0, hi0, hz0, hz1, hz2⟩ := info_parts Tryz.infoI;obtain⟨ao, cpo, howE⟩ := hJ.wr.shape;have hu := unh hsu;have hsl := hs.lo;have hsh := hs.hi;have hsn := hs.ne;have hspN := hJ.spNe hs;obtain⟨a1, a2, a3, a4, a5, a6, a7, a8, a9, a10⟩ := hJ.owNe;have cPL := hJ.pv.c;have cQ := hJ.wr.c0;have hlw := World.ownsRow.lt hJ.wr.row;have hlo3 := World.ownsRow.lt hJ.nd.n.row;have hKl := (Array.getElem?_eq_some_iff.1 hK).1;have hPLl := hJ.pv.lt;have hout9 := hJ.wr.hl;have hWl := hJ.nd.n.lt;rw[howE] at cQ;have hal := World.grownBy_alloc W (.cells #[.int .i64 (out.length : Int)] 3) sp.ownBlock;have hneP : ∀ k, k<w4.heap.size + 2 \/ k = w4.heap.size + 2 + 1 \/ k = NV \/ k = w4.heap.size + 2 + 2 -> some k ≠ sp.ownBlock := fun k hk e => by have := hspN k e.symm; omega
          have HU := hid (show (w4.heap.size + 2 <= W.heap.size /\ pls.length <= 31 /\ out.length <= 9000) from ⟨by omega, by omega, hout9⟩)
          have hsp2 : ∃ asp csp, sp = .slice asp pls.length csp := by
            rcases hJ.pr.2 with⟨h1, h2⟩|⟨g, cap, cur, e, _⟩
            · exact⟨none, 0, by rw[h1, h2]⟩
            · exact⟨_, _, e⟩
          clear hu
          gi_wp2_with (gi_at_builtin; refine hold_in ?_)
          unfold Hold;refine wpListIn_append_own_at _ rfl _ _ 52 rfl (w4.heap.size + 2) 3 i0 (.int .i64 0) 1 8 Tryz.undI hi0 hz0 hz1 hz2 rfl (by decide) _ _ _ rfl (World.ownsRow.alloc hJ.pr _) ⟨W.heap.size, 0, none⟩ 1 1 [.int .i64 (out.length : Int)] rfl rfl (cell_one_new _ _ _) (by simp[Value.oneCell']) (by unfold maxLen; have := unh HU; omega) (by have := unh HU; omega) (by simp; have := unh HU; omega) ?_; intro v5 w5 hown5 hg5 _ hat5; obtain⟨g5, c5, rfl⟩ := ownsRow_succ hown5; have hgg := gTrans hal hg5; have hP5 : At1 w5 w2.heap.size sp 52 := (hgg.block w2.heap.size hPLl (hneP w2.heap.size (.inl (by omega)))).trans hJ.pv; have cP5 := hP5.c; have fP5 := hP5.f 0; obtain⟨W6, hW6⟩ : ∃ W6, w5.setCell ⟨w2.heap.size, 0, none⟩ (.slice (some ⟨g5, 0, none⟩) (pls.length + 1) c5) = W6 := ⟨_, rfl⟩;have hu := unh hsu
          have hg5o : ∀ k, (Value.slice (some ⟨g5, 0, none⟩) (pls.length + 1) c5).ownBlock = some k -> (sp.ownBlock = some k \/ W.heap.size <= k) /\ k<w5.heap.size /\ w4.heap.size + 2 <= k := fun k hk => by
            have hl := World.ownsRow.lt hown5 k hk;refine⟨?_, hl.2, hl.1⟩
            rcases hat5 with e|e
            · exact .inl (e.symm.trans hk)
            · rw[e] at hk
              have : (W.alloc (.cells #[.int .i64 (out.length : Int)] 3)).heap.size = k := by simpa using hk
              rw[World.size_alloc] at this;exact .inr (by omega)
          have hk6 : ∀ k, k<W.heap.size -> k ≠ w2.heap.size -> sp.ownBlock ≠ some k -> W6.heap[k]? = W.heap[k]? := fun k h1 h2 h3 => by
            rw[← hW6];exact (Below.heap_setCell _ _ _ _ (by exact h2)).trans (hgg.block k h1 (fun e => h3 e.symm))
          have hz6 : W6.heap.size = w5.heap.size := by rw[← hW6]; simp
          have hz5 := hgg.size;have ho6 : W6.os = W.os /\ W6.tape = W.tape /\ W6.output = W.output := by rw[← hW6]; exact⟨hgg.os, hgg.tape, hgg.output⟩
          have hsK : ∀ k, s1 <= k -> sp.ownBlock ≠ some k := fun k h1 e => by have := hsp k e; omega
          have hsB : ∀ k, k<w4.heap.size + 2 -> sp.ownBlock ≠ some k := fun k h1 e => by have := hspN k e; omega
          have hK6 := (hk6 K hKl (by omega) (hsK K (by omega))).trans hK;have hKR6 : KeepR W6 s1 s2 fs af := hKR.kept (fun k h1 h2 => hk6 k (by omega) (by omega) (hsK k h1));have hBd6 : Bud W6 B b := hJ.nd.bud.of_blocks (fun k hk => hk6 k (by omega) (by omega) (hsB k (by omega)))
          have hWr6 : Wr W6 Q M B w1.heap.size ow out b := hJ.wr.put (by omega) (fun k hk => by
            rcases hk with rfl|rfl|rfl|hk
            · exact hk6 _ (by omega) (by omega) (hsB _ (by omega))
            · exact hk6 _ (by omega) (by omega) (hsB _ (by omega))
            · exact hk6 _ (by omega) (by omega) (hsB _ (by omega))
            · exact hk6 k (hlw k hk).2 (fun e => a5 (e ▸ hk)) (fun e => a10 k e hk)) hBd6
          have hNd6 : Nd W6 B D w3.heap.size (w4.heap.size + 2 + 1) NV (w4.heap.size + 2 + 2) (w4.heap.size + 2) o olds b := hJ.nd.put2 (by omega) (fun k hk => by
            rcases hk with rfl|rfl|rfl|rfl|rfl|hk
            · exact hk6 _ (by omega) (by omega) (hsB _ (by omega))
            · exact hk6 _ (by omega) (by omega) (hsB _ (by omega))
            · exact hk6 _ (by omega) (by omega) (fun e => by have := hspN _ e; omega)
            · exact hk6 _ (by omega) (by omega) (fun e => by have := hspN _ e; omega)
            · exact hk6 _ (by omega) (by omega) (fun e => by have := hspN _ e; omega)
            · exact hk6 k (hlo3 k hk).2 (by have := (hlo3 k hk).1; omega) (hJ.os k hk)) hBd6
          have hp6 : At1 W6 w2.heap.size (.slice (some ⟨g5, 0, none⟩) (pls.length + 1) c5) 52 := by unfold At1; rw[← hW6, heap_setCell_same w5 w2.heap.size 0 _ _ _ hP5]; simp
          have hpr6 : W6.ownsRow (w4.heap.size + 2) 3 1 (.slice (some ⟨g5, 0, none⟩) (pls.length + 1) c5) (pls ++ [out.length]).length (intsV (pls ++ [out.length])) := by
            have e : intsV (pls ++ [out.length]) = intsV pls ++ [.int .i64 (out.length : Int)] := by unfold intsV; rw[List.map_append]; rfl
            rw[List.length_append, e];exact ownsRow_blockI hown5 (fun g hg => by rw[← hW6]; exact Below.heap_setCell _ _ _ _ (by have := (hg5o g hg).2.2; show g ≠ w2.heap.size; omega))
          have hF6 : Fb B W0 W6 := ⟨ho6.1.trans hJ.fb.os, ho6.2.1.trans hJ.fb.tape, ho6.2.2.trans hJ.fb.output, by have := hJ.fb.size; omega, fun k hk hb => (hk6 k (by have := hJ.fb.size; omega) (by omega) (hsB k (by omega))).trans (hJ.fb.block k hk hb)⟩;have hN0 := hGn W0 hG;have hNt6 : NtG h0t h1t W6 := ⟨⟨(hF6.block _ hN0.2.1 (by omega)).trans hN0.1.1, (hF6.block _ hN0.2.2 (by omega)).trans hN0.1.2⟩, Nat.lt_of_lt_of_le hN0.2.1 hF6.size, Nat.lt_of_lt_of_le hN0.2.2 hF6.size⟩
          have OB := wobject_any (S := fun b => s1 <= b /\ b<s2) (ntC_tab hI hP) (fun _ _ h hB => h.below hB) (fun o o' w w' h F ho => ⟨⟨(F.block _ h.2.1 (by omega) (by omega) (by omega) (fun e => by have := ho _ e; omega)).trans h.1.1, (F.block _ h.2.2 (by omega) (by omega) (by omega) (fun e => by have := ho _ e; omega)).trans h.1.2⟩, Nat.lt_of_lt_of_le h.2.1 F.size, Nat.lt_of_lt_of_le h.2.2 F.size⟩) hI hNt6.1.1 hNt6 ⟨by omega, by omega, h22, by omega⟩
            (n := pls.length + 1) (ty := tname ob) (st := ob.stream) (af := af) (cf := cf) hWr6 (by omega) (by have := tname_ok ob; exact tname_small ob) (by have := (hVO ob hob).2; omega) fs (by omega) hfs (fun k hk => ⟨by omega, by omega, by omega, by omega, fun e => by have := how k e; omega⟩) (fun j f hf => by
              obtain⟨gf, kk, xx, tt, rr, aa, nn, cc, mm, e, hg1, hr1, hR1⟩ := hKR6 j f hf
              exact⟨gf, kk, xx, tt, rr, aa, nn, cc, mm, e, hg1, hr1, hR1⟩)
          have hrK : W6.rangeAt K 0 [.string (tname ob), .slice af fs.length cf, .string ob.stream] := rangeAt_block hK6;rw[show ((pls.length + 1 : Nat) : Int) = (pls.length : Int) + 1 from by omega] at OB;have HZ6 := hid (show W6.heap.size = w5.heap.size from hz6);clear hu hz6 hz5
          gi_wp2_with (with_reducible refine hold_k ?_)
          unfold Hold;refine loadI_mid rfl 111 _ rfl K 0 rfl _ hrK Tryz.agKt Tryz.sizeKt ?_
          gi_wp2_with fail
          refine⟨trivial, ?_⟩;have hown6 := World.ownsRow.lt hWr6.row;have hg5' := hg5o g5 rfl
          have hF7 : ∀ (o' : Value) (w7 : World), Fw Q M B ow W6 o' w7 -> Fb B W0 w7 /\ w7.heap[w4.heap.size]? = some (.deferred (some [])) /\ w7.heap[w4.heap.size + 1]? = some (.loop lr) := fun o' w7 F7 => by
            have hu := unh hsu;have hlN := (Array.getElem?_eq_some_iff.1 hJ.df).1;have hlL := (Array.getElem?_eq_some_iff.1 hJ.lp).1;have hz6 := unh HZ6;have hz5 := hgg.size;exact⟨F7.fb hF6 (by omega) (by omega) (fun k hk => by have := (hown6 k hk).1; omega), (F7.block _ (by omega) (by omega) (by omega) (by omega) a6).trans ((hk6 _ hlN (by omega) (hsB _ (by omega))).trans hJ.df), (F7.block _ (by omega) (by omega) (by omega) (by omega) a7).trans ((hk6 _ hlL (by omega) (hsB _ (by omega))).trans hJ.lp)⟩
          rcases q5 : objW ntB (pls.length + 1) (tname ob) fs ob.stream out b with⟨out', b'⟩|y
          · refine (CallsIn.inRound l (callsIn_wide.2 (PostW.okC OB q5))).mono ?_
            rintro e w7 ⟨rfl, ow7, hW7, F7⟩
            gi_wp2_with fail
            have hu := unh hsu;have hz6 := unh HZ6;have hz5 := hgg.size;obtain⟨f1, f2, f3⟩ := hF7 ow7 w7 F7;have hlo6 := World.ownsRow.lt hNd6.n.row;refine⟨out', b', q5, ow7, .slice (some ⟨g5, 0, none⟩) (pls.length + 1) c5, hNd6.put2 F7.size (fun k hk => ?_) hW7.bud, hW7, (F7.block _ hp6.lt (by omega) (by omega) (by omega) a5).trans hp6, ownsRow_blockI hpr6 (fun g hg => ?_), fun g hg e => ?_, f1, f2, f3⟩
            · rcases hk with rfl | rfl | rfl | rfl | rfl | hk
              · exact F7.block _ (by omega) (by omega) (by omega) (by omega) a4
              · exact F7.block _ (by omega) (by omega) (by omega) (by omega) (fun e => by have := (hown6 _ e).1; omega)
              · exact F7.block _ (by omega) (by omega) (by omega) (by omega) a1
              · exact F7.block _ (by omega) (by omega) (by omega) (by omega) a2
              · exact F7.block _ (by omega) (by omega) (by omega) (by omega) a3
              · have := hlo6 k hk
                exact F7.block k this.2 (by omega) (by omega) (by omega) (a9 k hk)
            · have h5 := hg5o g hg
              refine F7.block g (by omega) (by omega) (by omega) (by omega) (fun e => ?_)
              rcases h5.1 with h6|h6
              · exact a10 g h6 e
              · have := (hlw g e).2; omega
            · have h5 := hg5o g e
              rcases h5.1 with h6|h6
              · exact hJ.os g hg h6
              · have := (hlo3 g hg).2; omega
          · refine (CallsIn.inRound l (callsIn_wide.2 (PostW.noC OB q5))).mono ?_
            rintro e w7 ⟨rfl, ow7, F7⟩;obtain⟨f1, f2, f3⟩ := hF7 ow7 w7 F7;exact⟨rfl, y, rfl, rfl, f1, f2⟩
        · intro W NV lr o ow' sp olds pls out' b2 hr hs hJ
          obtain⟨u1, u2, u3, u4, u5, u6, u7⟩ := unh hsu;have hRL := reach_len _ _ _ _ _ _ hr;have hR0 := reach_some hr;have hout9 := hJ.wr.hl;have hN := hGn W0 hG;have hw0 : W.heap[5]? = h0t := (hJ.fb.block _ hN.2.1 (by omega)).trans hN.1.1
          obtain⟨gp, cp, hspE⟩ : ∃ g c, sp = .slice (some ⟨g, 0, none⟩) pls.length c := by
            rcases hJ.pr.2 with⟨_, hn⟩|⟨g, cap, cur, e, _⟩
            · omega
            · exact⟨_, _, e⟩
          have hspN := hJ.spNe hs gp (by rw[hspE]; rfl);have howN := hJ.owNe.2.2.2.2.2.2.2.2.2 gp (by rw[hspE]; rfl)
          have TB := wtable_any (cp := cp) hI hw0 ⟨by omega, by omega, h22, by omega⟩ pls (by have := hRL.2.1; simp at this; omega) (fun p hp => by rcases hRL.2.2.2 p hp with h5 | h5; simp at h5; omega) hJ.wr hspN.2.1 ⟨by omega, by omega, by omega, howN⟩ (fun i p hp => by
            have := World.ownsRow.cells hJ.pr (g := gp) (by rw[hspE]; rfl) i (.int .i64 (p : Int)) (by unfold intsV; rw[List.getElem?_map, hp]; rfl);rw[Addr.add_mid, Nat.zero_add] at this
            exact this)
          have cPL := hJ.pv.c;rw[hspE] at cPL;have hown := World.ownsRow.lt hJ.wr.row;clear u1 u2 u3 u4 u5 u6 u7;refine wpF_seq (wpF_of (n := 9) ?_)
          gi_wp2_with fail
          refine⟨trivial, ?_⟩
          rcases q3 : tabW pls out' b2 with⟨t, b3⟩|y
          · have hfin : writeR ntB os root b = .ok t b3 := by unfold writeR; rw[q1]; simp only[hr]; exact q3
            refine (callsIn_wide.2 (PostW.okC TB q3)).mono ?_;rintro e w5 ⟨rfl, o5, hW5, F5⟩;have F05 : Fb B W0 w5 := F5.fb hJ.fb (by have := unh hsu; omega) (by have := unh hsu; omega) (fun k hk => by have := (hown k hk).1; have := unh hsu; omega);have hDf5 : w5.heap[w4.heap.size]? = some (.deferred (some [])) := (F5.block _ (Array.getElem?_eq_some_iff.1 hJ.df).1 (by have := unh hsu; omega) (by have := unh hsu; omega) (by have := unh hsu; omega) hJ.owNe.2.2.2.2.2.1).trans hJ.df;have c0 := hW5.c0;have hcv := Row8.bstr (w := w5) (base := w1.heap.size) (o := o5) (out := t) hW5.row
            gi_wp2_with fail
            refine wpF_seq (wpF_of (n := 9) ?_)
            gi_wp2_with fail
            refine wpF_of (n := 9) ?_
            gi_wp2_with fail
            refine⟨by simp, .inl ⟨_, _, rfl, run_takeDeferred hDf5, ?_⟩⟩;refine⟨_, results_tmp rfl _ _ _, ?_⟩;exact PostB.ok hfin ⟨rfl, hW5.hl⟩ (hW5.bud.of_blocks (fun k hk => World.putObj_heap_other (by have := unh hsu; omega))) ⟨F05.os, F05.tape, F05.output, by rw[World.putObj_size]; exact F05.size, fun k hk hb => (World.putObj_heap_other (by have := unh hsu; omega)).trans (F05.block k hk hb)⟩
          · have hfin : writeR ntB os root b = .no y := by unfold writeR; rw[q1]; simp only[hr]; exact q3
            refine (callsIn_wide.2 (PostW.noC TB q3)).mono ?_;rintro e w5 ⟨rfl, o5, F5⟩;have F05 : Fb B W0 w5 := F5.fb hJ.fb (by have := unh hsu; omega) (by have := unh hsu; omega) (fun k hk => by have := (hown k hk).1; have := unh hsu; omega);have hDf5 : w5.heap[w4.heap.size]? = some (.deferred (some [])) := (F5.block _ (Array.getElem?_eq_some_iff.1 hJ.df).1 (by have := unh hsu; omega) (by have := unh hsu; omega) (by have := unh hsu; omega) hJ.owNe.2.2.2.2.2.1).trans hJ.df;refine⟨by simp, .inl ⟨_, _, rfl, run_takeDeferred hDf5, ?_⟩⟩;unfold LeavesInM LeavesIn;refine PostB.no hfin ?_;exact⟨F05.os, F05.tape, F05.output, by rw[World.putObj_size]; exact F05.size, fun k hk hb => (World.putObj_heap_other (by have := unh hsu; omega)).trans (F05.block k hk hb)⟩
        · skip
          intro W y hr hF hDf;have hfin : writeR ntB os root b = .no y := by unfold writeR; rw[q1]; simp only[hr]
          refine⟨by simp, .inl ⟨_, _, rfl, run_takeDeferred hDf, ?_⟩⟩;unfold LeavesInM LeavesIn;refine PostB.no hfin ?_;obtain⟨u1, u2, u3, u4, u5, u6, u7⟩ := unh hsu;exact⟨hF.os, hF.tape, hF.output, by rw[World.putObj_size]; exact hF.size, fun k hk hb => (World.putObj_heap_other (by omega)).trans (hF.block k hk hb)⟩
      · have hfin : PostB B W0 (fun t v _ => v = .string (bstr t) /\ t.length <= 9000) (writeR ntB os root b) (.panicked (thrownY y)) = PostB B W0 (fun t v _ => v = .string (bstr t) /\ t.length <= 9000) (.no y) (.panicked (thrownY y)) := by
          have : writeR ntB os root b = .no y := by unfold writeR; rw[q1]
          rw[this]
        refine (callsIn_wide.2 (PostW.noC PB q1)).mono ?_;rintro e w2 ⟨rfl, o', F2⟩
        have hP2 : PostB B W0 (fun t v _ => v = .string (bstr t) /\ t.length <= 9000) (writeR ntB os root b) (.panicked (thrownY y)) w2 := by
          rw[hfin];exact⟨rfl, F2.fb (Fb.of_below hB1) (by omega) (by omega) (fun k e => by simp[Value.ownBlock] at e)⟩
        exact hP2
    | ret => exact hm.elim
    | exit id => exact hm.elim
    | goto t => exact hm.elim
    | panic ch => exact hm.elim
    | outgrown => exact hm.elim
end
end Go.Proofs.YtgffljllfenhkaaGreatDoor
