import Derived.Test.YtgffljllfenhkaaGreatDoorGwaw
namespace Go.Proofs.YtgffljllfenhkaaGreatDoor
section
open Go.RowKit
attribute [local go_sem] Oper.semAt_some
variable {w w0 w':World}{B D DV OL NV M base lo at_ root:Nat}{pl:List Nat}{slp slo:Value}{os:List Obj1}{xs:List Value}{S S':Nat->Prop}
theorem Tryz.sizeKt:(Tryz.prog.info? 111).map (·.size)=some 3:=by kernel_rfl
theorem Tryz.agKt:(Tryz.prog.underlying 111).map isAg=some true:=by kernel_rfl
theorem Tryz.sizeRu:(Tryz.prog.info? 170).map (·.size)=some 2:=by kernel_rfl
theorem Tryz.agRu:(Tryz.prog.underlying 170).map isAg=some true:=by kernel_rfl
theorem Tryz.infoFd:(Tryz.prog.info? 146).map (fun i=>(i.zero,i.size,i.bytes))=some (some (.agg #[.string ⟨#[]⟩,.int .i64 0,.float .f64 0,.string ⟨#[]⟩,.int .i64 0,.slice none 0 0,.map none]),7,88):=by kernel_rfl
theorem Tryz.undFd:Tryz.prog.underlying 109=some (.slice 146):=by kernel_rfl
def Asd (P:Program) (o:Oper) (a:Act) (w:World) (K:Act->World->Prop) (Q:Exit->Act->World->Prop):Prop:=o.wp P a w K Q
theorem Asd.here {P:Program}{o:Oper}{a:Act}{w:World}{K:Act->World->Prop}{Q:Exit->Act->World->Prop}(h:Asd P o a w K Q):Asd P o a w K Q:=h
theorem asd_k {P:Program}{d:Option Tmp}{x y:Operand}{ty:TypeId}{ps:String}{af:Array Edge}{gd:Option (Nat×Bool)}{a:Act}{w:World}{K:Act->World->Prop}{Q:Exit->Act->World->Prop} :
  Oper.wp P { dst:=d,op:=.store 111 x y,type:=ty,pos:=ps,after:=af,guard:=gd } a w K Q=Asd P { dst:=d,op:=.store 111 x y,type:=ty,pos:=ps,after:=af,guard:=gd } a w K Q:=rfl
theorem asd_o {P:Program}{d:Option Tmp}{x:Operand}{ty:TypeId}{ps:String}{af:Array Edge}{gd:Option (Nat×Bool)}{a:Act}{w:World}{K:Act->World->Prop}{Q:Exit->Act->World->Prop} :
  Oper.wp P { dst:=d,op:=.load 122 x,type:=ty,pos:=ps,after:=af,guard:=gd } a w K Q=Asd P { dst:=d,op:=.load 122 x,type:=ty,pos:=ps,after:=af,guard:=gd } a w K Q:=rfl
theorem Asd.store {o:Oper}{a:Act}{w:World}{K:Act->World->Prop}{Q:Exit->Act->World->Prop}(T:TypeId) (sz:Nat) (x y:Operand) (ho:o.op=.store T x y) (hd:o.dst=none)
  (g:Nat) (cells:Array Value) (hx:a.eval x=.pointer (some ⟨g,0,none⟩)) (hy:a.eval y=.agg cells) (old:Array Value) (hg:w.heap[g]?=some (.cells old T (0,0))) (hT:(Tryz.prog.info? T).map (·.size)=some sz) (ho6:old.size=sz) (h6:cells.size=sz) (h1:cells.all (·.oneCell')=true)
  (h:K a (w.setRow g cells)):Asd Tryz.prog o a w K Q:=by
 refine wp_store_row T x y ho g cells hx hy T old hg (by rw[h6];exact hT) (ho6.trans h6.symm) h1 ?_;rw[hd];exact h
theorem Asd.load {o:Oper}{a:Act}{w:World}{K:Act->World->Prop}{Q:Exit->Act->World->Prop}(T:TypeId) (sz:Nat) (x:Operand) (ho:o.op=.load T x)
  (b off:Nat) (cs:List Value) (hx:a.eval x=.pointer (some ⟨b,off,none⟩)) (hc:w.rangeAt b off cs) (hT:(Tryz.prog.info? T).map (·.size)=some sz) (hA:(Tryz.prog.underlying T).map isAg=some true) (h6:cs.length=sz)
  (h:K (a.put o.dst (.agg cs.toArray)) w):Asd Tryz.prog o a w K Q:=by
 obtain⟨d,h1,h2⟩:=isStruct hA;refine wp_load_mid T x ho b off hx cs d hc h1 ?_ (by rw[h6];exact hT) h;cases d <;> first | rfl | cases h2
theorem ownsRow_shapeF {sl:Value}{base n:Nat}{xs:List Value}(h:w.ownsRow base 146 7 sl n xs):∃ a c,sl=.slice a n c:=by
 rcases h.2 with⟨rfl,rfl⟩|⟨g,cap,cur,rfl,_⟩
 ·exact⟨_,_,rfl⟩
 ·exact⟨_,_,rfl⟩
theorem tname_ok (o:Obj1):tyOk (tname o):=by
 unfold tname tyOk;split
 ·simp
 ·split
  ·simp
  ·split <;> simp
theorem rulesOf_len (ty:ByteArray):(rulesOf ty).length<=3:=by
 unfold rulesOf;split
 ·decide
 ·split <;> decide
theorem renL_ok:∀ (l acc:List Val) {olds o':List Nat}{b b':Nat}{l':List Val},renL l acc olds b=.ok (l',o') b'->OldsOk olds->(∀ v ∈ l,refOk v)->OldsOk o'
 | [],acc,_,_,_,_,_,h,ho,_=>by simp only[renL,Res.ok.injEq,Prod.mk.injEq] at h;rw[← h.1.2];exact ho
 | v::l,acc,olds,o',b,b',l',h,ho,hr=>by
  simp only[renL] at h
  rcases hq:renLeaf olds v b with⟨⟨v',o2⟩,b2⟩|y
  ·rw[hq] at h;exact renL_ok l _ h (renLeaf_ok hq ho (hr v (by simp))) (fun u hu=>hr u (by simp[hu]))
  ·rw[hq] at h;cases h
theorem renV_ok {olds o':List Nat}{b b':Nat}{v v':Val}(h:renV olds v b=.ok (v',o') b') (ho:OldsOk olds) (hk:keptOk v) (hr:refsOk v):OldsOk o':=by
 cases v
 case arr l=>
  simp only[renV] at h
  rcases hq:renL l [] olds b with⟨⟨l',o2⟩,b2⟩|y
  ·rw[hq] at h;simp only[Res.ok.injEq,Prod.mk.injEq] at h;rw[← h.1.2];exact renL_ok l [] hq ho hr
  ·rw[hq] at h;cases h
 all_goals (simp only[renV] at h;exact renLeaf_ok h ho hr)
def KeepQ (w:World) (ob:Obj1):List (ByteArray×Val)->Value->World->Prop:=fun fs val w'=>∃ af cf,val=.agg #[.string (tname ob),.slice af fs.length cf,.string ob.stream] /\
 ∀ i f,fs[i]?=some f->∃ gf kk xx tt rr aa nn cc mm,af=some ⟨gf,0,none⟩/\(w.heap.size<=gf/\gf<w'.heap.size)/\w'.rangeAt gf (i*7) [.string f.1,.int .i64 ((kk:Nat):Int),.float .f64 xx,.string tt,.int .i64 ((rr:Nat):Int),.slice aa nn cc,.map mm]/\RepK w' (fun b=>w.heap.size<=b/\b<w'.heap.size) f.2 (vC kk xx tt rr (.slice aa nn cc) (.map mm))
attribute [local go_sem ↓] store_v load_v asd_k asd_o app_aside Go.wp_at_zero Go.wp_at_succ
set_option maxHeartbeats 8000000 in
set_option maxRecDepth 100000 in
theorem keep_any {o : Value}{olds : List Nat}{b : Nat}(h0 : Doc w0 D B lo at_ pl root slp slo os xs) (hlo : B + 1<lo) (hos : os.length <= 40) (F0 : Fb B w0 w) (h : Nd w B D DV OL NV M base o olds b) (ho : OldsOk olds) (hsep : w0.heap.size <= OL /\ w0.heap.size <= M /\ w0.heap.size <= base)
    (ob : Obj1) (hS : ∀ b, S b -> lo <= b /\ b<w0.heap.size) (hok : ∀ r : Rule, valOk (vget ob.v r.key)) {kk xx : Nat} {tt : ByteArray} {rr : Nat} {aa : Option Addr} {nn cc : Nat} {mm : Option Nat} (hR : Rep w0 S ob.v (vC kk xx tt rr (.slice aa nn cc) (.map mm))) :
    Calls Tryz.prog 96 #[.pointer (some ⟨D, 0, none⟩), .agg #[.int .i64 (kk : Int), .float .f64 xx, .string tt, .int .i64 (rr : Int), .slice aa nn cc, .map mm, .int .i64 (ob.place : Int), .int .i64 (ob.fin : Int), .bool ob.has, .string ob.stream], newF DV NV OL] w (PostK B OL NV M base o w (KeepQ w ob) (keepL os ob (rulesOf (tname ob)) [] olds b)) := by
  obtain⟨i0, hi, hz0, hz1, hz2⟩ := info_parts Tryz.infoFd;have hlt := h.n.lt;have hbase := hlt.2.2.2;have hne := h.ne;have hown := World.ownsRow.lt h.n.row;have hs0 := F0.size;have hltB := h.bud.lt
  have hSB : ∀ (W : World), Fb B w0 W -> ∀ b, S b -> b<W.heap.size /\ b ≠ B := fun W F b hb => by
    have := hS b hb; have := F.size; omega
  have hRW : ∀ (W : World), Fb B w0 W -> Rep W S ob.v (vC kk xx tt rr (.slice aa nn cc) (.map mm)) := fun W F => Rep.kept (fun b hb => ⟨hb, F.block b (hS b hb).2 (by have := hS b hb; omega)⟩) ob.v hR
  have RU0 := fun (W : World) => rules_any W D (tname ob) (tname_ok ob)
  have hrs3 := rulesOf_len (tname ob);obtain⟨rs, hrs⟩ : ∃ rs, rulesOf (tname ob) = rs := ⟨_, rfl⟩;rw[hrs] at hrs3 ⊢;simp only[hrs] at RU0;clear hrs;unfold newF
  go_enter Tryz.func96, Tryz.ntmps96
  go_upto_region 1 with fail
  obtain⟨W, hW, hX, hZ, hBW, hsW⟩ : ∃ W, (w.alloc (.cells #[.int .i64 (kk : Int), .float .f64 xx, .string tt, .int .i64 (rr : Int), .slice aa nn cc, .map mm, .int .i64 (ob.place : Int), .int .i64 (ob.fin : Int), .bool ob.has, .string ob.stream] 122)).alloc (.cells #[.string ⟨#[]⟩, .slice none 0 0, .string ⟨#[]⟩] 111) = W /\ W.heap[w.heap.size]? = some (.cells #[.int .i64 (kk : Int), .float .f64 xx, .string tt, .int .i64 (rr : Int), .slice aa nn cc, .map mm, .int .i64 (ob.place : Int), .int .i64 (ob.fin : Int), .bool ob.has, .string ob.stream] 122 (0, 0)) /\ W.heap[w.heap.size + 1]? = some (.cells #[.string ⟨#[]⟩, .slice none 0 0, .string ⟨#[]⟩] 111 (0, 0)) /\ Below w.heap.size w W /\ W.heap.size = w.heap.size + 2 := ⟨_, rfl, heap_alloc2_old w _ _, heap_alloc2_new w _ _, ((Below.refl _ _).alloc (Nat.le_refl _) _).alloc (by simp) _, by simp⟩;rw[hW];clear hW;have hrX : W.drew.rangeAt w.heap.size 0 [.int .i64 (kk : Int), .float .f64 xx, .string tt, .int .i64 (rr : Int), .slice aa nn cc, .map mm, .int .i64 (ob.place : Int), .int .i64 (ob.fin : Int), .bool ob.has, .string ob.stream] := rangeAt_block (w := W.drew) hX;have c9 : ∀ W3 : World, W3.heap[w.heap.size]? = W.heap[w.heap.size]? -> W3.cell? ⟨w.heap.size, 9, none⟩ = some (.string ob.stream) := fun W3 h3 => by simp only[World.cell?]; rw[h3, hX]; rfl
  have c9d := c9 W.drew rfl
  have TN : ∀ W3, Below W.heap.size W W3 -> Calls Tryz.prog 107 #[.agg #[.int .i64 (kk : Int), .float .f64 xx, .string tt, .int .i64 (rr : Int), .slice aa nn cc, .map mm, .int .i64 (ob.place : Int), .int .i64 (ob.fin : Int), .bool ob.has, .string ob.stream]] W3 fun e w' => e = .returned (.string (tname ob)) /\ Below W3.heap.size W3 w' := fun W3 h3 =>
    typeName_any ob (hRW W3 (F0.trans (Fb.of_below (hBW.trans (h3.mono (by omega)))))) (fun b hb => by have := hS b hb; have := h3.size; omega)
  have hBz : Below W.heap.size W (W.alloc (.cells #[.string ⟨#[]⟩, .slice none 0 0, .string ⟨#[]⟩] 111)).drew := by have := (Below.refl W.heap.size W).alloc (Nat.le_refl _) (.cells #[.string ⟨#[]⟩, .slice none 0 0, .string ⟨#[]⟩] 111); exact⟨this.os, this.tape, this.output, this.size, this.block⟩
  have c9z := c9 (W.alloc (.cells #[.string ⟨#[]⟩, .slice none 0 0, .string ⟨#[]⟩] 111)).drew (hBz.block w.heap.size (by omega));have hrXz : (W.alloc (.cells #[.string ⟨#[]⟩, .slice none 0 0, .string ⟨#[]⟩] 111)).drew.rangeAt w.heap.size 0 [.int .i64 (kk : Int), .float .f64 xx, .string tt, .int .i64 (rr : Int), .slice aa nn cc, .map mm, .int .i64 (ob.place : Int), .int .i64 (ob.fin : Int), .bool ob.has, .string ob.stream] := rangeAt_block ((hBz.block w.heap.size (by omega)).trans hX);have hKz : (W.alloc (.cells #[.string ⟨#[]⟩, .slice none 0 0, .string ⟨#[]⟩] 111)).drew.heap[W.heap.size]? = some (.cells #[.string ⟨#[]⟩, .slice none 0 0, .string ⟨#[]⟩] 111 (0, 0)) := heap_alloc_new W _;have hsz : (W.alloc (.cells #[.string ⟨#[]⟩, .slice none 0 0, .string ⟨#[]⟩] 111)).drew.heap.size = W.heap.size + 1 := by show (W.alloc _).heap.size = _; simp
  have H13 : (#[.string (tname ob), .slice none 0 0, .string ob.stream] : Array Value).all (·.oneCell') = true := by simp[Value.oneCell']
  have HSW := hid hsW;have HSZ := hid hsz;clear hsz hsW
  go_cut [7] (fun kv wx => ∃ K, kv = .pointer (some ⟨K, 0, none⟩) /\ w.heap.size + 2 <= K /\ wx.heap[K]? = some (.cells #[.string (tname ob), .slice none 0 0, .string ob.stream] 111 (0, 0)) /\ Below W.heap.size W wx)
  case first =>
    go_region_with (first
      | (go_at_call 107; refine (TN _ ?hb).mono ?_; (case hb => first | exact bdrew W | exact hBz); rintro e w3 ⟨rfl, hB3⟩; have hxw : w3.heap[w.heap.size]? = W.heap[w.heap.size]? := (by have q1 := unh HSW; have q2 := unh HSZ; first | exact hB3.block w.heap.size (by show _<W.heap.size; omega) | exact (hB3.block w.heap.size (by omega)).trans (hBz.block w.heap.size (by omega))); have c93 := c9 w3 hxw; (first | (have hq : Below (W.alloc (.cells #[.string ⟨#[]⟩, .slice none 0 0, .string ⟨#[]⟩] 111)).drew.heap.size (W.alloc (.cells #[.string ⟨#[]⟩, .slice none 0 0, .string ⟨#[]⟩] 111)).drew w3 := hB3; have hK3 := (hB3.block W.heap.size (by have q2 := unh HSZ; omega)).trans hKz; have hBW3 : Below W.heap.size W w3 := hBz.trans (hB3.mono (by have q2 := unh HSZ; omega)); clear hq) | (have c93z := c9 (w3.alloc (.cells #[.string ⟨#[]⟩, .slice none 0 0, .string ⟨#[]⟩] 111)) ((Below.heap_alloc w3 _ w.heap.size (by have q3 := hB3.size; have q4 : W.drew.heap.size = W.heap.size := rfl; have q1 := unh HSW; omega)).trans hxw); have hBW3 : Below W.heap.size W w3 := (bdrew W).trans hB3)))
      | (with_reducible refine Asd.here ?_; first
         | (refine Asd.load 122 10 _ rfl w.heap.size 0 [.int .i64 (kk : Int), .float .f64 xx, .string tt, .int .i64 (rr : Int), .slice aa nn cc, .map mm, .int .i64 (ob.place : Int), .int .i64 (ob.fin : Int), .bool ob.has, .string ob.stream] rfl hrX Tryz.sizeO Tryz.agO rfl ?_)
         | (refine Asd.load 122 10 _ rfl w.heap.size 0 [.int .i64 (kk : Int), .float .f64 xx, .string tt, .int .i64 (rr : Int), .slice aa nn cc, .map mm, .int .i64 (ob.place : Int), .int .i64 (ob.fin : Int), .bool ob.has, .string ob.stream] rfl hrXz Tryz.sizeO Tryz.agO rfl ?_)
         | (refine Asd.store 111 3 _ _ rfl rfl W.heap.size #[.string (tname ob), .slice none 0 0, .string ob.stream] rfl rfl _ hK3 Tryz.sizeKt rfl rfl H13 ?_)
         | (refine Asd.store 111 3 _ _ rfl rfl w3.heap.size #[.string (tname ob), .slice none 0 0, .string ob.stream] rfl rfl _ (heap_alloc_new w3 _) Tryz.sizeKt rfl rfl H13 ?_; rw[setRow_alloc])))
    all_goals
      go_wp2_with fail
      go_meet
      case rel =>
        have hsW := unh HSW
        first
          | exact⟨W.heap.size, rfl, by omega, setRow_heap _ _ _ _ _ _ hK3, below_setRow hBW3 (Nat.le_refl _) _⟩
          | exact⟨w3.heap.size, rfl, by have := hBW3.size; omega, heap_alloc_new w3 _, hBW3.alloc hBW3.size _⟩
  case rest =>
    obtain⟨wx, rfl⟩ : ∃ wx, wx = wc := ⟨_, rfl⟩;obtain⟨K, rfl, hK2, hKb, hBx⟩ := hcut;have hsW := unh HSW;have hsx := hBx.size;have hKx := (Array.getElem?_eq_some_iff.1 hKb).1;have cK0 : wx.cell? ⟨K, 0, none⟩ = some (.string (tname ob)) := by simp[World.cell?, hKb]
    have RU := RU0 wx;have HEA : Hid (keepL os ob rs [] olds b = keepL os ob (rs.drop 0) [] olds b) := rfl;clear RU0 hrX hrXz c9d c9z TN hBz hKz
    go_upto_region 3 with (go_at_call 120; refine RU.mono ?_; rintro e W4 ⟨v4, rfl, hRQ, hB4⟩; obtain⟨ag, cg, rfl, hRu⟩ : ∃ ag cg, v4 = .slice ag rs.length cg /\ ∀ i r, rs[i]? = some r -> ∃ g f, ag = some ⟨g, 0, none⟩ /\ wx.heap.size <= g /\ g<W4.heap.size /\ W4.rangeAt g (i*2) [.string r.key, f] /\ RuleF W4 wx.heap.size D r f := (by rcases hRQ with⟨e1, e2⟩ | ⟨g, c, e2, h1, h2, h3⟩; exact⟨none, 0, by rw[e2, e1]; rfl, fun i r hi => by rw[e1] at hi; simp at hi⟩; exact⟨_, c, e2, fun i r hi => by obtain⟨f, h4, h5⟩ := h3 i r hi; exact⟨g, f, rfl, h1, h2, h4, h5⟩⟩))
    have hs4 := hB4.size;have hX4 := (hB4.block w.heap.size (by omega)).trans ((hBx.block w.heap.size (by omega)).trans hX);have hZ4 := (hB4.block (w.heap.size + 1) (by omega)).trans ((hBx.block (w.heap.size + 1) (by omega)).trans hZ);have hK4 := (hB4.block K hKx).trans hKb;have hBw4 : Below w.heap.size w W4 := hBW.trans ((hBx.mono (by omega)).trans (hB4.mono (by omega)));have hN4 := h.below hBw4;have HS4 : Hid (w.heap.size + 2 <= K /\ K<wx.heap.size /\ wx.heap.size <= W4.heap.size) := ⟨hK2, hKx, hs4⟩;clear hs4 hsx hsW cK0 hRQ RU
    go_wp2_with fail
    go_loopw [22] (fun iv wr => ∃ (i : Nat) (acc : List (ByteArray × Val)) (oi : Value) (oldi : List Nat) (bi : Nat) (sl : Value) (ys : List Value), iv = .int .i64 (i : Int) /\ i <= rs.length /\ acc.length <= i /\ Nd wr B D DV OL NV M base oi oldi bi /\ OldsOk oldi /\ Fk B OL M o w oi wr /\ W4.heap.size <= wr.heap.size /\
        (∀ k, w.heap.size <= k -> k<W4.heap.size -> k ≠ K -> wr.heap[k]? = W4.heap[k]?) /\ wr.heap[K]? = some (.cells #[.string (tname ob), sl, .string ob.stream] 111 (0, 0)) /\ (∀ k, oi.ownBlock = some k -> k<w.heap.size \/ W4.heap.size <= k) /\
        FldR wr W4.heap.size (fun b => W4.heap.size <= b /\ b<wr.heap.size /\ isV wr b) sl acc ys /\ Hid (keepL os ob rs [] olds b = keepL os ob (rs.drop i) acc oldi bi))
      (fun iv _ => rs.length-(intOf iv).toNat)
    case atStart => exact⟨0, [], o, olds, b, _, [], rfl, Nat.zero_le _, Nat.le_refl _, hN4, ho, Fk.below o hBw4, Nat.le_refl _, fun _ _ _ _ => rfl, hK4, fun k hk => .inl (hown k hk).2, FldR.nil _ _ _, HEA⟩
    case round =>
      clear HEA;obtain⟨i, acc, oi, oldi, bi, sl, ys, rfl, hir, hacc, hN, hOk, hF, hsr, hst, hKr, hoi, hFl, HE⟩ := hrel;obtain⟨hK2', hKx', hs4⟩ := unh HS4;have hownI := World.ownsRow.lt hN.n.row;obtain⟨asl, csl, hslE⟩ := ownsRow_shapeF hFl.row
      by_cases hil : i<rs.length
      · have hilI : (i : Int)<(rs.length : Int) := by omega
        obtain⟨r, hri⟩ : ∃ r, rs[i]? = some r := ⟨rs[i], List.getElem?_eq_getElem hil⟩
        have hcons : rs.drop i = r :: rs.drop (i + 1) := by
          rw[List.drop_eq_getElem_cons hil];congr 1;exact Option.some.inj ((List.getElem?_eq_getElem hil).symm.trans hri)
        have HC := hid hcons;obtain⟨g, f, hag, hg1, hg2, hra4, hRF4⟩ := hRu i r hri;subst hag;have hra : wr.rangeAt g (i*2) [.string r.key, f] := fun j u hj => (World.cell?_of_block (w := W4) (hst g (by omega) hg2 (by omega))).trans (hra4 j u hj)
        have hRFr : RuleF wr wx.heap.size D r f := hRF4.kept (fun k h1 h2 => hst k (by omega) h2 (by omega));have hvr := hok r;obtain⟨wo, rfl⟩ : ∃ wo, wo = wr := ⟨_, rfl⟩;have hBe : Below wo.heap.size wo (wo.alloc (.cells #[.string r.key, f] 170)) := (Below.refl _ _).alloc (Nat.le_refl _) _;have hEb : (wo.alloc (.cells #[.string r.key, f] 170)).heap[wo.heap.size]? = some (.cells #[.string r.key, f] 170 (0, 0)) := heap_alloc_new wo _;have hsE : (wo.alloc (.cells #[.string r.key, f] 170)).heap.size = wo.heap.size + 1 := by simp
        have hone : (#[.string r.key, f] : Array Value).all (·.oneCell') = true := by
          cases r
          case next => obtain⟨_, _, rfl, _⟩ := hRFr; simp[Value.oneCell']
          case text => obtain⟨_, _, rfl, _⟩ := hRFr; simp[Value.oneCell']
          all_goals (obtain rfl := hRFr; simp[Value.oneCell'])
        obtain⟨WE, hWE⟩ : ∃ WE, wo.alloc (.cells #[.string r.key, f] 170) = WE := ⟨_, rfl⟩;rw[hWE] at hBe hEb hsE;have HWE := hid hWE;clear hWE hcons hRF4 hra4;have hNE := hN.below hBe;have hFE : Fk B OL M o w oi WE := hF.trans (Fk.below oi hBe);have F0E : Fb B w0 WE := hFE.fb F0 hsep.1 hsep.2.1 (fun k hk => by have := (hown k hk).1; omega);have hRFE : RuleF WE wx.heap.size D r f := hRFr.kept (fun k h1 h2 => hBe.block k h2);have hXE : WE.heap[w.heap.size]? = _ := (hBe.block w.heap.size (by omega)).trans ((hst w.heap.size (by omega) (by omega) (by omega)).trans hX4);have hkey : r.key.size <= maxLen := by unfold maxLen; cases r <;> decide
        obtain⟨k2, x2, t2, r2, a2, n2, c2, m2, hlk, hRv⟩ := (hRW WE F0E).look r.key hkey;have cE0 : WE.cell? ⟨wo.heap.size, 0, none⟩ = some (.string r.key) := by simp[World.cell?, hEb]
        have cE1 : WE.cell? ⟨wo.heap.size, 1, none⟩ = some f := by simp[World.cell?, hEb]
        have cX5 : WE.cell? ⟨w.heap.size, 5, none⟩ = some (.map mm) := by simp only[World.cell?]; rw[hXE]; rfl
        have HSE := hid hsE;clear hsE
        go_upto_region 5 with (first | (refine load_mid rfl 170 _ rfl g (i*2) rfl _ hra Tryz.agRu Tryz.sizeRu ?_) | (refine wpList_store_row rfl 170 _ _ rfl wo.heap.size _ rfl rfl 170 _ (heap_alloc_new wo _) Tryz.sizeRu rfl hone ?_; rw[setRow_alloc, unh HWE]))
        rw[show ∀ (a : Act) (v : Value), a.put none v = a from fun _ _ => rfl]
        go_cut [10, 11] (fun xv bv wy => ∃ (x : Val) (ok : Bool) (b1 X k1 x1 : Nat) (t1 : ByteArray) (r1 : Nat) (a1 : Option Addr) (n1 c1 : Nat) (m1 : Option Nat), xv = .pointer (some ⟨X, 0, none⟩) /\ bv = .bool ok /\ r.right os (vget ob.v r.key) bi = .ok (x, ok) b1 /\ WE.heap.size <= X /\ wy.heap[X]? = some (.cells #[.int .i64 (k1 : Int), .float .f64 x1, .string t1, .int .i64 (r1 : Int), .slice a1 n1 c1, .map m1] 120 (0, 0)) /\
          RepK wy (fun b => S b \/ (WE.heap.size <= b /\ b<wy.heap.size)) x (vC k1 x1 t1 r1 (.slice a1 n1 c1) (.map m1)) /\ (a1 = none -> n1 = 0 /\ c1 = 0) /\ Bud wy B b1 /\ Fb B WE wy)
        case first =>
          have hSBE := hSB WE F0E;clear hra hRFr hRu;cases r
          case kids =>
            obtain rfl := hRFE;have RC := kids_any (h0.kept F0E (by omega)) hNE.bud hlo (vget ob.v Rule.kids.key) hSBE hRv hvr.1;have RC : Calls Tryz.prog 138 _ WE (PostB B WE (RightQ WE S) (Rule.right os .kids (vget ob.v Rule.kids.key) bi)) := RC
            rcases q : Rule.right os Rule.kids (vget ob.v Rule.kids.key) bi with⟨⟨x, ok⟩, b1⟩|y
            · go_wp2_with fail
              refine (PostB.okC RC q).mono ?_;rintro e w6 ⟨v6, rfl, ⟨k1, x1, t1, r1, a1, n1, c1, m1, rfl, hRK, hnl⟩, hB6, F6⟩
              go_wp2_with (refine wpList_store_row rfl 120 _ _ rfl w6.heap.size _ rfl rfl 120 _ (heap_alloc_new w6 _) Tryz.sizeV rfl (one_six _ _ _ _ _ _ _ _) ?_; rw[setRow_alloc])
              go_meet
              case rel =>
                have hA6 : Fb B w6 (w6.alloc (.cells #[.int .i64 (k1 : Int), .float .f64 x1, .string t1, .int .i64 (r1 : Int), .slice a1 n1 c1, .map m1] 120)) := (Fb.refl B w6).alloc _
                exact⟨x, ok, b1, w6.heap.size, k1, x1, t1, r1, a1, n1, c1, m1, rfl, rfl, q, F6.size, heap_alloc_new w6 _, RepK.kept (fun k hk => by
                  have hk2 : k<w6.heap.size := by
                    rcases hk with h1|h1
                    · have := hSBE k h1; have := F6.size; omega
                    · exact h1.2
                  exact⟨by rcases hk with h1 | h1; exact .inl h1; exact .inr ⟨h1.1, by have := hA6.size; omega⟩, Below.heap_alloc _ _ _ hk2⟩) x hRK, hnl, hB6.alloc _, F6.trans hA6⟩
            · have HN : Hid (keepL os ob rs [] olds b = .no y) := (unh HE).trans (by rw[unh HC]; simp only[keepL, q])
              go_wp2_with fail
              refine (PostB.noC RC q).mono ?_;rintro e w6 ⟨rfl, F6⟩;exact⟨rfl, PostK.no (unh HN) (hFE.trans (Fk.of_fb oi F6))⟩
          case title =>
            obtain rfl := hRFE;have RC := title_r (os := os) hNE.bud (vget ob.v Rule.title.key) hSBE hRv
            rcases q : Rule.right os Rule.title (vget ob.v Rule.title.key) bi with⟨⟨x, ok⟩, b1⟩|y
            · go_wp2_with fail
              refine (PostB.okC RC q).mono ?_;rintro e w6 ⟨v6, rfl, ⟨k1, x1, t1, r1, a1, n1, c1, m1, rfl, hRK, hnl⟩, hB6, F6⟩
              go_wp2_with (refine wpList_store_row rfl 120 _ _ rfl w6.heap.size _ rfl rfl 120 _ (heap_alloc_new w6 _) Tryz.sizeV rfl (one_six _ _ _ _ _ _ _ _) ?_; rw[setRow_alloc])
              go_meet
              case rel =>
                have hA6 : Fb B w6 (w6.alloc (.cells #[.int .i64 (k1 : Int), .float .f64 x1, .string t1, .int .i64 (r1 : Int), .slice a1 n1 c1, .map m1] 120)) := (Fb.refl B w6).alloc _
                exact⟨x, ok, b1, w6.heap.size, k1, x1, t1, r1, a1, n1, c1, m1, rfl, rfl, q, F6.size, heap_alloc_new w6 _, RepK.kept (fun k hk => by
                  have hk2 : k<w6.heap.size := by
                    rcases hk with h1|h1
                    · have := hSBE k h1; have := F6.size; omega
                    · exact h1.2
                  exact⟨by rcases hk with h1 | h1; exact .inl h1; exact .inr ⟨h1.1, by have := hA6.size; omega⟩, Below.heap_alloc _ _ _ hk2⟩) x hRK, hnl, hB6.alloc _, F6.trans hA6⟩
            · have HN : Hid (keepL os ob rs [] olds b = .no y) := (unh HE).trans (by rw[unh HC]; simp only[keepL, q])
              go_wp2_with fail
              refine (PostB.noC RC q).mono ?_;rintro e w6 ⟨rfl, F6⟩;exact⟨rfl, PostK.no (unh HN) (hFE.trans (Fk.of_fb oi F6))⟩
          case box =>
            obtain rfl := hRFE;have RC := box_r (os := os) hNE.bud (vget ob.v Rule.box.key) hSBE hRv
            rcases q : Rule.right os Rule.box (vget ob.v Rule.box.key) bi with⟨⟨x, ok⟩, b1⟩|y
            · go_wp2_with fail
              refine (PostB.okC RC q).mono ?_;rintro e w6 ⟨v6, rfl, ⟨k1, x1, t1, r1, a1, n1, c1, m1, rfl, hRK, hnl⟩, hB6, F6⟩
              go_wp2_with (refine wpList_store_row rfl 120 _ _ rfl w6.heap.size _ rfl rfl 120 _ (heap_alloc_new w6 _) Tryz.sizeV rfl (one_six _ _ _ _ _ _ _ _) ?_; rw[setRow_alloc])
              go_meet
              case rel =>
                have hA6 : Fb B w6 (w6.alloc (.cells #[.int .i64 (k1 : Int), .float .f64 x1, .string t1, .int .i64 (r1 : Int), .slice a1 n1 c1, .map m1] 120)) := (Fb.refl B w6).alloc _
                exact⟨x, ok, b1, w6.heap.size, k1, x1, t1, r1, a1, n1, c1, m1, rfl, rfl, q, F6.size, heap_alloc_new w6 _, RepK.kept (fun k hk => by
                  have hk2 : k<w6.heap.size := by
                    rcases hk with h1|h1
                    · have := hSBE k h1; have := F6.size; omega
                    · exact h1.2
                  exact⟨by rcases hk with h1 | h1; exact .inl h1; exact .inr ⟨h1.1, by have := hA6.size; omega⟩, Below.heap_alloc _ _ _ hk2⟩) x hRK, hnl, hB6.alloc _, F6.trans hA6⟩
            · have HN : Hid (keepL os ob rs [] olds b = .no y) := (unh HE).trans (by rw[unh HC]; simp only[keepL, q])
              go_wp2_with fail
              refine (PostB.noC RC q).mono ?_;rintro e w6 ⟨rfl, F6⟩;exact⟨rfl, PostK.no (unh HN) (hFE.trans (Fk.of_fb oi F6))⟩
          case next =>
            obtain⟨DV', TV', rfl, hdv', htv', hd1', ht1'⟩ := hRFE;have RC := ref_r (h0.kept F0E (by omega)) hNE.bud hlo hdv' htv' ⟨by omega, by omega⟩ (vget ob.v Rule.next.key) hSBE hRv;have RC : Calls Tryz.prog 161 _ WE (PostB B WE (RightQ WE S) (Rule.right os .next (vget ob.v Rule.next.key) bi)) := RC
            rcases q : Rule.right os Rule.next (vget ob.v Rule.next.key) bi with⟨⟨x, ok⟩, b1⟩|y
            · go_wp2_with fail
              refine (PostB.okC RC q).mono ?_;rintro e w6 ⟨v6, rfl, ⟨k1, x1, t1, r1, a1, n1, c1, m1, rfl, hRK, hnl⟩, hB6, F6⟩
              go_wp2_with (refine wpList_store_row rfl 120 _ _ rfl w6.heap.size _ rfl rfl 120 _ (heap_alloc_new w6 _) Tryz.sizeV rfl (one_six _ _ _ _ _ _ _ _) ?_; rw[setRow_alloc])
              go_meet
              case rel =>
                have hA6 : Fb B w6 (w6.alloc (.cells #[.int .i64 (k1 : Int), .float .f64 x1, .string t1, .int .i64 (r1 : Int), .slice a1 n1 c1, .map m1] 120)) := (Fb.refl B w6).alloc _
                exact⟨x, ok, b1, w6.heap.size, k1, x1, t1, r1, a1, n1, c1, m1, rfl, rfl, q, F6.size, heap_alloc_new w6 _, RepK.kept (fun k hk => by
                  have hk2 : k<w6.heap.size := by
                    rcases hk with h1|h1
                    · have := hSBE k h1; have := F6.size; omega
                    · exact h1.2
                  exact⟨by rcases hk with h1 | h1; exact .inl h1; exact .inr ⟨h1.1, by have := hA6.size; omega⟩, Below.heap_alloc _ _ _ hk2⟩) x hRK, hnl, hB6.alloc _, F6.trans hA6⟩
            · have HN : Hid (keepL os ob rs [] olds b = .no y) := (unh HE).trans (by rw[unh HC]; simp only[keepL, q])
              go_wp2_with fail
              refine (PostB.noC RC q).mono ?_;rintro e w6 ⟨rfl, F6⟩;exact⟨rfl, PostK.no (unh HN) (hFE.trans (Fk.of_fb oi F6))⟩
          case text =>
            obtain⟨DV', TV', rfl, hdv', htv', hd1', ht1'⟩ := hRFE;have RC := ref_r (h0.kept F0E (by omega)) hNE.bud hlo hdv' htv' ⟨by omega, by omega⟩ (vget ob.v Rule.text.key) hSBE hRv;have RC : Calls Tryz.prog 161 _ WE (PostB B WE (RightQ WE S) (Rule.right os .text (vget ob.v Rule.text.key) bi)) := RC
            rcases q : Rule.right os Rule.text (vget ob.v Rule.text.key) bi with⟨⟨x, ok⟩, b1⟩|y
            · go_wp2_with fail
              refine (PostB.okC RC q).mono ?_;rintro e w6 ⟨v6, rfl, ⟨k1, x1, t1, r1, a1, n1, c1, m1, rfl, hRK, hnl⟩, hB6, F6⟩
              go_wp2_with (refine wpList_store_row rfl 120 _ _ rfl w6.heap.size _ rfl rfl 120 _ (heap_alloc_new w6 _) Tryz.sizeV rfl (one_six _ _ _ _ _ _ _ _) ?_; rw[setRow_alloc])
              go_meet
              case rel =>
                have hA6 : Fb B w6 (w6.alloc (.cells #[.int .i64 (k1 : Int), .float .f64 x1, .string t1, .int .i64 (r1 : Int), .slice a1 n1 c1, .map m1] 120)) := (Fb.refl B w6).alloc _
                exact⟨x, ok, b1, w6.heap.size, k1, x1, t1, r1, a1, n1, c1, m1, rfl, rfl, q, F6.size, heap_alloc_new w6 _, RepK.kept (fun k hk => by
                  have hk2 : k<w6.heap.size := by
                    rcases hk with h1|h1
                    · have := hSBE k h1; have := F6.size; omega
                    · exact h1.2
                  exact⟨by rcases hk with h1 | h1; exact .inl h1; exact .inr ⟨h1.1, by have := hA6.size; omega⟩, Below.heap_alloc _ _ _ hk2⟩) x hRK, hnl, hB6.alloc _, F6.trans hA6⟩
            · have HN : Hid (keepL os ob rs [] olds b = .no y) := (unh HE).trans (by rw[unh HC]; simp only[keepL, q])
              go_wp2_with fail
              refine (PostB.noC RC q).mono ?_;rintro e w6 ⟨rfl, F6⟩;exact⟨rfl, PostK.no (unh HN) (hFE.trans (Fk.of_fb oi F6))⟩
        case rest =>
          obtain⟨W6, rfl⟩ : ∃ W6, W6 = wc := ⟨_, rfl⟩;obtain⟨x, ok, b1, X, k1, x1, t1, r1, a1, n1, c1, m1, rfl, rfl, q, hX6s, hXb, hRK, hnl, hB6, F6⟩ := hcut;clear hlk cE0 cE1 cX5 hra hRFr hRu;have hs6 := F6.size;have hsE := unh HSE;have hN6 : Nd W6 B D DV OL NV M base oi oldi b1 := hNE.step (hNE.n.kept F6 ⟨hne.1, hne.2.1, hne.2.2.1, hne.2.2.2.1⟩) hB6 (Fk.of_fb oi F6);have hF6 : Fk B OL M o w oi W6 := hFE.trans (Fk.of_fb oi F6);have keep6 : ∀ k, k<wo.heap.size -> k ≠ B -> W6.heap[k]? = wo.heap[k]? := fun k h1 h2 => (F6.block k (by omega) h2).trans (hBe.block k h1)
          have hFl6 : FldR W6 W4.heap.size (fun b => W4.heap.size <= b /\ b<W6.heap.size /\ isV W6 b) sl acc ys := hFl.kept (fun k hk => by have := hFl.own hk; exact keep6 k this.2.1 (by omega)) (fun k hk => by
            have e := keep6 k hk.2.1 (by have := hk.1; omega);obtain⟨cs, hcs⟩ := hk.2.2
            exact⟨⟨hk.1, by have := hk.2.1; omega, cs, e.trans hcs⟩, e⟩)
          have hst6 : ∀ k, w.heap.size <= k -> k<W4.heap.size -> k ≠ K -> W6.heap[k]? = W4.heap[k]? := fun k h1 h2 h3 => (keep6 k (by omega) (by omega)).trans (hst k h1 h2 h3)
          have hK6 := (keep6 K (by omega) (by omega)).trans hKr;have HZ6 : Hid (W4.heap.size <= W6.heap.size /\ WE.heap.size = wo.heap.size + 1 /\ WE.heap.size <= W6.heap.size /\ W4.heap.size <= wo.heap.size) := ⟨by omega, hsE, hs6, hsr⟩;have hA9 : W6.heap[wo.heap.size]? = some (.cells #[.string r.key, f] 170 (0, 0)) := (F6.block _ (by omega) (by omega)).trans hEb;clear hsE hs6 hFl hst hKr keep6;cases ok
          · have HE1 : Hid (keepL os ob rs [] olds b = keepL os ob (rs.drop (i + 1)) acc oldi b1) := (unh HE).trans (by rw[unh HC]; simp only[keepL, q])
            go_wp2_with fail
            go_roundw
            case rel => exact⟨i + 1, acc, oi, oldi, b1, sl, ys, by go_num, by omega, by omega, hN6, hOk, hF6, by have := unh HZ6; omega, hst6, hK6, hoi, hFl6, HE1⟩
            case measure => simp[intOf]; omega
          · obtain⟨hkx, hrx⟩ := right_ok hos hvr q
            subst hslE;have hN6d : Nd W6.drew B D DV OL NV M base oi oldi b1 := hN6.below (bdrew W6)
            have RN := ren_any (w := W6.drew) (S := fun k => S k \/ (WE.heap.size <= k /\ k<W6.heap.size)) hN6d hOk x hkx hrx (fun k hk => by
              show k<W6.heap.size
              rcases hk with h1|h1
              · have := hS k h1; have := unh HZ6; omega
              · exact h1.2) (RepK.kept (w := W6) (w' := W6.drew) (fun k hk => ⟨hk, rfl⟩) x hRK) hnl
            unfold newF at RN;have cK1 : W6.drew.cell? ⟨K, 1, none⟩ = some (.slice asl acc.length csl) := by simp only[World.cell?]; rw[show W6.drew.heap[K]? = _ from hK6]; rfl
            have cA0 : W6.drew.cell? ⟨wo.heap.size, 0, none⟩ = some (.string r.key) := by simp only[World.cell?]; rw[show W6.drew.heap[wo.heap.size]? = _ from hA9]; rfl
            have hrX6 : W6.drew.rangeAt X 0 [.int .i64 (k1 : Int), .float .f64 x1, .string t1, .int .i64 (r1 : Int), .slice a1 n1 c1, .map m1] := rangeAt_block (w := W6.drew) hXb;have HA := hid hacc
            go_upto_region 7 with fail
            rcases q2 : renV oldi x b1 with⟨⟨v5, ol5⟩, b5⟩|y
            · have HE1 : Hid (keepL os ob rs [] olds b = keepL os ob (rs.drop (i + 1)) (acc ++ [(r.key, v5)]) ol5 b5) := (unh HE).trans (by rw[unh HC]; simp only[keepL, q, q2])
              have hOk5 : OldsOk ol5 := renV_ok q2 hOk hkx hrx;have keep7 : ∀ (o7 : Value) (w7 : World), Fk B OL M oi W6.drew o7 w7 -> ∀ (k : Nat) (cs : Array Value) (t : TypeId), W6.heap[k]? = some (.cells cs t (0, 0)) -> t ≠ 3 -> w.heap.size <= k -> w7.heap[k]? = some (.cells cs t (0, 0)) := fun o7 w7 F7 k cs t hk ht hb => (F7.block k (Array.getElem?_eq_some_iff.1 hk).1 (by omega) (by omega) (by omega) (hN6.n.apart hk ht)).trans hk
              have H5 : acc.length <= 100 := by omega
              clear HE q
              go_region_with (first
                | (go_at_call 121; refine (PostK.okC RN q2).mono ?_; rintro e w7 ⟨v7, o7, rfl, ⟨k5, y5, t5, r5, a5, n5, c5, m5, rfl, hRK7⟩, hN7, hB7, F7⟩; have hK7 := keep7 o7 w7 F7 K _ _ hK6 (by decide) (by omega); have hA7 := keep7 o7 w7 F7 wo.heap.size _ _ hA9 (by decide) (by have := unh HZ6; omega); have cK7 : w7.cell? ⟨K, 1, none⟩ = some (.slice asl acc.length csl) := (by simp[World.cell?, hK7]); have cA7 : w7.cell? ⟨wo.heap.size, 0, none⟩ = some (.string r.key) := (by simp[World.cell?, hA7]); have hKa7 : (w7.alloc (.cells #[.string r.key, .int .i64 (k5 : Int), .float .f64 y5, .string t5, .int .i64 (r5 : Int), .slice a5 n5 c5, .map m5] 146)).heap[K]? = _ := (Below.heap_alloc w7 _ K (Array.getElem?_eq_some_iff.1 hK7).1).trans hK7; have cKa7 : (w7.alloc (.cells #[.string r.key, .int .i64 (k5 : Int), .float .f64 y5, .string t5, .int .i64 (r5 : Int), .slice a5 n5 c5, .map m5] 146)).cell? ⟨K, 1, none⟩ = some (.slice asl acc.length csl) := (by simp only[World.cell?]; rw[hKa7]; rfl); have hFl7 : FldR w7 W4.heap.size (fun b => W4.heap.size <= b /\ b<w7.heap.size /\ isV w7 b) (.slice asl acc.length csl) acc ys := hFl6.kept (fun k hk => by obtain⟨h1, h2, cs, h3⟩ := hFl6.own hk; exact (keep7 o7 w7 F7 k cs _ h3 (by decide) (by omega)).trans h3.symm) (fun k hk => by obtain⟨h1, h2, cs, h3⟩ := hk; have e := keep7 o7 w7 F7 k cs _ h3 (by decide) (by omega); exact⟨⟨h1, (Array.getElem?_eq_some_iff.1 e).1, cs, e⟩, e.trans h3.symm⟩); have hrow7 := hFl7.row; have hs47 : W4.heap.size <= w7.heap.size := (by have h1 := F7.size; have h2 := unh HZ6; have h3 : W6.drew.heap.size = W6.heap.size := rfl; omega))
                | (with_reducible refine LoadV.here ?_; refine LoadV.row _ rfl X 0 [.int .i64 (k1 : Int), .float .f64 x1, .string t1, .int .i64 (r1 : Int), .slice a1 n1 c1, .map m1] rfl hrX6 rfl ?_)
                | (refine AppWp.own _ _ 109 rfl W4.heap.size 146 i0 (.agg #[.string ⟨#[]⟩, .int .i64 0, .float .f64 0, .string ⟨#[]⟩, .int .i64 0, .slice none 0 0, .map none]) 7 88 Tryz.undFd hi hz0 hz1 hz2 rfl (by decide) _ _ _ rfl (World.ownsRow.alloc hrow7 _) ⟨w7.heap.size, 0, none⟩ 1 1 [.string r.key, .int .i64 (k5 : Int), .float .f64 y5, .string t5, .int .i64 (r5 : Int), .slice a5 n5 c5, .map m5] rfl rfl (cell_new _ _ _) (by simp[Value.oneCell']) (by unfold maxLen; omega) (by omega) (by simp; omega) ?_; intro v8 w8 hown8 hg8 hat8; obtain⟨a8, c8, rfl⟩ := ownsRow_shapeF hown8; have hK8 : w8.heap[K]? = _ := (hg8.block K (by have := (Array.getElem?_eq_some_iff.1 hK7).1; simp; omega) (fun e => by have := (hFl7.own e.symm).1; omega)).trans hKa7; have d8 : w8.cell? ⟨K, 1, none⟩ = some (.slice asl acc.length csl) := (by simp only[World.cell?]; rw[hK8]; rfl); have f8 : w8.frozen? ⟨K, 1, none⟩ = false := (by simp only[World.frozen?]; rw[hK8]; rfl)))
              all_goals
                go_wp2_with fail
                go_roundw
                case rel =>
                  obtain⟨z1, z2, z3, z4⟩ := unh HZ6;have z5 : W6.heap.size <= w7.heap.size := F7.size;have hsa : (w7.alloc (.cells #[.string r.key, .int .i64 (k5 : Int), .float .f64 y5, .string t5, .int .i64 (r5 : Int), .slice a5 n5 c5, .map m5] 146)).heap.size = w7.heap.size + 1 := by simp
                  have hs8 := hg8.size;obtain⟨W9, hW9⟩ : ∃ W9, w8.setCell ⟨K, 1, none⟩ (.slice a8 (acc.length + 1) c8) = W9 := ⟨_, rfl⟩;have hK9 : W9.heap[K]? = some (.cells #[.string (tname ob), .slice a8 (acc.length + 1) c8, .string ob.stream] 111 (0, 0)) := by rw[← hW9, heap_setCell_same w8 K 1 _ _ _ hK8]; simp
                  have k98 : ∀ k, k ≠ K -> W9.heap[k]? = w8.heap[k]? := fun k hk => by rw[← hW9]; exact Below.heap_setCell _ _ _ _ (by exact hk)
                  have hs9 : W9.heap.size = w8.heap.size := by rw[← hW9]; simp
                  have ho9 : W9.os = w8.os /\ W9.tape = w8.tape /\ W9.output = w8.output := by rw[← hW9]; exact⟨rfl, rfl, rfl⟩
                  have k9 : ∀ k, k<w7.heap.size -> k ≠ K -> (Value.slice asl acc.length csl).ownBlock ≠ some k -> W9.heap[k]? = w7.heap[k]? := fun k h1 h2 h3 => (k98 k h2).trans ((hg8.block k (by omega) (fun e => h3 e.symm)).trans (Below.heap_alloc w7 _ k h1))
                  have hown7 := World.ownsRow.lt hN7.row
                  have ho7 : ∀ k, o7.ownBlock = some k -> k<w.heap.size \/ W4.heap.size <= k := fun k hk => by
                    rcases F7.own with e|⟨k', e, hk'⟩
                    · exact hoi k (e ▸ hk)
                    · rw[hk] at e
                      have : k = k' := by simpa using e
                      have h9 : W6.heap.size <= k' := hk'
                      right; omega
                  have hV9 : ∀ k, isV w7 k -> (Value.slice asl acc.length csl).ownBlock ≠ some k := fun k ⟨cs, hcs⟩ e => by
                    obtain⟨_, _, cs2, h2⟩ := hFl7.own e;rw[hcs] at h2;simp at h2
                  have hO7 : ∀ k, o7.ownBlock = some k -> (Value.slice asl acc.length csl).ownBlock ≠ some k := fun k hk e => by
                    obtain⟨_, _, cs2, h2⟩ := hFl7.own e;exact hN7.apart h2 (by decide) hk
                  have hN9 : Nd W9 B D DV OL NV M base o7 ol5 b5 := (hN6d.step hN7 hB7 F7).turn (by omega) (fun k hk => by
                    rcases hk with h1|h1
                    · exact k9 k (by omega) (by omega) (fun e => by have := (hFl7.own e).1; omega)
                    · exact k9 k (hown7 k h1).2 (by rcases ho7 k h1 with h2 | h2 <;> omega) (hO7 k h1))
                  have hF9 : Fk B OL M o w o7 W9 := (hF6.trans ((Fk.below oi (bdrew W6)).trans F7)).turn ⟨ho9.1.trans hg8.os, ho9.2.1.trans hg8.tape, ho9.2.2.trans hg8.output⟩ (by omega) (fun k hk => k9 k (by omega) (by omega) (fun e => by have := (hFl7.own e).1; omega))
                  have hst9 : ∀ k, w.heap.size <= k -> k<W4.heap.size -> k ≠ K -> W9.heap[k]? = W4.heap[k]? := fun k h1 h2 h3 =>
                    (k9 k (by omega) h3 (fun e => by have := (hFl7.own e).1; omega)).trans ((F7.block k (by show k<W6.heap.size; omega) (by omega) (by omega) (by omega) (fun e => by rcases hoi k e with h4 | h4 <;> omega)).trans (hst6 k h1 h2 h3))
                  have hS9 : ∀ k, (W4.heap.size <= k /\ k<w7.heap.size /\ isV w7 k) -> (W4.heap.size <= k /\ k<W9.heap.size /\ isV W9 k) /\ W9.heap[k]? = w7.heap[k]? := fun k hk => by
                    have e := k9 k hk.2.1 (by have := hk.1; omega) (hV9 k hk.2.2);obtain⟨cs, hcs⟩ := hk.2.2;exact⟨⟨hk.1, by have := hk.2.1; omega, cs, e.trans hcs⟩, e⟩
                  have hr9 : W9.ownsRow W4.heap.size 146 7 (.slice a8 (acc.length + 1) c8) (acc.length + 1) (ys ++ [.string r.key, .int .i64 (k5 : Int), .float .f64 y5, .string t5, .int .i64 (r5 : Int), .slice a5 n5 c5, .map m5]) := by
                    refine⟨hown8.1, ?_⟩
                    rcases hown8.2 with hn|⟨g8, cap, cur, e8, h1, h2, rest⟩
                    · exact .inl hn
                    · exact .inr ⟨g8, cap, cur, e8, h1, (k98 g8 (by omega)).trans h2, rest⟩
                  have hgoal : FldR W9 W4.heap.size (fun b => W4.heap.size <= b /\ b<W9.heap.size /\ isV W9 b) (.slice a8 (acc.length + 1) c8) (acc ++ [(r.key, v5)]) (ys ++ [.string r.key, .int .i64 (k5 : Int), .float .f64 y5, .string t5, .int .i64 (r5 : Int), .slice a5 n5 c5, .map m5]) :=
                    FldR.snoc hFl7 hS9 hr9 (RepK.kept (fun k hk => by
                      have hk1 : W6.heap.size <= k := hk.1
                      exact hS9 k ⟨by omega, hk.2⟩) v5 hRK7)
                  rw[← hW9] at hN9 hF9 hst9 hK9 hgoal hs9;exact⟨i + 1, acc ++ [(r.key, v5)], o7, ol5, b5, _, _, by go_num, by omega, by rw[List.length_append]; simp; omega, hN9, hOk5, hF9, by omega, hst9, hK9, ho7, hgoal, HE1⟩
                case measure => simp[intOf]; omega
            · have HN : Hid (keepL os ob rs [] olds b = .no y) := (unh HE).trans (by rw[unh HC]; simp only[keepL, q, q2])
              clear HE q
              go_region_with (first
                | (go_at_call 121; refine (PostK.noC RN q2).mono ?_; rintro e w7 ⟨rfl, o7, F7⟩; refine dead_end ⟨#[], []⟩ w (show _ from ⟨rfl, PostK.no (unh HN) (hF6.trans ((Fk.below oi (bdrew W6)).trans F7))⟩) ?_)
                | (with_reducible refine LoadV.here ?_; refine LoadV.row _ rfl X 0 [.int .i64 (k1 : Int), .float .f64 x1, .string t1, .int .i64 (r1 : Int), .slice a1 n1 c1, .map m1] rfl hrX6 rfl ?_))
              all_goals trivial
      · have hilI : ¬ (i : Int)<(rs.length : Int) := by omega
        have HN : Hid (keepL os ob rs [] olds b = .ok (acc, oldi) bi) := (unh HE).trans (by rw[List.drop_eq_nil_of_le (by omega)]; simp only[keepL]);have hZr := (hst (w.heap.size + 1) (by omega) (by omega) (by omega)).trans hZ4;subst hslE;clear HE hRu
        go_wp2_with (first | (refine load_row rfl 111 _ rfl K rfl 111 _ (0, 0) hKr Tryz.agKt Tryz.sizeKt ?_) | (refine wpList_store_row rfl 111 _ _ rfl (w.heap.size + 1) _ rfl rfl 111 _ hZr Tryz.sizeKt rfl (by simp[Value.oneCell']) ?_))
        obtain⟨dk, hd1, hd2⟩ := isStruct Tryz.agKt;refine bodyPost_ret (results_cell_row rfl _ _ (w.heap.size + 1) 111 _ (0, 0) dk rfl (setRow_heap _ (w.heap.size + 1) _ _ _ _ hZr) hd1 (by cases dk <;> first | rfl | cases hd2) Tryz.sizeKt) rfl ?_;have hbl : ∀ k, k ≠ w.heap.size + 1 -> (wr.setRow (w.heap.size + 1) #[.string (tname ob), .slice asl acc.length csl, .string ob.stream]).heap[k]? = wr.heap[k]? := fun k h2 => setRow_other _ _ _ _ h2
        have hsz : (wr.setRow (w.heap.size + 1) #[.string (tname ob), .slice asl acc.length csl, .string ob.stream]).heap.size = wr.heap.size := by rw[setRow_size]
        have hfin := hN.turn (w' := wr.setRow (w.heap.size + 1) #[.string (tname ob), .slice asl acc.length csl, .string ob.stream]) (by omega) (fun k hk => hbl k (by rcases hk with h1 | h1; omega; rcases hoi k h1 with h2 | h2 <;> omega));have hFlF : FldR (wr.setRow (w.heap.size + 1) #[.string (tname ob), .slice asl acc.length csl, .string ob.stream]) W4.heap.size (fun b => w.heap.size <= b /\ b<(wr.setRow (w.heap.size + 1) #[.string (tname ob), .slice asl acc.length csl, .string ob.stream]).heap.size) (.slice asl acc.length csl) acc ys := hFl.kept (fun k hk => hbl k (by have := (hFl.own hk).1; omega)) (fun k hk => ⟨⟨by have := hk.1; omega, by rw[hsz]; exact hk.2.1⟩, hbl k (by have := hk.1; omega)⟩);refine PostK.ok (unh HN) ⟨asl, csl, rfl, fun j f hf => ?_⟩ hfin.n hfin.bud (hF.turn ⟨rfl, rfl, rfl⟩ (by omega) (fun k hk => hbl k (by omega)));obtain⟨k1, x1, t1, r1, a1, n1, c1, m1, h1, h2⟩ := hFlF.el j f hf;have hjl : j<acc.length := (List.getElem?_eq_some_iff.1 hf).1
        rcases hFlF.row.2 with⟨_, hn⟩|⟨gf, cap, cur, e6, h3, h4, _⟩
        · omega
        · have hin : asl = some ⟨gf, 0, none⟩ := by simp at e6; exact e6.1
          refine⟨gf, k1, x1, t1, r1, a1, n1, c1, m1, hin, ⟨by omega, (Array.getElem?_eq_some_iff.1 h4).1⟩, fun jj u hjj => ?_, h2⟩;have := World.ownsRow.cells hFlF.row (g := gf) (by rw[e6]; rfl) _ u (h1 jj u hjj);rw[Addr.add_mid, Nat.zero_add] at this;exact this
end
end Go.Proofs.YtgffljllfenhkaaGreatDoor
