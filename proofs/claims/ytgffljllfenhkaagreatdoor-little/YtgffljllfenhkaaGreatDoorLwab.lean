import Derived.Test.YtgffljllfenhkaaGreatDoorLwaa
section
namespace Go.Proofs.YtgffljllfenhkaaGreatDoor
open Go.RowKit
attribute [local go_sem] Oper.semAt_some
variable {w:World} {P B:Nat} {E:Env} {s:St}
def kOf (P:Nat) (w:World):Nat:=match w.cell? ⟨P,1,none⟩ with
 | some v=>(intOf v).toNat
 | none=>0
theorem At.kOf {w:World} {P B:Nat} {E:Env} {s:St} (h:At w P B E s):kOf P w=s.k:=by unfold Go.Proofs.YtgffljllfenhkaaGreatDoor.kOf;rw [h.c1];simp [intOf]
set_option maxHeartbeats 2000000 in
set_option maxRecDepth 100000 in
theorem someD_any (most:Nat) (hm:most≤100) (h:At w P B E s):Calls Tryz.prog 168 #[.pointer (some ⟨P,0,none⟩),.int .i64 (most:Int),.func (.func 129) #[] #[]] w (Post P B E w (fun t v _=>v=.string t) (someM E digP most s)):=by
 have c1:=h.c1
 have hk:=h.hk
 have he:=h.he
 have hs:=h.hs
 have hA0:=h
 go_enter Tryz.func168,Tryz.ntmps168
 rcases hp:peekM E s with ⟨x,s1⟩ | y
 ·obtain ⟨hs1,hx,hne,hb1⟩:=peek_inv hp
  have hx2:x < 256:=by rw [hx];exact bt_lt _ _
  have hk1:s1.k=s.k:=by rw [hs1]
  clear hs1 hx
  rcases hpx:digP x with _ | _
  ·have HN:Hid (someM E digP most s=.no (E.why s1.k)):=by
    show someM E digP most s=_
    simp [someM,Rdr.then,atM,hp,needM,hpx]
   go_wp2_with (first | (go_at_call 128;refine (Post.okC (peek_any hA0) hp).mono ?_;rintro e w2 ⟨v2,rfl,rfl,h2,F2⟩) | (go_at_call 129;refine (isDigit_any _ x hx2).mono ?_;rw [hpx];rintro e w3 ⟨rfl,rfl⟩) | (go_at_call 104;refine (need_no h2).mono ?_;rintro e w3 ⟨rfl,rfl⟩;exact ⟨rfl,Post.no (unh HN) F2.drew⟩))
  ·have HE0:Hid (someM E digP most s=((someL E digP most).then fun _=>atM.then fun j=>Rdr.ret (E.f.extract s.k j)) s1):=by
    show someM E digP most s=_
    simp [someM,Rdr.then,atM,hp,needM,hpx]
   go_wp2_with (first | (go_at_call 128;refine (Post.okC (peek_any hA0) hp).mono ?_;rintro e w2 ⟨v2,rfl,rfl,h2,F2⟩) | (go_at_call 129;refine (isDigit_any _ x hx2).mono ?_;rw [hpx];rintro e w3 ⟨rfl,rfl⟩) | (go_at_call 104;refine (need_ok _).mono ?_;rintro e w3 ⟨rfl,rfl⟩))
   clear hp hpx hA0 c1
   go_loopw [18] (fun _ wr=>∃ (n:Nat) (si:St),s.k≤si.k∧n+(si.k - s.k)=most∧At wr P B E si∧Fz P B w wr∧Hid (someM E digP most s=((someL E digP n).then fun _=>atM.then fun j=>Rdr.ret (E.f.extract s.k j)) si))
    (fun _ wr=>E.e - kOf P wr)
   case atStart=>exact ⟨most,s1,by omega,by omega,h2,F2,HE0⟩
   case round=>
    clear h2 HE0
    obtain ⟨n,si,hki,hn,hA,hF,HE⟩:=hrel
    have d1:=hA.c1
    have d0:=hA.c0
    have hki2:=hA.hk
    have fin:∀ (W:World) (sj:St),At W P B E sj→s.k≤sj.k→Fz P B w W→someM E digP most s=.ok (E.f.extract s.k sj.k) sj→Post P B E w (fun t v _=>v=.string t) (someM E digP most s) (.returned (.string (E.f.extract s.k sj.k))) W:=fun W sj a _ b c=>Post.ok c rfl a b
    by_cases hlt:si.k - s.k < most
    ·have hltI:(si.k:Int) - (s.k:Int) < (most:Int):=by omega
     obtain ⟨n',rfl⟩:∃ n',n=n'+1:=⟨n - 1,by omega⟩
     rcases hq:peekM E si with ⟨x',s2⟩ | y
     ·obtain ⟨hs2,hx',hne',hb2⟩:=peek_inv hq
      have hx3:x' < 256:=by rw [hx'];exact bt_lt _ _
      rcases hpx:digP x' with _ | _
      ·have HN:Hid (someM E digP most s=.ok (E.f.extract s.k s2.k) s2):=(unh HE).trans (by simp [someL,Rdr.then,hq,hpx,Rdr.ret,atM])
       have hk2:s2.k≤si.k∧si.k≤s2.k:=by rw [hs2];exact ⟨Nat.le_refl _,Nat.le_refl _⟩
       clear hs2 hx' HE
       go_wp2_with (first | (go_at_call 128;refine (Post.okC (peek_any hA) hq).mono ?_;rintro e w2 ⟨v2,rfl,rfl,h2,F2⟩;have g1:=h2.c1;have g0:=h2.c0) | (go_at_call 129;refine (isDigit_any _ x' hx3).mono ?_;rw [hpx];rintro e w3 ⟨rfl,rfl⟩))
       have hsl1:((s.k:Nat):Int)≤(s2.k:Int):=by omega
       have hsl2:(s2.k:Int)≤(E.f.size:Int):=by omega
       go_quiet (fail)
       go_wp2_with fail
       go_ret
       exact fin _ s2 (h2.drewN _) (by omega) ((hF.trans F2).drewN _) (unh HN)
      ·have HN:Hid (someM E digP most s=((someL E digP n').then fun _=>atM.then fun j=>Rdr.ret (E.f.extract s.k j)) { s2 with k:=s2.k+1 }):=(unh HE).trans (by simp [someL,Rdr.then,hq,hpx,advM])
       have hk2:s2.k≤si.k∧si.k≤s2.k:=by rw [hs2];exact ⟨Nat.le_refl _,Nat.le_refl _⟩
       clear hs2 hx' HE
       go_wp2_with (first | (go_at_call 128;refine (Post.okC (peek_any hA) hq).mono ?_;rintro e w2 ⟨v2,rfl,rfl,h2,F2⟩;have g1:=h2.c1;have g0:=h2.c0;have gf:=h2.fr 1) | (go_at_call 129;refine (isDigit_any _ x' hx3).mono ?_;rw [hpx];rintro e w3 ⟨rfl,rfl⟩))
       go_roundw
       case rel=>exact ⟨n',{ s2 with k:=s2.k+1 },by show s.k≤s2.k+1;omega,by show n'+(s2.k+1 - s.k)=most;omega,h2.go (s2.k+1) (by omega),(hF.trans F2).setP _ _,HN⟩
       case measure=>
        have e1:=hA.kOf
        have e2:=(h2.go (s2.k+1) (by omega)).kOf
        have e3:kOf P (w2.setCell ⟨P,1,none⟩ (.int .i64 ((s2.k:Int)+1)))=s2.k+1:=e2
        simp only [e1,e3];omega
     ·have HN:Hid (someM E digP most s=.no y):=(unh HE).trans (by simp [someL,Rdr.then,hq])
      clear HE
      go_wp2_with fail
      refine (Post.noC (peek_any hA) hq).mono ?_
      rintro e w2 ⟨rfl,F2⟩
      exact ⟨rfl,Post.no (unh HN) (hF.trans F2)⟩
    ·have hltI:¬ (si.k:Int) - (s.k:Int) < (most:Int):=by omega
     have hn0:n=0:=by omega
     subst hn0
     have HN:Hid (someM E digP most s=.ok (E.f.extract s.k si.k) si):=(unh HE).trans (by simp [someL,Rdr.then,Rdr.ret,atM])
     clear HE
     have hsl1:((s.k:Nat):Int)≤(si.k:Int):=by omega
     have hsl2:(si.k:Int)≤(E.f.size:Int):=by omega
     go_wp2_with fail
     go_quiet (fail)
     go_wp2_with fail
     go_ret
     exact fin _ si (hA.drewN _) (by omega) (hF.drewN _) (unh HN)
 ·have HN:Hid (someM E digP most s=.no y):=by
   show someM E digP most s=_
   simp [someM,Rdr.then,atM,hp]
  go_wp2_with fail
  refine (Post.noC (peek_any hA0) hp).mono ?_
  rintro e w2 ⟨rfl,F2⟩
  exact ⟨rfl,Post.no (unh HN) F2⟩
end Go.Proofs.YtgffljllfenhkaaGreatDoor
end
section
namespace Go.Proofs.YtgffljllfenhkaaGreatDoor
open Go.RowKit
attribute [local go_sem] Oper.semAt_some
variable {w:World} {P B:Nat} {E:Env} {s:St}
set_option maxHeartbeats 2000000 in
set_option maxRecDepth 100000 in
theorem someL_any (most:Nat) (hm:most≤100) (h:At w P B E s):Calls Tryz.prog 168 #[.pointer (some ⟨P,0,none⟩),.int .i64 (most:Int),.func (.func 170) #[] #[]] w (Post P B E w (fun t v _=>v=.string t) (someM E letP most s)):=by
 have c1:=h.c1
 have hk:=h.hk
 have he:=h.he
 have hs:=h.hs
 have hA0:=h
 go_enter Tryz.func168,Tryz.ntmps168
 rcases hp:peekM E s with ⟨x,s1⟩ | y
 ·obtain ⟨hs1,hx,hne,hb1⟩:=peek_inv hp
  have hx2:x < 256:=by rw [hx];exact bt_lt _ _
  have hk1:s1.k=s.k:=by rw [hs1]
  clear hs1 hx
  rcases hpx:letP x with _ | _
  ·have HN:Hid (someM E letP most s=.no (E.why s1.k)):=by
    show someM E letP most s=_
    simp [someM,Rdr.then,atM,hp,needM,hpx]
   go_wp2_with (first | (go_at_call 128;refine (Post.okC (peek_any hA0) hp).mono ?_;rintro e w2 ⟨v2,rfl,rfl,h2,F2⟩) | (go_at_call 170;refine (isLetter_any _ x hx2).mono ?_;rw [hpx];rintro e w3 ⟨rfl,rfl⟩) | (go_at_call 104;refine (need_no h2).mono ?_;rintro e w3 ⟨rfl,rfl⟩;exact ⟨rfl,Post.no (unh HN) F2.drew⟩))
  ·have HE0:Hid (someM E letP most s=((someL E letP most).then fun _=>atM.then fun j=>Rdr.ret (E.f.extract s.k j)) s1):=by
    show someM E letP most s=_
    simp [someM,Rdr.then,atM,hp,needM,hpx]
   go_wp2_with (first | (go_at_call 128;refine (Post.okC (peek_any hA0) hp).mono ?_;rintro e w2 ⟨v2,rfl,rfl,h2,F2⟩) | (go_at_call 170;refine (isLetter_any _ x hx2).mono ?_;rw [hpx];rintro e w3 ⟨rfl,rfl⟩) | (go_at_call 104;refine (need_ok _).mono ?_;rintro e w3 ⟨rfl,rfl⟩))
   clear hp hpx hA0 c1
   go_loopw [18] (fun _ wr=>∃ (n:Nat) (si:St),s.k≤si.k∧n+(si.k - s.k)=most∧At wr P B E si∧Fz P B w wr∧Hid (someM E letP most s=((someL E letP n).then fun _=>atM.then fun j=>Rdr.ret (E.f.extract s.k j)) si))
    (fun _ wr=>E.e - kOf P wr)
   case atStart=>exact ⟨most,s1,by omega,by omega,h2,F2,HE0⟩
   case round=>
    clear h2 HE0
    obtain ⟨n,si,hki,hn,hA,hF,HE⟩:=hrel
    have d1:=hA.c1
    have d0:=hA.c0
    have hki2:=hA.hk
    have fin:∀ (W:World) (sj:St),At W P B E sj→s.k≤sj.k→Fz P B w W→someM E letP most s=.ok (E.f.extract s.k sj.k) sj→Post P B E w (fun t v _=>v=.string t) (someM E letP most s) (.returned (.string (E.f.extract s.k sj.k))) W:=fun W sj a _ b c=>Post.ok c rfl a b
    by_cases hlt:si.k - s.k < most
    ·have hltI:(si.k:Int) - (s.k:Int) < (most:Int):=by omega
     obtain ⟨n',rfl⟩:∃ n',n=n'+1:=⟨n - 1,by omega⟩
     rcases hq:peekM E si with ⟨x',s2⟩ | y
     ·obtain ⟨hs2,hx',hne',hb2⟩:=peek_inv hq
      have hx3:x' < 256:=by rw [hx'];exact bt_lt _ _
      rcases hpx:letP x' with _ | _
      ·have HN:Hid (someM E letP most s=.ok (E.f.extract s.k s2.k) s2):=(unh HE).trans (by simp [someL,Rdr.then,hq,hpx,Rdr.ret,atM])
       have hk2:s2.k≤si.k∧si.k≤s2.k:=by rw [hs2];exact ⟨Nat.le_refl _,Nat.le_refl _⟩
       clear hs2 hx' HE
       go_wp2_with (first | (go_at_call 128;refine (Post.okC (peek_any hA) hq).mono ?_;rintro e w2 ⟨v2,rfl,rfl,h2,F2⟩;have g1:=h2.c1;have g0:=h2.c0) | (go_at_call 170;refine (isLetter_any _ x' hx3).mono ?_;rw [hpx];rintro e w3 ⟨rfl,rfl⟩))
       have hsl1:((s.k:Nat):Int)≤(s2.k:Int):=by omega
       have hsl2:(s2.k:Int)≤(E.f.size:Int):=by omega
       go_quiet (fail)
       go_wp2_with fail
       go_ret
       exact fin _ s2 (h2.drewN _) (by omega) ((hF.trans F2).drewN _) (unh HN)
      ·have HN:Hid (someM E letP most s=((someL E letP n').then fun _=>atM.then fun j=>Rdr.ret (E.f.extract s.k j)) { s2 with k:=s2.k+1 }):=(unh HE).trans (by simp [someL,Rdr.then,hq,hpx,advM])
       have hk2:s2.k≤si.k∧si.k≤s2.k:=by rw [hs2];exact ⟨Nat.le_refl _,Nat.le_refl _⟩
       clear hs2 hx' HE
       go_wp2_with (first | (go_at_call 128;refine (Post.okC (peek_any hA) hq).mono ?_;rintro e w2 ⟨v2,rfl,rfl,h2,F2⟩;have g1:=h2.c1;have g0:=h2.c0;have gf:=h2.fr 1) | (go_at_call 170;refine (isLetter_any _ x' hx3).mono ?_;rw [hpx];rintro e w3 ⟨rfl,rfl⟩))
       go_roundw
       case rel=>exact ⟨n',{ s2 with k:=s2.k+1 },by show s.k≤s2.k+1;omega,by show n'+(s2.k+1 - s.k)=most;omega,h2.go (s2.k+1) (by omega),(hF.trans F2).setP _ _,HN⟩
       case measure=>
        have e1:=hA.kOf
        have e2:=(h2.go (s2.k+1) (by omega)).kOf
        have e3:kOf P (w2.setCell ⟨P,1,none⟩ (.int .i64 ((s2.k:Int)+1)))=s2.k+1:=e2
        simp only [e1,e3];omega
     ·have HN:Hid (someM E letP most s=.no y):=(unh HE).trans (by simp [someL,Rdr.then,hq])
      clear HE
      go_wp2_with fail
      refine (Post.noC (peek_any hA) hq).mono ?_
      rintro e w2 ⟨rfl,F2⟩
      exact ⟨rfl,Post.no (unh HN) (hF.trans F2)⟩
    ·have hltI:¬ (si.k:Int) - (s.k:Int) < (most:Int):=by omega
     have hn0:n=0:=by omega
     subst hn0
     have HN:Hid (someM E letP most s=.ok (E.f.extract s.k si.k) si):=(unh HE).trans (by simp [someL,Rdr.then,Rdr.ret,atM])
     clear HE
     have hsl1:((s.k:Nat):Int)≤(si.k:Int):=by omega
     have hsl2:(si.k:Int)≤(E.f.size:Int):=by omega
     go_wp2_with fail
     go_quiet (fail)
     go_wp2_with fail
     go_ret
     exact fin _ si (hA.drewN _) (by omega) (hF.drewN _) (unh HN)
 ·have HN:Hid (someM E letP most s=.no y):=by
   show someM E letP most s=_
   simp [someM,Rdr.then,atM,hp]
  go_wp2_with fail
  refine (Post.noC (peek_any hA0) hp).mono ?_
  rintro e w2 ⟨rfl,F2⟩
  exact ⟨rfl,Post.no (unh HN) F2⟩
end Go.Proofs.YtgffljllfenhkaaGreatDoor
end
