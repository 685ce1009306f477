import Derived.Test.YtgffljllfenhkaaGreatDoorLwbp
import Derived.Test.YtgffljllfenhkaaGreatDoorLwbs
section
namespace Go.Proofs.YtgffljllfenhkaaGreatDoor
open Go.RowKit
def inB (a b:Int):Bool:=decide (0≤a∧a≤100000000∧0≤b∧b≤9000)
set_option maxHeartbeats 1000000 in
theorem good_any (w:World) (a b:Int):Calls Tryz.prog 13 #[.int .i64 a,.int .i64 b] w fun e w'=>e=.returned (.bool (inB a b))∧w=w':=by
 unfold inB
 by_cases h1:0≤a
 ·by_cases h2:a≤100000000
  ·by_cases h3:0≤b
   ·by_cases h4:b≤9000
    ·rw [decide_eq_true (⟨h1,h2,h3,h4⟩:0≤a∧a≤100000000∧0≤b∧b≤9000)]
     go_enter Tryz.func13,Tryz.ntmps13
     go_wp2_with fail
     go_ret
     exact ⟨rfl,rfl⟩
    ·rw [decide_eq_false (fun h=>h4 h.2.2.2:¬ (0≤a∧a≤100000000∧0≤b∧b≤9000))]
     go_enter Tryz.func13,Tryz.ntmps13
     go_wp2_with fail
     go_ret
     exact ⟨rfl,rfl⟩
   ·rw [decide_eq_false (fun h=>h3 h.2.2.1:¬ (0≤a∧a≤100000000∧0≤b∧b≤9000))]
    go_enter Tryz.func13,Tryz.ntmps13
    go_wp2_with fail
    go_ret
    exact ⟨rfl,rfl⟩
  ·rw [decide_eq_false (fun h=>h2 h.2.1:¬ (0≤a∧a≤100000000∧0≤b∧b≤9000))]
   go_enter Tryz.func13,Tryz.ntmps13
   go_wp2_with fail
   go_ret
   exact ⟨rfl,rfl⟩
 ·rw [decide_eq_false (fun h=>h1 h.1:¬ (0≤a∧a≤100000000∧0≤b∧b≤9000))]
  go_enter Tryz.func13,Tryz.ntmps13
  go_wp2_with fail
  go_ret
  exact ⟨rfl,rfl⟩
theorem ans_parts (r:Res (List UInt8)):∃ (s:ByteArray) (e p:Int),ansOf r=.tuple #[.string s,.int .i64 e,.int .i64 p]∧(∀ y,r=.no y→s=⟨#[]⟩∧e=y.1)∧(∀ t b,r=.ok t b→e=0):=by
 cases r with
 | ok t b=>exact ⟨_,_,_,rfl,fun y e=>(by cases e),fun t b e=>rfl⟩
 | no y=>exact ⟨_,_,_,rfl,fun y' e=>by cases e;exact ⟨rfl,rfl⟩,fun t b e=>by cases e⟩
theorem bad_ans {f:ByteArray} {st ou:Int} (h:inB st ou=false):rinseR unpackU ntB f st ou=.no (1,0):=by
 unfold rinseR
 rw [if_neg (of_decide_eq_false h)]
theorem good_in {st ou:Int} (h:inB st ou=true):0≤st∧st≤100000000∧0≤ou∧ou≤9000:=of_decide_eq_true h
theorem same_ans {f:ByteArray} {st ou st' ou':Int} {s s':ByteArray} {e p e' p':Int} (ha:ansOf (rinseR unpackU ntB f st ou)=.tuple #[.string s,.int .i64 e,.int .i64 p]) (hb:ansOf (rinseR unpackU ntB f st' ou')=.tuple #[.string s',.int .i64 e',.int .i64 p'])
  (h1:inB st ou=true) (h2:inB st' ou'=true) (h3:st≤st') (h4:ou≤ou') (h12:e≠12) (h13:e≠13):s'=s∧e'=e∧p'=p:=by
 obtain ⟨a1,a2,a3,a4⟩:=good_in h1
 obtain ⟨b1,b2,b3,b4⟩:=good_in h2
 obtain ⟨m1,m2⟩:=rinse_more f st ou st' ou' a1 h3 b2 a3 h4 b4
 have key:ansOf (rinseR unpackU ntB f st' ou')=ansOf (rinseR unpackU ntB f st ou):=by
  rcases hq:rinseR unpackU ntB f st ou with ⟨t,b⟩ | y
  ·obtain ⟨b',hb'⟩:=m1 t b hq
   rw [hb'];rfl
  ·obtain ⟨s0,e0,p0,k1,k2,_⟩:=ans_parts (.no y)
   rw [hq,k1] at ha
   simp only [Value.tuple.injEq,Array.mk.injEq,List.cons.injEq,Value.string.injEq,Value.int.injEq,true_and,and_true] at ha
   have he:e=y.1:=by rw [← ha.2.1];exact (k2 y rfl).2
   rw [m2 y hq (by omega) (by omega)]
 rw [ha,hb] at key
 simp only [Value.tuple.injEq,Array.mk.injEq,List.cons.injEq,Value.string.injEq,Value.int.injEq,true_and,and_true] at key
 exact ⟨key.1,key.2.1,key.2.2⟩
set_option maxHeartbeats 2000000 in
set_option maxRecDepth 100000 in
theorem little_bad {w:World} {f:ByteArray} {st ou mo lo:Int} {s1 s2 s3:ByteArray} {p1 e2 p2 e3 p3:Int} {b:Bool}
  (AL:Calls Tryz.prog 17 #[] w fun e w'=>e=.returned (.bool true)∧Below w.heap.size w w')
  (R1:∀ W,Below w.heap.size w W→Calls Tryz.prog 12 #[.string f,.agg #[.int .i64 st,.int .i64 ou]] W fun e w'=>e=.returned (.tuple #[.string s1,.int .i64 1,.int .i64 p1])∧Below W.heap.size W w')
  (R2:∀ W,Below w.heap.size w W→Calls Tryz.prog 12 #[.string f,.agg #[.int .i64 mo,.int .i64 lo]] W fun e w'=>e=.returned (.tuple #[.string s2,.int .i64 e2,.int .i64 p2])∧Below W.heap.size W w')
  (R3:∀ W,Below w.heap.size w W→Calls Tryz.prog 18 #[.string f] W fun e w'=>e=.returned (.tuple #[.string s3,.int .i64 e3,.int .i64 p3])∧Below W.heap.size W w')
  (GA:∀ W,Calls Tryz.prog 13 #[.int .i64 st,.int .i64 ou] W fun e w'=>e=.returned (.bool false)∧W=w')
  (GB:∀ W,Calls Tryz.prog 13 #[.int .i64 mo,.int .i64 lo] W fun e w'=>e=.returned (.bool b)∧W=w')
  (h12:¬ e3=12) (h13:¬ e3=13) :
  Calls Tryz.prog 7 #[.string f,.int .i64 st,.int .i64 ou,.int .i64 mo,.int .i64 lo] w fun e w'=>e=.returned (.bool true)∧Below w.heap.size w w':=by
 go_enter Tryz.func7,Tryz.ntmps7
 go_wp2_with fail
 refine AL.mono ?_
 rintro e w1 ⟨rfl,hB1⟩
 have R1':=R1 w1 hB1
 clear AL R1
 go_wp2_with fail
 refine R1'.mono ?_
 rintro e w2 ⟨rfl,hB2'⟩
 have hB2:=hB1.trans (hB2'.mono hB1.size)
 have R2':=R2 w2 hB2
 clear R1' R2
 go_wp2_with fail
 refine R2'.mono ?_
 rintro e w3 ⟨rfl,hB3'⟩
 have hB3:=hB2.trans (hB3'.mono hB2.size)
 have R3':=R3 w3 hB3
 clear R2' R3
 go_wp2_with fail
 refine R3'.mono ?_
 rintro e w4 ⟨rfl,hB4'⟩
 have hB4:=hB3.trans (hB4'.mono hB3.size)
 clear R3' hB1 hB2 hB3 hB2' hB3' hB4'
 go_wp2_with fail
 refine (GA _).mono ?_
 rintro e w5 ⟨rfl,rfl⟩
 clear GA
 go_wp2_with fail
 refine (GB _).mono ?_
 rintro e w5 ⟨rfl,rfl⟩
 clear GB
 go_wp2_with (go_at_call 11;refine (num_any _ _).mono ?_;rintro e w5 ⟨rfl,rfl⟩)
 all_goals first | (exfalso;omega) | (go_ret;exact ⟨rfl,hB4⟩) | (exfalso;simp_all;done) | (exfalso;skip)
set_option maxHeartbeats 2000000 in
set_option maxRecDepth 100000 in
theorem little_bad2 {w:World} {f:ByteArray} {st ou mo lo:Int} {s1 s2 s3:ByteArray} {e1 p1 e2 p2 e3 p3:Int}
  (AL:Calls Tryz.prog 17 #[] w fun e w'=>e=.returned (.bool true)∧Below w.heap.size w w')
  (R1:∀ W,Below w.heap.size w W→Calls Tryz.prog 12 #[.string f,.agg #[.int .i64 st,.int .i64 ou]] W fun e w'=>e=.returned (.tuple #[.string s1,.int .i64 e1,.int .i64 p1])∧Below W.heap.size W w')
  (R2:∀ W,Below w.heap.size w W→Calls Tryz.prog 12 #[.string f,.agg #[.int .i64 mo,.int .i64 lo]] W fun e w'=>e=.returned (.tuple #[.string s2,.int .i64 e2,.int .i64 p2])∧Below W.heap.size W w')
  (R3:∀ W,Below w.heap.size w W→Calls Tryz.prog 18 #[.string f] W fun e w'=>e=.returned (.tuple #[.string s3,.int .i64 e3,.int .i64 p3])∧Below W.heap.size W w')
  (GA:∀ W,Calls Tryz.prog 13 #[.int .i64 st,.int .i64 ou] W fun e w'=>e=.returned (.bool true)∧W=w')
  (GB:∀ W,Calls Tryz.prog 13 #[.int .i64 mo,.int .i64 lo] W fun e w'=>e=.returned (.bool false)∧W=w')
  (h12:¬ e3=12) (h13:¬ e3=13) :
  Calls Tryz.prog 7 #[.string f,.int .i64 st,.int .i64 ou,.int .i64 mo,.int .i64 lo] w fun e w'=>e=.returned (.bool true)∧Below w.heap.size w w':=by
 go_enter Tryz.func7,Tryz.ntmps7
 go_wp2_with fail
 refine AL.mono ?_
 rintro e w1 ⟨rfl,hB1⟩
 have R1':=R1 w1 hB1
 clear AL R1
 go_wp2_with fail
 refine R1'.mono ?_
 rintro e w2 ⟨rfl,hB2'⟩
 have hB2:=hB1.trans (hB2'.mono hB1.size)
 have R2':=R2 w2 hB2
 clear R1' R2
 go_wp2_with fail
 refine R2'.mono ?_
 rintro e w3 ⟨rfl,hB3'⟩
 have hB3:=hB2.trans (hB3'.mono hB2.size)
 have R3':=R3 w3 hB3
 clear R2' R3
 go_wp2_with fail
 refine R3'.mono ?_
 rintro e w4 ⟨rfl,hB4'⟩
 have hB4:=hB3.trans (hB4'.mono hB3.size)
 clear R3' hB1 hB2 hB3 hB2' hB3' hB4'
 go_wp2_with fail
 refine (GA _).mono ?_
 rintro e w5 ⟨rfl,rfl⟩
 clear GA
 go_wp2_with fail
 refine (GB _).mono ?_
 rintro e w5 ⟨rfl,rfl⟩
 clear GB
 go_wp2_with (go_at_call 11;refine (num_any _ _).mono ?_;rintro e w5 ⟨rfl,rfl⟩)
 all_goals first | (exfalso;omega) | (go_ret;exact ⟨rfl,hB4⟩) | (exfalso;simp_all;done) | (exfalso;skip)
set_option maxHeartbeats 2000000 in
set_option maxRecDepth 100000 in
theorem little_12 {w:World} {f:ByteArray} {st ou mo lo:Int} {s2 s3:ByteArray} {p1 e2 p2 e3 p3:Int}
  (AL:Calls Tryz.prog 17 #[] w fun e w'=>e=.returned (.bool true)∧Below w.heap.size w w')
  (R1:∀ W,Below w.heap.size w W→Calls Tryz.prog 12 #[.string f,.agg #[.int .i64 st,.int .i64 ou]] W fun e w'=>e=.returned (.tuple #[.string ⟨#[]⟩,.int .i64 12,.int .i64 p1])∧Below W.heap.size W w')
  (R2:∀ W,Below w.heap.size w W→Calls Tryz.prog 12 #[.string f,.agg #[.int .i64 mo,.int .i64 lo]] W fun e w'=>e=.returned (.tuple #[.string s2,.int .i64 e2,.int .i64 p2])∧Below W.heap.size W w')
  (R3:∀ W,Below w.heap.size w W→Calls Tryz.prog 18 #[.string f] W fun e w'=>e=.returned (.tuple #[.string s3,.int .i64 e3,.int .i64 p3])∧Below W.heap.size W w')
  (GA:∀ W,Calls Tryz.prog 13 #[.int .i64 st,.int .i64 ou] W fun e w'=>e=.returned (.bool true)∧W=w')
  (GB:∀ W,Calls Tryz.prog 13 #[.int .i64 mo,.int .i64 lo] W fun e w'=>e=.returned (.bool true)∧W=w')
  (h12:¬ e3=12) (h13:¬ e3=13) :
  Calls Tryz.prog 7 #[.string f,.int .i64 st,.int .i64 ou,.int .i64 mo,.int .i64 lo] w fun e w'=>e=.returned (.bool true)∧Below w.heap.size w w':=by
 go_enter Tryz.func7,Tryz.ntmps7
 go_wp2_with fail
 refine AL.mono ?_
 rintro e w1 ⟨rfl,hB1⟩
 have R1':=R1 w1 hB1
 clear AL R1
 go_wp2_with fail
 refine R1'.mono ?_
 rintro e w2 ⟨rfl,hB2'⟩
 have hB2:=hB1.trans (hB2'.mono hB1.size)
 have R2':=R2 w2 hB2
 clear R1' R2
 go_wp2_with fail
 refine R2'.mono ?_
 rintro e w3 ⟨rfl,hB3'⟩
 have hB3:=hB2.trans (hB3'.mono hB2.size)
 have R3':=R3 w3 hB3
 clear R2' R3
 go_wp2_with fail
 refine R3'.mono ?_
 rintro e w4 ⟨rfl,hB4'⟩
 have hB4:=hB3.trans (hB4'.mono hB3.size)
 clear R3' hB1 hB2 hB3 hB2' hB3' hB4'
 go_wp2_with fail
 refine (GA _).mono ?_
 rintro e w5 ⟨rfl,rfl⟩
 clear GA
 go_wp2_with fail
 refine (GB _).mono ?_
 rintro e w5 ⟨rfl,rfl⟩
 clear GB
 go_wp2_with (go_at_call 11;refine (num_any _ _).mono ?_;rintro e w5 ⟨rfl,rfl⟩)
 all_goals first | (exfalso;omega) | (go_ret;exact ⟨rfl,hB4⟩) | (exfalso;simp_all;done) | (exfalso;skip)
set_option maxHeartbeats 2000000 in
set_option maxRecDepth 100000 in
theorem little_13 {w:World} {f:ByteArray} {st ou mo lo:Int} {s2 s3:ByteArray} {p1 e2 p2 e3 p3:Int}
  (AL:Calls Tryz.prog 17 #[] w fun e w'=>e=.returned (.bool true)∧Below w.heap.size w w')
  (R1:∀ W,Below w.heap.size w W→Calls Tryz.prog 12 #[.string f,.agg #[.int .i64 st,.int .i64 ou]] W fun e w'=>e=.returned (.tuple #[.string ⟨#[]⟩,.int .i64 13,.int .i64 p1])∧Below W.heap.size W w')
  (R2:∀ W,Below w.heap.size w W→Calls Tryz.prog 12 #[.string f,.agg #[.int .i64 mo,.int .i64 lo]] W fun e w'=>e=.returned (.tuple #[.string s2,.int .i64 e2,.int .i64 p2])∧Below W.heap.size W w')
  (R3:∀ W,Below w.heap.size w W→Calls Tryz.prog 18 #[.string f] W fun e w'=>e=.returned (.tuple #[.string s3,.int .i64 e3,.int .i64 p3])∧Below W.heap.size W w')
  (GA:∀ W,Calls Tryz.prog 13 #[.int .i64 st,.int .i64 ou] W fun e w'=>e=.returned (.bool true)∧W=w')
  (GB:∀ W,Calls Tryz.prog 13 #[.int .i64 mo,.int .i64 lo] W fun e w'=>e=.returned (.bool true)∧W=w')
  (h12:¬ e3=12) (h13:¬ e3=13) :
  Calls Tryz.prog 7 #[.string f,.int .i64 st,.int .i64 ou,.int .i64 mo,.int .i64 lo] w fun e w'=>e=.returned (.bool true)∧Below w.heap.size w w':=by
 go_enter Tryz.func7,Tryz.ntmps7
 go_wp2_with fail
 refine AL.mono ?_
 rintro e w1 ⟨rfl,hB1⟩
 have R1':=R1 w1 hB1
 clear AL R1
 go_wp2_with fail
 refine R1'.mono ?_
 rintro e w2 ⟨rfl,hB2'⟩
 have hB2:=hB1.trans (hB2'.mono hB1.size)
 have R2':=R2 w2 hB2
 clear R1' R2
 go_wp2_with fail
 refine R2'.mono ?_
 rintro e w3 ⟨rfl,hB3'⟩
 have hB3:=hB2.trans (hB3'.mono hB2.size)
 have R3':=R3 w3 hB3
 clear R2' R3
 go_wp2_with fail
 refine R3'.mono ?_
 rintro e w4 ⟨rfl,hB4'⟩
 have hB4:=hB3.trans (hB4'.mono hB3.size)
 clear R3' hB1 hB2 hB3 hB2' hB3' hB4'
 go_wp2_with fail
 refine (GA _).mono ?_
 rintro e w5 ⟨rfl,rfl⟩
 clear GA
 go_wp2_with fail
 refine (GB _).mono ?_
 rintro e w5 ⟨rfl,rfl⟩
 clear GB
 go_wp2_with (go_at_call 11;refine (num_any _ _).mono ?_;rintro e w5 ⟨rfl,rfl⟩)
 all_goals first | (exfalso;omega) | (go_ret;exact ⟨rfl,hB4⟩) | (exfalso;simp_all;done) | (exfalso;skip)
set_option maxHeartbeats 2000000 in
set_option maxRecDepth 100000 in
theorem little_lt {w:World} {f:ByteArray} {st ou mo lo:Int} {s1 s2:ByteArray} {p1 e2 p2 e1:Int}
  (AL:Calls Tryz.prog 17 #[] w fun e w'=>e=.returned (.bool true)∧Below w.heap.size w w')
  (R1:∀ W,Below w.heap.size w W→Calls Tryz.prog 12 #[.string f,.agg #[.int .i64 st,.int .i64 ou]] W fun e w'=>e=.returned (.tuple #[.string s1,.int .i64 e1,.int .i64 p1])∧Below W.heap.size W w')
  (R2:∀ W,Below w.heap.size w W→Calls Tryz.prog 12 #[.string f,.agg #[.int .i64 mo,.int .i64 lo]] W fun e w'=>e=.returned (.tuple #[.string s2,.int .i64 e2,.int .i64 p2])∧Below W.heap.size W w')
  (R3:∀ W,Below w.heap.size w W→Calls Tryz.prog 18 #[.string f] W fun e w'=>e=.returned (.tuple #[.string s1,.int .i64 e1,.int .i64 p1])∧Below W.heap.size W w')
  (GA:∀ W,Calls Tryz.prog 13 #[.int .i64 st,.int .i64 ou] W fun e w'=>e=.returned (.bool true)∧W=w')
  (GB:∀ W,Calls Tryz.prog 13 #[.int .i64 mo,.int .i64 lo] W fun e w'=>e=.returned (.bool true)∧W=w')
  (h12:¬ e1=12) (h13:¬ e1=13) (hlt:mo < st) :
  Calls Tryz.prog 7 #[.string f,.int .i64 st,.int .i64 ou,.int .i64 mo,.int .i64 lo] w fun e w'=>e=.returned (.bool true)∧Below w.heap.size w w':=by
 go_enter Tryz.func7,Tryz.ntmps7
 go_wp2_with fail
 refine AL.mono ?_
 rintro e w1 ⟨rfl,hB1⟩
 have R1':=R1 w1 hB1
 clear AL R1
 go_wp2_with fail
 refine R1'.mono ?_
 rintro e w2 ⟨rfl,hB2'⟩
 have hB2:=hB1.trans (hB2'.mono hB1.size)
 have R2':=R2 w2 hB2
 clear R1' R2
 go_wp2_with fail
 refine R2'.mono ?_
 rintro e w3 ⟨rfl,hB3'⟩
 have hB3:=hB2.trans (hB3'.mono hB2.size)
 have R3':=R3 w3 hB3
 clear R2' R3
 go_wp2_with fail
 refine R3'.mono ?_
 rintro e w4 ⟨rfl,hB4'⟩
 have hB4:=hB3.trans (hB4'.mono hB3.size)
 clear R3' hB1 hB2 hB3 hB2' hB3' hB4'
 go_wp2_with fail
 refine (GA _).mono ?_
 rintro e w5 ⟨rfl,rfl⟩
 clear GA
 go_wp2_with fail
 refine (GB _).mono ?_
 rintro e w5 ⟨rfl,rfl⟩
 clear GB
 go_wp2_with (go_at_call 11;refine (num_any _ _).mono ?_;rintro e w5 ⟨rfl,rfl⟩)
 all_goals first | (exfalso;omega) | (go_ret;exact ⟨rfl,hB4⟩) | (exfalso;simp_all;done) | (exfalso;skip)
set_option maxHeartbeats 2000000 in
set_option maxRecDepth 100000 in
theorem little_lt2 {w:World} {f:ByteArray} {st ou mo lo:Int} {s1 s2:ByteArray} {p1 e2 p2 e1:Int}
  (AL:Calls Tryz.prog 17 #[] w fun e w'=>e=.returned (.bool true)∧Below w.heap.size w w')
  (R1:∀ W,Below w.heap.size w W→Calls Tryz.prog 12 #[.string f,.agg #[.int .i64 st,.int .i64 ou]] W fun e w'=>e=.returned (.tuple #[.string s1,.int .i64 e1,.int .i64 p1])∧Below W.heap.size W w')
  (R2:∀ W,Below w.heap.size w W→Calls Tryz.prog 12 #[.string f,.agg #[.int .i64 mo,.int .i64 lo]] W fun e w'=>e=.returned (.tuple #[.string s2,.int .i64 e2,.int .i64 p2])∧Below W.heap.size W w')
  (R3:∀ W,Below w.heap.size w W→Calls Tryz.prog 18 #[.string f] W fun e w'=>e=.returned (.tuple #[.string s1,.int .i64 e1,.int .i64 p1])∧Below W.heap.size W w')
  (GA:∀ W,Calls Tryz.prog 13 #[.int .i64 st,.int .i64 ou] W fun e w'=>e=.returned (.bool true)∧W=w')
  (GB:∀ W,Calls Tryz.prog 13 #[.int .i64 mo,.int .i64 lo] W fun e w'=>e=.returned (.bool true)∧W=w')
  (h12:¬ e1=12) (h13:¬ e1=13) (hlt:¬ mo < st) (hlt2:lo < ou) :
  Calls Tryz.prog 7 #[.string f,.int .i64 st,.int .i64 ou,.int .i64 mo,.int .i64 lo] w fun e w'=>e=.returned (.bool true)∧Below w.heap.size w w':=by
 go_enter Tryz.func7,Tryz.ntmps7
 go_wp2_with fail
 refine AL.mono ?_
 rintro e w1 ⟨rfl,hB1⟩
 have R1':=R1 w1 hB1
 clear AL R1
 go_wp2_with fail
 refine R1'.mono ?_
 rintro e w2 ⟨rfl,hB2'⟩
 have hB2:=hB1.trans (hB2'.mono hB1.size)
 have R2':=R2 w2 hB2
 clear R1' R2
 go_wp2_with fail
 refine R2'.mono ?_
 rintro e w3 ⟨rfl,hB3'⟩
 have hB3:=hB2.trans (hB3'.mono hB2.size)
 have R3':=R3 w3 hB3
 clear R2' R3
 go_wp2_with fail
 refine R3'.mono ?_
 rintro e w4 ⟨rfl,hB4'⟩
 have hB4:=hB3.trans (hB4'.mono hB3.size)
 clear R3' hB1 hB2 hB3 hB2' hB3' hB4'
 go_wp2_with fail
 refine (GA _).mono ?_
 rintro e w5 ⟨rfl,rfl⟩
 clear GA
 go_wp2_with fail
 refine (GB _).mono ?_
 rintro e w5 ⟨rfl,rfl⟩
 clear GB
 go_wp2_with (go_at_call 11;refine (num_any _ _).mono ?_;rintro e w5 ⟨rfl,rfl⟩)
 all_goals first | (exfalso;omega) | (go_ret;exact ⟨rfl,hB4⟩) | (exfalso;simp_all;done) | (exfalso;skip)
set_option maxHeartbeats 2000000 in
set_option maxRecDepth 100000 in
theorem little_eq {w:World} {f:ByteArray} {st ou mo lo:Int} {s1:ByteArray} {p1 e1:Int}
  (AL:Calls Tryz.prog 17 #[] w fun e w'=>e=.returned (.bool true)∧Below w.heap.size w w')
  (R1:∀ W,Below w.heap.size w W→Calls Tryz.prog 12 #[.string f,.agg #[.int .i64 st,.int .i64 ou]] W fun e w'=>e=.returned (.tuple #[.string s1,.int .i64 e1,.int .i64 p1])∧Below W.heap.size W w')
  (R2:∀ W,Below w.heap.size w W→Calls Tryz.prog 12 #[.string f,.agg #[.int .i64 mo,.int .i64 lo]] W fun e w'=>e=.returned (.tuple #[.string s1,.int .i64 e1,.int .i64 p1])∧Below W.heap.size W w')
  (R3:∀ W,Below w.heap.size w W→Calls Tryz.prog 18 #[.string f] W fun e w'=>e=.returned (.tuple #[.string s1,.int .i64 e1,.int .i64 p1])∧Below W.heap.size W w')
  (GA:∀ W,Calls Tryz.prog 13 #[.int .i64 st,.int .i64 ou] W fun e w'=>e=.returned (.bool true)∧W=w')
  (GB:∀ W,Calls Tryz.prog 13 #[.int .i64 mo,.int .i64 lo] W fun e w'=>e=.returned (.bool true)∧W=w')
  (h12:¬ e1=12) (h13:¬ e1=13) (hlt:¬ mo < st) (hlt2:¬ lo < ou) :
  Calls Tryz.prog 7 #[.string f,.int .i64 st,.int .i64 ou,.int .i64 mo,.int .i64 lo] w fun e w'=>e=.returned (.bool true)∧Below w.heap.size w w':=by
 go_enter Tryz.func7,Tryz.ntmps7
 go_wp2_with fail
 refine AL.mono ?_
 rintro e w1 ⟨rfl,hB1⟩
 have R1':=R1 w1 hB1
 clear AL R1
 go_wp2_with fail
 refine R1'.mono ?_
 rintro e w2 ⟨rfl,hB2'⟩
 have hB2:=hB1.trans (hB2'.mono hB1.size)
 have R2':=R2 w2 hB2
 clear R1' R2
 go_wp2_with fail
 refine R2'.mono ?_
 rintro e w3 ⟨rfl,hB3'⟩
 have hB3:=hB2.trans (hB3'.mono hB2.size)
 have R3':=R3 w3 hB3
 clear R2' R3
 go_wp2_with fail
 refine R3'.mono ?_
 rintro e w4 ⟨rfl,hB4'⟩
 have hB4:=hB3.trans (hB4'.mono hB3.size)
 clear R3' hB1 hB2 hB3 hB2' hB3' hB4'
 go_wp2_with fail
 refine (GA _).mono ?_
 rintro e w5 ⟨rfl,rfl⟩
 clear GA
 go_wp2_with fail
 refine (GB _).mono ?_
 rintro e w5 ⟨rfl,rfl⟩
 clear GB
 go_wp2_with (go_at_call 11;refine (num_any _ _).mono ?_;rintro e w5 ⟨rfl,rfl⟩)
 all_goals first | (exfalso;omega) | (go_ret;exact ⟨rfl,hB4⟩) | (exfalso;simp_all;done) | (exfalso;skip)
theorem little_any {w:World} {T:Nat} (hA:AllT w T) (f:ByteArray) (hf:f.size < 9223372036854775808) (st ou mo lo:Int) :
  Calls Tryz.prog 7 #[.string f,.int .i64 st,.int .i64 ou,.int .i64 mo,.int .i64 lo] w fun e w'=>e=.returned (.bool true)∧Below w.heap.size w w':=by
 have AL:=alive_any hA
 obtain ⟨s1,e1,p1,k1,n1,o1⟩:=ans_parts (rinseR unpackU ntB f st ou)
 obtain ⟨s2,e2,p2,k2,n2,o2⟩:=ans_parts (rinseR unpackU ntB f mo lo)
 obtain ⟨s3,e3,p3,k3,n3,o3⟩:=ans_parts (rinseR unpackU ntB f 100000000 9000)
 have R1:=fun (W:World) (hW:Below w.heap.size w W)=>Rinse_all (hA.below hW) f hf st ou
 have R2:=fun (W:World) (hW:Below w.heap.size w W)=>Rinse_all (hA.below hW) f hf mo lo
 have R3:=fun (W:World) (hW:Below w.heap.size w W)=>most_any (hA.below hW) f hf
 rw [k1] at R1
 rw [k2] at R2
 rw [k3] at R3
 have GA:=fun W=>good_any W st ou
 have GB:=fun W=>good_any W mo lo
 have h3:¬ e3=12∧¬ e3=13:=by
  rcases hq:rinseR unpackU ntB f 100000000 9000 with ⟨t,b⟩ | y
  ·have:=o3 t b hq;omega
  ·have h4:=rinse_most f hq
   have h5:=(n3 y hq).2
   omega
 rcases ga:inB st ou with _ | _
 ·rw [ga] at GA
  have he:=(n1 _ (bad_ans ga)).2
  have he':e1=1:=he
  subst he'
  exact little_bad AL R1 R2 R3 GA GB h3.1 h3.2
 ·rw [ga] at GA
  rcases gb:inB mo lo with _ | _
  ·rw [gb] at GB
   exact little_bad2 AL R1 R2 R3 GA GB h3.1 h3.2
  ·rw [gb] at GB
   have hs:(e1=12∨e1=13)→s1=⟨#[]⟩:=fun h=>by
    rcases hq:rinseR unpackU ntB f st ou with ⟨t,b⟩ | y
    ·have:=o1 t b hq;omega
    ·exact (n1 y hq).1
   by_cases h12:e1=12
   ·have hs':=hs (.inl h12)
    subst h12 hs'
    exact little_12 AL R1 R2 R3 GA GB h3.1 h3.2
   ·by_cases h13:e1=13
    ·have hs':=hs (.inr h13)
     subst h13 hs'
     exact little_13 AL R1 R2 R3 GA GB h3.1 h3.2
    ·obtain ⟨g1,g2,g3,g4⟩:=good_in ga
     obtain ⟨rfl,rfl,rfl⟩:=same_ans k1 k3 ga (by decide) g2 g4 h12 h13
     by_cases hlt:mo < st
     ·exact little_lt AL R1 R2 R3 GA GB h12 h13 hlt
     ·by_cases hlt2:lo < ou
      ·exact little_lt2 AL R1 R2 R3 GA GB h12 h13 hlt hlt2
      ·obtain ⟨rfl,rfl,rfl⟩:=same_ans k1 k2 ga gb (by omega) (by omega) h12 h13
       exact little_eq AL R1 R2 R3 GA GB h12 h13 hlt hlt2
end Go.Proofs.YtgffljllfenhkaaGreatDoor
end
