/- PaOk: Ins, InsOk, InsOk3, ProgOkA, ProgOkB, ProgOkC, ProgOkD. -/
import Derived.Test.YtpaneomkphjpcaaGreatDoorPaOne
import Derived.Deep.RegionHeld3
import Derived.LoopN
import Derived.Test.YtpaneomkphjpcaaGreatDoorGenProg0
import Derived.Test.YtpaneomkphjpcaaGreatDoorPaSpecA
import Derived.Test.YtpaneomkphjpcaaGreatDoorPaKinC
namespace Go.Proofs.YtpaneomkphjpcaaGreatDoor
open Go.ChangeShapes Go.WideShapes Go.ChangeAt Go.RowKit
set_option linter.unusedVariables false
def spanN (op:Int):Nat :=
  if op=14∨op=15 then 2 else if op=1∨op=2∨op=3∨op=4∨op=5∨op=12∨op=13∨op=16∨op=17∨op=18∨op=19∨op=22∨op=23∨op=25∨op=26∨op=27∨op=28∨op=33 then 1 else 0
def spanLo (op:Int):Int:=if op=12∨op=22∨op=23 then -2 else 0
def spanHi (op:Int):Int :=
  if op=1 then 9973 else if op=2∨op=3 then 6 else if op=4∨op=5 then 3 else if op=25∨op=26 then 30 else if op=27∨op=28 then 5 else if op=33 then 2 else 8
def insOk (op a b:Int):Bool :=
  decide (1≤op∧op≤33) &&
    (if spanN op=0 then decide (a=0∧b=0) else if spanN op=1 then decide (spanLo op≤a∧a<spanHi op∧b=0) else decide (0≤a∧a<8∧0≤b∧b<4))
set_option maxHeartbeats 1000000 in
theorem specInsHas_any (op:Int) (w:World) :
    Calls Tryz.prog 57 #[.int .i64 op] w fun e w'=>e=.returned (.int .i64 (spanN op))∧w'=w:=by
  go_enter Tryz.func57,Tryz.ntmps57
  go_wp2
  all_goals go_ret
  all_goals exact⟨ret_int (by simp_all [spanN]),rfl⟩
def SpansAt (w:World) (lo hi:Nat) (a:Option Addr) (op:Int):Prop :=
  spanN op=0∨∃b,a=some ⟨b,0,none⟩∧lo≤b∧b<hi∧w.cell? ⟨b,0,none⟩=some (.int .i64 (spanLo op))∧w.cell? ⟨b,1,none⟩=some (.int .i64 (spanHi op)) ∧
    (spanN op=2→w.cell? ⟨b,2,none⟩=some (.int .i64 0)∧w.cell? ⟨b,3,none⟩=some (.int .i64 4))
theorem SpansAt.keep {w w':World} {lo hi:Nat} {a:Option Addr} {op:Int} (h:SpansAt w lo hi a op) (hb:Below hi w w'):SpansAt w' lo hi a op:=by
  rcases h with h|⟨b,rfl,h1,h2,h3,h4,h5⟩
  · exact .inl h
  · refine .inr ⟨b,rfl,h1,h2,?_,?_,fun h=>?_⟩
    · rw[hb.cell (p:=⟨b,0,none⟩) h2];exact h3
    · rw[hb.cell (p:=⟨b,1,none⟩) h2];exact h4
    · rw[hb.cell (p:=⟨b,2,none⟩) h2,hb.cell (p:=⟨b,3,none⟩) h2];exact h5 h
set_option maxHeartbeats 2000000 in
theorem insSpans_any (op:Int) (w:World) :
    Calls Tryz.prog 100 #[.int .i64 op] w fun e w'=>∃a,e=.returned (.slice a (spanN op) (spanN op))∧SpansAt w' w.heap.size w'.heap.size a op∧Below w.heap.size w w':=by
  go_enter Tryz.func100,Tryz.ntmps100
  go_wp2
  all_goals go_ret
  all_goals first
    | (rename_i hh;obtain rfl:=eq_of_beq hh;exact⟨_,rfl,.inr ⟨_,rfl,Nat.le_refl _,by simp,by simp[spanLo],by simp[spanHi],by simp[spanN]⟩,(Below.refl _ _).alloc (Nat.le_refl _) _⟩)
    | (have hz:spanN op=0:=by simp_all [spanN]
       rw[hz];exact⟨_,rfl,.inl hz,Below.refl _ _⟩)
set_option maxHeartbeats 400000 in
theorem holds_any (lo hi n:Int) (w:World) :
    Calls Tryz.prog 101 #[.agg #[.int .i64 lo,.int .i64 hi],.int .i64 n] w fun e w'=>e=.returned (.bool (decide (lo≤n∧n<hi)))∧Below w.heap.size w w':=by
  go_enter Tryz.func101,Tryz.ntmps101
  go_wp2
  all_goals go_ret
  all_goals refine⟨ret_bool ?_,(Below.refl _ _).alloc (Nat.le_refl _) _⟩
  all_goals (rw[Bool.eq_iff_iff];simp_all<;>omega)
set_option maxHeartbeats 400000 in
theorem insIsKind_any (op:Int) (w:World) :
    Calls Tryz.prog 99 #[.int .i64 op] w fun e w'=>e=.returned (.bool (decide (1≤op∧op≤33)))∧w'=w:=by
  go_enter Tryz.func99,Tryz.ntmps99
  go_wp2
  all_goals go_ret
  all_goals refine⟨ret_bool ?_,rfl⟩
  all_goals (rw[Bool.eq_iff_iff];simp_all<;>omega)
set_option maxHeartbeats 400000 in
theorem isOf_any (op:Int) (w:World) :
    Calls Tryz.prog 58 #[.int .i64 op] w fun e w'=>e=.returned (.bool (decide (op=12∨op=22∨op=23)))∧w'=w:=by
  go_enter Tryz.func58,Tryz.ntmps58
  go_wp2
  all_goals go_ret
  all_goals refine⟨ret_bool ?_,rfl⟩
  all_goals (rw[Bool.eq_iff_iff];simp_all)
set_option maxHeartbeats 1000000 in
theorem most_any (op:Int) (w:World) :
    Calls Tryz.prog 60 #[.int .i64 op] w fun e w'=>e=.returned (.int .i64 (spanHi op))∧w'=w:=by
  go_enter Tryz.func60,Tryz.ntmps60
  go_wp2
  all_goals go_ret
  all_goals exact⟨ret_int (by simp_all [spanHi]),rfl⟩
set_option maxHeartbeats 400000 in
theorem l1Of_any (a n:Int) (w:World) :
    Calls Tryz.prog 59 #[.int .i64 a,.int .i64 n] w fun e w'=>e=.returned (.bool (decide (-2≤a∧a<n)))∧w'=w:=by
  go_enter Tryz.func59,Tryz.ntmps59
  go_wp2
  all_goals go_ret
  all_goals refine⟨ret_bool ?_,rfl⟩
  all_goals (rw[Bool.eq_iff_iff];simp_all<;>omega)
theorem specInsHas_at (op n:Int) (h:(spanN op:Int)=n) (w:World) :
    Calls Tryz.prog 57 #[.int .i64 op] w fun e w'=>e=.returned (.int .i64 n)∧w'=w:=h▸specInsHas_any op w
theorem isOf_at (op:Int) (b:Bool) (h:decide (op=12∨op=22∨op=23)=b) (w:World) :
    Calls Tryz.prog 58 #[.int .i64 op] w fun e w'=>e=.returned (.bool b)∧w'=w:=h▸isOf_any op w
theorem most_at (op n:Int) (h:spanHi op=n) (w:World) :
    Calls Tryz.prog 60 #[.int .i64 op] w fun e w'=>e=.returned (.int .i64 n)∧w'=w:=h▸most_any op w
set_option maxHeartbeats 1000000 in
theorem specInsOk_any (op a b:Int) (w:World) :
    Calls Tryz.prog 34 #[.agg #[.int .i64 op,.int .i64 a,.int .i64 b]] w fun e w'=>e=.returned (.bool (insOk op a b))∧Below w.heap.size w w':=by
  by_cases k1:op<1
  · have HK:Hid (insOk op a b=false):=by simp[Hid,insOk];omega
    go_enter Tryz.func34,Tryz.ntmps34
    go_wp2_with fail
    go_ret
    exact⟨ret_bool HK.out.symm,(Below.refl _ _).alloc (Nat.le_refl _) _⟩
  by_cases k2:33<op
  · have HK:Hid (insOk op a b=false):=by simp[Hid,insOk];omega
    go_enter Tryz.func34,Tryz.ntmps34
    go_wp2_with fail
    go_ret
    exact⟨ret_bool HK.out.symm,(Below.refl _ _).alloc (Nat.le_refl _) _⟩
  have h1:1≤op:=by omega
  have h2:op≤33:=by omega
  rcases(by unfold spanN;split;exact .inr (.inr rfl);split;exact .inr (.inl rfl);exact .inl rfl:spanN op=0∨spanN op=1∨spanN op=2) with hn|hn|hn
  · have HK:Hid (insOk op a b=decide (a=0∧b=0)):=by simp[Hid,insOk,h1,h2,hn]
    have HN:Hid ((spanN op:Int)=0):=by simp[Hid,hn]
    clear hn
    go_enter Tryz.func34,Tryz.ntmps34
    go_wp2_with (go_at_call 57;refine(specInsHas_at _ _ HN.out _).mono ?_;rintro e w' ⟨rfl,rfl⟩)
    all_goals go_ret
    all_goals exact⟨ret_bool (by rw[HK.out,Bool.eq_iff_iff];simp_all),(Below.refl _ _).alloc (Nat.le_refl _) _⟩
  · have HN : Hid ((spanN op:Int)=1):=by simp[Hid,hn]
    by_cases ho:op=12∨op=22∨op=23
    · have HK:Hid (insOk op a b=decide (-2≤a∧a<8∧b=0)):=by rcases ho with rfl|rfl|rfl<;>simp[Hid,insOk,hn,spanLo,spanHi]
      have HO:Hid (decide (op=12∨op=22∨op=23)=true):=by simp[Hid,ho]
      clear hn ho
      go_enter Tryz.func34,Tryz.ntmps34
      go_wp2_with (first|(go_at_call 57;refine(specInsHas_at _ _ HN.out _).mono ?_;rintro e w' ⟨rfl,rfl⟩)|(go_at_call 58;refine(isOf_at _ _ HO.out _).mono ?_;rintro e w' ⟨rfl,rfl⟩)|(go_at_call 59;refine(l1Of_any _ _ _).mono ?_;rintro e w' ⟨rfl,rfl⟩))
      all_goals go_ret
      all_goals exact⟨ret_bool (by rw[HK.out,Bool.eq_iff_iff];simp_all<;>omega),(Below.refl _ _).alloc (Nat.le_refl _) _⟩
    · have HL:spanLo op=0:=by simp[spanLo,ho]
      have HK:Hid (insOk op a b=decide (0≤a∧a<spanHi op∧b=0)):=by simp[Hid,insOk,hn,h1,h2,HL]
      have HO:Hid (decide (op=12∨op=22∨op=23)=false):=by simp[Hid,ho]
      clear hn ho HL
      by_cases ha:0≤a
      all_goals
       first|(have ga:decide (0≤a)=true:=by simp[ha])|(have ga:decide (0≤a)=false:=by simp;omega)
      all_goals
       go_enter Tryz.func34,Tryz.ntmps34
       go_wp2_with (first|(go_at_call 57;refine(specInsHas_at _ _ HN.out _).mono ?_;rintro e w' ⟨rfl,rfl⟩)|(go_at_call 58;refine(isOf_at _ _ HO.out _).mono ?_;rintro e w' ⟨rfl,rfl⟩))
       all_goals first
         | (go_ret
            exact⟨ret_bool (by rw[HK.out,Bool.eq_iff_iff];simp_all<;>omega),(Below.refl _ _).alloc (Nat.le_refl _) _⟩)
         | (have hneg:a<0:=ha
            go_quiet (fail)
            go_wp2_with fail
            go_ret
            exact⟨ret_bool (by rw[HK.out,Bool.eq_iff_iff];simp_all<;>omega),below_drewN ((Below.refl _ _).alloc (Nat.le_refl _) _) _⟩)
         | (go_region_held3 (fun w'=>w'.cell? ⟨w.heap.size,0,none⟩=some (.int .i64 op)∧w'.cell? ⟨w.heap.size,1,none⟩=some (.int .i64 a)) (go_keep)
             ((go_at_call 60;refine(most_any _ _).mono ?_;rintro e w' ⟨rfl,rfl⟩))
            all_goals go_wp2_with fail
            all_goals go_ret
            all_goals exact⟨ret_bool (by rw[HK.out,Bool.eq_iff_iff];simp_all<;>omega),below_drewN ((Below.refl _ _).alloc (Nat.le_refl _) _) 1⟩)
  · have HN:Hid ((spanN op:Int)=2):=by simp[Hid,hn]
    have HO:Hid (decide (op=12∨op=22∨op=23)=false):=by simp only[Hid];rw[decide_eq_false_iff_not];intro h;rcases h with rfl|rfl|rfl<;>simp[spanN] at hn
    have HM:Hid (spanHi op=8):=by simp only[Hid,spanHi];unfold spanN at hn;split at hn<;>rename_i hq;(rcases hq with rfl|rfl<;>rfl);split at hn<;>cases hn
    have HK:Hid (insOk op a b=decide (0≤a∧a<8∧0≤b∧b<4)):=by simp[Hid,insOk,hn,h1,h2]
    clear hn
    by_cases ha:0≤a
    all_goals
     first|(have ga:decide (0≤a)=true:=by simp[ha])|(have ga:decide (0≤a)=false:=by simp;omega)
    all_goals
     go_enter Tryz.func34,Tryz.ntmps34
     go_wp2_with (first|(go_at_call 57;refine(specInsHas_at _ _ HN.out _).mono ?_;rintro e w' ⟨rfl,rfl⟩)|(go_at_call 58;refine(isOf_at _ _ HO.out _).mono ?_;rintro e w' ⟨rfl,rfl⟩))
     all_goals first
      | (go_ret
         exact⟨ret_bool (by rw[HK.out,Bool.eq_iff_iff];simp_all<;>omega),(Below.refl _ _).alloc (Nat.le_refl _) _⟩)
      | (have hneg:a<0:=ha
         go_quiet (fail)
         go_wp2_with fail
         go_ret
         exact⟨ret_bool (by rw[HK.out,Bool.eq_iff_iff];simp_all<;>omega),below_drewN ((Below.refl _ _).alloc (Nat.le_refl _) _) _⟩)
      | (go_region_held3 (fun w'=>w'.cell? ⟨w.heap.size,0,none⟩=some (.int .i64 op)∧w'.cell? ⟨w.heap.size,1,none⟩=some (.int .i64 a)) (go_keep)
          ((go_at_call 60;refine(most_at _ _ HM.out _).mono ?_;rintro e w' ⟨rfl,rfl⟩))
         all_goals go_wp2_with fail
         all_goals go_ret
         all_goals exact⟨ret_bool (by rw[HK.out,Bool.eq_iff_iff];simp_all<;>omega),below_drewN ((Below.refl _ _).alloc (Nat.le_refl _) _) 1⟩)
theorem insIsKind_at (op:Int) (b:Bool) (h:decide (1≤op∧op≤33)=b) (w:World) :
  Calls Tryz.prog 99 #[.int .i64 op] w fun e w'=>e=.returned (.bool b)∧w'=w:=h▸insIsKind_any op w
theorem holds_at (lo hi n:Int) (c:Bool) (h:decide (lo≤n∧n<hi)=c) (w:World) :
  Calls Tryz.prog 101 #[.agg #[.int .i64 lo,.int .i64 hi],.int .i64 n] w fun e w'=>e=.returned (.bool c)∧Below w.heap.size w w':=h▸holds_any lo hi n w
theorem insSpans_at (op:Int) (n:Nat) (h:spanN op=n) (w:World) :
  Calls Tryz.prog 100 #[.int .i64 op] w fun e w'=>∃a,e=.returned (.slice a n n)∧SpansAt w' w.heap.size w'.heap.size a op∧Below w.heap.size w w':=h▸insSpans_any op w
set_option maxHeartbeats 1000000 in
theorem implInsOk_0 (op a b:Int) (h1:1≤op) (h2:op≤33) (hn:spanN op=0) (ca cb:Bool) (hca:decide (0≤a∧a<1)=ca) (hcb:decide (0≤b∧b<1)=cb) (w:World) :
  Calls Tryz.prog 68 #[.agg #[.int .i64 op,.int .i64 a,.int .i64 b]] w fun e w'=>e=.returned (.bool (ca&&cb))∧Below w.heap.size w w':=by
 have HK:Hid (decide (1≤op∧op≤33)=true):=by simp[Hid,h1,h2]
 have HN:=hide hn
 have HA:=hide hca
 have HB:=hide hcb
 clear hn hca hcb h1 h2
 cases ca
 all_goals
  go_enter Tryz.func68,Tryz.ntmps68
  go_wp2_with (go_at_call 99;refine(insIsKind_at _ _ HK.out _).mono ?_;rintro e w' ⟨rfl,rfl⟩)
  refine(insSpans_at _ _ HN.out _).mono ?_
  rintro e w1 ⟨a1,rfl,hs1,hb1⟩
  have B1:Below w.heap.size w w1:=((Below.refl _ _).alloc (Nat.le_refl _) _).trans (hb1.mono (by simp))
  obtain⟨hc1,hf1⟩:=bcell hb1
  have hz1:=hb1.size
  simp at hz1
  have c1:=hc1 w.heap.size 1 (by simp)
  have c2:=hc1 w.heap.size 2 (by simp)
  simp at c1 c2
  clear hc1 hf1
  go_wp2_with fail
  refine wp_loop_rounds 3 ?_
  rw[rounds_succ]
  go_wp2_with fail
  refine(holds_at _ _ _ _ HA.out _).mono ?_
  rintro e w2 ⟨rfl,hb2⟩
  have B2:Below w.heap.size w w2:=(((B1.alloc (by omega) _).alloc (by simp;omega) _)).trans (hb2.mono (by simp;omega))
  obtain⟨hc2,hf2⟩:=bcell hb2
  have hz2:=hb2.size
  simp at hz2
  have d1:=hc2 w1.heap.size 1 (by simp;omega)
  simp at d1
  clear hc2 hf2
  go_wp2_with fail
 ·go_ret
  exact⟨rfl,B2⟩
 cases cb
 all_goals
  rw[rounds_succ]
  go_wp2_with fail
  refine(holds_at _ _ _ _ HB.out _).mono ?_
  rintro e w3 ⟨rfl,hb3⟩
  have B3:Below w.heap.size w w3:=(B2.alloc (by omega) _).trans (hb3.mono (by simp;omega))
  go_wp2_with fail
 ·go_ret
  exact⟨rfl,B3⟩
 ·rw[rounds_succ]
  go_wp2_with fail
  go_ret
  exact⟨rfl,B3⟩
set_option maxHeartbeats 1000000 in
theorem implInsOk_1 (op a b:Int) (h1:1≤op) (h2:op≤33) (hn:spanN op=1) (ca cb:Bool) (hca:decide ((spanLo op)≤a∧a<(spanHi op))=ca) (hcb:decide (0≤b∧b<1)=cb) (w:World) :
  Calls Tryz.prog 68 #[.agg #[.int .i64 op,.int .i64 a,.int .i64 b]] w fun e w'=>e=.returned (.bool (ca&&cb))∧Below w.heap.size w w':=by
 have HK:Hid (decide (1≤op∧op≤33)=true):=by simp[Hid,h1,h2]
 have HN:=hide hn
 have HA:=hide hca
 have HB:=hide hcb
 clear hn hca hcb h1 h2
 cases ca
 all_goals
  go_enter Tryz.func68,Tryz.ntmps68
  go_wp2_with (go_at_call 99;refine(insIsKind_at _ _ HK.out _).mono ?_;rintro e w' ⟨rfl,rfl⟩)
  refine(insSpans_at _ _ HN.out _).mono ?_
  rintro e w1 ⟨a1,rfl,hs1,hb1⟩
  have B1:Below w.heap.size w w1:=((Below.refl _ _).alloc (Nat.le_refl _) _).trans (hb1.mono (by simp))
  obtain⟨hc1,hf1⟩:=bcell hb1
  have hz1:=hb1.size
  simp at hz1
  have c1:=hc1 w.heap.size 1 (by simp)
  have c2:=hc1 w.heap.size 2 (by simp)
  simp at c1 c2
  clear hc1 hf1
  obtain⟨q,rfl,hq1,hq2,e0,e1,e23⟩:∃q,a1=some ⟨q,0,none⟩∧w.heap.size+1≤q∧q<w1.heap.size∧w1.cell? ⟨q,0,none⟩=some (.int .i64 (spanLo op))∧w1.cell? ⟨q,1,none⟩=some (.int .i64 (spanHi op))∧(spanN op=2→w1.cell? ⟨q,2,none⟩=some (.int .i64 0)∧w1.cell? ⟨q,3,none⟩=some (.int .i64 4)):=by
   rcases hs1 with h|h
   ·rw[HN.out] at h;cases h
   ·simpa using h
  have hne:q≠w1.heap.size:=by omega
  go_wp2_with fail
  refine wp_loop_rounds 3 ?_
  rw[rounds_succ]
  go_wp2_with fail
  refine(holds_at _ _ _ _ HA.out _).mono ?_
  rintro e w2 ⟨rfl,hb2⟩
  have B2:Below w.heap.size w w2:=(((B1.alloc (by omega) _).alloc (by simp;omega) _)).trans (hb2.mono (by simp;omega))
  obtain⟨hc2,hf2⟩:=bcell hb2
  have hz2:=hb2.size
  simp at hz2
  have d1:=hc2 w1.heap.size 1 (by simp;omega)
  simp at d1
  clear hc2 hf2
  go_wp2_with fail
 ·go_ret
  exact⟨rfl,B2⟩
 cases cb
 all_goals
  rw[rounds_succ]
  go_wp2_with fail
  refine(holds_at _ _ _ _ HB.out _).mono ?_
  rintro e w3 ⟨rfl,hb3⟩
  have B3:Below w.heap.size w w3:=(B2.alloc (by omega) _).trans (hb3.mono (by simp;omega))
  go_wp2_with fail
 ·go_ret
  exact⟨rfl,B3⟩
 ·rw[rounds_succ]
  go_wp2_with fail
  go_ret
  exact⟨rfl,B3⟩
set_option maxHeartbeats 1000000 in
theorem implInsOk_2 (op a b:Int) (h1:1≤op) (h2:op≤33) (hn:spanN op=2) (ca cb:Bool) (hca:decide ((spanLo op)≤a∧a<(spanHi op))=ca) (hcb:decide (0≤b∧b<4)=cb) (w:World) :
  Calls Tryz.prog 68 #[.agg #[.int .i64 op,.int .i64 a,.int .i64 b]] w fun e w'=>e=.returned (.bool (ca&&cb))∧Below w.heap.size w w':=by
 have HK:Hid (decide (1≤op∧op≤33)=true):=by simp[Hid,h1,h2]
 have HN:=hide hn
 have HA:=hide hca
 have HB:=hide hcb
 clear hn hca hcb h1 h2
 cases ca
 all_goals
  go_enter Tryz.func68,Tryz.ntmps68
  go_wp2_with (go_at_call 99;refine(insIsKind_at _ _ HK.out _).mono ?_;rintro e w' ⟨rfl,rfl⟩)
  refine(insSpans_at _ _ HN.out _).mono ?_
  rintro e w1 ⟨a1,rfl,hs1,hb1⟩
  have B1:Below w.heap.size w w1:=((Below.refl _ _).alloc (Nat.le_refl _) _).trans (hb1.mono (by simp))
  obtain⟨hc1,hf1⟩:=bcell hb1
  have hz1:=hb1.size
  simp at hz1
  have c1:=hc1 w.heap.size 1 (by simp)
  have c2:=hc1 w.heap.size 2 (by simp)
  simp at c1 c2
  clear hc1 hf1
  obtain⟨q,rfl,hq1,hq2,e0,e1,e23⟩:∃q,a1=some ⟨q,0,none⟩∧w.heap.size+1≤q∧q<w1.heap.size∧w1.cell? ⟨q,0,none⟩=some (.int .i64 (spanLo op))∧w1.cell? ⟨q,1,none⟩=some (.int .i64 (spanHi op))∧(spanN op=2→w1.cell? ⟨q,2,none⟩=some (.int .i64 0)∧w1.cell? ⟨q,3,none⟩=some (.int .i64 4)):=by
   rcases hs1 with h|h
   ·rw[HN.out] at h;cases h
   ·simpa using h
  have hne:q≠w1.heap.size:=by omega
  obtain⟨e2,e3⟩:=e23 HN.out
  go_wp2_with fail
  refine wp_loop_rounds 3 ?_
  rw[rounds_succ]
  go_wp2_with fail
  refine(holds_at _ _ _ _ HA.out _).mono ?_
  rintro e w2 ⟨rfl,hb2⟩
  have B2:Below w.heap.size w w2:=(((B1.alloc (by omega) _).alloc (by simp;omega) _)).trans (hb2.mono (by simp;omega))
  obtain⟨hc2,hf2⟩:=bcell hb2
  have hz2:=hb2.size
  simp at hz2
  have d1:=hc2 w1.heap.size 1 (by simp;omega)
  simp at d1
  have d2:=hc2 q 2 (by simp;omega)
  have d3:=hc2 q 3 (by simp;omega)
  rw[World.cell?_alloc_past _ _ _ (by simp;omega),World.cell?_alloc_past _ _ _ hq2,e2] at d2
  rw[World.cell?_alloc_past _ _ _ (by simp;omega),World.cell?_alloc_past _ _ _ hq2,e3] at d3
  have hq3:q<w2.heap.size:=by omega
  clear hc2 hf2
  go_wp2_with fail
 ·go_ret
  exact⟨rfl,B2⟩
 cases cb
 all_goals
  rw[rounds_succ]
  go_wp2_with fail
  refine(holds_at _ _ _ _ HB.out _).mono ?_
  rintro e w3 ⟨rfl,hb3⟩
  have B3:Below w.heap.size w w3:=(B2.alloc (by omega) _).trans (hb3.mono (by simp;omega))
  go_wp2_with fail
 ·go_ret
  exact⟨rfl,B3⟩
 ·rw[rounds_succ]
  go_wp2_with fail
  go_ret
  exact⟨rfl,B3⟩
theorem implInsOk_any (op a b:Int) (w:World) :
  Calls Tryz.prog 68 #[.agg #[.int .i64 op,.int .i64 a,.int .i64 b]] w fun e w'=>e=.returned (.bool (insOk op a b))∧Below w.heap.size w w':=by
 by_cases hk:1≤op∧op≤33
 ·rcases(by unfold spanN;split;exact .inr (.inr rfl);split;exact .inr (.inl rfl);exact .inl rfl:spanN op=0∨spanN op=1∨spanN op=2) with hn|hn|hn
  ·have:insOk op a b=(decide (0≤a∧a<1)&&decide (0≤b∧b<1)):=by rw[Bool.eq_iff_iff];simp[insOk,hk,hn];omega
   rw[this]
   exact implInsOk_0 op a b hk.1 hk.2 hn _ _ rfl rfl w
  ·have:insOk op a b=(decide (spanLo op≤a∧a<spanHi op)&&decide (0≤b∧b<1)):=by rw[Bool.eq_iff_iff];simp[insOk,hk,hn];omega
   rw[this]
   exact implInsOk_1 op a b hk.1 hk.2 hn _ _ rfl rfl w
  ·have hlo:spanLo op=0∧spanHi op=8:=by
    unfold spanN at hn;split at hn<;>rename_i hq
    ·rcases hq with rfl|rfl<;>exact⟨rfl,rfl⟩
    ·split at hn<;>cases hn
   have:insOk op a b=(decide (spanLo op≤a∧a<spanHi op)&&decide (0≤b∧b<4)):=by rw[hlo.1,hlo.2,Bool.eq_iff_iff];simp[insOk,hk,hn];omega
   rw[this]
   exact implInsOk_2 op a b hk.1 hk.2 hn _ _ rfl rfl w
 ·have HO:Hid (insOk op a b=false):=by simp[Hid,insOk];omega
  have HK:Hid (decide (1≤op∧op≤33)=false):=by simp[Hid];omega
  clear hk
  go_enter Tryz.func68,Tryz.ntmps68
  go_wp2_with (go_at_call 99;refine(insIsKind_at _ _ HK.out _).mono ?_;rintro e w' ⟨rfl,rfl⟩)
  go_ret
  exact⟨ret_bool HO.out.symm,(Below.refl _ _).alloc (Nat.le_refl _) _⟩
def sOk (n:Int) (f:Fd):Bool:=sortOk f.kind f.of n f.mt
def sortsTo (fs:List Fd) (n:Int) (k:Nat):Bool:=allTo (fun i=>sOk n (fdAt fs i)) k
def firstTo (fs:List Fd) (k:Nat):Bool:=allTo (fun i=>!((fdAt fs i).kind==3)) k
def l3To (fs:List Fd) (n:Int) (first:Bool) (k:Nat):Bool:=allTo (fun i=>sOk n (fdAt fs i)&&!(first&&((fdAt fs i).kind==3))) k
theorem allTo_and (p q:Nat→Bool) (n:Nat):allTo (fun i=>p i&&q i) n=(allTo p n&&allTo q n):=by
 induction n with
 | zero=>rfl
 | succ n ih =>
  simp only[allTo,ih]
  cases allTo p n<;>cases allTo q n<;>cases p n<;>cases q n<;>rfl
theorem l3To_eq (fs:List Fd) (n:Int) (first:Bool) (k:Nat):l3To fs n first k=(sortsTo fs n k&&(!first||firstTo fs k)):=by
 unfold l3To sortsTo firstTo
 rw[allTo_and]
 cases first with
 | false =>
  have:allTo (fun i=>!(false&&((fdAt fs i).kind==3))) k=true:=allTo_of fun i _=>by simp
  rw[this];simp
 | true=>simp
def bodyTo (xs:List GIns) (k:Nat):Bool:=allTo (fun i=>insOk (insAt' xs i).op (insAt' xs i).a (insAt' xs i).b) k
def funOkF (n:Int) (f:GFun):Bool :=
 ((decide (f.takes.length≤3)&&decide (f.own.length≤3))&&(decide (0<f.body.length)&&decide (f.body.length≤30)))&&((sortsTo f.takes n f.takes.length&&(sortsTo f.own n f.own.length&&firstTo f.own f.own.length))&&(sOk n f.gives&&bodyTo f.body f.body.length))
def funsTo (fs:List GFun) (n:Int) (k:Nat):Bool:=allTo (fun i=>funOkF n (funAt' fs i)) k
def progOkF (p:GProg):Bool :=
 (kinOkF p.types&&((decide (p.glob.length≤3)&&(sortsTo p.glob (kinCount p.types:Nat) p.glob.length&&firstTo p.glob p.glob.length))&&(decide (0<p.funs.length)&&decide (p.funs.length≤5))))&&funsTo p.funs (kinCount p.types:Nat) p.funs.length
set_option maxHeartbeats 800000 in
theorem l3Sorts_any (a:Option Addr) (cap lo hi:Nat) (fs:List Fd) (n:Int) (first:Bool) (w:World) (hn:fs.length≤1048576) (hx:FieldsIn w lo hi a fs) (hh:hi≤w.heap.size) :
  Calls Tryz.prog 32 #[.slice a fs.length cap,.int .i64 n,.bool first] w fun e w'=>e=.returned (.bool (l3To fs n first fs.length))∧Below w.heap.size w w':=by
 have HX:=hide hx
 clear hx
 go_enter Tryz.func32,Tryz.ntmps32
 go_wp2_with fail
 go_loopw [7] (fun i wr=>∃j:Nat,j≤fs.length∧i=.int .i64 j∧l3To fs n first j=true∧Below w.heap.size w wr) (fun i wr=>fs.length-(intOf i).toNat)
 case atStart=>exact⟨0,Nat.zero_le _,rfl,rfl,Below.refl _ _⟩
 case round =>
  obtain⟨j,hj,rfl,hA,hb⟩:=hrel
  have HA:=hide hA
  have HB:=hide hb
  clear hA hb
  by_cases hjn:j<fs.length
  ·rcases HX.out with hnil|⟨b,off,rfl,g1,g2,g3⟩
   ·rw[hnil] at hjn;exact absurd hjn (Nat.not_lt_zero _)
   obtain⟨f0,f1,f2⟩:=(g3 j hjn).same (lo:=lo) (hi:=hi) (.of_below HB.out hh) g1 g2
   have HS:Hid (l3To fs n first (j+1)=(sOk n (fdAt fs j)&&!(first&&((fdAt fs j).kind==3)))):=by
    show(l3To fs n first j&&(sOk n (fdAt fs j)&&!(first&&((fdAt fs j).kind==3))))=_
    rw[HA.out];rfl
   have HZ:Hid ((sOk n (fdAt fs j)&&!(first&&((fdAt fs j).kind==3)))=false→l3To fs n first fs.length=false):=fun h=>allTo_false hjn h
   have HC:=hide (fun W=>specSortOk_any (fdAt fs j).kind (fdAt fs j).of n (fdAt fs j).mt W)
   have HO:Hid (sOk n (fdAt fs j)=sortOk (fdAt fs j).kind (fdAt fs j).of n (fdAt fs j).mt):=rfl
   have b4:b<wr.heap.size:=Nat.lt_of_lt_of_le g2 (Nat.le_trans hh HB.out.size)
   have j1:(0:Int)≤(j:Int):=by omega
   have j2:(j:Int)<(fs.length:Int):=by omega
   clear g3
   generalize sortOk (fdAt fs j).kind (fdAt fs j).of n (fdAt fs j).mt=v at HC HO
   rw[HO.out] at HS HZ
   clear HO
   generalize fdAt fs j=f at f0 f1 f2 HC HS HZ
   obtain⟨fk,fo,fm⟩:=f
   simp only at f0 f1 f2 HC HS HZ
   go_wp2_with fail
   refine(HC.out _).mono ?_
   rintro e w1 ⟨rfl,hb1⟩
   have B1:=hide (HB.out.trans (hb1.mono HB.out.size))
   have f0':w1.cell? ⟨b,off+j*3,none⟩=some (.int .i64 fk):=by rw[hb1.cell (p:=⟨b,off+j*3,none⟩) b4];exact f0
   clear hb1 f0 f1 f2 HC
   cases v with
   | false =>
    have hz:=HZ.out (by simp)
    have HZ':=hide hz
    clear hz HZ HS
    go_wp2_with fail
    go_ret
    exact⟨ret_bool HZ'.out.symm,B1.out⟩
   | true =>
    cases first with
    | false =>
     have hs:l3To fs n false (j+1)=true:=by rw[HS.out];simp
     have HS':=hide hs
     clear hs HS HZ
     go_wp2_with fail
     exact⟨⟨j+1,by omega,by go_num,HS'.out,B1.out⟩,by simp[intOf];omega⟩
    | true =>
     by_cases h3:fk=3
     ·subst h3
      have hz:=HZ.out (by simp)
      have HZ':=hide hz
      clear hz HZ HS
      go_wp2_with fail
      go_ret
      exact⟨ret_bool HZ'.out.symm,B1.out⟩
     ·have hs:l3To fs n true (j+1)=true:=by rw[HS.out];simp[h3]
      have n3:(fk==3)=false:=beq_eq_false_iff_ne.2 h3
      have HS':=hide hs
      clear hs HS HZ
      go_wp2_with fail
      exact⟨⟨j+1,by omega,by go_num,HS'.out,B1.out⟩,by simp[intOf];omega⟩
  ·have hje:Hid (j=fs.length):=Nat.le_antisymm hj (Nat.le_of_not_lt hjn)
   go_wp2_with fail
   go_ret
   exact⟨ret_bool (by rw[←hje.out];exact HA.out.symm),HB.out⟩
set_option maxHeartbeats 800000 in
theorem progSortsOk_any (a:Option Addr) (cap lo hi:Nat) (fs:List Fd) (most n:Int) (w:World) (hn:fs.length≤1048576) (hx:FieldsIn w lo hi a fs) (hh:hi≤w.heap.size) :
  Calls Tryz.prog 67 #[.slice a fs.length cap,.int .i64 most,.int .i64 n] w fun e w'=>e=.returned (.bool (decide ((fs.length:Int)≤most)&&sortsTo fs n fs.length))∧Below w.heap.size w w':=by
 have HX:=hide hx
 clear hx
 by_cases hm:(fs.length:Int)≤most
 ·have HR:Hid ((decide ((fs.length:Int)≤most)&&sortsTo fs n fs.length)=sortsTo fs n fs.length):=by show _=_;simp[hm]
  go_enter Tryz.func67,Tryz.ntmps67
  go_wp2_with fail
  go_loopw [15] (fun i wr=>∃j:Nat,j≤fs.length∧i=.int .i64 j∧sortsTo fs n j=true∧Below w.heap.size w wr) (fun i wr=>fs.length-(intOf i).toNat)
  case atStart=>exact⟨0,Nat.zero_le _,rfl,rfl,Below.refl _ _⟩
  case round =>
   obtain⟨j,hj,rfl,hA,hb⟩:=hrel
   have HA:=hide hA
   have HB:=hide hb
   have s1:=hb.size
   clear hA hb
   by_cases hjn:j<fs.length
   ·rcases HX.out with hnil|⟨b,off,rfl,g1,g2,g3⟩
    ·rw[hnil] at hjn;exact absurd hjn (Nat.not_lt_zero _)
    obtain⟨f0,f1,f2⟩:=(g3 j hjn).same (lo:=lo) (hi:=hi) (.of_below HB.out hh) g1 g2
    have HS:Hid (sortsTo fs n (j+1)=sortOk (fdAt fs j).kind (fdAt fs j).of n (fdAt fs j).mt):=by
     show(sortsTo fs n j&&sOk n (fdAt fs j))=_
     rw[HA.out];rfl
    have HZ:Hid (sortOk (fdAt fs j).kind (fdAt fs j).of n (fdAt fs j).mt=false→sortsTo fs n fs.length=false):=fun h=>allTo_false hjn h
    have HC:=hide (fun W=>implSortOk_any (fdAt fs j).kind (fdAt fs j).of n (fdAt fs j).mt W)
    have j1:(0:Int)≤(j:Int):=by omega
    have j2:(j:Int)<(fs.length:Int):=by omega
    clear g3
    generalize sortOk (fdAt fs j).kind (fdAt fs j).of n (fdAt fs j).mt=v at HC HS HZ
    generalize fdAt fs j=f at f0 f1 f2 HC
    obtain⟨fk,fo,fm⟩:=f
    simp only at f0 f1 f2 HC
    go_wp2_with fail
    refine(HC.out _).mono ?_
    rintro e w1 ⟨rfl,hb1⟩
    have B1:=hide ((HB.out.alloc s1 (.cells #[.int .i64 fk,.int .i64 fo,.bool fm] 68)).trans (hb1.mono (by simp;omega)))
    clear hb1 HC
    cases v with
    | false =>
     have hz:=HZ.out rfl
     have HZ':=hide hz
     clear hz HZ HS
     go_wp2_with fail
     go_ret
     exact⟨ret_bool (by rw[HR.out,HZ'.out]),B1.out⟩
    | true =>
     go_wp2_with fail
     exact⟨⟨j+1,by omega,by go_num,HS.out,B1.out⟩,by simp[intOf];omega⟩
   ·have hje:Hid (j=fs.length):=Nat.le_antisymm hj (Nat.le_of_not_lt hjn)
    go_wp2_with fail
    go_ret
    exact⟨ret_bool (by rw[HR.out,←hje.out];exact HA.out.symm),HB.out⟩
 ·have HR:Hid ((decide ((fs.length:Int)≤most)&&sortsTo fs n fs.length)=false):=by show _=_;simp[hm]
  go_enter Tryz.func67,Tryz.ntmps67
  go_wp2_with fail
  go_ret
  exact⟨ret_bool HR.out.symm,Below.refl _ _⟩
set_option maxHeartbeats 800000 in
theorem progPlacesOk_any (a:Option Addr) (cap lo hi:Nat) (fs:List Fd) (most n:Int) (w:World) (hn:fs.length≤1048576) (hx:FieldsIn w lo hi a fs) (hh:hi≤w.heap.size) :
  Calls Tryz.prog 134 #[.slice a fs.length cap,.int .i64 most,.int .i64 n] w fun e w'=>e=.returned (.bool ((decide ((fs.length:Int)≤most)&&sortsTo fs n fs.length)&&firstTo fs fs.length))∧Below w.heap.size w w':=by
 have HC:=hide (progSortsOk_any a cap lo hi fs most n w hn hx hh)
 have HX:=hide hx
 clear hx
 generalize (decide ((fs.length:Int)≤most)&&sortsTo fs n fs.length)=v at HC ⊢
 go_enter Tryz.func134,Tryz.ntmps134
 go_wp2_with fail
 refine HC.out.mono ?_
 rintro e w1 ⟨rfl,hb1⟩
 have B1:=hide hb1
 clear hb1 HC
 cases v with
 | false =>
  go_wp2_with fail
  go_ret
  exact⟨rfl,B1.out⟩
 | true =>
  go_wp2_with fail
  go_loopw [16] (fun i wr=>∃j:Nat,j≤fs.length∧i=.int .i64 j∧firstTo fs j=true∧Below w.heap.size w wr) (fun i wr=>fs.length-(intOf i).toNat)
  case atStart=>exact⟨0,Nat.zero_le _,rfl,rfl,B1.out⟩
  case round =>
   clear B1
   obtain⟨j,hj,rfl,hA,hb⟩:=hrel
   have HA:=hide hA
   have HB:=hide hb
   have s1:=hb.size
   clear hA hb
   by_cases hjn:j<fs.length
   ·rcases HX.out with hnil|⟨b,off,rfl,g1,g2,g3⟩
    ·rw[hnil] at hjn;exact absurd hjn (Nat.not_lt_zero _)
    obtain⟨f0,f1,f2⟩:=(g3 j hjn).same (lo:=lo) (hi:=hi) (.of_below HB.out hh) g1 g2
    have HS:Hid (firstTo fs (j+1)=!((fdAt fs j).kind==3)):=by
     show(firstTo fs j&&!((fdAt fs j).kind==3))=_
     rw[HA.out];rfl
    have HZ:Hid ((!((fdAt fs j).kind==3))=false→firstTo fs fs.length=false):=fun h=>allTo_false hjn h
    have j1:(0:Int)≤(j:Int):=by omega
    have j2:(j:Int)<(fs.length:Int):=by omega
    clear g3
    generalize fdAt fs j=f at f0 f1 f2 HS HZ
    obtain⟨fk,fo,fm⟩:=f
    simp only at f0 f1 f2 HS HZ
    by_cases h3:fk=3
    ·subst h3
     have hz:=HZ.out (by simp)
     have HZ':=hide hz
     clear hz HZ HS
     go_wp2_with fail
     go_ret
     exact⟨ret_bool (by rw[HZ'.out];rfl),HB.out.alloc s1 _⟩
    ·have n3:(fk==3)=false:=beq_eq_false_iff_ne.2 h3
     have hs:firstTo fs (j+1)=true:=by rw[HS.out,n3];rfl
     have HS':=hide hs
     clear hs HS HZ
     go_wp2_with fail
     exact⟨⟨j+1,by omega,by go_num,HS'.out,HB.out.alloc s1 _⟩,by simp[intOf];omega⟩
   ·have hje:Hid (j=fs.length):=Nat.le_antisymm hj (Nat.le_of_not_lt hjn)
    go_wp2_with fail
    go_ret
    exact⟨ret_bool (by rw[←hje.out,HA.out];rfl),HB.out⟩
def lensF (t o b:Nat):Bool:=(decide (t≤3)&&decide (o≤3))&&(decide (0<b)&&decide (b≤30))
theorem funOkF_eq (n:Int) (f:GFun):funOkF n f=(lensF f.takes.length f.own.length f.body.length&&((sortsTo f.takes n f.takes.length&&(sortsTo f.own n f.own.length&&firstTo f.own f.own.length))&&(sOk n f.gives&&bodyTo f.body f.body.length))):=rfl
set_option maxHeartbeats 1600000 in
set_option maxRecDepth 100000 in
theorem l3Fun_any {md:Bool} (a0 a4 a5:Option Addr) (c0 c4 c5 lo hi:Nat) (f:GFun) (n:Int) (w:World) (hB:FunB 1048576 f) (h0:FieldsM md w lo hi a0 f.takes) (h4:FieldsM md w lo hi a4 f.own) (h5:InssM md w lo hi a5 f.body) (hh:hi≤w.heap.size) :
  Calls Tryz.prog 55 #[.agg #[.slice a0 f.takes.length c0,.int .i64 f.gives.kind,.int .i64 f.gives.of,.bool f.gives.mt,.slice a4 f.own.length c4,.slice a5 f.body.length c5],.int .i64 n] w fun e w'=>e=.returned (.bool (funOkF n f))∧Below w.heap.size w w':=by
 have HF:=hide (funOkF_eq n f)
 have l1:=l3To_eq f.takes n false f.takes.length
 have l2:=l3To_eq f.own n true f.own.length
 simp only[Bool.not_false,Bool.true_or,Bool.and_true,Bool.not_true,Bool.false_or] at l1 l2
 have L1:=hide l1
 have L2:=hide l2
 clear l1 l2
 have HC1:=hide (fun W (hb:Below w.heap.size w W)=>l3Sorts_any a0 c0 lo hi f.takes n false W hB.1 (h0.1.keep (hb.mono hh)) (Nat.le_trans hh hb.size))
 have HC2:=hide (fun W (hb:Below w.heap.size w W)=>l3Sorts_any a4 c4 lo hi f.own n true W hB.2.1 (h4.1.keep (hb.mono hh)) (Nat.le_trans hh hb.size))
 have HC3:=hide (fun W=>specSortOk_any f.gives.kind f.gives.of n f.gives.mt W)
 rw[L1.out] at HC1
 rw[L2.out] at HC2
 have HB:=hide hB
 have H5:=hide h5
 have m1:f.takes.length≤1048576:=hB.1
 have m2:f.own.length≤1048576:=hB.2.1
 have m3:f.body.length≤1048576:=hB.2.2
 clear h0 h4 h5 hB L1 L2
 have HS:Hid (sOk n f.gives=sortOk f.gives.kind f.gives.of n f.gives.mt):=rfl
 rw[HS.out] at HF
 clear HS
 generalize funOkF n f=R at *
 generalize sortsTo f.takes n f.takes.length=t1 at *
 generalize (sortsTo f.own n f.own.length&&firstTo f.own f.own.length)=t2 at *
 generalize sortOk f.gives.kind f.gives.of n f.gives.mt=t3 at *
 obtain⟨ts,⟨gk,go,gm⟩,os,bs⟩:=f
 simp only at HF HC1 HC2 HC3 H5 m1 m2 m3 ⊢
 have r0:Rec (w.alloc (.cells #[.slice a0 ts.length c0,.int .i64 gk,.int .i64 go,.bool gm,.slice a4 os.length c4,.slice a5 bs.length c5] 92)) w.heap.size 92 [.slice a0 ts.length c0,.int .i64 gk,.int .i64 go,.bool gm,.slice a4 os.length c4,.slice a5 bs.length c5]:=Rec.new _ _ _
 have b0:Below w.heap.size w (w.alloc (.cells #[.slice a0 ts.length c0,.int .i64 gk,.int .i64 go,.bool gm,.slice a4 os.length c4,.slice a5 bs.length c5] 92)):=(Below.refl _ _).alloc (Nat.le_refl _) _
 have R0:=hide r0
 have B0:=hide b0
 clear r0 b0
 by_cases hlen:(ts.length≤3∧os.length≤3)∧0<bs.length∧bs.length≤30
 ·have HF':Hid (R=((t1&&t2)&&(t3&&bodyTo bs bs.length))):=by
   show _=_
   have:lensF ts.length os.length bs.length=true:=by unfold lensF;simp;omega
   rw[HF.out,this];rfl
  obtain⟨⟨k1,k2⟩,k3,k4⟩:=hlen
  have z1:((bs.length:Int)==0)=false:=beq_eq_false_iff_ne.2 (by omega)
  clear HF
  go_enter Tryz.func55,Tryz.ntmps55
  go_wp2_with fail
  refine(HC1.out _ B0.out).mono ?_
  rintro e w1 ⟨rfl,hb1⟩
  have B1:=hide (B0.out.trans (hb1.mono B0.out.size))
  have R1:=hide (R0.out.below hb1 R0.out.lt)
  clear hb1 HC1 R0 B0
  cases t1 with
  | false =>
   have hz:R=false:=by rw[HF'.out];rfl
   have HZ:=hide hz
   clear hz HF'
   go_wp2_with fail
   go_ret
   exact⟨ret_bool HZ.out.symm,B1.out⟩
  | true =>
  have c4':=R1.out.cell (o:=4) rfl
  go_wp2_with fail
  refine(HC2.out _ B1.out).mono ?_
  rintro e w2 ⟨rfl,hb2⟩
  have B2:=hide (B1.out.trans (hb2.mono B1.out.size))
  have R2:=hide (R1.out.below hb2 R1.out.lt)
  clear hb2 HC2 R1 B1 c4'
  cases t2 with
  | false =>
   have hz:R=false:=by rw[HF'.out];rfl
   have HZ:=hide hz
   clear hz HF'
   go_wp2_with fail
   go_ret
   exact⟨ret_bool HZ.out.symm,B2.out⟩
  | true =>
  have d1:=R2.out.cell (o:=1) rfl
  have d2:=R2.out.cell (o:=2) rfl
  have d3:=R2.out.cell (o:=3) rfl
  go_wp2_with fail
  refine(HC3.out _).mono ?_
  rintro e w3 ⟨rfl,hb3⟩
  have B3:=hide (B2.out.trans (hb3.mono B2.out.size))
  have R3:=hide (R2.out.below hb3 R2.out.lt)
  clear hb3 HC3 R2 B2 d1 d2 d3
  cases t3 with
  | false =>
   have hz:R=false:=by rw[HF'.out];rfl
   have HZ:=hide hz
   clear hz HF'
   go_wp2_with fail
   go_ret
   exact⟨ret_bool HZ.out.symm,B3.out⟩
  | true =>
  have hz:R=bodyTo bs bs.length:=by rw[HF'.out];rfl
  have HZ:=hide hz
  clear hz HF'
  go_wp2_with fail
  go_loopw [5] (fun i wr=>∃j:Nat,j≤bs.length∧i=.int .i64 j∧bodyTo bs j=true∧Below w.heap.size w wr∧Rec wr w.heap.size 92 [.slice a0 ts.length c0,.int .i64 gk,.int .i64 go,.bool gm,.slice a4 os.length c4,.slice a5 bs.length c5]) (fun i wr=>bs.length-(intOf i).toNat)
  case atStart=>exact⟨0,Nat.zero_le _,rfl,rfl,B3.out,R3.out⟩
  case round =>
   clear B3 R3
   obtain⟨j,hj,rfl,hA,hb,hr⟩:=hrel
   have HA:=hide hA
   have HBl:=hide hb
   have HR:=hide hr
   have s1:=hb.size
   have e5:=hr.cell (o:=5) rfl
   clear hA hb hr
   by_cases hjn:j<bs.length
   ·rcases H5.out with hnil|⟨b,off,rfl,g1,g2,_,g3⟩
    ·rw[hnil] at hjn;exact absurd hjn (Nat.not_lt_zero _)
    obtain⟨f0,f1,f2⟩:=(g3 j hjn).same (lo':=lo) (hi':=hi) (.of_below HBl.out hh) (Nat.le_refl _) (Nat.le_refl _) g1 g2
    have HS:Hid (bodyTo bs (j+1)=insOk (insAt' bs j).op (insAt' bs j).a (insAt' bs j).b):=by
     show(bodyTo bs j&&insOk (insAt' bs j).op (insAt' bs j).a (insAt' bs j).b)=_
     rw[HA.out];rfl
    have HN:Hid (insOk (insAt' bs j).op (insAt' bs j).a (insAt' bs j).b=false→bodyTo bs bs.length=false):=fun h=>allTo_false hjn h
    have HC:=hide (fun W=>specInsOk_any (insAt' bs j).op (insAt' bs j).a (insAt' bs j).b W)
    have j1:(0:Int)≤(j:Int):=by omega
    have j2:(j:Int)<(bs.length:Int):=by omega
    clear g3
    generalize insOk (insAt' bs j).op (insAt' bs j).a (insAt' bs j).b=v at HS HN HC
    generalize insAt' bs j=x at f0 f1 f2 HC
    obtain⟨xo,xa,xb⟩:=x
    simp only at f0 f1 f2 HC
    go_wp2_with fail
    refine(HC.out _).mono ?_
    rintro e w4 ⟨rfl,hb4⟩
    have B4:=hide (HBl.out.trans (hb4.mono s1))
    have R4:=hide (HR.out.below hb4 HR.out.lt)
    clear hb4 HC
    cases v with
    | false =>
     have hz:=HN.out rfl
     have HN':=hide hz
     clear hz HN HS
     go_wp2_with fail
     go_ret
     exact⟨ret_bool (by rw[HZ.out,HN'.out]),B4.out⟩
    | true =>
     go_wp2_with fail
     exact⟨⟨j+1,by omega,by go_num,HS.out,B4.out,R4.out⟩,by simp[intOf];omega⟩
   ·have hje:Hid (j=bs.length):=Nat.le_antisymm hj (Nat.le_of_not_lt hjn)
    go_wp2_with fail
    go_ret
    exact⟨ret_bool (by rw[HZ.out,←hje.out,HA.out]),HBl.out⟩
 ·have hz:R=false:=by
   have:lensF ts.length os.length bs.length=false:=by
    rw[Bool.eq_false_iff];intro h;unfold lensF at h;simp at h;omega
   rw[HF.out,this];rfl
  have HZ:=hide hz
  have hc:3<ts.length∨(ts.length≤3∧3<os.length)∨(ts.length≤3∧os.length≤3∧((bs.length:Int)==0)=true)∨(ts.length≤3∧os.length≤3∧((bs.length:Int)==0)=false∧30<bs.length):=by
   by_cases e1:3<ts.length
   ·exact .inl e1
   by_cases e2:3<os.length
   ·exact .inr (.inl ⟨by omega,e2⟩)
   by_cases e3:bs.length=0
   ·exact .inr (.inr (.inl ⟨by omega,by omega,by simp[e3]⟩))
   ·exact .inr (.inr (.inr ⟨by omega,by omega,beq_eq_false_iff_ne.2 (by omega),by omega⟩))
  clear hz HF hlen
  rcases hc with e1|⟨e1,e2⟩|⟨e1,e2,e3⟩|⟨e1,e2,e3,e4⟩
  all_goals
   go_enter Tryz.func55,Tryz.ntmps55
   go_wp2_with fail
   go_ret
   exact⟨ret_bool HZ.out.symm,B0.out⟩
theorem funOkF_prog (n:Int) (f:GFun):funOkF n f=((decide (0<f.body.length)&&decide (f.body.length≤30))&&(bodyTo f.body f.body.length&&(sortOk f.gives.kind f.gives.of n f.gives.mt&&((decide ((f.takes.length:Int)≤3)&&sortsTo f.takes n f.takes.length)&&((decide ((f.own.length:Int)≤3)&&sortsTo f.own n f.own.length)&&firstTo f.own f.own.length))))):=by
 have e1:decide ((f.takes.length:Int)≤3)=decide (f.takes.length≤3):=by congr 1;exact propext ⟨fun h=>by omega,fun h=>by omega⟩
 have e2:decide ((f.own.length:Int)≤3)=decide (f.own.length≤3):=by congr 1;exact propext ⟨fun h=>by omega,fun h=>by omega⟩
 rw[e1,e2]
 unfold funOkF sOk
 generalize decide (f.takes.length≤3)=a
 generalize decide (f.own.length≤3)=b
 generalize decide (0<f.body.length)=c
 generalize decide (f.body.length≤30)=d
 generalize sortsTo f.takes n f.takes.length=e
 generalize sortsTo f.own n f.own.length=g
 generalize firstTo f.own f.own.length=h
 generalize sortOk f.gives.kind f.gives.of n f.gives.mt=i
 generalize bodyTo f.body f.body.length=j
 cases a<;>cases b<;>cases c<;>cases d<;>cases e<;>cases g<;>cases h<;>cases i<;>cases j<;>rfl
set_option maxHeartbeats 1600000 in
set_option maxRecDepth 100000 in
theorem progFunOk_any {md:Bool} (a0 a4 a5:Option Addr) (c0 c4 c5 lo hi:Nat) (f:GFun) (n:Int) (w:World) (hB:FunB 1048576 f) (h0:FieldsM md w lo hi a0 f.takes) (h4:FieldsM md w lo hi a4 f.own) (h5:InssM md w lo hi a5 f.body) (hh:hi≤w.heap.size) :
  Calls Tryz.prog 135 #[.agg #[.slice a0 f.takes.length c0,.int .i64 f.gives.kind,.int .i64 f.gives.of,.bool f.gives.mt,.slice a4 f.own.length c4,.slice a5 f.body.length c5],.int .i64 n] w fun e w'=>e=.returned (.bool (funOkF n f))∧Below w.heap.size w w':=by
 have HF:=hide (funOkF_prog n f)
 have HC1:=hide (fun W (hb:Below w.heap.size w W)=>progSortsOk_any a0 c0 lo hi f.takes 3 n W hB.1 (h0.1.keep (hb.mono hh)) (Nat.le_trans hh hb.size))
 have HC2:=hide (fun W (hb:Below w.heap.size w W)=>progPlacesOk_any a4 c4 lo hi f.own 3 n W hB.2.1 (h4.1.keep (hb.mono hh)) (Nat.le_trans hh hb.size))
 have HC3:=hide (fun W=>implSortOk_any f.gives.kind f.gives.of n f.gives.mt W)
 have H5:=hide h5
 have m3:f.body.length≤1048576:=hB.2.2
 clear h0 h4 h5 hB
 generalize funOkF n f=R at *
 generalize (decide ((f.takes.length:Int)≤3)&&sortsTo f.takes n f.takes.length)=t1 at *
 generalize ((decide ((f.own.length:Int)≤3)&&sortsTo f.own n f.own.length)&&firstTo f.own f.own.length)=t2 at *
 generalize sortOk f.gives.kind f.gives.of n f.gives.mt=t3 at *
 obtain⟨ts,⟨gk,go,gm⟩,os,bs⟩:=f
 simp only at HF HC1 HC2 HC3 H5 m3 ⊢
 have r0:Rec (w.alloc (.cells #[.slice a0 ts.length c0,.int .i64 gk,.int .i64 go,.bool gm,.slice a4 os.length c4,.slice a5 bs.length c5] 92)) w.heap.size 92 [.slice a0 ts.length c0,.int .i64 gk,.int .i64 go,.bool gm,.slice a4 os.length c4,.slice a5 bs.length c5]:=Rec.new _ _ _
 have b0:Below w.heap.size w (w.alloc (.cells #[.slice a0 ts.length c0,.int .i64 gk,.int .i64 go,.bool gm,.slice a4 os.length c4,.slice a5 bs.length c5] 92)):=(Below.refl _ _).alloc (Nat.le_refl _) _
 have R0:=hide r0
 have B0:=hide b0
 clear r0 b0
 by_cases hlen:0<bs.length∧bs.length≤30
 ·have HF':Hid (R=(bodyTo bs bs.length&&(t3&&(t1&&t2)))):=by
   show _=_
   have e1:decide (0<bs.length)=true:=by simp;omega
   have e2:decide (bs.length≤30)=true:=by simp;omega
   rw[HF.out,e1,e2];rfl
  obtain⟨k3,k4⟩:=hlen
  have z1:((bs.length:Int)==0)=false:=beq_eq_false_iff_ne.2 (by omega)
  clear HF
  go_enter Tryz.func135,Tryz.ntmps135
  go_wp2_with fail
  go_loopw [20] (fun i wr=>∃j:Nat,j≤bs.length∧i=.int .i64 j∧bodyTo bs j=true∧Below w.heap.size w wr∧Rec wr w.heap.size 92 [.slice a0 ts.length c0,.int .i64 gk,.int .i64 go,.bool gm,.slice a4 os.length c4,.slice a5 bs.length c5]) (fun i wr=>bs.length-(intOf i).toNat)
  case atStart=>exact⟨0,Nat.zero_le _,rfl,rfl,B0.out,R0.out⟩
  case round =>
   clear B0 R0
   obtain⟨j,hj,rfl,hA,hb,hr⟩:=hrel
   have HA:=hide hA
   have HBl:=hide hb
   have HR:=hide hr
   have s1:=hb.size
   clear hA hb hr
   by_cases hjn:j<bs.length
   ·rcases H5.out with hnil|⟨b,off,rfl,g1,g2,_,g3⟩
    ·rw[hnil] at hjn;exact absurd hjn (Nat.not_lt_zero _)
    obtain⟨f0,f1,f2⟩:=(g3 j hjn).same (lo':=lo) (hi':=hi) (.of_below HBl.out hh) (Nat.le_refl _) (Nat.le_refl _) g1 g2
    have HS:Hid (bodyTo bs (j+1)=insOk (insAt' bs j).op (insAt' bs j).a (insAt' bs j).b):=by
     show(bodyTo bs j&&insOk (insAt' bs j).op (insAt' bs j).a (insAt' bs j).b)=_
     rw[HA.out];rfl
    have HN:Hid (insOk (insAt' bs j).op (insAt' bs j).a (insAt' bs j).b=false→bodyTo bs bs.length=false):=fun h=>allTo_false hjn h
    have HC:=hide (fun W=>implInsOk_any (insAt' bs j).op (insAt' bs j).a (insAt' bs j).b W)
    have j1:(0:Int)≤(j:Int):=by omega
    have j2:(j:Int)<(bs.length:Int):=by omega
    clear g3
    generalize insOk (insAt' bs j).op (insAt' bs j).a (insAt' bs j).b=v at HS HN HC
    generalize insAt' bs j=x at f0 f1 f2 HC
    obtain⟨xo,xa,xb⟩:=x
    simp only at f0 f1 f2 HC
    go_wp2_with fail
    refine(HC.out _).mono ?_
    rintro e w4 ⟨rfl,hb4⟩
    have B4:=hide ((HBl.out.alloc s1 (.cells #[.int .i64 xo,.int .i64 xa,.int .i64 xb] 40)).trans (hb4.mono (by simp;omega)))
    have R4:=hide ((HR.out.alloc (.cells #[.int .i64 xo,.int .i64 xa,.int .i64 xb] 40)).below hb4 (by have:=HR.out.lt;simp;omega))
    clear hb4 HC
    cases v with
    | false =>
     have hz:=HN.out rfl
     have HN':=hide hz
     clear hz HN HS
     go_wp2_with fail
     go_ret
     exact⟨ret_bool (by rw[HF'.out,HN'.out];rfl),B4.out⟩
    | true =>
     go_wp2_with fail
     exact⟨⟨j+1,by omega,by go_num,HS.out,B4.out,R4.out⟩,by simp[intOf];omega⟩
   ·have hje:Hid (j=bs.length):=Nat.le_antisymm hj (Nat.le_of_not_lt hjn)
    have hz:R=(t3&&(t1&&t2)):=by
     have h:=HA.out
     rw[hje.out] at h
     rw[HF'.out,h];rfl
    have HZ:=hide hz
    have d1:=HR.out.cell (o:=1) rfl
    have d2:=HR.out.cell (o:=2) rfl
    have d3:=HR.out.cell (o:=3) rfl
    clear hz HF'
    go_wp2_with fail
    refine(HC3.out _).mono ?_
    rintro e w3 ⟨rfl,hb3⟩
    have B3:=hide (HBl.out.trans (hb3.mono s1))
    have R3:=hide (HR.out.below hb3 HR.out.lt)
    clear hb3 HC3 HR HBl d1 d2 d3
    cases t3 with
    | false =>
     have hz:R=false:=by rw[HZ.out];rfl
     have HZ':=hide hz
     clear hz HZ
     go_wp2_with fail
     go_ret
     exact⟨ret_bool HZ'.out.symm,B3.out⟩
    | true =>
     have d0:=R3.out.cell (o:=0) rfl
     go_wp2_with fail
     refine(HC1.out _ B3.out).mono ?_
     rintro e w1 ⟨rfl,hb1⟩
     have B1:=hide (B3.out.trans (hb1.mono B3.out.size))
     have R1:=hide (R3.out.below hb1 R3.out.lt)
     clear hb1 HC1 R3 B3 d0
     cases t1 with
     | false =>
      have hz:R=false:=by rw[HZ.out];rfl
      have HZ':=hide hz
      clear hz HZ
      go_wp2_with fail
      go_ret
      exact⟨ret_bool HZ'.out.symm,B1.out⟩
     | true =>
      have hz:R=t2:=by rw[HZ.out];rfl
      have HZ':=hide hz
      have d4:=R1.out.cell (o:=4) rfl
      clear hz HZ
      go_wp2_with fail
      refine(HC2.out _ B1.out).mono ?_
      rintro e w2 ⟨rfl,hb2⟩
      have B2:=hide (B1.out.trans (hb2.mono B1.out.size))
      clear hb2 HC2 d4
      go_wp2_with fail
      go_ret
      exact⟨ret_bool HZ'.out.symm,B2.out⟩
 ·have hz:R=false:=by
   have:(decide (0<bs.length)&&decide (bs.length≤30))=false:=by
    rw[Bool.eq_false_iff];intro h;simp at h;omega
   rw[HF.out,this];rfl
  have HZ:=hide hz
  have hc:((bs.length:Int)==0)=true∨(((bs.length:Int)==0)=false∧30<bs.length):=by
   by_cases e3:bs.length=0
   ·exact .inl (by simp[e3])
   ·exact .inr ⟨beq_eq_false_iff_ne.2 (by omega),by omega⟩
  clear hz HF hlen
  rcases hc with e1|⟨e1,e2⟩
  all_goals
   go_enter Tryz.func135,Tryz.ntmps135
   go_wp2_with fail
   go_ret
   exact⟨ret_bool HZ.out.symm,B0.out⟩
def PM (md:Bool) (w:World) (lo hi:Nat) (a0 a1 a2:Option Addr) (x:GProg):Prop:=GroupsM md w lo hi a0 x.types∧FieldsM md w lo hi a1 x.glob∧FunsM md w lo hi a2 x.funs
theorem PM.keep {md:Bool} {w w':World} {lo hi:Nat} {a0 a1 a2:Option Addr} {x:GProg} (h:PM md w lo hi a0 a1 a2 x) (hb:Below hi w w'):PM md w' lo hi a0 a1 a2 x:=⟨h.1.keep hb,h.2.1.keep hb,h.2.2.keep hb⟩
theorem PM.wide {md:Bool} {w:World} {lo hi lo' hi':Nat} {a0 a1 a2:Option Addr} {x:GProg} (h:PM md w lo hi a0 a1 a2 x) (h1:lo'≤lo) (h2:hi≤hi'):PM md w lo' hi' a0 a1 a2 x:=⟨h.1.wide h1 h2,h.2.1.wide h1 h2,h.2.2.wide h1 h2⟩
theorem PM.plain {md:Bool} {w:World} {lo hi:Nat} {a0 a1 a2:Option Addr} {x:GProg} (h:PM md w lo hi a0 a1 a2 x):PM false w lo hi a0 a1 a2 x:=⟨h.1.plain,h.2.1.plain,h.2.2.plain⟩
theorem groupsB_few {gs:List (List Ty)} (h:GroupsB 1048576 gs):Few gs:=h
set_option maxHeartbeats 1600000 in
set_option maxRecDepth 100000 in
theorem specProgOk_any {md:Bool} (a0 a1 a2:Option Addr) (c0 c1 c2 lo hi:Nat) (p:GProg) (w:World) (hB:ProgB 1048576 p) (hx:PM md w lo hi a0 a1 a2 p) (hc:p.types.length≤c0) (hl:lo≤hi) (hh:hi≤w.heap.size) :
  Calls Tryz.prog 31 #[.agg #[.slice a0 p.types.length c0,.slice a1 p.glob.length c1,.slice a2 p.funs.length c2]] w fun e w'=>e=.returned (.bool (progOkF p))∧Below w.heap.size w w':=by
 have hN:Few p.types:=hB.1
 have HF:Hid (progOkF p=((kinOkF p.types&&((decide (p.glob.length≤3)&&(sortsTo p.glob (kinCount p.types:Nat) p.glob.length&&firstTo p.glob p.glob.length))&&(decide (0<p.funs.length)&&decide (p.funs.length≤5))))&&funsTo p.funs (kinCount p.types:Nat) p.funs.length)):=rfl
 have l2:=l3To_eq p.glob (kinCount p.types:Nat) true p.glob.length
 simp only[Bool.not_true,Bool.false_or] at l2
 have HCnt:=hide (fun W (hb:Below w.heap.size w W)=>specKinCount_any a0 c0 lo hi p.types W hN (hx.1.1.keep (hb.mono hh)))
 have HOk:=hide (fun W (hb:Below w.heap.size w W)=>specKinOk_any a0 c0 lo hi p.types W hN hc hl (Nat.le_trans hh hb.size) (hx.1.1.keep (hb.mono hh)))
 have hc2:=fun W (hb:Below w.heap.size w W)=>l3Sorts_any a1 c1 lo hi p.glob (kinCount p.types:Nat) true W hB.2.1 (hx.2.1.1.keep (hb.mono hh)) (Nat.le_trans hh hb.size)
 rw[l2] at hc2
 have HC2:=hide hc2
 have HFun:=hide hx.2.2
 have HB:=hide hB.2.2
 have m0:=kinCount_le hN
 have m1:p.glob.length≤1048576:=hB.2.1
 have m2:p.funs.length≤1048576:=hB.2.2.1
 clear l2 hc2 hx hB hN
 generalize progOkF p=R at *
 generalize kinOkF p.types=ok at *
 generalize kinCount p.types=n at *
 generalize (sortsTo p.glob (n:Nat) p.glob.length&&firstTo p.glob p.glob.length)=t2 at *
 obtain⟨gs,gl,fs⟩:=p
 simp only at HF HCnt HOk HC2 HFun HB m1 m2 ⊢
 have r0:Rec (w.alloc (.cells #[.slice a0 gs.length c0,.slice a1 gl.length c1,.slice a2 fs.length c2] 37)) w.heap.size 37 [.slice a0 gs.length c0,.slice a1 gl.length c1,.slice a2 fs.length c2]:=Rec.new _ _ _
 have b0:Below w.heap.size w (w.alloc (.cells #[.slice a0 gs.length c0,.slice a1 gl.length c1,.slice a2 fs.length c2] 37)):=(Below.refl _ _).alloc (Nat.le_refl _) _
 have R0:=hide r0
 have B0:=hide b0
 clear r0 b0
 go_enter Tryz.func31,Tryz.ntmps31
 go_wp2_with fail
 refine(HCnt.out _ B0.out).mono ?_
 rintro e w1 ⟨rfl,rfl⟩
 go_wp2_with fail
 refine(HOk.out _ B0.out).mono ?_
 rintro e w1 ⟨rfl,hb1⟩
 have B1:=hide (B0.out.trans (hb1.mono B0.out.size))
 have R1:=hide (R0.out.below hb1 R0.out.lt)
 clear hb1 R0 B0 HCnt HOk
 cases ok with
 | false =>
  have hz:R=false:=by rw[HF.out];rfl
  have HZ:=hide hz
  clear hz HF
  go_wp2_with fail
  go_ret
  exact⟨ret_bool HZ.out.symm,B1.out⟩
 | true =>
 have d1:=R1.out.cell (o:=1) rfl
 by_cases hg:gl.length≤3
 ·go_wp2_with fail
  refine(HC2.out _ B1.out).mono ?_
  rintro e w2 ⟨rfl,hb2⟩
  have B2:=hide (B1.out.trans (hb2.mono B1.out.size))
  have R2:=hide (R1.out.below hb2 R1.out.lt)
  clear hb2 HC2 R1 B1 d1
  cases t2 with
  | false =>
   have hz:R=false:=by rw[HF.out];simp
   have HZ:=hide hz
   clear hz HF
   go_wp2_with fail
   go_ret
   exact⟨ret_bool HZ.out.symm,B2.out⟩
  | true =>
  have d2:=R2.out.cell (o:=2) rfl
  by_cases hf0:fs.length=0
  ·have e0:((fs.length:Int)==0)=true:=by simp[hf0]
   have hz:R=false:=by rw[HF.out];simp[hf0]
   have HZ:=hide hz
   clear hz HF hf0
   go_wp2_with fail
   go_ret
   exact⟨ret_bool HZ.out.symm,B2.out⟩
  have e0:((fs.length:Int)==0)=false:=beq_eq_false_iff_ne.2 (by omega)
  by_cases hf5:fs.length≤5
  ·have hz:R=funsTo fs (n:Nat) fs.length:=by
    have e1:decide (gl.length≤3)=true:=by simpa using hg
    have e2:decide (0<fs.length)=true:=by simp;omega
    have e3:decide (fs.length≤5)=true:=by simpa using hf5
    rw[HF.out,e1,e2,e3];rfl
   have HZ:=hide hz
   clear hz HF
   go_wp2_with fail
   go_loopw [4] (fun i wr=>∃j:Nat,j≤fs.length∧i=.int .i64 j∧funsTo fs (n:Nat) j=true∧Below w.heap.size w wr∧Rec wr w.heap.size 37 [.slice a0 gs.length c0,.slice a1 gl.length c1,.slice a2 fs.length c2]) (fun i wr=>fs.length-(intOf i).toNat)
   case atStart=>exact⟨0,Nat.zero_le _,rfl,rfl,B2.out,R2.out⟩
   case round =>
    clear B2 R2 d2
    obtain⟨j,hj,rfl,hA,hb,hr⟩:=hrel
    have HA:=hide hA
    have HBl:=hide hb
    have HR:=hide hr
    have s1:=hb.size
    have e5:=hr.cell (o:=2) rfl
    clear hA hb hr
    by_cases hjn:j<fs.length
    ·rcases HFun.out with hnil|⟨b,off,rfl,g1,g2,_,g3⟩
     ·rw[hnil] at hjn;exact absurd hjn (Nat.not_lt_zero _)
     obtain⟨p0,q0,p4,q4,p5,q5,x0,x1,x2,x3,x4,x5,y0,y4,y5⟩:=(g3 j hjn).same (lo':=lo) (hi':=hi) (.of_below HBl.out hh) (Nat.le_refl _) (Nat.le_refl _) g1 g2
     have HS:Hid (funsTo fs (n:Nat) (j+1)=funOkF (n:Nat) (funAt' fs j)):=by
      show(funsTo fs (n:Nat) j&&funOkF (n:Nat) (funAt' fs j))=_
      rw[HA.out];rfl
     have HN:Hid (funOkF (n:Nat) (funAt' fs j)=false→funsTo fs (n:Nat) fs.length=false):=fun h=>allTo_false hjn h
     have HC:=hide (l3Fun_any p0 p4 p5 q0 q4 q5 lo hi (funAt' fs j) (n:Nat) wr (HB.out.2 j hjn) y0 y4 y5 (Nat.le_trans hh s1))
     have j1:(0:Int)≤(j:Int):=by omega
     have j2:(j:Int)<(fs.length:Int):=by omega
     clear g3 y0 y4 y5
     generalize funOkF (n:Nat) (funAt' fs j)=v at HS HN HC
     generalize funAt' fs j=x at x0 x1 x2 x3 x4 x5 HC
     obtain⟨xt,⟨xk,xo,xm⟩,xw,xb⟩:=x
     simp only at x0 x1 x2 x3 x4 x5 HC
     go_wp2_with fail
     refine HC.out.mono ?_
     rintro e w4 ⟨rfl,hb4⟩
     have B4:=hide (HBl.out.trans (hb4.mono s1))
     have R4:=hide (HR.out.below hb4 HR.out.lt)
     clear hb4 HC
     cases v with
     | false =>
      have hz:=HN.out rfl
      have HN':=hide hz
      clear hz HN HS
      go_wp2_with fail
      go_ret
      exact⟨ret_bool (by rw[HZ.out,HN'.out]),B4.out⟩
     | true =>
      go_wp2_with fail
      exact⟨⟨j+1,by omega,by go_num,HS.out,B4.out,R4.out⟩,by simp[intOf];omega⟩
    ·have hje:Hid (j=fs.length):=Nat.le_antisymm hj (Nat.le_of_not_lt hjn)
     go_wp2_with fail
     go_ret
     exact⟨ret_bool (by rw[HZ.out,←hje.out,HA.out]),HBl.out⟩
  ·have hz:R=false:=by rw[HF.out];simp[hf5]
   have HZ:=hide hz
   clear hz HF
   go_wp2_with fail
   go_ret
   exact⟨ret_bool HZ.out.symm,B2.out⟩
 ·have hz:R=false:=by rw[HF.out];simp[hg]
  have HZ:=hide hz
  clear hz HF
  go_wp2_with fail
  go_ret
  exact⟨ret_bool HZ.out.symm,B1.out⟩
set_option maxHeartbeats 1600000 in
set_option maxRecDepth 100000 in
theorem implProgOk_any {md:Bool} (a0 a1 a2:Option Addr) (c0 c1 c2 lo hi:Nat) (p:GProg) (w:World) (hB:ProgB 1048576 p) (hx:PM md w lo hi a0 a1 a2 p) (hl:lo≤hi) (hh:hi≤w.heap.size) (hp:pow10 w) :
  Calls Tryz.prog 113 #[.agg #[.slice a0 p.types.length c0,.slice a1 p.glob.length c1,.slice a2 p.funs.length c2]] w fun e w'=>e=.returned (.bool (progOkF p))∧Below w.heap.size w w':=by
 have hN:Few p.types:=hB.1
 have hf:progOkF p=((kinOkF p.types&&(((decide ((p.glob.length:Int)≤3)&&sortsTo p.glob (kinCount p.types:Nat) p.glob.length)&&firstTo p.glob p.glob.length)&&(decide (0<p.funs.length)&&decide (p.funs.length≤5))))&&funsTo p.funs (kinCount p.types:Nat) p.funs.length):=by
  have e1:decide ((p.glob.length:Int)≤3)=decide (p.glob.length≤3):=by congr 1;exact propext ⟨fun h=>by omega,fun h=>by omega⟩
  rw[e1]
  unfold progOkF
  simp only[Bool.and_assoc]
 have HF:=hide hf
 have HCnt:=hide (fun W (hb:Below w.heap.size w W)=>implKinCount_any a0 c0 lo hi p.types W hN (hx.1.1.keep (hb.mono hh)))
 have HOk:=hide (fun W (hb:Below w.heap.size w W)=>implKinOk_any a0 c0 lo hi p.types W hN hl (Nat.le_trans hh hb.size) (hx.1.1.keep (hb.mono hh)) (pow10_keep hp hb))
 have HC2:=hide (fun W (hb:Below w.heap.size w W)=>progPlacesOk_any a1 c1 lo hi p.glob 3 (kinCount p.types:Nat) W hB.2.1 (hx.2.1.1.keep (hb.mono hh)) (Nat.le_trans hh hb.size))
 have HFun:=hide hx.2.2
 have HB:=hide hB.2.2
 have m0:=kinCount_le hN
 have m2:p.funs.length≤1048576:=hB.2.2.1
 clear hf hx hB hN hp
 generalize progOkF p=R at *
 generalize kinOkF p.types=ok at *
 generalize kinCount p.types=n at *
 generalize ((decide ((p.glob.length:Int)≤3)&&sortsTo p.glob (n:Nat) p.glob.length)&&firstTo p.glob p.glob.length)=t2 at *
 obtain⟨gs,gl,fs⟩:=p
 simp only at HF HCnt HOk HC2 HFun HB m2 ⊢
 have r0:Rec (w.alloc (.cells #[.slice a0 gs.length c0,.slice a1 gl.length c1,.slice a2 fs.length c2] 37)) w.heap.size 37 [.slice a0 gs.length c0,.slice a1 gl.length c1,.slice a2 fs.length c2]:=Rec.new _ _ _
 have b0:Below w.heap.size w (w.alloc (.cells #[.slice a0 gs.length c0,.slice a1 gl.length c1,.slice a2 fs.length c2] 37)):=(Below.refl _ _).alloc (Nat.le_refl _) _
 have R0:=hide r0
 have B0:=hide b0
 clear r0 b0
 by_cases hf0:fs.length=0
 ·have e0:((fs.length:Int)==0)=true:=by simp[hf0]
  have hz:R=false:=by rw[HF.out];simp[hf0]
  have HZ:=hide hz
  clear hz HF hf0
  go_enter Tryz.func113,Tryz.ntmps113
  go_wp2_with fail
  go_ret
  exact⟨ret_bool HZ.out.symm,B0.out⟩
 have e0:((fs.length:Int)==0)=false:=beq_eq_false_iff_ne.2 (by omega)
 by_cases hf5:fs.length≤5
 ·have HF':Hid (R=((ok&&t2)&&funsTo fs (n:Nat) fs.length)):=by
   show _=_
   have e2:decide (0<fs.length)=true:=by simp;omega
   have e3:decide (fs.length≤5)=true:=by simpa using hf5
   rw[HF.out,e2,e3];simp
  clear HF
  go_enter Tryz.func113,Tryz.ntmps113
  go_wp2_with fail
  refine(HOk.out _ B0.out).mono ?_
  rintro e w1 ⟨rfl,hb1⟩
  have B1:=hide (B0.out.trans (hb1.mono B0.out.size))
  have R1:=hide (R0.out.below hb1 R0.out.lt)
  clear hb1 R0 B0 HOk
  cases ok with
  | false =>
   have hz:R=false:=by rw[HF'.out];rfl
   have HZ:=hide hz
   clear hz HF'
   go_wp2_with fail
   go_ret
   exact⟨ret_bool HZ.out.symm,B1.out⟩
  | true =>
  have d0:=R1.out.cell (o:=0) rfl
  have d1:=R1.out.cell (o:=1) rfl
  go_wp2_with fail
  refine(HCnt.out _ B1.out).mono ?_
  rintro e w2 ⟨rfl,rfl⟩
  go_wp2_with fail
  refine(HC2.out _ B1.out).mono ?_
  rintro e w2 ⟨rfl,hb2⟩
  have B2:=hide (B1.out.trans (hb2.mono B1.out.size))
  have R2:=hide (R1.out.below hb2 R1.out.lt)
  clear hb2 HC2 R1 B1 d0 d1
  cases t2 with
  | false =>
   have hz:R=false:=by rw[HF'.out];rfl
   have HZ:=hide hz
   clear hz HF'
   go_wp2_with fail
   go_ret
   exact⟨ret_bool HZ.out.symm,B2.out⟩
  | true =>
  have hz:R=funsTo fs (n:Nat) fs.length:=by rw[HF'.out];rfl
  have HZ:=hide hz
  have d2:=R2.out.cell (o:=2) rfl
  clear hz HF'
  go_wp2_with fail
  go_loopw [33] (fun i wr=>∃j:Nat,j≤fs.length∧i=.int .i64 j∧funsTo fs (n:Nat) j=true∧Below w.heap.size w wr) (fun i wr=>fs.length-(intOf i).toNat)
  case atStart=>exact⟨0,Nat.zero_le _,rfl,rfl,B2.out⟩
  case round =>
   clear B2 R2 d2
   obtain⟨j,hj,rfl,hA,hb⟩:=hrel
   have HA:=hide hA
   have HBl:=hide hb
   have s1:=hb.size
   clear hA hb
   by_cases hjn:j<fs.length
   ·rcases HFun.out with hnil|⟨b,off,rfl,g1,g2,_,g3⟩
    ·rw[hnil] at hjn;exact absurd hjn (Nat.not_lt_zero _)
    obtain⟨p0,q0,p4,q4,p5,q5,x0,x1,x2,x3,x4,x5,y0,y4,y5⟩:=(g3 j hjn).same (lo':=lo) (hi':=hi) (.of_below HBl.out hh) (Nat.le_refl _) (Nat.le_refl _) g1 g2
    have HS:Hid (funsTo fs (n:Nat) (j+1)=funOkF (n:Nat) (funAt' fs j)):=by
     show(funsTo fs (n:Nat) j&&funOkF (n:Nat) (funAt' fs j))=_
     rw[HA.out];rfl
    have HN:Hid (funOkF (n:Nat) (funAt' fs j)=false→funsTo fs (n:Nat) fs.length=false):=fun h=>allTo_false hjn h
    have HC:=hide (fun W (hb:Below wr.heap.size wr W)=>progFunOk_any p0 p4 p5 q0 q4 q5 lo hi (funAt' fs j) (n:Nat) W (HB.out.2 j hjn) (y0.keep (hb.mono (Nat.le_trans hh s1))) (y4.keep (hb.mono (Nat.le_trans hh s1))) (y5.keep (hb.mono (Nat.le_trans hh s1))) (Nat.le_trans hh (Nat.le_trans s1 hb.size)))
    have j1:(0:Int)≤(j:Int):=by omega
    have j2:(j:Int)<(fs.length:Int):=by omega
    clear g3 y0 y4 y5
    generalize funOkF (n:Nat) (funAt' fs j)=v at HS HN HC
    generalize funAt' fs j=x at x0 x1 x2 x3 x4 x5 HC
    obtain⟨xt,⟨xk,xo,xm⟩,xw,xb⟩:=x
    simp only at x0 x1 x2 x3 x4 x5 HC
    go_wp2_with fail
    refine(HC.out _ ((Below.refl _ _).alloc (Nat.le_refl _) _)).mono ?_
    rintro e w4 ⟨rfl,hb4⟩
    have B4:=hide ((HBl.out.alloc s1 (.cells #[.slice p0 xt.length q0,.int .i64 xk,.int .i64 xo,.bool xm,.slice p4 xw.length q4,.slice p5 xb.length q5] 92)).trans (hb4.mono (by simp;omega)))
    clear hb4 HC
    cases v with
    | false =>
     have hz:=HN.out rfl
     have HN':=hide hz
     clear hz HN HS
     go_wp2_with fail
     go_ret
     exact⟨ret_bool (by rw[HZ.out,HN'.out]),B4.out⟩
    | true =>
     go_wp2_with fail
     exact⟨⟨j+1,by omega,by go_num,HS.out,B4.out⟩,by simp[intOf];omega⟩
   ·have hje:Hid (j=fs.length):=Nat.le_antisymm hj (Nat.le_of_not_lt hjn)
    go_wp2_with fail
    go_ret
    exact⟨ret_bool (by rw[HZ.out,←hje.out,HA.out]),HBl.out⟩
 ·have hz:R=false:=by rw[HF.out];simp[hf5]
  have HZ:=hide hz
  clear hz HF
  go_enter Tryz.func113,Tryz.ntmps113
  go_wp2_with fail
  go_ret
  exact⟨ret_bool HZ.out.symm,B0.out⟩
end Go.Proofs.YtpaneomkphjpcaaGreatDoor
