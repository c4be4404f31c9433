/- InsRead of the model: the instruction whose text it is, or none. Written by tools/made/InsReadS.py. -/
import Derived.Test.YtdicmlbgpbglpaaDoorCuts14
import Derived.Test.YtdicmlbgpbglpaaDoorInsKind
import Derived.Test.YtdicmlbgpbglpaaDoorFieldReadS
namespace Go.Proofs.YtdicmlbgpbglpaaDoor
open Go.ChangeShapes Go.WideShapes Go.ChangeAt Go.RowKit Go.Joins
set_option linter.unusedVariables false

theorem wordsOf_nil : wordsOf [] = [] := rfl

theorem isIns_ne {l : List UInt8} {op a b : Int} (h : insText op a b = l) (hl : l ≠ []) : IsIns l op a b := by
  refine ⟨?_, h⟩
  cases hk : insOk op a b
  · rw [insText, hk] at h
    exact absurd h.symm hl
  · rfl

theorem noIns_none {l : List UInt8} (h : wordsOf l = []) : ∀ op a b, ¬ IsIns l op a b := by
  intro op a b hI
  have := isIns_words hI
  rw [h] at this
  exact (insWs_words (a := a) (b := b) (isIns_span hI)).1 this.symm

theorem noIns {l x : List UInt8} {rest : List (List UInt8)} {op a b : Int} (hW : wordsOf l = x :: rest) (hop : OpOf x op)
    (hA0 : rest = [] → a = 0) (hA : ∀ y, rest[0]? = some y → ∀ o, -2 ≤ o → o < 1000000 → y = ofTxt o → a = o)
    (hB0 : rest.length ≤ 1 → b = 0) (hB : ∀ z, rest[1]? = some z → ∀ k : Nat, k < 1000000 → z = Lib.decDigits k → b = k)
    (hne : op = 0 ∨ insText op a b ≠ l) : ∀ op a b, ¬ IsIns l op a b := by
  intro op' a' b' hI
  have hw := isIns_words hI
  rw [hW] at hw
  have hsp := isIns_span hI
  have hz := isIns_zero hI
  have hln : rest.length = spanN op' := by
    have := congrArg List.length hw
    rw [insWs_len] at this
    simp at this
    omega
  have h0 := insWs_0 op' a' b'
  rw [← hw] at h0
  have e0 : op = op' := hop.is hsp (Option.some.inj h0).symm
  subst e0
  have ea : a = a' := by
    by_cases k : spanN op = 0
    · rw [hz.1 k]
      exact hA0 (List.length_eq_zero_iff.1 (by omega))
    · have h1 := insWs_1 op a' b' (by omega)
      rw [← hw] at h1
      have r := hz.2.2.1 (by omega)
      exact hA _ (by simpa using h1) a' r.1 r.2 rfl
  have eb : b = b' := by
    by_cases k : spanN op ≤ 1
    · rw [hz.2.1 k]
      exact hB0 (by omega)
    · have h1 := insWs_2 op a' b' (by omega)
      rw [← hw] at h1
      have r := hz.2.2.2 (by omega)
      have := hB _ (by simpa using h1) b'.toNat (by omega) (ofTxt_pos r.2.1).symm
      omega
  subst ea
  subst eb
  rcases hne with h | h
  · omega
  · exact h hI.2

set_option maxHeartbeats 1600000 in
theorem specInsRead_0 (s : ByteArray) (w : World) (hs : s.size ≤ 1048576) (hW : wordsOf s.data.toList = []) :
    Calls Tryd.prog 15 #[.string s] w fun e w' => InsAns s.data.toList e ∧ Below w.heap.size w w' := by
  have NO := hide (noIns_none hW)
  have HW := hide hW
  clear hW
  go_enter Tryd.func15, Tryd.ntmps15
  go_wp2_with fail
  refine (l14Words_any s _ hs).mono ?_
  rintro e w1 ⟨g, cap, rfl, hS, b1⟩
  have R0 : Rec (w.alloc (.cells #[.int .i64 0, .int .i64 0, .int .i64 0] 35)) w.heap.size 35 [.int .i64 0, .int .i64 0, .int .i64 0] := Rec.new' _ _ _ _ rfl
  have R1 := hide (R0.below b1 R0.lt)
  have BV : Hid (Below w.heap.size w w1) := ((Below.refl _ _).alloc (Nat.le_refl _) _).trans (b1.mono (by simp))
  clear b1 hS R0
  rw [HW.out]
  simp only [List.length_nil]
  have r0 := R1.out.cell (o := 0) rfl
  have r1 := R1.out.cell (o := 1) rfl
  have r2 := R1.out.cell (o := 2) rfl
  have f0 := R1.out.frozen 0
  have f1 := R1.out.frozen 1
  have f2 := R1.out.frozen 2
  have lt1 := R1.out.lt
  go_wp2_with fail
  have RF := ((R1.out.set 0 (.int .i64 0)).set 1 (.int .i64 0)).set 2 (.int .i64 0)
  refine bodyPost_ret (v := .tuple #[.agg #[.int .i64 0, .int .i64 0, .int .i64 0], .bool false]) (by simp [results, Tryd.results15, go_sem, RF.cell (o := 0) rfl, RF.cell (o := 1) rfl, RF.cell (o := 2) rfl]) rfl ?_
  refine ⟨.no NO.out, ?_⟩
  repeat (first | exact BV.out | refine Below.setCell ?_ (by simp <;> omega) _ | refine Below.al ?_ (Nat.le_refl _) _ | refine Below.alloc ?_ (by simp <;> omega) _)

set_option maxHeartbeats 3200000 in
theorem specInsRead_1 (s : ByteArray) (w : World) (hs : s.size ≤ 1048576) (x : List UInt8) (hW : wordsOf s.data.toList = x :: []) :
    Calls Tryd.prog 15 #[.string s] w fun e w' => InsAns s.data.toList e ∧ Below w.heap.size w w' := by
  have SN : Hid (s.data.toList ≠ []) := by
    intro e
    rw [e] at hW
    cases hW
  have HW := hide hW
  clear hW
  go_enter Tryd.func15, Tryd.ntmps15
  go_wp2_with fail
  refine (l14Words_any s _ hs).mono ?_
  rintro e w1 ⟨g, cap, rfl, hS, b1⟩
  have R0 : Rec (w.alloc (.cells #[.int .i64 0, .int .i64 0, .int .i64 0] 35)) w.heap.size 35 [.int .i64 0, .int .i64 0, .int .i64 0] := Rec.new' _ _ _ _ rfl
  have R1 := hide (R0.below b1 R0.lt)
  have BW : Hid (Below w.heap.size w w1) := ((Below.refl _ _).alloc (Nat.le_refl _) _).trans (b1.mono (by simp))
  rw [HW.out] at hS ⊢
  have c0 := hS.cell (i := 0) (x := x) rfl
  obtain ⟨sx, hsx⟩ : ∃ q : ByteArray, (⟨x.toArray⟩ : ByteArray) = q := ⟨_, rfl⟩
  have Hx : Hid (sx.data.toList = x) := by show _ = _; rw [← hsx]
  have zx : sx.size ≤ 1048576 := by
    rw [size_list, Hx.out]
    have h1 : x ∈ cuts 32 s.data.toList := (List.mem_filter.1 (by show x ∈ wordsOf s.data.toList; rw [HW.out]; simp)).1
    have h2 := cutsFrom_size 32 s.data.toList [] x h1
    rw [← size_list] at h2
    simp at h2
    omega
  rw [hsx] at c0
  clear hsx
  have gl := hS.lt.2
  clear hS b1 R0
  simp only [List.length_cons, List.length_nil, Nat.zero_add]
  go_wp2_with fail
  refine (l2Op_any sx _).mono ?_
  rintro e w2 ⟨op, rfl, hop, b2⟩
  rw [Hx.out] at hop
  have HOP := hide hop
  clear hop
  clear c0
  have gl2 := Nat.lt_of_lt_of_le gl b2.size
  have R2 := hide (R1.out.below b2 R1.out.lt)
  have BX : Hid (Below w.heap.size w w2) := BW.out.trans (b2.mono BW.out.size)
  have lt0 := BX.out.size
  clear b2 R1 BW
  have ne2 : ¬ g = w2.heap.size := by omega
  have lt3 := R2.out.lt
  have B9 : Hid (Below w.heap.size w (w2.alloc (.cells #[.int .i64 op, .int .i64 0, .int .i64 0] 35))) := BX.out.alloc lt0 _
  have R9 : Hid (Rec (w2.alloc (.cells #[.int .i64 op, .int .i64 0, .int .i64 0] 35)) w.heap.size 35 [.int .i64 0, .int .i64 0, .int .i64 0]) := R2.out.alloc _
  have F9 : Hid (Rec (w2.alloc (.cells #[.int .i64 op, .int .i64 0, .int .i64 0] 35)) w2.heap.size 35 [.int .i64 op, .int .i64 0, .int .i64 0]) := Rec.new' _ _ _ _ rfl
  have r0 := R2.out.cell (o := 0) rfl
  have r1 := R2.out.cell (o := 1) rfl
  have r2 := R2.out.cell (o := 2) rfl
  have rf0 := R2.out.frozen 0
  have rf1 := R2.out.frozen 1
  have rf2 := R2.out.frozen 2
  have rlt := R2.out.lt
  by_cases h00 : op = 0
  · have NO := hide (noIns HW.out HOP.out (fun _ => rfl) (fun y h => (by cases h)) (fun _ => rfl) (fun z h => (by cases h)) (.inl h00))
    subst h00
    go_wp2_with fail
    have BV := BX
    have RF := (((R2.out.set 0 (.int .i64 0)).set 1 (.int .i64 0)).set 2 (.int .i64 0)).alloc (.cells #[.int .i64 0, .int .i64 0, .int .i64 0] 35)
    refine bodyPost_ret (v := .tuple #[.agg #[.int .i64 0, .int .i64 0, .int .i64 0], .bool false]) (by simp [results, Tryd.results15, go_sem, RF.cell (o := 0) rfl, RF.cell (o := 1) rfl, RF.cell (o := 2) rfl]) rfl ?_
    refine ⟨.no NO.out, ?_⟩
    repeat (first | exact BV.out | refine Below.setCell ?_ (by simp <;> omega) _ | refine Below.al ?_ (Nat.le_refl _) _ | refine Below.alloc ?_ (by simp <;> omega) _)
  have h01 : (op == 0) = false := by simpa using h00
  go_wp2_with fail
  generalize w2.alloc (.cells #[.int .i64 op, .int .i64 0, .int .i64 0] 35) = v9 at B9 R9 F9 ⊢
  refine (specInsText_any op 0 0 _).mono ?_
  rintro e v1 ⟨rfl, b1⟩
  have BV : Hid (Below w.heap.size w v1) := B9.out.trans (b1.mono B9.out.size)
  have R8 := hide (R9.out.below b1 R9.out.lt)
  have F8 := hide (F9.out.below b1 F9.out.lt)
  clear b1 R9 F9 B9
  clear r0 rf0 r1 rf1 r2 rf2 rlt
  have r0 := R8.out.cell (o := 0) rfl
  have r1 := R8.out.cell (o := 1) rfl
  have r2 := R8.out.cell (o := 2) rfl
  have rf0 := R8.out.frozen 0
  have rf1 := R8.out.frozen 1
  have rf2 := R8.out.frozen 2
  have rlt := R8.out.lt
  have g0 := F8.out.cell (o := 0) rfl
  have g1 := F8.out.cell (o := 1) rfl
  have g2 := F8.out.cell (o := 2) rfl
  have gf0 := F8.out.frozen 0
  have gf1 := F8.out.frozen 1
  have gf2 := F8.out.frozen 2
  have glt := F8.out.lt
  by_cases hx : insText op 0 0 = s.data.toList
  · rw [toArray_list s _ hx]
    have YES : Hid (IsIns s.data.toList op 0 0) := isIns_ne hx SN.out
    clear hx
    go_wp2_with fail
    have RF := ((R8.out.set 0 (.int .i64 op)).set 1 (.int .i64 0)).set 2 (.int .i64 0)
    refine bodyPost_ret (v := .tuple #[.agg #[.int .i64 op, .int .i64 0, .int .i64 0], .bool true]) (by simp [results, Tryd.results15, go_sem, RF.cell (o := 0) rfl, RF.cell (o := 1) rfl, RF.cell (o := 2) rfl]) rfl ?_
    refine ⟨.yes YES.out, ?_⟩
    repeat (first | exact BV.out | refine Below.setCell ?_ (by simp <;> omega) _ | refine Below.al ?_ (Nat.le_refl _) _ | refine Below.alloc ?_ (by simp <;> omega) _)
  · have NO := hide (noIns HW.out HOP.out (fun _ => rfl) (fun y h => (by cases h)) (fun _ => rfl) (fun z h => (by cases h)) (.inr hx))
    have hne : ((⟨(insText op 0 0).toArray⟩ : ByteArray).toList == s.toList) = false := by
      rw [ByteArray.toList_eq, ByteArray.toList_eq]; simpa using hx
    clear hx
    generalize hq : (⟨(insText op 0 0).toArray⟩ : ByteArray) = q at hne ⊢
    clear hq
    go_wp2_with fail
    have RF := ((R8.out.set 0 (.int .i64 0)).set 1 (.int .i64 0)).set 2 (.int .i64 0)
    refine bodyPost_ret (v := .tuple #[.agg #[.int .i64 0, .int .i64 0, .int .i64 0], .bool false]) (by simp [results, Tryd.results15, go_sem, RF.cell (o := 0) rfl, RF.cell (o := 1) rfl, RF.cell (o := 2) rfl]) rfl ?_
    refine ⟨.no NO.out, ?_⟩
    repeat (first | exact BV.out | refine Below.setCell ?_ (by simp <;> omega) _ | refine Below.al ?_ (Nat.le_refl _) _ | refine Below.alloc ?_ (by simp <;> omega) _)

set_option maxHeartbeats 3200000 in
theorem specInsRead_2 (s : ByteArray) (w : World) (hs : s.size ≤ 1048576) (x y : List UInt8) (hW : wordsOf s.data.toList = x :: y :: []) :
    Calls Tryd.prog 15 #[.string s] w fun e w' => InsAns s.data.toList e ∧ Below w.heap.size w w' := by
  have SN : Hid (s.data.toList ≠ []) := by
    intro e
    rw [e] at hW
    cases hW
  have HW := hide hW
  clear hW
  go_enter Tryd.func15, Tryd.ntmps15
  go_wp2_with fail
  refine (l14Words_any s _ hs).mono ?_
  rintro e w1 ⟨g, cap, rfl, hS, b1⟩
  have R0 : Rec (w.alloc (.cells #[.int .i64 0, .int .i64 0, .int .i64 0] 35)) w.heap.size 35 [.int .i64 0, .int .i64 0, .int .i64 0] := Rec.new' _ _ _ _ rfl
  have R1 := hide (R0.below b1 R0.lt)
  have BW : Hid (Below w.heap.size w w1) := ((Below.refl _ _).alloc (Nat.le_refl _) _).trans (b1.mono (by simp))
  rw [HW.out] at hS ⊢
  have c0 := hS.cell (i := 0) (x := x) rfl
  have c1 := hS.cell (i := 1) (x := y) rfl
  obtain ⟨sx, hsx⟩ : ∃ q : ByteArray, (⟨x.toArray⟩ : ByteArray) = q := ⟨_, rfl⟩
  have Hx : Hid (sx.data.toList = x) := by show _ = _; rw [← hsx]
  have zx : sx.size ≤ 1048576 := by
    rw [size_list, Hx.out]
    have h1 : x ∈ cuts 32 s.data.toList := (List.mem_filter.1 (by show x ∈ wordsOf s.data.toList; rw [HW.out]; simp)).1
    have h2 := cutsFrom_size 32 s.data.toList [] x h1
    rw [← size_list] at h2
    simp at h2
    omega
  rw [hsx] at c0
  clear hsx
  obtain ⟨sy, hsy⟩ : ∃ q : ByteArray, (⟨y.toArray⟩ : ByteArray) = q := ⟨_, rfl⟩
  have Hy : Hid (sy.data.toList = y) := by show _ = _; rw [← hsy]
  have zy : sy.size ≤ 1048576 := by
    rw [size_list, Hy.out]
    have h1 : y ∈ cuts 32 s.data.toList := (List.mem_filter.1 (by show y ∈ wordsOf s.data.toList; rw [HW.out]; simp)).1
    have h2 := cutsFrom_size 32 s.data.toList [] y h1
    rw [← size_list] at h2
    simp at h2
    omega
  rw [hsy] at c1
  clear hsy
  have gl := hS.lt.2
  clear hS b1 R0
  simp only [List.length_cons, List.length_nil, Nat.zero_add]
  go_wp2_with fail
  refine (l2Op_any sx _).mono ?_
  rintro e w2 ⟨op, rfl, hop, b2⟩
  rw [Hx.out] at hop
  have HOP := hide hop
  clear hop
  have d1 : w2.cell? ⟨g, 1, none⟩ = some (.string sy) := by rw [b2.cell (p := ⟨g, 1, none⟩) gl]; exact c1
  clear c0
  clear c1
  have gl2 := Nat.lt_of_lt_of_le gl b2.size
  have R2 := hide (R1.out.below b2 R1.out.lt)
  have BX : Hid (Below w.heap.size w w2) := BW.out.trans (b2.mono BW.out.size)
  have lt0 := BX.out.size
  clear b2 R1 BW
  have ne2 : ¬ g = w2.heap.size := by omega
  have lt3 := R2.out.lt
  go_wp2_with fail
  refine (l2OfRead_any sy _ zy).mono ?_
  rintro e wq ⟨⟨n, bq, rfl, hn, hN⟩, rfl⟩
  rw [Hy.out] at hN
  have HN := hide hN
  clear hN
  have B5 : Hid (Below w.heap.size w (w2.alloc (.cells #[.int .i64 op, .int .i64 0, .int .i64 0] 35))) := BX.out.alloc lt0 _
  have R5 : Hid (Rec (w2.alloc (.cells #[.int .i64 op, .int .i64 0, .int .i64 0] 35)) w.heap.size 35 [.int .i64 0, .int .i64 0, .int .i64 0]) := R2.out.alloc _
  have F5 : Hid (Rec (w2.alloc (.cells #[.int .i64 op, .int .i64 0, .int .i64 0] 35)) w2.heap.size 35 [.int .i64 op, .int .i64 0, .int .i64 0]) := Rec.new' _ _ _ _ rfl
  generalize w2.alloc (.cells #[.int .i64 op, .int .i64 0, .int .i64 0] 35) = v5 at B5 R5 F5 ⊢
  have gl5 : w2.heap.size < v5.heap.size := F5.out.lt
  have r0 := R5.out.cell (o := 0) rfl
  have r1 := R5.out.cell (o := 1) rfl
  have r2 := R5.out.cell (o := 2) rfl
  have rf0 := R5.out.frozen 0
  have rf1 := R5.out.frozen 1
  have rf2 := R5.out.frozen 2
  have rlt := R5.out.lt
  have g0 := F5.out.cell (o := 0) rfl
  have g1 := F5.out.cell (o := 1) rfl
  have g2 := F5.out.cell (o := 2) rfl
  have gf0 := F5.out.frozen 0
  have gf1 := F5.out.frozen 1
  have gf2 := F5.out.frozen 2
  have glt := F5.out.lt
  have B9 : Hid (Below w.heap.size w (v5.setCell ⟨w2.heap.size, 1, none⟩ (.int .i64 n))) := Below.setCell B5.out (by simp <;> omega) _
  have R9 : Hid (Rec (v5.setCell ⟨w2.heap.size, 1, none⟩ (.int .i64 n)) w.heap.size 35 [.int .i64 0, .int .i64 0, .int .i64 0]) := R5.out.other (by omega) _ _
  have F9 : Hid (Rec (v5.setCell ⟨w2.heap.size, 1, none⟩ (.int .i64 n)) w2.heap.size 35 [.int .i64 op, .int .i64 n, .int .i64 0]) := F5.out.set 1 _
  clear B5 R5 F5
  by_cases h00 : op = 0
  · have NO := hide (noIns HW.out HOP.out (fun h => (by cases h)) (fun y h => (by cases h; exact HN.out)) (fun _ => rfl) (fun z h => (by cases h)) (.inl h00))
    subst h00
    go_wp2_with fail
    have BV := B9
    have RF := ((R9.out.set 0 (.int .i64 0)).set 1 (.int .i64 0)).set 2 (.int .i64 0)
    refine bodyPost_ret (v := .tuple #[.agg #[.int .i64 0, .int .i64 0, .int .i64 0], .bool false]) (by simp [results, Tryd.results15, go_sem, RF.cell (o := 0) rfl, RF.cell (o := 1) rfl, RF.cell (o := 2) rfl]) rfl ?_
    refine ⟨.no NO.out, ?_⟩
    repeat (first | exact BV.out | refine Below.setCell ?_ (by simp <;> omega) _ | refine Below.al ?_ (Nat.le_refl _) _ | refine Below.alloc ?_ (by simp <;> omega) _)
  have h01 : (op == 0) = false := by simpa using h00
  go_wp2_with fail
  generalize v5.setCell ⟨w2.heap.size, 1, none⟩ (.int .i64 n) = v9 at B9 R9 F9 ⊢
  refine (specInsText_any op n 0 _).mono ?_
  rintro e v1 ⟨rfl, b1⟩
  have BV : Hid (Below w.heap.size w v1) := B9.out.trans (b1.mono B9.out.size)
  have R8 := hide (R9.out.below b1 R9.out.lt)
  have F8 := hide (F9.out.below b1 F9.out.lt)
  clear b1 R9 F9 B9
  clear r0 rf0 r1 rf1 r2 rf2 rlt
  clear g0 gf0 g1 gf1 g2 gf2 glt
  have r0 := R8.out.cell (o := 0) rfl
  have r1 := R8.out.cell (o := 1) rfl
  have r2 := R8.out.cell (o := 2) rfl
  have rf0 := R8.out.frozen 0
  have rf1 := R8.out.frozen 1
  have rf2 := R8.out.frozen 2
  have rlt := R8.out.lt
  have g0 := F8.out.cell (o := 0) rfl
  have g1 := F8.out.cell (o := 1) rfl
  have g2 := F8.out.cell (o := 2) rfl
  have gf0 := F8.out.frozen 0
  have gf1 := F8.out.frozen 1
  have gf2 := F8.out.frozen 2
  have glt := F8.out.lt
  by_cases hx : insText op n 0 = s.data.toList
  · rw [toArray_list s _ hx]
    have YES : Hid (IsIns s.data.toList op n 0) := isIns_ne hx SN.out
    clear hx
    go_wp2_with fail
    have RF := ((R8.out.set 0 (.int .i64 op)).set 1 (.int .i64 n)).set 2 (.int .i64 0)
    refine bodyPost_ret (v := .tuple #[.agg #[.int .i64 op, .int .i64 n, .int .i64 0], .bool true]) (by simp [results, Tryd.results15, go_sem, RF.cell (o := 0) rfl, RF.cell (o := 1) rfl, RF.cell (o := 2) rfl]) rfl ?_
    refine ⟨.yes YES.out, ?_⟩
    repeat (first | exact BV.out | refine Below.setCell ?_ (by simp <;> omega) _ | refine Below.al ?_ (Nat.le_refl _) _ | refine Below.alloc ?_ (by simp <;> omega) _)
  · have NO := hide (noIns HW.out HOP.out (fun h => (by cases h)) (fun y h => (by cases h; exact HN.out)) (fun _ => rfl) (fun z h => (by cases h)) (.inr hx))
    have hne : ((⟨(insText op n 0).toArray⟩ : ByteArray).toList == s.toList) = false := by
      rw [ByteArray.toList_eq, ByteArray.toList_eq]; simpa using hx
    clear hx
    generalize hq : (⟨(insText op n 0).toArray⟩ : ByteArray) = q at hne ⊢
    clear hq
    go_wp2_with fail
    have RF := ((R8.out.set 0 (.int .i64 0)).set 1 (.int .i64 0)).set 2 (.int .i64 0)
    refine bodyPost_ret (v := .tuple #[.agg #[.int .i64 0, .int .i64 0, .int .i64 0], .bool false]) (by simp [results, Tryd.results15, go_sem, RF.cell (o := 0) rfl, RF.cell (o := 1) rfl, RF.cell (o := 2) rfl]) rfl ?_
    refine ⟨.no NO.out, ?_⟩
    repeat (first | exact BV.out | refine Below.setCell ?_ (by simp <;> omega) _ | refine Below.al ?_ (Nat.le_refl _) _ | refine Below.alloc ?_ (by simp <;> omega) _)

set_option maxHeartbeats 3200000 in
theorem specInsRead_3 (s : ByteArray) (w : World) (hs : s.size ≤ 1048576) (x y z : List UInt8) (t : List (List UInt8)) (hW : wordsOf s.data.toList = x :: y :: z :: t) :
    Calls Tryd.prog 15 #[.string s] w fun e w' => InsAns s.data.toList e ∧ Below w.heap.size w w' := by
  have SN : Hid (s.data.toList ≠ []) := by
    intro e
    rw [e] at hW
    cases hW
  have HW := hide hW
  clear hW
  go_enter Tryd.func15, Tryd.ntmps15
  go_wp2_with fail
  refine (l14Words_any s _ hs).mono ?_
  rintro e w1 ⟨g, cap, rfl, hS, b1⟩
  have R0 : Rec (w.alloc (.cells #[.int .i64 0, .int .i64 0, .int .i64 0] 35)) w.heap.size 35 [.int .i64 0, .int .i64 0, .int .i64 0] := Rec.new' _ _ _ _ rfl
  have R1 := hide (R0.below b1 R0.lt)
  have BW : Hid (Below w.heap.size w w1) := ((Below.refl _ _).alloc (Nat.le_refl _) _).trans (b1.mono (by simp))
  rw [HW.out] at hS ⊢
  have c0 := hS.cell (i := 0) (x := x) rfl
  have c1 := hS.cell (i := 1) (x := y) rfl
  have c2 := hS.cell (i := 2) (x := z) rfl
  obtain ⟨sx, hsx⟩ : ∃ q : ByteArray, (⟨x.toArray⟩ : ByteArray) = q := ⟨_, rfl⟩
  have Hx : Hid (sx.data.toList = x) := by show _ = _; rw [← hsx]
  have zx : sx.size ≤ 1048576 := by
    rw [size_list, Hx.out]
    have h1 : x ∈ cuts 32 s.data.toList := (List.mem_filter.1 (by show x ∈ wordsOf s.data.toList; rw [HW.out]; simp)).1
    have h2 := cutsFrom_size 32 s.data.toList [] x h1
    rw [← size_list] at h2
    simp at h2
    omega
  rw [hsx] at c0
  clear hsx
  obtain ⟨sy, hsy⟩ : ∃ q : ByteArray, (⟨y.toArray⟩ : ByteArray) = q := ⟨_, rfl⟩
  have Hy : Hid (sy.data.toList = y) := by show _ = _; rw [← hsy]
  have zy : sy.size ≤ 1048576 := by
    rw [size_list, Hy.out]
    have h1 : y ∈ cuts 32 s.data.toList := (List.mem_filter.1 (by show y ∈ wordsOf s.data.toList; rw [HW.out]; simp)).1
    have h2 := cutsFrom_size 32 s.data.toList [] y h1
    rw [← size_list] at h2
    simp at h2
    omega
  rw [hsy] at c1
  clear hsy
  obtain ⟨sz, hsz⟩ : ∃ q : ByteArray, (⟨z.toArray⟩ : ByteArray) = q := ⟨_, rfl⟩
  have Hz : Hid (sz.data.toList = z) := by show _ = _; rw [← hsz]
  have zz : sz.size ≤ 1048576 := by
    rw [size_list, Hz.out]
    have h1 : z ∈ cuts 32 s.data.toList := (List.mem_filter.1 (by show z ∈ wordsOf s.data.toList; rw [HW.out]; simp)).1
    have h2 := cutsFrom_size 32 s.data.toList [] z h1
    rw [← size_list] at h2
    simp at h2
    omega
  rw [hsz] at c2
  clear hsz
  have gl := hS.lt.2
  clear hS b1 R0
  simp only [List.length_cons]
  have tn : t.length ≤ 1048577 := by
    have h1 : (wordsOf s.data.toList).length ≤ (cuts 32 s.data.toList).length := List.length_filter_le _ _
    have h2 := cutsFrom_len 32 s.data.toList []
    rw [← size_list] at h2
    rw [HW.out] at h1
    have h3 : (cuts 32 s.data.toList).length ≤ s.size + 1 := h2
    simp only [List.length_cons] at h1
    omega
  have tp : (1 : Int) < (t.length : Int) + 1 + 1 + 1 := by omega
  have tq : (2 : Int) < (t.length : Int) + 1 + 1 + 1 := by omega
  have tr : (0 : Int) < (t.length : Int) + 1 + 1 + 1 := by omega
  have ts : ¬ (t.length : Int) + 1 + 1 + 1 = 0 := by omega
  have tt : ((t.length : Int) + 1 + 1 + 1 == 0) = false := by simp; omega
  go_wp2_with fail
  refine (l2Op_any sx _).mono ?_
  rintro e w2 ⟨op, rfl, hop, b2⟩
  rw [Hx.out] at hop
  have HOP := hide hop
  clear hop
  have d1 : w2.cell? ⟨g, 1, none⟩ = some (.string sy) := by rw [b2.cell (p := ⟨g, 1, none⟩) gl]; exact c1
  have d2 : w2.cell? ⟨g, 2, none⟩ = some (.string sz) := by rw [b2.cell (p := ⟨g, 2, none⟩) gl]; exact c2
  clear c0
  clear c1
  clear c2
  have gl2 := Nat.lt_of_lt_of_le gl b2.size
  have R2 := hide (R1.out.below b2 R1.out.lt)
  have BX : Hid (Below w.heap.size w w2) := BW.out.trans (b2.mono BW.out.size)
  have lt0 := BX.out.size
  clear b2 R1 BW
  have ne2 : ¬ g = w2.heap.size := by omega
  have lt3 := R2.out.lt
  go_wp2_with fail
  refine (l2OfRead_any sy _ zy).mono ?_
  rintro e wq ⟨⟨n, bq, rfl, hn, hN⟩, rfl⟩
  rw [Hy.out] at hN
  have HN := hide hN
  clear hN
  have B5 : Hid (Below w.heap.size w (w2.alloc (.cells #[.int .i64 op, .int .i64 0, .int .i64 0] 35))) := BX.out.alloc lt0 _
  have R5 : Hid (Rec (w2.alloc (.cells #[.int .i64 op, .int .i64 0, .int .i64 0] 35)) w.heap.size 35 [.int .i64 0, .int .i64 0, .int .i64 0]) := R2.out.alloc _
  have F5 : Hid (Rec (w2.alloc (.cells #[.int .i64 op, .int .i64 0, .int .i64 0] 35)) w2.heap.size 35 [.int .i64 op, .int .i64 0, .int .i64 0]) := Rec.new' _ _ _ _ rfl
  have e2 : (w2.alloc (.cells #[.int .i64 op, .int .i64 0, .int .i64 0] 35)).cell? ⟨g, 2, none⟩ = some (.string sz) := by rw [(Below.refl _ _).alloc (Nat.le_refl _) _ |>.cell (p := ⟨g, 2, none⟩) gl2]; exact d2
  generalize w2.alloc (.cells #[.int .i64 op, .int .i64 0, .int .i64 0] 35) = v5 at B5 R5 F5 e2 ⊢
  have gl5 : w2.heap.size < v5.heap.size := F5.out.lt
  have r0 := R5.out.cell (o := 0) rfl
  have r1 := R5.out.cell (o := 1) rfl
  have r2 := R5.out.cell (o := 2) rfl
  have rf0 := R5.out.frozen 0
  have rf1 := R5.out.frozen 1
  have rf2 := R5.out.frozen 2
  have rlt := R5.out.lt
  have g0 := F5.out.cell (o := 0) rfl
  have g1 := F5.out.cell (o := 1) rfl
  have g2 := F5.out.cell (o := 2) rfl
  have gf0 := F5.out.frozen 0
  have gf1 := F5.out.frozen 1
  have gf2 := F5.out.frozen 2
  have glt := F5.out.lt
  go_wp2_with fail
  have B6 : Hid (Below w.heap.size w (v5.setCell ⟨w2.heap.size, 1, none⟩ (.int .i64 n))) := Below.setCell B5.out (by simp <;> omega) _
  have R6 : Hid (Rec (v5.setCell ⟨w2.heap.size, 1, none⟩ (.int .i64 n)) w.heap.size 35 [.int .i64 0, .int .i64 0, .int .i64 0]) := R5.out.other (by omega) _ _
  have F6 : Hid (Rec (v5.setCell ⟨w2.heap.size, 1, none⟩ (.int .i64 n)) w2.heap.size 35 [.int .i64 op, .int .i64 n, .int .i64 0]) := F5.out.set 1 _
  clear B5 R5 F5
  clear r0 rf0 r1 rf1 r2 rf2 rlt
  clear g0 gf0 g1 gf1 g2 gf2 glt
  generalize v5.setCell ⟨w2.heap.size, 1, none⟩ (.int .i64 n) = v6 at B6 R6 F6 ⊢
  refine (num14_any sz _ zz).mono ?_
  rintro e v7 ⟨⟨m, bq2, rfl, hm, hM⟩, rfl⟩
  rw [Hz.out] at hM
  have HM : Hid (∀ k : Nat, k < 1000000 → z = Lib.decDigits k → m = k) := fun k h1 h2 => (hM k h1 h2).1
  clear hM
  have r0 := R6.out.cell (o := 0) rfl
  have r1 := R6.out.cell (o := 1) rfl
  have r2 := R6.out.cell (o := 2) rfl
  have rf0 := R6.out.frozen 0
  have rf1 := R6.out.frozen 1
  have rf2 := R6.out.frozen 2
  have rlt := R6.out.lt
  have g0 := F6.out.cell (o := 0) rfl
  have g1 := F6.out.cell (o := 1) rfl
  have g2 := F6.out.cell (o := 2) rfl
  have gf0 := F6.out.frozen 0
  have gf1 := F6.out.frozen 1
  have gf2 := F6.out.frozen 2
  have glt := F6.out.lt
  have B9 : Hid (Below w.heap.size w (v7.setCell ⟨w2.heap.size, 2, none⟩ (.int .i64 m))) := Below.setCell B6.out (by simp <;> omega) _
  have R9 : Hid (Rec (v7.setCell ⟨w2.heap.size, 2, none⟩ (.int .i64 m)) w.heap.size 35 [.int .i64 0, .int .i64 0, .int .i64 0]) := R6.out.other (by omega) _ _
  have F9 : Hid (Rec (v7.setCell ⟨w2.heap.size, 2, none⟩ (.int .i64 m)) w2.heap.size 35 [.int .i64 op, .int .i64 n, .int .i64 m]) := F6.out.set 2 _
  clear B6 R6 F6
  by_cases h00 : op = 0
  · have NO := hide (noIns HW.out HOP.out (fun h => (by cases h)) (fun y h => (by cases h; exact HN.out)) (fun h => (by simp at h)) (fun z h => (by cases h; exact HM.out)) (.inl h00))
    subst h00
    go_wp2_with fail
    have BV := B9
    have RF := ((R9.out.set 0 (.int .i64 0)).set 1 (.int .i64 0)).set 2 (.int .i64 0)
    refine bodyPost_ret (v := .tuple #[.agg #[.int .i64 0, .int .i64 0, .int .i64 0], .bool false]) (by simp [results, Tryd.results15, go_sem, RF.cell (o := 0) rfl, RF.cell (o := 1) rfl, RF.cell (o := 2) rfl]) rfl ?_
    refine ⟨.no NO.out, ?_⟩
    repeat (first | exact BV.out | refine Below.setCell ?_ (by simp <;> omega) _ | refine Below.al ?_ (Nat.le_refl _) _ | refine Below.alloc ?_ (by simp <;> omega) _)
  have h01 : (op == 0) = false := by simpa using h00
  go_wp2_with fail
  generalize v7.setCell ⟨w2.heap.size, 2, none⟩ (.int .i64 m) = v9 at B9 R9 F9 ⊢
  refine (specInsText_any op n m _).mono ?_
  rintro e v1 ⟨rfl, b1⟩
  have BV : Hid (Below w.heap.size w v1) := B9.out.trans (b1.mono B9.out.size)
  have R8 := hide (R9.out.below b1 R9.out.lt)
  have F8 := hide (F9.out.below b1 F9.out.lt)
  clear b1 R9 F9 B9
  clear r0 rf0 r1 rf1 r2 rf2 rlt
  clear g0 gf0 g1 gf1 g2 gf2 glt
  have r0 := R8.out.cell (o := 0) rfl
  have r1 := R8.out.cell (o := 1) rfl
  have r2 := R8.out.cell (o := 2) rfl
  have rf0 := R8.out.frozen 0
  have rf1 := R8.out.frozen 1
  have rf2 := R8.out.frozen 2
  have rlt := R8.out.lt
  have g0 := F8.out.cell (o := 0) rfl
  have g1 := F8.out.cell (o := 1) rfl
  have g2 := F8.out.cell (o := 2) rfl
  have gf0 := F8.out.frozen 0
  have gf1 := F8.out.frozen 1
  have gf2 := F8.out.frozen 2
  have glt := F8.out.lt
  by_cases hx : insText op n m = s.data.toList
  · rw [toArray_list s _ hx]
    have YES : Hid (IsIns s.data.toList op n m) := isIns_ne hx SN.out
    clear hx
    go_wp2_with fail
    have RF := ((R8.out.set 0 (.int .i64 op)).set 1 (.int .i64 n)).set 2 (.int .i64 m)
    refine bodyPost_ret (v := .tuple #[.agg #[.int .i64 op, .int .i64 n, .int .i64 m], .bool true]) (by simp [results, Tryd.results15, go_sem, RF.cell (o := 0) rfl, RF.cell (o := 1) rfl, RF.cell (o := 2) rfl]) rfl ?_
    refine ⟨.yes YES.out, ?_⟩
    repeat (first | exact BV.out | refine Below.setCell ?_ (by simp <;> omega) _ | refine Below.al ?_ (Nat.le_refl _) _ | refine Below.alloc ?_ (by simp <;> omega) _)
  · have NO := hide (noIns HW.out HOP.out (fun h => (by cases h)) (fun y h => (by cases h; exact HN.out)) (fun h => (by simp at h)) (fun z h => (by cases h; exact HM.out)) (.inr hx))
    have hne : ((⟨(insText op n m).toArray⟩ : ByteArray).toList == s.toList) = false := by
      rw [ByteArray.toList_eq, ByteArray.toList_eq]; simpa using hx
    clear hx
    generalize hq : (⟨(insText op n m).toArray⟩ : ByteArray) = q at hne ⊢
    clear hq
    go_wp2_with fail
    have RF := ((R8.out.set 0 (.int .i64 0)).set 1 (.int .i64 0)).set 2 (.int .i64 0)
    refine bodyPost_ret (v := .tuple #[.agg #[.int .i64 0, .int .i64 0, .int .i64 0], .bool false]) (by simp [results, Tryd.results15, go_sem, RF.cell (o := 0) rfl, RF.cell (o := 1) rfl, RF.cell (o := 2) rfl]) rfl ?_
    refine ⟨.no NO.out, ?_⟩
    repeat (first | exact BV.out | refine Below.setCell ?_ (by simp <;> omega) _ | refine Below.al ?_ (Nat.le_refl _) _ | refine Below.alloc ?_ (by simp <;> omega) _)

theorem specInsRead_any (s : ByteArray) (w : World) (hs : s.size ≤ 1048576) :
    Calls Tryd.prog 15 #[.string s] w fun e w' => InsAns s.data.toList e ∧ Below w.heap.size w w' := by
  rcases hW : wordsOf s.data.toList with _ | ⟨x, _ | ⟨y, _ | ⟨z, t⟩⟩⟩
  · exact specInsRead_0 s w hs hW
  · exact specInsRead_1 s w hs x hW
  · exact specInsRead_2 s w hs x y hW
  · exact specInsRead_3 s w hs x y z t hW
end Go.Proofs.YtdicmlbgpbglpaaDoor
