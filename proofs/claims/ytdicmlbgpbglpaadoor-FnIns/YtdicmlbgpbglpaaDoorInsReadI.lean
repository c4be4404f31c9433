/- InsRead of the program: the instruction whose text it is, or none. Written by tools/made/InsReadI.py. -/
import Derived.Test.YtdicmlbgpbglpaaDoorInsScan
import Derived.Test.YtdicmlbgpbglpaaDoorInsKind
import Derived.Test.YtdicmlbgpbglpaaDoorOfRead2
import Derived.Test.YtdicmlbgpbglpaaDoorGenRoot
import Derived.LoopN
namespace Go.Proofs.YtdicmlbgpbglpaaDoor
open Go.ChangeShapes Go.WideShapes Go.ChangeAt Go.RowKit Go.Joins
set_option linter.unusedVariables false

/-- The tables and the two errors, as they are laid. -/
def readAt (w : World) : Prop := pow10 w ∧ errsAt w ∧ wordsAt w
theorem readAt.keep {w w' : World} (h : readAt w) (hb : Below w.heap.size w w') : readAt w' := ⟨pow10_keep h.1 hb, h.2.1.keep hb, h.2.2.keep hb⟩

theorem StrRow.cap {w : World} {base g cap : Nat} {xs : List (List UInt8)} (h : StrRow w base g cap xs) : xs.length ≤ cap := by
  rcases h.2 with ⟨h', _⟩ | ⟨g', cap', cur, h', _, _, hn, _⟩
  · cases h'
  · cases h'; exact hn

theorem isIns_parts {l x : List UInt8} {rest : List (List UInt8)} {op a b : Int} (hW : cuts 32 l = x :: rest) (h : IsIns l op a b) :
    wordAt op.toNat = x ∧ rest.length = spanN op ∧ (∀ y, rest[0]? = some y → ofTxt a = y ∧ -2 ≤ a ∧ a < 1000000) ∧ (∀ z, rest[1]? = some z → ofTxt b = z ∧ 0 ≤ b ∧ b < 1000000) ∧ (rest = [] → a = 0) ∧ (rest.length ≤ 1 → b = 0) := by
  have hw := isIns_cuts h
  rw [hW] at hw
  have hz := isIns_zero h
  have hln : rest.length = spanN op := by
    have := congrArg List.length hw
    rw [insWs_len] at this
    simp at this
    omega
  have h0 := insWs_0 op a b
  rw [← hw] at h0
  refine ⟨(Option.some.inj h0).symm, hln, fun y hy => ?_, fun z hz' => ?_, fun e => hz.1 (by rw [← hln, e]; rfl), fun e => hz.2.1 (by omega)⟩
  · have hl := (List.getElem?_eq_some_iff.1 hy).1
    have h1 := insWs_1 op a b (by omega)
    rw [← hw] at h1
    simp only [List.getElem?_cons_succ] at h1
    rw [hy] at h1
    have r := hz.2.2.1 (by omega)
    exact ⟨(Option.some.inj h1).symm, r⟩
  · have hl := (List.getElem?_eq_some_iff.1 hz').1
    have h1 := insWs_2 op a b (by omega)
    rw [← hw] at h1
    simp only [List.getElem?_cons_succ] at h1
    rw [hz'] at h1
    have r := hz.2.2.2 (by omega)
    exact ⟨(Option.some.inj h1).symm, r.2.1, r.2.2⟩

theorem isIns_op {l x : List UInt8} {rest : List (List UInt8)} {op a b op' : Int} (hW : cuts 32 l = x :: rest) (h : IsIns l op a b) (h1 : 1 ≤ op') (h2 : op' ≤ 33) (h3 : wordAt op'.toNat = x) : op = op' := by
  have hs := isIns_span h
  have := wordAt_inj (by omega) (by omega) (by omega) (by omega) ((isIns_parts hW h).1.trans h3.symm)
  omega

theorem has_at (op : Int) (N : Nat) (h : spanN op = N) (w : World) : Calls Tryd.prog 41 #[.int .i64 op] w fun e w' => e = .returned (.int .i64 (N : Int)) ∧ Below w.heap.size w w' := h ▸ implInsHas_any op w

theorem insWs_eq0 {op a b : Int} (h : spanN op = 0) : insWs op a b = [wordAt op.toNat] := by unfold insWs; rw [if_pos h]
theorem insWs_eq1 {op a b : Int} (h : spanN op = 1) : insWs op a b = [wordAt op.toNat, ofTxt a] := by unfold insWs; rw [if_neg (by omega), if_pos h]
theorem insWs_eq2 {op a b : Int} (h : spanN op = 2) : insWs op a b = [wordAt op.toNat, ofTxt a, ofTxt b] := by unfold insWs; rw [if_neg (by omega), if_neg (by omega)]

set_option maxHeartbeats 1600000 in
theorem implInsRead_no (s : ByteArray) (w : World) (hs : s.size ≤ 1048576) (hK : ¬ ScanOk s.data.toList) :
    Calls Tryd.prog 16 #[.string s] w fun e w' => InsAns s.data.toList e ∧ Below w.heap.size w w' := by
  have NO : Hid (∀ op a b, ¬ IsIns s.data.toList op a b) := fun op a b h => hK (isIns_scan h)
  go_enter Tryd.func16, Tryd.ntmps16
  go_wp2_with fail
  refine (insScan_any s _ hs).mono ?_
  rintro e w1 ⟨ha, b1⟩
  have R0 : Rec (w.alloc (.cells #[.int .i64 0, .int .i64 0, .int .i64 0] 35)) w.heap.size 35 [.int .i64 0, .int .i64 0, .int .i64 0] := Rec.new' _ _ _ _ rfl
  have R1 := hide (R0.below b1 R0.lt)
  have BV : Hid (Below w.heap.size w w1) := ((Below.refl _ _).alloc (Nat.le_refl _) _).trans (b1.mono (by simp))
  clear b1 R0
  cases ha with
  | yes k _ => exact absurd k hK
  | no k =>
    have r0 := R1.out.cell (o := 0) rfl
    have r1 := R1.out.cell (o := 1) rfl
    have r2 := R1.out.cell (o := 2) rfl
    have rf0 := R1.out.frozen 0
    have rf1 := R1.out.frozen 1
    have rf2 := R1.out.frozen 2
    have rlt := R1.out.lt
    go_wp2_with fail
    have RF := ((R1.out.set 0 (.int .i64 0)).set 1 (.int .i64 0)).set 2 (.int .i64 0)
    refine bodyPost_ret (v := .tuple #[.agg #[.int .i64 0, .int .i64 0, .int .i64 0], .bool false]) (by simp [results, Tryd.results16, go_sem, RF.cell (o := 0) rfl, RF.cell (o := 1) rfl, RF.cell (o := 2) rfl]) rfl ?_
    refine ⟨.no NO.out, ?_⟩
    repeat (first | exact BV.out | refine Below.setCell ?_ (by simp <;> omega) _ | refine Below.al ?_ (Nat.le_refl _) _ | refine Below.alloc ?_ (by simp <;> omega) _)

set_option maxHeartbeats 3200000 in
theorem implInsRead_1 (s : ByteArray) (w : World) (hs : s.size ≤ 1048576) (hT : readAt w) (hK : ScanOk s.data.toList) (x : List UInt8) (hW : cuts 32 s.data.toList = x :: []) :
    Calls Tryd.prog 16 #[.string s] w fun e w' => InsAns s.data.toList e ∧ Below w.heap.size w w' := by
  have HT := hide hT
  have HW := hide hW
  clear hW hT
  go_enter Tryd.func16, Tryd.ntmps16
  go_wp2_with fail
  refine (insScan_any s _ hs).mono ?_
  rintro e w1 ⟨ha, b1⟩
  have R0 : Rec (w.alloc (.cells #[.int .i64 0, .int .i64 0, .int .i64 0] 35)) w.heap.size 35 [.int .i64 0, .int .i64 0, .int .i64 0] := Rec.new' _ _ _ _ rfl
  have R1 := hide (R0.below b1 R0.lt)
  have BW : Hid (Below w.heap.size w w1) := ((Below.refl _ _).alloc (Nat.le_refl _) _).trans (b1.mono (by simp))
  clear b1 R0
  cases ha with
  | no k => exact absurd hK k
  | yes _ hS =>
    rename_i g cap hk0
    rw [HW.out] at hS ⊢
    have c0 := hS.cell (i := 0) (x := x) rfl
    obtain ⟨sx, hsx⟩ : ∃ q : ByteArray, (⟨x.toArray⟩ : ByteArray) = q := ⟨_, rfl⟩
    have Hx : Hid (sx.data.toList = x) := by show _ = _; rw [← hsx]
    have zx : sx.size ≤ 1048576 := by
      rw [size_list, Hx.out]
      have h1 : x ∈ cuts 32 s.data.toList := by rw [HW.out]; simp
      have h2 := cutsFrom_size 32 s.data.toList [] x h1
      rw [← size_list] at h2
      simp at h2
      omega
    rw [hsx] at c0
    clear hsx
    have gl := hS.lt.2
    have hcap0 : 1 ≤ cap := hS.cap
    clear hS
    simp only [List.length_cons, List.length_nil, Nat.zero_add]
    have HT1 := hide (HT.out.keep BW.out)
    go_wp2_with fail
    refine (insKind_any sx _ HT1.out.2.2).mono ?_
    rintro e w2 ⟨op, bk, rfl, hk1, hk2, rfl⟩
    rw [Hx.out] at hk1 hk2
    have r0 := R1.out.cell (o := 0) rfl
    have r1 := R1.out.cell (o := 1) rfl
    have r2 := R1.out.cell (o := 2) rfl
    have rf0 := R1.out.frozen 0
    have rf1 := R1.out.frozen 1
    have rf2 := R1.out.frozen 2
    have rlt := R1.out.lt
    cases bk
    · have NO : Hid (∀ op a b, ¬ IsIns s.data.toList op a b) := fun op a b h => hk2 rfl op.toNat (by have := isIns_span h; omega) (by have := isIns_span h; omega) (isIns_parts HW.out h).1
      clear hk1 hk2
      go_wp2_with fail
      have BV := BW
      have RF := ((R1.out.set 0 (.int .i64 0)).set 1 (.int .i64 0)).set 2 (.int .i64 0)
      refine bodyPost_ret (v := .tuple #[.agg #[.int .i64 0, .int .i64 0, .int .i64 0], .bool false]) (by simp [results, Tryd.results16, go_sem, RF.cell (o := 0) rfl, RF.cell (o := 1) rfl, RF.cell (o := 2) rfl]) rfl ?_
      refine ⟨.no NO.out, ?_⟩
      repeat (first | exact BV.out | refine Below.setCell ?_ (by simp <;> omega) _ | refine Below.al ?_ (Nat.le_refl _) _ | refine Below.alloc ?_ (by simp <;> omega) _)
    obtain ⟨o1, o2, o3⟩ := hk1 rfl
    have HO := hide o3
    clear hk1 hk2 o3
    obtain ⟨N, hN⟩ : ∃ N, spanN op = N := ⟨_, rfl⟩
    have HN := hide hN
    have hN2 : N ≤ 2 := by rw [← hN]; exact spanN_le op
    clear hN
    go_wp2_with fail
    refine (has_at op N HN.out _).mono ?_
    rintro e w3 ⟨rfl, b3⟩
    have B3 : Hid (Below w.heap.size w w3) := BW.out.trans (b3.mono BW.out.size)
    have R3 := hide (R1.out.below b3 R1.out.lt)
    have HT3 := hide (HT.out.keep B3.out)
    have gl3 := Nat.lt_of_lt_of_le gl b3.size
    clear b3 R1 c0
    clear r0 rf0 r1 rf1 r2 rf2 rlt
    have r0 := R3.out.cell (o := 0) rfl
    have r1 := R3.out.cell (o := 1) rfl
    have r2 := R3.out.cell (o := 2) rfl
    have rf0 := R3.out.frozen 0
    have rf1 := R3.out.frozen 1
    have rf2 := R3.out.frozen 2
    have rlt := R3.out.lt
    have hNc : N = 0 ∨ N = 1 ∨ N = 2 := by omega
    have NOL : Hid (N ≠ 0 → ∀ op a b, ¬ IsIns s.data.toList op a b) := fun hne op' a b h => by
      have e := isIns_op HW.out h o1 o2 HO.out
      have e2 := (isIns_parts HW.out h).2.1
      rw [e, HN.out] at e2
      simp at e2
      omega
    rcases hNc with rfl | rfl | rfl
    rotate_left
    · have NO := hide (NOL.out (by decide))
      go_wp2_with fail
      have BV := B3
      have RF := ((R3.out.set 0 (.int .i64 0)).set 1 (.int .i64 0)).set 2 (.int .i64 0)
      refine bodyPost_ret (v := .tuple #[.agg #[.int .i64 0, .int .i64 0, .int .i64 0], .bool false]) (by simp [results, Tryd.results16, go_sem, RF.cell (o := 0) rfl, RF.cell (o := 1) rfl, RF.cell (o := 2) rfl]) rfl ?_
      refine ⟨.no NO.out, ?_⟩
      repeat (first | exact BV.out | refine Below.setCell ?_ (by simp <;> omega) _ | refine Below.al ?_ (Nat.le_refl _) _ | refine Below.alloc ?_ (by simp <;> omega) _)
    · have NO := hide (NOL.out (by decide))
      go_wp2_with fail
      have BV := B3
      have RF := ((R3.out.set 0 (.int .i64 0)).set 1 (.int .i64 0)).set 2 (.int .i64 0)
      refine bodyPost_ret (v := .tuple #[.agg #[.int .i64 0, .int .i64 0, .int .i64 0], .bool false]) (by simp [results, Tryd.results16, go_sem, RF.cell (o := 0) rfl, RF.cell (o := 1) rfl, RF.cell (o := 2) rfl]) rfl ?_
      refine ⟨.no NO.out, ?_⟩
      repeat (first | exact BV.out | refine Below.setCell ?_ (by simp <;> omega) _ | refine Below.al ?_ (Nat.le_refl _) _ | refine Below.alloc ?_ (by simp <;> omega) _)
    have lt3 := B3.out.size
    have lt3b := R3.out.lt
    have B4 : Hid (Below w.heap.size w (w3.alloc (.cells #[.int .i64 0, .int .i64 0] 61))) := B3.out.alloc lt3 _
    have R4 : Hid (Rec (w3.alloc (.cells #[.int .i64 0, .int .i64 0] 61)) w.heap.size 35 [.int .i64 0, .int .i64 0, .int .i64 0]) := R3.out.alloc _
    have N4 : Hid (Rec (w3.alloc (.cells #[.int .i64 0, .int .i64 0] 61)) w3.heap.size 61 [.int .i64 0, .int .i64 0]) := Rec.new' _ _ _ _ rfl
    have NQ := N4
    clear NQ
    by_cases hcap : cap = 1
    all_goals
      try subst hcap
      go_wp2_with fail
      refine wp_loop_rounds 1 ?_
      rw [rounds_succ]
      go_wp2_with fail
      have B9 : Hid (Below w.heap.size w ((w3.alloc (.cells #[.int .i64 0, .int .i64 0] 61)).alloc (.cells #[.int .i64 op, .int .i64 0, .int .i64 0] 35))) := Below.alloc B4.out (by simp <;> omega) _
      have R9 : Hid (Rec ((w3.alloc (.cells #[.int .i64 0, .int .i64 0] 61)).alloc (.cells #[.int .i64 op, .int .i64 0, .int .i64 0] 35)) w.heap.size 35 [.int .i64 0, .int .i64 0, .int .i64 0]) := (R4.out).alloc _
      have F9 : Hid (Rec ((w3.alloc (.cells #[.int .i64 0, .int .i64 0] 61)).alloc (.cells #[.int .i64 op, .int .i64 0, .int .i64 0] 35)) (w3.heap.size + 1) 35 [.int .i64 op, .int .i64 0, .int .i64 0]) := Rec.new' _ _ _ _ (by simp)
      generalize (w3.alloc (.cells #[.int .i64 0, .int .i64 0] 61)).alloc (.cells #[.int .i64 op, .int .i64 0, .int .i64 0] 35) = v9 at B9 R9 F9 ⊢
      obtain ⟨c, hc⟩ : ∃ c, insOk op 0 0 = c := ⟨_, rfl⟩
      have HC := hide hc
      clear hc
      refine (implInsOk_at op 0 0 c HC.out _).mono ?_
      rintro e v1 ⟨rfl, bz⟩
      have BV : Hid (Below w.heap.size w v1) := B9.out.trans (bz.mono B9.out.size)
      have R8 := hide (R9.out.below bz R9.out.lt)
      have F8 := hide (F9.out.below bz F9.out.lt)
      clear bz R9 F9 B9
      clear r0 rf0 r1 rf1 r2 rf2 rlt
      have r0 := R8.out.cell (o := 0) rfl
      have r1 := R8.out.cell (o := 1) rfl
      have r2 := R8.out.cell (o := 2) rfl
      have rf0 := R8.out.frozen 0
      have rf1 := R8.out.frozen 1
      have rf2 := R8.out.frozen 2
      have rlt := R8.out.lt
      have q0 := F8.out.cell (o := 0) rfl
      have q1 := F8.out.cell (o := 1) rfl
      have q2 := F8.out.cell (o := 2) rfl
      have qf0 := F8.out.frozen 0
      have qf1 := F8.out.frozen 1
      have qf2 := F8.out.frozen 2
      have qlt := F8.out.lt
      cases c
      · have NO : Hid (∀ op a b, ¬ IsIns s.data.toList op a b) := fun op' a b h => by
          have eo := isIns_op HW.out h o1 o2 HO.out
          subst eo
          have p := isIns_parts HW.out h
          have ea : a = 0 := (p.2.2.2.2.1 rfl)
          have eb : b = 0 := (p.2.2.2.2.2 (by simp))
          subst ea
          subst eb
          have h1 := h.1
          rw [HC.out] at h1
          cases h1
        go_wp2_with fail
        have RF := ((R8.out.set 0 (.int .i64 0)).set 1 (.int .i64 0)).set 2 (.int .i64 0)
        refine bodyPost_ret (v := .tuple #[.agg #[.int .i64 0, .int .i64 0, .int .i64 0], .bool false]) (by simp [results, Tryd.results16, go_sem, RF.cell (o := 0) rfl, RF.cell (o := 1) rfl, RF.cell (o := 2) rfl]) rfl ?_
        refine ⟨.no NO.out, ?_⟩
        repeat (first | exact BV.out | refine Below.setCell ?_ (by simp <;> omega) _ | refine Below.al ?_ (Nat.le_refl _) _ | refine Below.alloc ?_ (by simp <;> omega) _)
      · have YES : Hid (IsIns s.data.toList op 0 0) := by
          exact isIns_of HC.out (by rw [HW.out]; exact (by rw [insWs_eq0 HN.out, HO.out] : insWs op 0 0 = _).symm)
        go_wp2_with fail
        have RF := ((R8.out.set 0 (.int .i64 op)).set 1 (.int .i64 0)).set 2 (.int .i64 0)
        refine bodyPost_ret (v := .tuple #[.agg #[.int .i64 op, .int .i64 0, .int .i64 0], .bool true]) (by simp [results, Tryd.results16, go_sem, RF.cell (o := 0) rfl, RF.cell (o := 1) rfl, RF.cell (o := 2) rfl]) rfl ?_
        refine ⟨.yes YES.out, ?_⟩
        repeat (first | exact BV.out | refine Below.setCell ?_ (by simp <;> omega) _ | refine Below.al ?_ (Nat.le_refl _) _ | refine Below.alloc ?_ (by simp <;> omega) _)

set_option maxHeartbeats 3200000 in
theorem implInsRead_2 (s : ByteArray) (w : World) (hs : s.size ≤ 1048576) (hT : readAt w) (hK : ScanOk s.data.toList) (x y : List UInt8) (hW : cuts 32 s.data.toList = x :: y :: []) :
    Calls Tryd.prog 16 #[.string s] w fun e w' => InsAns s.data.toList e ∧ Below w.heap.size w w' := by
  have HT := hide hT
  have HW := hide hW
  clear hW hT
  go_enter Tryd.func16, Tryd.ntmps16
  go_wp2_with fail
  refine (insScan_any s _ hs).mono ?_
  rintro e w1 ⟨ha, b1⟩
  have R0 : Rec (w.alloc (.cells #[.int .i64 0, .int .i64 0, .int .i64 0] 35)) w.heap.size 35 [.int .i64 0, .int .i64 0, .int .i64 0] := Rec.new' _ _ _ _ rfl
  have R1 := hide (R0.below b1 R0.lt)
  have BW : Hid (Below w.heap.size w w1) := ((Below.refl _ _).alloc (Nat.le_refl _) _).trans (b1.mono (by simp))
  clear b1 R0
  cases ha with
  | no k => exact absurd hK k
  | yes _ hS =>
    rename_i g cap hk0
    rw [HW.out] at hS ⊢
    have c0 := hS.cell (i := 0) (x := x) rfl
    have c1 := hS.cell (i := 1) (x := y) rfl
    obtain ⟨sx, hsx⟩ : ∃ q : ByteArray, (⟨x.toArray⟩ : ByteArray) = q := ⟨_, rfl⟩
    have Hx : Hid (sx.data.toList = x) := by show _ = _; rw [← hsx]
    have zx : sx.size ≤ 1048576 := by
      rw [size_list, Hx.out]
      have h1 : x ∈ cuts 32 s.data.toList := by rw [HW.out]; simp
      have h2 := cutsFrom_size 32 s.data.toList [] x h1
      rw [← size_list] at h2
      simp at h2
      omega
    rw [hsx] at c0
    clear hsx
    obtain ⟨sy, hsy⟩ : ∃ q : ByteArray, (⟨y.toArray⟩ : ByteArray) = q := ⟨_, rfl⟩
    have Hy : Hid (sy.data.toList = y) := by show _ = _; rw [← hsy]
    have zy : sy.size ≤ 1048576 := by
      rw [size_list, Hy.out]
      have h1 : y ∈ cuts 32 s.data.toList := by rw [HW.out]; simp
      have h2 := cutsFrom_size 32 s.data.toList [] y h1
      rw [← size_list] at h2
      simp at h2
      omega
    rw [hsy] at c1
    clear hsy
    have gl := hS.lt.2
    have hcap0 : 2 ≤ cap := hS.cap
    clear hS
    simp only [List.length_cons, List.length_nil, Nat.zero_add]
    have HT1 := hide (HT.out.keep BW.out)
    go_wp2_with fail
    refine (insKind_any sx _ HT1.out.2.2).mono ?_
    rintro e w2 ⟨op, bk, rfl, hk1, hk2, rfl⟩
    rw [Hx.out] at hk1 hk2
    have r0 := R1.out.cell (o := 0) rfl
    have r1 := R1.out.cell (o := 1) rfl
    have r2 := R1.out.cell (o := 2) rfl
    have rf0 := R1.out.frozen 0
    have rf1 := R1.out.frozen 1
    have rf2 := R1.out.frozen 2
    have rlt := R1.out.lt
    cases bk
    · have NO : Hid (∀ op a b, ¬ IsIns s.data.toList op a b) := fun op a b h => hk2 rfl op.toNat (by have := isIns_span h; omega) (by have := isIns_span h; omega) (isIns_parts HW.out h).1
      clear hk1 hk2
      go_wp2_with fail
      have BV := BW
      have RF := ((R1.out.set 0 (.int .i64 0)).set 1 (.int .i64 0)).set 2 (.int .i64 0)
      refine bodyPost_ret (v := .tuple #[.agg #[.int .i64 0, .int .i64 0, .int .i64 0], .bool false]) (by simp [results, Tryd.results16, go_sem, RF.cell (o := 0) rfl, RF.cell (o := 1) rfl, RF.cell (o := 2) rfl]) rfl ?_
      refine ⟨.no NO.out, ?_⟩
      repeat (first | exact BV.out | refine Below.setCell ?_ (by simp <;> omega) _ | refine Below.al ?_ (Nat.le_refl _) _ | refine Below.alloc ?_ (by simp <;> omega) _)
    obtain ⟨o1, o2, o3⟩ := hk1 rfl
    have HO := hide o3
    clear hk1 hk2 o3
    obtain ⟨N, hN⟩ : ∃ N, spanN op = N := ⟨_, rfl⟩
    have HN := hide hN
    have hN2 : N ≤ 2 := by rw [← hN]; exact spanN_le op
    clear hN
    go_wp2_with fail
    refine (has_at op N HN.out _).mono ?_
    rintro e w3 ⟨rfl, b3⟩
    have B3 : Hid (Below w.heap.size w w3) := BW.out.trans (b3.mono BW.out.size)
    have R3 := hide (R1.out.below b3 R1.out.lt)
    have HT3 := hide (HT.out.keep B3.out)
    have d1 : w3.cell? ⟨g, 1, none⟩ = some (.string sy) := by rw [b3.cell (p := ⟨g, 1, none⟩) gl]; exact c1
    have gl3 := Nat.lt_of_lt_of_le gl b3.size
    clear b3 R1 c0 c1
    clear r0 rf0 r1 rf1 r2 rf2 rlt
    have r0 := R3.out.cell (o := 0) rfl
    have r1 := R3.out.cell (o := 1) rfl
    have r2 := R3.out.cell (o := 2) rfl
    have rf0 := R3.out.frozen 0
    have rf1 := R3.out.frozen 1
    have rf2 := R3.out.frozen 2
    have rlt := R3.out.lt
    have hNc : N = 1 ∨ N = 0 ∨ N = 2 := by omega
    have NOL : Hid (N ≠ 1 → ∀ op a b, ¬ IsIns s.data.toList op a b) := fun hne op' a b h => by
      have e := isIns_op HW.out h o1 o2 HO.out
      have e2 := (isIns_parts HW.out h).2.1
      rw [e, HN.out] at e2
      simp at e2
      omega
    rcases hNc with rfl | rfl | rfl
    rotate_left
    · have NO := hide (NOL.out (by decide))
      go_wp2_with fail
      have BV := B3
      have RF := ((R3.out.set 0 (.int .i64 0)).set 1 (.int .i64 0)).set 2 (.int .i64 0)
      refine bodyPost_ret (v := .tuple #[.agg #[.int .i64 0, .int .i64 0, .int .i64 0], .bool false]) (by simp [results, Tryd.results16, go_sem, RF.cell (o := 0) rfl, RF.cell (o := 1) rfl, RF.cell (o := 2) rfl]) rfl ?_
      refine ⟨.no NO.out, ?_⟩
      repeat (first | exact BV.out | refine Below.setCell ?_ (by simp <;> omega) _ | refine Below.al ?_ (Nat.le_refl _) _ | refine Below.alloc ?_ (by simp <;> omega) _)
    · have NO := hide (NOL.out (by decide))
      go_wp2_with fail
      have BV := B3
      have RF := ((R3.out.set 0 (.int .i64 0)).set 1 (.int .i64 0)).set 2 (.int .i64 0)
      refine bodyPost_ret (v := .tuple #[.agg #[.int .i64 0, .int .i64 0, .int .i64 0], .bool false]) (by simp [results, Tryd.results16, go_sem, RF.cell (o := 0) rfl, RF.cell (o := 1) rfl, RF.cell (o := 2) rfl]) rfl ?_
      refine ⟨.no NO.out, ?_⟩
      repeat (first | exact BV.out | refine Below.setCell ?_ (by simp <;> omega) _ | refine Below.al ?_ (Nat.le_refl _) _ | refine Below.alloc ?_ (by simp <;> omega) _)
    have lt3 := B3.out.size
    have lt3b := R3.out.lt
    have B4 : Hid (Below w.heap.size w (w3.alloc (.cells #[.int .i64 0, .int .i64 0] 61))) := B3.out.alloc lt3 _
    have R4 : Hid (Rec (w3.alloc (.cells #[.int .i64 0, .int .i64 0] 61)) w.heap.size 35 [.int .i64 0, .int .i64 0, .int .i64 0]) := R3.out.alloc _
    have N4 : Hid (Rec (w3.alloc (.cells #[.int .i64 0, .int .i64 0] 61)) w3.heap.size 61 [.int .i64 0, .int .i64 0]) := Rec.new' _ _ _ _ rfl
    have hcap1 : ¬ cap = 1 := by omega
    have hcap2 : 1 < cap := by omega
    go_wp2_with fail
    refine wp_loop_rounds 2 ?_
    rw [rounds_succ]
    go_wp2_with fail
    generalize w3.alloc (.cells #[.int .i64 0, .int .i64 0] 61) = v4 at B4 R4 N4 ⊢
    have HT4 := hide (HT.out.keep B4.out)
    refine (ofRead_any sy _ zy HT4.out.1 HT4.out.2.1).mono ?_
    rintro e w4 ⟨bb, n, bq4, rfl, hq1, hq2, hq3⟩
    rw [Hy.out] at hq1 hq3
    have HR1 := hide hq3
    have P4 : Hid (bq4 = true → ofTxtI n = y) := hq1
    clear hq1 hq2 hq3
    have B5 : Hid (Below w.heap.size w w4) := B4.out.trans (bb.mono B4.out.size)
    have R5 := hide (R4.out.below bb R4.out.lt)
    have N5 := hide (N4.out.below bb N4.out.lt)
    clear bb B4 R4 N4
    clear r0 rf0 r1 rf1 r2 rf2 rlt
    have r0 := R5.out.cell (o := 0) rfl
    have r1 := R5.out.cell (o := 1) rfl
    have r2 := R5.out.cell (o := 2) rfl
    have rf0 := R5.out.frozen 0
    have rf1 := R5.out.frozen 1
    have rf2 := R5.out.frozen 2
    have rlt := R5.out.lt
    have n0 := N5.out.cell (o := 0) rfl
    have n1 := N5.out.cell (o := 1) rfl
    have nf0 := N5.out.frozen 0
    have nf1 := N5.out.frozen 1
    have nlt := N5.out.lt
    cases bq4
    · have NO : Hid (∀ op a b, ¬ IsIns s.data.toList op a b) := fun op' a b h => by
        have p := isIns_parts HW.out h
        have := (HR1.out a (p.2.2.1 _ rfl).2.1 (p.2.2.1 _ rfl).2.2 (p.2.2.1 _ rfl).1).1
        cases this
      go_wp2_with fail
      have BV := B5
      have RF := ((R5.out.set 0 (.int .i64 0)).set 1 (.int .i64 0)).set 2 (.int .i64 0)
      refine bodyPost_ret (v := .tuple #[.agg #[.int .i64 0, .int .i64 0, .int .i64 0], .bool false]) (by simp [results, Tryd.results16, go_sem, RF.cell (o := 0) rfl, RF.cell (o := 1) rfl, RF.cell (o := 2) rfl]) rfl ?_
      refine ⟨.no NO.out, ?_⟩
      repeat (first | exact BV.out | refine Below.setCell ?_ (by simp <;> omega) _ | refine Below.al ?_ (Nat.le_refl _) _ | refine Below.alloc ?_ (by simp <;> omega) _)
    have HY := hide (P4.out rfl)
    clear P4
    go_wp2_with fail
    rw [rounds_succ]
    go_wp2_with fail
    have B9 : Hid (Below w.heap.size w ((w4.setCell ⟨w3.heap.size, 0, none⟩ (.int .i64 n)).alloc (.cells #[.int .i64 op, .int .i64 n, .int .i64 0] 35))) := Below.alloc (Below.setCell B5.out (by simp <;> omega) _) (by simp <;> omega) _
    have R9 : Hid (Rec ((w4.setCell ⟨w3.heap.size, 0, none⟩ (.int .i64 n)).alloc (.cells #[.int .i64 op, .int .i64 n, .int .i64 0] 35)) w.heap.size 35 [.int .i64 0, .int .i64 0, .int .i64 0]) := (R5.out.other (by omega) _ _).alloc _
    have F9 : Hid (Rec ((w4.setCell ⟨w3.heap.size, 0, none⟩ (.int .i64 n)).alloc (.cells #[.int .i64 op, .int .i64 n, .int .i64 0] 35)) w4.heap.size 35 [.int .i64 op, .int .i64 n, .int .i64 0]) := Rec.new' _ _ _ _ (by simp)
    generalize (w4.setCell ⟨w3.heap.size, 0, none⟩ (.int .i64 n)).alloc (.cells #[.int .i64 op, .int .i64 n, .int .i64 0] 35) = v9 at B9 R9 F9 ⊢
    obtain ⟨c, hc⟩ : ∃ c, insOk op n 0 = c := ⟨_, rfl⟩
    have HC := hide hc
    clear hc
    refine (implInsOk_at op n 0 c HC.out _).mono ?_
    rintro e v1 ⟨rfl, bz⟩
    have BV : Hid (Below w.heap.size w v1) := B9.out.trans (bz.mono B9.out.size)
    have R8 := hide (R9.out.below bz R9.out.lt)
    have F8 := hide (F9.out.below bz F9.out.lt)
    clear bz R9 F9 B9
    clear r0 rf0 r1 rf1 r2 rf2 rlt
    have r0 := R8.out.cell (o := 0) rfl
    have r1 := R8.out.cell (o := 1) rfl
    have r2 := R8.out.cell (o := 2) rfl
    have rf0 := R8.out.frozen 0
    have rf1 := R8.out.frozen 1
    have rf2 := R8.out.frozen 2
    have rlt := R8.out.lt
    have q0 := F8.out.cell (o := 0) rfl
    have q1 := F8.out.cell (o := 1) rfl
    have q2 := F8.out.cell (o := 2) rfl
    have qf0 := F8.out.frozen 0
    have qf1 := F8.out.frozen 1
    have qf2 := F8.out.frozen 2
    have qlt := F8.out.lt
    cases c
    · have NO : Hid (∀ op a b, ¬ IsIns s.data.toList op a b) := fun op' a b h => by
        have eo := isIns_op HW.out h o1 o2 HO.out
        subst eo
        have p := isIns_parts HW.out h
        have ea : a = n := ((HR1.out a (p.2.2.1 _ rfl).2.1 (p.2.2.1 _ rfl).2.2 (p.2.2.1 _ rfl).1).2.symm)
        have eb : b = 0 := (p.2.2.2.2.2 (by simp))
        subst ea
        subst eb
        have h1 := h.1
        rw [HC.out] at h1
        cases h1
      go_wp2_with fail
      have RF := ((R8.out.set 0 (.int .i64 0)).set 1 (.int .i64 0)).set 2 (.int .i64 0)
      refine bodyPost_ret (v := .tuple #[.agg #[.int .i64 0, .int .i64 0, .int .i64 0], .bool false]) (by simp [results, Tryd.results16, go_sem, RF.cell (o := 0) rfl, RF.cell (o := 1) rfl, RF.cell (o := 2) rfl]) rfl ?_
      refine ⟨.no NO.out, ?_⟩
      repeat (first | exact BV.out | refine Below.setCell ?_ (by simp <;> omega) _ | refine Below.al ?_ (Nat.le_refl _) _ | refine Below.alloc ?_ (by simp <;> omega) _)
    · have YES : Hid (IsIns s.data.toList op n 0) := by
        exact isIns_of HC.out (by rw [HW.out]; exact (by rw [insWs_eq1 HN.out, HO.out, ← ofTxtI_small (insOk_one HC.out HN.out).1, HY.out] : insWs op n 0 = _).symm)
      go_wp2_with fail
      have RF := ((R8.out.set 0 (.int .i64 op)).set 1 (.int .i64 n)).set 2 (.int .i64 0)
      refine bodyPost_ret (v := .tuple #[.agg #[.int .i64 op, .int .i64 n, .int .i64 0], .bool true]) (by simp [results, Tryd.results16, go_sem, RF.cell (o := 0) rfl, RF.cell (o := 1) rfl, RF.cell (o := 2) rfl]) rfl ?_
      refine ⟨.yes YES.out, ?_⟩
      repeat (first | exact BV.out | refine Below.setCell ?_ (by simp <;> omega) _ | refine Below.al ?_ (Nat.le_refl _) _ | refine Below.alloc ?_ (by simp <;> omega) _)

set_option maxHeartbeats 3200000 in
theorem implInsRead_3 (s : ByteArray) (w : World) (hs : s.size ≤ 1048576) (hT : readAt w) (hK : ScanOk s.data.toList) (x y z : List UInt8) (hW : cuts 32 s.data.toList = x :: y :: z :: []) :
    Calls Tryd.prog 16 #[.string s] w fun e w' => InsAns s.data.toList e ∧ Below w.heap.size w w' := by
  have HT := hide hT
  have HW := hide hW
  clear hW hT
  go_enter Tryd.func16, Tryd.ntmps16
  go_wp2_with fail
  refine (insScan_any s _ hs).mono ?_
  rintro e w1 ⟨ha, b1⟩
  have R0 : Rec (w.alloc (.cells #[.int .i64 0, .int .i64 0, .int .i64 0] 35)) w.heap.size 35 [.int .i64 0, .int .i64 0, .int .i64 0] := Rec.new' _ _ _ _ rfl
  have R1 := hide (R0.below b1 R0.lt)
  have BW : Hid (Below w.heap.size w w1) := ((Below.refl _ _).alloc (Nat.le_refl _) _).trans (b1.mono (by simp))
  clear b1 R0
  cases ha with
  | no k => exact absurd hK k
  | yes _ hS =>
    rename_i g cap hk0
    rw [HW.out] at hS ⊢
    have c0 := hS.cell (i := 0) (x := x) rfl
    have c1 := hS.cell (i := 1) (x := y) rfl
    have c2 := hS.cell (i := 2) (x := z) rfl
    obtain ⟨sx, hsx⟩ : ∃ q : ByteArray, (⟨x.toArray⟩ : ByteArray) = q := ⟨_, rfl⟩
    have Hx : Hid (sx.data.toList = x) := by show _ = _; rw [← hsx]
    have zx : sx.size ≤ 1048576 := by
      rw [size_list, Hx.out]
      have h1 : x ∈ cuts 32 s.data.toList := by rw [HW.out]; simp
      have h2 := cutsFrom_size 32 s.data.toList [] x h1
      rw [← size_list] at h2
      simp at h2
      omega
    rw [hsx] at c0
    clear hsx
    obtain ⟨sy, hsy⟩ : ∃ q : ByteArray, (⟨y.toArray⟩ : ByteArray) = q := ⟨_, rfl⟩
    have Hy : Hid (sy.data.toList = y) := by show _ = _; rw [← hsy]
    have zy : sy.size ≤ 1048576 := by
      rw [size_list, Hy.out]
      have h1 : y ∈ cuts 32 s.data.toList := by rw [HW.out]; simp
      have h2 := cutsFrom_size 32 s.data.toList [] y h1
      rw [← size_list] at h2
      simp at h2
      omega
    rw [hsy] at c1
    clear hsy
    obtain ⟨sz, hsz⟩ : ∃ q : ByteArray, (⟨z.toArray⟩ : ByteArray) = q := ⟨_, rfl⟩
    have Hz : Hid (sz.data.toList = z) := by show _ = _; rw [← hsz]
    have zz : sz.size ≤ 1048576 := by
      rw [size_list, Hz.out]
      have h1 : z ∈ cuts 32 s.data.toList := by rw [HW.out]; simp
      have h2 := cutsFrom_size 32 s.data.toList [] z h1
      rw [← size_list] at h2
      simp at h2
      omega
    rw [hsz] at c2
    clear hsz
    have gl := hS.lt.2
    have hcap0 : 3 ≤ cap := hS.cap
    clear hS
    simp only [List.length_cons, List.length_nil, Nat.zero_add]
    have HT1 := hide (HT.out.keep BW.out)
    go_wp2_with fail
    refine (insKind_any sx _ HT1.out.2.2).mono ?_
    rintro e w2 ⟨op, bk, rfl, hk1, hk2, rfl⟩
    rw [Hx.out] at hk1 hk2
    have r0 := R1.out.cell (o := 0) rfl
    have r1 := R1.out.cell (o := 1) rfl
    have r2 := R1.out.cell (o := 2) rfl
    have rf0 := R1.out.frozen 0
    have rf1 := R1.out.frozen 1
    have rf2 := R1.out.frozen 2
    have rlt := R1.out.lt
    cases bk
    · have NO : Hid (∀ op a b, ¬ IsIns s.data.toList op a b) := fun op a b h => hk2 rfl op.toNat (by have := isIns_span h; omega) (by have := isIns_span h; omega) (isIns_parts HW.out h).1
      clear hk1 hk2
      go_wp2_with fail
      have BV := BW
      have RF := ((R1.out.set 0 (.int .i64 0)).set 1 (.int .i64 0)).set 2 (.int .i64 0)
      refine bodyPost_ret (v := .tuple #[.agg #[.int .i64 0, .int .i64 0, .int .i64 0], .bool false]) (by simp [results, Tryd.results16, go_sem, RF.cell (o := 0) rfl, RF.cell (o := 1) rfl, RF.cell (o := 2) rfl]) rfl ?_
      refine ⟨.no NO.out, ?_⟩
      repeat (first | exact BV.out | refine Below.setCell ?_ (by simp <;> omega) _ | refine Below.al ?_ (Nat.le_refl _) _ | refine Below.alloc ?_ (by simp <;> omega) _)
    obtain ⟨o1, o2, o3⟩ := hk1 rfl
    have HO := hide o3
    clear hk1 hk2 o3
    obtain ⟨N, hN⟩ : ∃ N, spanN op = N := ⟨_, rfl⟩
    have HN := hide hN
    have hN2 : N ≤ 2 := by rw [← hN]; exact spanN_le op
    clear hN
    go_wp2_with fail
    refine (has_at op N HN.out _).mono ?_
    rintro e w3 ⟨rfl, b3⟩
    have B3 : Hid (Below w.heap.size w w3) := BW.out.trans (b3.mono BW.out.size)
    have R3 := hide (R1.out.below b3 R1.out.lt)
    have HT3 := hide (HT.out.keep B3.out)
    have d1 : w3.cell? ⟨g, 1, none⟩ = some (.string sy) := by rw [b3.cell (p := ⟨g, 1, none⟩) gl]; exact c1
    have d2 : w3.cell? ⟨g, 2, none⟩ = some (.string sz) := by rw [b3.cell (p := ⟨g, 2, none⟩) gl]; exact c2
    have gl3 := Nat.lt_of_lt_of_le gl b3.size
    clear b3 R1 c0 c1 c2
    clear r0 rf0 r1 rf1 r2 rf2 rlt
    have r0 := R3.out.cell (o := 0) rfl
    have r1 := R3.out.cell (o := 1) rfl
    have r2 := R3.out.cell (o := 2) rfl
    have rf0 := R3.out.frozen 0
    have rf1 := R3.out.frozen 1
    have rf2 := R3.out.frozen 2
    have rlt := R3.out.lt
    have hNc : N = 2 ∨ N = 0 ∨ N = 1 := by omega
    have NOL : Hid (N ≠ 2 → ∀ op a b, ¬ IsIns s.data.toList op a b) := fun hne op' a b h => by
      have e := isIns_op HW.out h o1 o2 HO.out
      have e2 := (isIns_parts HW.out h).2.1
      rw [e, HN.out] at e2
      simp at e2
      omega
    rcases hNc with rfl | rfl | rfl
    rotate_left
    · have NO := hide (NOL.out (by decide))
      go_wp2_with fail
      have BV := B3
      have RF := ((R3.out.set 0 (.int .i64 0)).set 1 (.int .i64 0)).set 2 (.int .i64 0)
      refine bodyPost_ret (v := .tuple #[.agg #[.int .i64 0, .int .i64 0, .int .i64 0], .bool false]) (by simp [results, Tryd.results16, go_sem, RF.cell (o := 0) rfl, RF.cell (o := 1) rfl, RF.cell (o := 2) rfl]) rfl ?_
      refine ⟨.no NO.out, ?_⟩
      repeat (first | exact BV.out | refine Below.setCell ?_ (by simp <;> omega) _ | refine Below.al ?_ (Nat.le_refl _) _ | refine Below.alloc ?_ (by simp <;> omega) _)
    · have NO := hide (NOL.out (by decide))
      go_wp2_with fail
      have BV := B3
      have RF := ((R3.out.set 0 (.int .i64 0)).set 1 (.int .i64 0)).set 2 (.int .i64 0)
      refine bodyPost_ret (v := .tuple #[.agg #[.int .i64 0, .int .i64 0, .int .i64 0], .bool false]) (by simp [results, Tryd.results16, go_sem, RF.cell (o := 0) rfl, RF.cell (o := 1) rfl, RF.cell (o := 2) rfl]) rfl ?_
      refine ⟨.no NO.out, ?_⟩
      repeat (first | exact BV.out | refine Below.setCell ?_ (by simp <;> omega) _ | refine Below.al ?_ (Nat.le_refl _) _ | refine Below.alloc ?_ (by simp <;> omega) _)
    have lt3 := B3.out.size
    have lt3b := R3.out.lt
    have B4 : Hid (Below w.heap.size w (w3.alloc (.cells #[.int .i64 0, .int .i64 0] 61))) := B3.out.alloc lt3 _
    have R4 : Hid (Rec (w3.alloc (.cells #[.int .i64 0, .int .i64 0] 61)) w.heap.size 35 [.int .i64 0, .int .i64 0, .int .i64 0]) := R3.out.alloc _
    have N4 : Hid (Rec (w3.alloc (.cells #[.int .i64 0, .int .i64 0] 61)) w3.heap.size 61 [.int .i64 0, .int .i64 0]) := Rec.new' _ _ _ _ rfl
    have hcap1 : ¬ cap = 1 := by omega
    have hcap2 : 1 < cap := by omega
    go_wp2_with fail
    refine wp_loop_rounds 3 ?_
    rw [rounds_succ]
    go_wp2_with fail
    have e2 : (w3.alloc (.cells #[.int .i64 0, .int .i64 0] 61)).cell? ⟨g, 2, none⟩ = some (.string sz) := by rw [(Below.refl w3.heap.size w3).alloc (Nat.le_refl _) _ |>.cell (p := ⟨g, 2, none⟩) gl3]; exact d2
    generalize w3.alloc (.cells #[.int .i64 0, .int .i64 0] 61) = v4 at B4 R4 N4 e2 ⊢
    have HT4 := hide (HT.out.keep B4.out)
    refine (ofRead_any sy _ zy HT4.out.1 HT4.out.2.1).mono ?_
    rintro e w4 ⟨bb, n, bq4, rfl, hq1, hq2, hq3⟩
    rw [Hy.out] at hq1 hq3
    have HR1 := hide hq3
    have P4 : Hid (bq4 = true → ofTxtI n = y) := hq1
    clear hq1 hq2 hq3
    have B5 : Hid (Below w.heap.size w w4) := B4.out.trans (bb.mono B4.out.size)
    have R5 := hide (R4.out.below bb R4.out.lt)
    have N5 := hide (N4.out.below bb N4.out.lt)
    have g4 := Nat.lt_trans gl3 N4.out.lt
    have e3 : w4.cell? ⟨g, 2, none⟩ = some (.string sz) := by rw [bb.cell (p := ⟨g, 2, none⟩) g4]; exact e2
    clear e2 d1 d2
    clear bb B4 R4 N4
    clear r0 rf0 r1 rf1 r2 rf2 rlt
    have r0 := R5.out.cell (o := 0) rfl
    have r1 := R5.out.cell (o := 1) rfl
    have r2 := R5.out.cell (o := 2) rfl
    have rf0 := R5.out.frozen 0
    have rf1 := R5.out.frozen 1
    have rf2 := R5.out.frozen 2
    have rlt := R5.out.lt
    have n0 := N5.out.cell (o := 0) rfl
    have n1 := N5.out.cell (o := 1) rfl
    have nf0 := N5.out.frozen 0
    have nf1 := N5.out.frozen 1
    have nlt := N5.out.lt
    cases bq4
    · have NO : Hid (∀ op a b, ¬ IsIns s.data.toList op a b) := fun op' a b h => by
        have p := isIns_parts HW.out h
        have := (HR1.out a (p.2.2.1 _ rfl).2.1 (p.2.2.1 _ rfl).2.2 (p.2.2.1 _ rfl).1).1
        cases this
      go_wp2_with fail
      have BV := B5
      have RF := ((R5.out.set 0 (.int .i64 0)).set 1 (.int .i64 0)).set 2 (.int .i64 0)
      refine bodyPost_ret (v := .tuple #[.agg #[.int .i64 0, .int .i64 0, .int .i64 0], .bool false]) (by simp [results, Tryd.results16, go_sem, RF.cell (o := 0) rfl, RF.cell (o := 1) rfl, RF.cell (o := 2) rfl]) rfl ?_
      refine ⟨.no NO.out, ?_⟩
      repeat (first | exact BV.out | refine Below.setCell ?_ (by simp <;> omega) _ | refine Below.al ?_ (Nat.le_refl _) _ | refine Below.alloc ?_ (by simp <;> omega) _)
    have HY := hide (P4.out rfl)
    clear P4
    go_wp2_with fail
    rw [rounds_succ]
    go_wp2_with fail
    have B6 : Hid (Below w.heap.size w (w4.setCell ⟨w3.heap.size, 0, none⟩ (.int .i64 n))) := Below.setCell B5.out (by simp <;> omega) _
    have R6 : Hid (Rec (w4.setCell ⟨w3.heap.size, 0, none⟩ (.int .i64 n)) w.heap.size 35 [.int .i64 0, .int .i64 0, .int .i64 0]) := R5.out.other (by omega) _ _
    have N6 : Hid (Rec (w4.setCell ⟨w3.heap.size, 0, none⟩ (.int .i64 n)) w3.heap.size 61 [.int .i64 n, .int .i64 0]) := N5.out.set 0 _
    generalize w4.setCell ⟨w3.heap.size, 0, none⟩ (.int .i64 n) = v6 at B6 R6 N6 ⊢
    clear B5 R5 N5
    clear r0 rf0 r1 rf1 r2 rf2 rlt
    clear n0 nf0 n1 nf1 nlt
    have HT6 := hide (HT.out.keep B6.out)
    refine (ofRead_any sz _ zz HT6.out.1 HT6.out.2.1).mono ?_
    rintro e w6 ⟨bb, m, bq6, rfl, hq1, hq2, hq3⟩
    rw [Hz.out] at hq1 hq3
    have HR2 := hide hq3
    have P6 : Hid (bq6 = true → ofTxtI m = z) := hq1
    clear hq1 hq2 hq3
    have B7 : Hid (Below w.heap.size w w6) := B6.out.trans (bb.mono B6.out.size)
    have R7 := hide (R6.out.below bb R6.out.lt)
    have N7 := hide (N6.out.below bb N6.out.lt)
    clear bb B6 R6 N6
    have r0 := R7.out.cell (o := 0) rfl
    have r1 := R7.out.cell (o := 1) rfl
    have r2 := R7.out.cell (o := 2) rfl
    have rf0 := R7.out.frozen 0
    have rf1 := R7.out.frozen 1
    have rf2 := R7.out.frozen 2
    have rlt := R7.out.lt
    have n0 := N7.out.cell (o := 0) rfl
    have n1 := N7.out.cell (o := 1) rfl
    have nf0 := N7.out.frozen 0
    have nf1 := N7.out.frozen 1
    have nlt := N7.out.lt
    cases bq6
    · have NO : Hid (∀ op a b, ¬ IsIns s.data.toList op a b) := fun op' a b h => by
        have p := isIns_parts HW.out h
        have := (HR2.out b (by have := (p.2.2.2.1 _ rfl).2.1; omega) (p.2.2.2.1 _ rfl).2.2 (p.2.2.2.1 _ rfl).1).1
        cases this
      go_wp2_with fail
      have BV := B7
      have RF := ((R7.out.set 0 (.int .i64 0)).set 1 (.int .i64 0)).set 2 (.int .i64 0)
      refine bodyPost_ret (v := .tuple #[.agg #[.int .i64 0, .int .i64 0, .int .i64 0], .bool false]) (by simp [results, Tryd.results16, go_sem, RF.cell (o := 0) rfl, RF.cell (o := 1) rfl, RF.cell (o := 2) rfl]) rfl ?_
      refine ⟨.no NO.out, ?_⟩
      repeat (first | exact BV.out | refine Below.setCell ?_ (by simp <;> omega) _ | refine Below.al ?_ (Nat.le_refl _) _ | refine Below.alloc ?_ (by simp <;> omega) _)
    have HZ := hide (P6.out rfl)
    clear P6
    go_wp2_with fail
    rw [rounds_succ]
    go_wp2_with fail
    have B9 : Hid (Below w.heap.size w ((w6.setCell ⟨w3.heap.size, 1, none⟩ (.int .i64 m)).alloc (.cells #[.int .i64 op, .int .i64 n, .int .i64 m] 35))) := Below.alloc (Below.setCell B7.out (by simp <;> omega) _) (by simp <;> omega) _
    have R9 : Hid (Rec ((w6.setCell ⟨w3.heap.size, 1, none⟩ (.int .i64 m)).alloc (.cells #[.int .i64 op, .int .i64 n, .int .i64 m] 35)) w.heap.size 35 [.int .i64 0, .int .i64 0, .int .i64 0]) := (R7.out.other (by omega) _ _).alloc _
    have F9 : Hid (Rec ((w6.setCell ⟨w3.heap.size, 1, none⟩ (.int .i64 m)).alloc (.cells #[.int .i64 op, .int .i64 n, .int .i64 m] 35)) w6.heap.size 35 [.int .i64 op, .int .i64 n, .int .i64 m]) := Rec.new' _ _ _ _ (by simp)
    generalize (w6.setCell ⟨w3.heap.size, 1, none⟩ (.int .i64 m)).alloc (.cells #[.int .i64 op, .int .i64 n, .int .i64 m] 35) = v9 at B9 R9 F9 ⊢
    obtain ⟨c, hc⟩ : ∃ c, insOk op n m = c := ⟨_, rfl⟩
    have HC := hide hc
    clear hc
    refine (implInsOk_at op n m c HC.out _).mono ?_
    rintro e v1 ⟨rfl, bz⟩
    have BV : Hid (Below w.heap.size w v1) := B9.out.trans (bz.mono B9.out.size)
    have R8 := hide (R9.out.below bz R9.out.lt)
    have F8 := hide (F9.out.below bz F9.out.lt)
    clear bz R9 F9 B9
    clear r0 rf0 r1 rf1 r2 rf2 rlt
    have r0 := R8.out.cell (o := 0) rfl
    have r1 := R8.out.cell (o := 1) rfl
    have r2 := R8.out.cell (o := 2) rfl
    have rf0 := R8.out.frozen 0
    have rf1 := R8.out.frozen 1
    have rf2 := R8.out.frozen 2
    have rlt := R8.out.lt
    have q0 := F8.out.cell (o := 0) rfl
    have q1 := F8.out.cell (o := 1) rfl
    have q2 := F8.out.cell (o := 2) rfl
    have qf0 := F8.out.frozen 0
    have qf1 := F8.out.frozen 1
    have qf2 := F8.out.frozen 2
    have qlt := F8.out.lt
    cases c
    · have NO : Hid (∀ op a b, ¬ IsIns s.data.toList op a b) := fun op' a b h => by
        have eo := isIns_op HW.out h o1 o2 HO.out
        subst eo
        have p := isIns_parts HW.out h
        have ea : a = n := ((HR1.out a (p.2.2.1 _ rfl).2.1 (p.2.2.1 _ rfl).2.2 (p.2.2.1 _ rfl).1).2.symm)
        have eb : b = m := ((HR2.out b (by have := (p.2.2.2.1 _ rfl).2.1; omega) (p.2.2.2.1 _ rfl).2.2 (p.2.2.2.1 _ rfl).1).2.symm)
        subst ea
        subst eb
        have h1 := h.1
        rw [HC.out] at h1
        cases h1
      go_wp2_with fail
      have RF := ((R8.out.set 0 (.int .i64 0)).set 1 (.int .i64 0)).set 2 (.int .i64 0)
      refine bodyPost_ret (v := .tuple #[.agg #[.int .i64 0, .int .i64 0, .int .i64 0], .bool false]) (by simp [results, Tryd.results16, go_sem, RF.cell (o := 0) rfl, RF.cell (o := 1) rfl, RF.cell (o := 2) rfl]) rfl ?_
      refine ⟨.no NO.out, ?_⟩
      repeat (first | exact BV.out | refine Below.setCell ?_ (by simp <;> omega) _ | refine Below.al ?_ (Nat.le_refl _) _ | refine Below.alloc ?_ (by simp <;> omega) _)
    · have YES : Hid (IsIns s.data.toList op n m) := by
        have ao := insOk_two HC.out HN.out
        have a1 : -2 ≤ n := by omega
        have a2 : -2 ≤ m := by omega
        exact isIns_of HC.out (by rw [HW.out]; exact (by rw [insWs_eq2 HN.out, HO.out, ← ofTxtI_small (a1 : -2 ≤ n), ← ofTxtI_small (a2 : -2 ≤ m), HY.out, HZ.out] : insWs op n m = _).symm)
      go_wp2_with fail
      have RF := ((R8.out.set 0 (.int .i64 op)).set 1 (.int .i64 n)).set 2 (.int .i64 m)
      refine bodyPost_ret (v := .tuple #[.agg #[.int .i64 op, .int .i64 n, .int .i64 m], .bool true]) (by simp [results, Tryd.results16, go_sem, RF.cell (o := 0) rfl, RF.cell (o := 1) rfl, RF.cell (o := 2) rfl]) rfl ?_
      refine ⟨.yes YES.out, ?_⟩
      repeat (first | exact BV.out | refine Below.setCell ?_ (by simp <;> omega) _ | refine Below.al ?_ (Nat.le_refl _) _ | refine Below.alloc ?_ (by simp <;> omega) _)

theorem implInsRead_any (s : ByteArray) (w : World) (hs : s.size ≤ 1048576) (hT : readAt w) :
    Calls Tryd.prog 16 #[.string s] w fun e w' => InsAns s.data.toList e ∧ Below w.heap.size w w' := by
  by_cases hK : ScanOk s.data.toList
  · rcases hW : cuts 32 s.data.toList with _ | ⟨x, _ | ⟨y, _ | ⟨z, _ | ⟨q, t⟩⟩⟩⟩
    · have := cutsFrom_ne 32 s.data.toList []
      have h2 : (cuts 32 s.data.toList).length = 0 := by rw [hW]; rfl
      unfold cuts at h2
      omega
    · exact implInsRead_1 s w hs hT hK x hW
    · exact implInsRead_2 s w hs hT hK x y hW
    · exact implInsRead_3 s w hs hT hK x y z hW
    · have := hK.2
      rw [hW] at this
      simp at this
  · exact implInsRead_no s w hs hK
end Go.Proofs.YtdicmlbgpbglpaaDoor
