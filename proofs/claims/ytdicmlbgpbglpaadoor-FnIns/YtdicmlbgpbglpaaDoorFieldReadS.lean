/- FieldRead of the model: the field whose text it is, or none. -/
import Derived.Test.YtdicmlbgpbglpaaDoorNum14b
import Derived.Test.YtdicmlbgpbglpaaDoorFieldReadI
namespace Go.Proofs.YtdicmlbgpbglpaaDoor
open Go.ChangeShapes Go.WideShapes Go.ChangeAt Go.RowKit Go.Joins
set_option linter.unusedVariables false

/-- The answer: a number; the one that was written, if it was. -/
def OfAns (l : List UInt8) (e : Ending) : Prop := ∃ (n : Int) (b : Bool), e = .returned (.tuple #[.int .i64 n, .bool b]) ∧ (-1000000000000000000 < n ∧ n < 1000000000000000000) ∧ (∀ o, -2 ≤ o → o < 1000000 → l = ofTxt o → n = o)

set_option maxHeartbeats 800000 in
theorem l2OfRead_any (s : ByteArray) (w : World) (hs : s.size ≤ 1048576) :
    Calls Tryd.prog 24 #[.string s] w fun e w' => OfAns s.data.toList e ∧ w' = w := by
  by_cases ha : s.data.toList = [97, 110, 121]
  · have HA := hide ha
    have h1 : (s.toList == [97, 110, 121]) = true := by rw [ByteArray.toList_eq, ha]; decide
    clear ha
    go_enter Tryd.func24, Tryd.ntmps24
    go_wp2_with fail
    refine bodyPost_ret (v := .tuple #[.int .i64 (-1), .bool true]) (by simp [results, Tryd.results24, go_sem]) rfl ?_
    refine ⟨⟨-1, true, rfl, by omega, fun o h1 h2 h3 => ?_⟩, rfl⟩
    rw [HA.out] at h3
    by_cases e1 : o = -1
    · exact e1.symm
    · exfalso
      unfold ofTxt at h3
      rw [if_neg e1] at h3
      split at h3
      · exact absurd h3 (by decide)
      · obtain ⟨c, r, e, k1, k2⟩ := decDigits_head o.toNat
        rw [e] at h3
        injection h3 with h4 h5
        subst h4
        exact absurd k2 (by decide)
  have h1 : (s.toList == [97, 110, 121]) = false := by rw [ByteArray.toList_eq]; simpa using ha
  by_cases hb : s.data.toList = [99, 104, 105, 112]
  · have HA := hide hb
    have h2 : (s.toList == [99, 104, 105, 112]) = true := by rw [ByteArray.toList_eq, hb]; decide
    clear ha hb
    go_enter Tryd.func24, Tryd.ntmps24
    go_wp2_with fail
    refine bodyPost_ret (v := .tuple #[.int .i64 (-2), .bool true]) (by simp [results, Tryd.results24, go_sem]) rfl ?_
    refine ⟨⟨-2, true, rfl, by omega, fun o h1 h2 h3 => ?_⟩, rfl⟩
    rw [HA.out] at h3
    by_cases e1 : o = -2
    · exact e1.symm
    · exfalso
      unfold ofTxt at h3
      split at h3
      · exact absurd h3 (by decide)
      · obtain ⟨c, r, e, k1, k2⟩ := decDigits_head o.toNat
        rw [e] at h3
        injection h3 with h4 h5
        subst h4
        exact absurd k2 (by decide)
  have h2 : (s.toList == [99, 104, 105, 112]) = false := by rw [ByteArray.toList_eq]; simpa using hb
  have HA := hide ha
  have HB := hide hb
  clear ha hb
  go_enter Tryd.func24, Tryd.ntmps24
  go_wp2_with fail
  refine (num14_any s w hs).mono ?_
  rintro e w1 ⟨⟨n, b, rfl, hr, hn⟩, rfl⟩
  have HN := hide hn
  clear hn
  have FIN : Hid (∀ b', OfAns s.data.toList (.returned (.tuple #[.int .i64 n, .bool b']))) := fun b' => by
    refine ⟨n, b', rfl, hr, fun o h1 h2 h3 => ?_⟩
    by_cases e1 : o = -1
    · subst e1; exact absurd h3 HA.out
    by_cases e2 : o = -2
    · subst e2; exact absurd h3 HB.out
    have hd : ofTxt o = Lib.decDigits o.toNat := by unfold ofTxt; rw [if_neg e1, if_neg e2]
    have := (HN.out o.toNat (by omega) (by rw [h3, hd])).1
    omega
  cases b
  · go_wp2_with fail
    refine bodyPost_ret (v := .tuple #[.int .i64 n, .bool false]) (by simp [results, Tryd.results24, go_sem]) rfl ?_
    exact ⟨FIN.out _, rfl⟩
  · by_cases h0 : 0 ≤ n
    · go_wp2_with fail
      refine bodyPost_ret (v := .tuple #[.int .i64 n, .bool true]) (by simp [results, Tryd.results24, go_sem]) rfl ?_
      exact ⟨FIN.out _, rfl⟩
    · have h0' : decide (0 ≤ n) = false := by simp; omega
      go_wp2_with fail
      refine bodyPost_ret (v := .tuple #[.int .i64 n, .bool false]) (by simp [results, Tryd.results24, go_sem]) rfl ?_
      exact ⟨FIN.out _, rfl⟩

theorem last_byte (s : ByteArray) (l : List UInt8) (d : UInt8) (h : s.data.toList = l ++ [d]) (hz : s.size - 1 < s.size) : s[s.size - 1]'hz = d := by
  have h1 := byte_at s (s.size - 1) hz
  have h2 : s.size - 1 = l.length := by rw [size_list, h]; simp
  have h3 : s.data.toList[s.size - 1]? = some d := by rw [h2, h]; simp
  rw [h3] at h1
  exact (Option.some.inj h1).symm

/-- A text, cut into a body and a mark. -/
def Cuts (s t : List UInt8) (m : Bool) : Prop := (m = true → s = t ++ [33]) ∧ (m = false → t = s ∧ ∀ l, s ≠ l ++ [33])

theorem noField {s t r : List UInt8} {c : UInt8} {m : Bool} (hC : Cuts s t m) (ht : t = c :: r) {k o : Int} (hk : 1 ≤ k ∧ k ≤ 3) (hc : letter k = [c]) (ho : k = 1 → o = 0)
    (hO : k ≠ 1 → ∀ o', -2 ≤ o' → o' < 1000000 → r = ofTxt o' → o = o') (hne : fieldTxt k o m ≠ s) : ∀ k' o' m', ¬ IsField s k' o' m' := by
  intro k' o' m' hF
  obtain ⟨rfl, hb⟩ := isField_cut hC.1 hC.2 hF
  obtain ⟨hk', _, ho1, ho2⟩ := isField_parts hF
  have e : letter k ++ r = letter k' ++ (if k' = 1 then [] else ofTxt o') := by rw [hc, ← hb, ht]; rfl
  obtain ⟨rfl, er⟩ := letter_inj hk hk' e
  have : o = o' := by
    by_cases e1 : k = 1
    · rw [ho e1, ho1 e1]
    · rw [if_neg e1] at er
      exact hO e1 o' (ho2 e1).1 (by have := (ho2 e1).2; omega) er
  subst this
  exact hne hF.2

theorem noField_letter {s t r : List UInt8} {c : UInt8} {m : Bool} (hC : Cuts s t m) (ht : t = c :: r) (h : c ≠ 110 ∧ c ≠ 114 ∧ c ≠ 115) : ∀ k' o' m', ¬ IsField s k' o' m' := by
  intro k' o' m' hF
  obtain ⟨rfl, hb⟩ := isField_cut hC.1 hC.2 hF
  obtain ⟨hk', _, _, _⟩ := isField_parts hF
  have hk : k' = 1 ∨ k' = 2 ∨ k' = 3 := by omega
  rw [ht] at hb
  rcases hk with rfl | rfl | rfl
  · exact h.1 (by simpa [letter] using congrArg List.head? hb)
  · exact h.2.1 (by simpa [letter] using congrArg List.head? hb)
  · exact h.2.2 (by simpa [letter] using congrArg List.head? hb)

theorem noField_none {s t : List UInt8} {m : Bool} (hC : Cuts s t m) (ht : t = []) : ∀ k' o' m', ¬ IsField s k' o' m' := by
  intro k' o' m' hF
  obtain ⟨rfl, hb⟩ := isField_cut hC.1 hC.2 hF
  obtain ⟨hk', _, _, _⟩ := isField_parts hF
  have hk : k' = 1 ∨ k' = 2 ∨ k' = 3 := by omega
  rw [ht] at hb
  rcases hk with rfl | rfl | rfl <;> simp [letter] at hb

theorem isField_eq {s : List UInt8} {k o : Int} {m : Bool} (h : fieldTxt k o m = s) (hs : s ≠ []) : IsField s k o m := by
  refine ⟨?_, h⟩
  cases hf : fieldOk k o 8
  · rw [fieldTxt, hf] at h
    exact absurd h.symm hs
  · rfl

theorem toNat_eq {c : UInt8} {n : Nat} (h : c.toNat = n) (d : UInt8) (hd : d.toNat = n) : c = d := UInt8.toNat_inj.1 (by rw [h, hd])
theorem toNat_beq (c d : UInt8) (n : Int) (hd : (d.toNat : Int) = n) (h : c ≠ d) : ((c.toNat : Int) == n) = false := by
  have : ¬ c.toNat = d.toNat := fun e => h (UInt8.toNat_inj.1 e)
  simp; omega

set_option maxHeartbeats 3200000 in
theorem specFieldRead_mark (s : ByteArray) (w : World) (hs : s.size ≤ 1048576) (l : List UInt8) (hl : s.data.toList = l ++ [33]) :
    Calls Tryd.prog 7 #[.string s] w fun e w' => FieldAns s.data.toList e ∧ Below w.heap.size w w' := by
  have hz : Hid (s.size = l.length + 1) := by show s.size = _; rw [size_list, hl]; simp
  have g0 : 0 < s.size := by rw [hz.out]; omega
  have gl : s.size - 1 < s.size := by omega
  have hh := last_byte s l 33 hl gl
  have SN : Hid (s.data.toList ≠ []) := by show _ ≠ _; rw [hl]; simp
  have hne := not_empty g0
  have g1 : (0 : Int) < (s.size : Int) := by omega
  obtain ⟨t, ht⟩ : ∃ t, s.extract 0 (s.size - 1) = t := ⟨_, rfl⟩
  have hr := (last_ext s l 33 hl).2
  rw [ht] at hr
  have tz : t.size ≤ 1048576 := by rw [size_list, hr]; have := hz.out; omega
  have HC : Hid (Cuts s.data.toList t.data.toList true) := ⟨fun _ => by rw [hr]; exact hl, fun h => (by cases h)⟩
  clear hl hr
  by_cases hL : t.data.toList = []
  · skip
    have e1 : (t.toList == []) = true := by rw [ByteArray.toList_eq, hL]; rfl
    have e1' : t.toList.isEmpty = true := by rw [ByteArray.toList_eq, hL]; rfl
    have NO : Hid (∀ k o m, ¬ IsField s.data.toList k o m) := noField_none HC.out hL
    clear hL
    go_enter Tryd.func7, Tryd.ntmps7
    go_wp2_with fail
    have R0 : Rec ((w.alloc (.cells #[.int .i64 0, .int .i64 0, .bool false] 23)).alloc (.cells #[.int .i64 0, .int .i64 0, .bool true] 23)) w.heap.size 23 [.int .i64 0, .int .i64 0, .bool false] := (Rec.new' _ _ _ _ rfl).alloc _
    refine bodyPost_ret (v := .tuple #[.agg #[.int .i64 0, .int .i64 0, .bool false], .bool false]) (by simp [results, Tryd.results7, go_sem, R0.cell (o := 0) rfl, R0.cell (o := 1) rfl, R0.cell (o := 2) rfl]) rfl ?_
    refine ⟨.no NO.out, ?_⟩
    repeat (first | exact Below.refl _ _ | refine Below.setCell ?_ (by simp <;> omega) _ | refine Below.al ?_ (Nat.le_refl _) _)
  obtain ⟨c, r, hL⟩ : ∃ c r, t.data.toList = c :: r := by
    cases hq : t.data.toList with
    | nil => exact absurd hq hL
    | cons c r => exact ⟨c, r, rfl⟩
  · have z1 : 0 < t.size := by rw [size_list, hL]; simp
    have hc0 : t[0] = c := by have := byte_at t 0 z1; rw [hL] at this; simpa using this.symm
    have ne1 : t.toList.isEmpty = false := by rw [ByteArray.toList_eq, hL]; rfl
    have ne2 := not_empty z1
    have z2 : (0 : Int) < (t.size : Int) := by omega
    have z3 : (1 : Int) ≤ (t.size : Int) := by omega
    obtain ⟨u, hu⟩ : ∃ u, t.extract 1 t.size = u := ⟨_, rfl⟩
    have hur := (first_ext t r c hL).2
    rw [hu] at hur
    have uz : u.size ≤ 1048576 := by
      have e1 : u.size = r.length := by rw [size_list, hur]
      have e2 : t.size = r.length + 1 := by rw [size_list, hL]; simp
      omega
    have UR := hide hur
    have TL := hide hL
    clear hur hL
    by_cases h110 : c = 110
    · have LC : Hid (letter 1 = [c]) := by show _ = _; rw [h110]; rfl
      have b110 : ((c.toNat : Int) == 110) = true := by rw [h110]; decide
      clear h110
      go_enter Tryd.func7, Tryd.ntmps7
      go_wp2_with fail
      have B0 : Hid (Below w.heap.size w ((w.alloc (.cells #[.int .i64 0, .int .i64 0, .bool false] 23)).alloc (.cells #[.int .i64 1, .int .i64 0, .bool true] 23))) := by (repeat (first | refine Below.al ?_ (Nat.le_refl _) _ | exact Below.refl _ _))
      have R0 : Hid (Rec ((w.alloc (.cells #[.int .i64 0, .int .i64 0, .bool false] 23)).alloc (.cells #[.int .i64 1, .int .i64 0, .bool true] 23)) w.heap.size 23 [.int .i64 0, .int .i64 0, .bool false]) := (Rec.new' _ _ _ _ rfl).alloc _
      have F0 : Hid (Rec ((w.alloc (.cells #[.int .i64 0, .int .i64 0, .bool false] 23)).alloc (.cells #[.int .i64 1, .int .i64 0, .bool true] 23)) (w.heap.size + 1) 23 [.int .i64 1, .int .i64 0, .bool true]) := Rec.new' _ _ _ _ (by simp)
      generalize (w.alloc (.cells #[.int .i64 0, .int .i64 0, .bool false] 23)).alloc (.cells #[.int .i64 1, .int .i64 0, .bool true] 23) = v0 at B0 R0 F0 ⊢
      refine (specFieldText_any 1 0 true _).mono ?_
      rintro e v1 ⟨rfl, b1⟩
      have BV : Hid (Below w.heap.size w v1) := B0.out.trans (b1.mono B0.out.size)
      have R1 := hide (R0.out.below b1 R0.out.lt)
      have F1 := hide (F0.out.below b1 F0.out.lt)
      clear b1
      have r0 := R1.out.cell (o := 0) rfl
      have r1 := R1.out.cell (o := 1) rfl
      have r2 := R1.out.cell (o := 2) rfl
      have f0 := R1.out.frozen 0
      have f1 := R1.out.frozen 1
      have f2 := R1.out.frozen 2
      have c0 := F1.out.cell (o := 0) rfl
      have c1 := F1.out.cell (o := 1) rfl
      have c2 := F1.out.cell (o := 2) rfl
      have lt1 := R1.out.lt
      have lt2 := F1.out.lt
      by_cases hx : fieldTxt 1 0 true = s.data.toList
      · rw [toArray_list s _ hx]
        have YES : Hid (IsField s.data.toList 1 0 true) := isField_eq hx SN.out
        clear hx
        go_wp2_with fail
        have RF := ((R1.out.set 0 (.int .i64 1)).set 1 (.int .i64 0)).set 2 (.bool true)
        refine bodyPost_ret (v := .tuple #[.agg #[.int .i64 1, .int .i64 0, .bool true], .bool true]) (by simp [results, Tryd.results7, go_sem, RF.cell (o := 0) rfl, RF.cell (o := 1) rfl, RF.cell (o := 2) rfl]) rfl ?_
        refine ⟨.yes YES.out, ?_⟩
        repeat (first | exact BV.out | refine Below.setCell ?_ (by simp <;> omega) _ | refine Below.al ?_ (Nat.le_refl _) _)
      · have NO : Hid (∀ k o m, ¬ IsField s.data.toList k o m) := noField HC.out TL.out (by omega) LC.out (fun _ => rfl) (fun h => absurd rfl h) hx
        have hne : ((⟨(fieldTxt 1 0 true).toArray⟩ : ByteArray).toList == s.toList) = false := by
          rw [ByteArray.toList_eq, ByteArray.toList_eq]; simpa using hx
        clear hx
        generalize hq : (⟨(fieldTxt 1 0 true).toArray⟩ : ByteArray) = q at hne ⊢
        clear hq
        go_wp2_with fail
        have RF := ((R1.out.set 0 (.int .i64 0)).set 1 (.int .i64 0)).set 2 (.bool false)
        refine bodyPost_ret (v := .tuple #[.agg #[.int .i64 0, .int .i64 0, .bool false], .bool false]) (by simp [results, Tryd.results7, go_sem, RF.cell (o := 0) rfl, RF.cell (o := 1) rfl, RF.cell (o := 2) rfl]) rfl ?_
        refine ⟨.no NO.out, ?_⟩
        repeat (first | exact BV.out | refine Below.setCell ?_ (by simp <;> omega) _ | refine Below.al ?_ (Nat.le_refl _) _)
    by_cases h114 : c = 114
    · have LC : Hid (letter 2 = [c]) := by show _ = _; rw [h114]; rfl
      have b110 := toNat_beq c 110 110 rfl h110
      have b114 : ((c.toNat : Int) == 114) = true := by rw [h114]; decide
      clear h110 h114
      go_enter Tryd.func7, Tryd.ntmps7
      go_wp2_with fail
      refine (l2OfRead_any u _ uz).mono ?_
      rintro e wq ⟨⟨n, bq, rfl, hn, hN⟩, rfl⟩
      have HN := hide hN
      clear hN
      have B0 : Hid (Below w.heap.size w ((w.alloc (.cells #[.int .i64 0, .int .i64 0, .bool false] 23)).alloc (.cells #[.int .i64 2, .int .i64 0, .bool true] 23))) := by (repeat (first | refine Below.al ?_ (Nat.le_refl _) _ | exact Below.refl _ _))
      have R0 : Hid (Rec ((w.alloc (.cells #[.int .i64 0, .int .i64 0, .bool false] 23)).alloc (.cells #[.int .i64 2, .int .i64 0, .bool true] 23)) w.heap.size 23 [.int .i64 0, .int .i64 0, .bool false]) := (Rec.new' _ _ _ _ rfl).alloc _
      have F0 : Hid (Rec ((w.alloc (.cells #[.int .i64 0, .int .i64 0, .bool false] 23)).alloc (.cells #[.int .i64 2, .int .i64 0, .bool true] 23)) (w.heap.size + 1) 23 [.int .i64 2, .int .i64 0, .bool true]) := Rec.new' _ _ _ _ (by simp)
      have f0 := F0.out.frozen 1
      have f1 := F0.out.cell (o := 1) rfl
      have f2 := F0.out.cell (o := 0) rfl
      have f3 := F0.out.cell (o := 2) rfl
      have B9 := B0
      have R9 := R0
      have F9 := F0
      clear B0 R0 F0
      generalize (w.alloc (.cells #[.int .i64 0, .int .i64 0, .bool false] 23)).alloc (.cells #[.int .i64 2, .int .i64 0, .bool true] 23) = v0 at B9 R9 F9 f0 f1 f2 f3 ⊢
      go_wp2_with fail
      have B0 : Hid (Below w.heap.size w (v0.setCell ⟨w.heap.size + 1, 1, none⟩ (.int .i64 n))) := Below.setCell B9.out (by simp) _
      have R0 : Hid (Rec (v0.setCell ⟨w.heap.size + 1, 1, none⟩ (.int .i64 n)) w.heap.size 23 [.int .i64 0, .int .i64 0, .bool false]) := R9.out.other (by omega) _ _
      have F0 : Hid (Rec (v0.setCell ⟨w.heap.size + 1, 1, none⟩ (.int .i64 n)) (w.heap.size + 1) 23 [.int .i64 2, .int .i64 n, .bool true]) := F9.out.set 1 _
      generalize v0.setCell ⟨w.heap.size + 1, 1, none⟩ (.int .i64 n) = v2 at B0 R0 F0 ⊢
      clear B9 R9 F9 f0 f1 f2 f3
      refine (specFieldText_any 2 n true _).mono ?_
      rintro e v1 ⟨rfl, b1⟩
      have BV : Hid (Below w.heap.size w v1) := B0.out.trans (b1.mono B0.out.size)
      have R1 := hide (R0.out.below b1 R0.out.lt)
      have F1 := hide (F0.out.below b1 F0.out.lt)
      clear b1
      have r0 := R1.out.cell (o := 0) rfl
      have r1 := R1.out.cell (o := 1) rfl
      have r2 := R1.out.cell (o := 2) rfl
      have f0 := R1.out.frozen 0
      have f1 := R1.out.frozen 1
      have f2 := R1.out.frozen 2
      have c0 := F1.out.cell (o := 0) rfl
      have c1 := F1.out.cell (o := 1) rfl
      have c2 := F1.out.cell (o := 2) rfl
      have lt1 := R1.out.lt
      have lt2 := F1.out.lt
      by_cases hx : fieldTxt 2 n true = s.data.toList
      · rw [toArray_list s _ hx]
        have YES : Hid (IsField s.data.toList 2 n true) := isField_eq hx SN.out
        clear hx
        go_wp2_with fail
        have RF := ((R1.out.set 0 (.int .i64 2)).set 1 (.int .i64 n)).set 2 (.bool true)
        refine bodyPost_ret (v := .tuple #[.agg #[.int .i64 2, .int .i64 n, .bool true], .bool true]) (by simp [results, Tryd.results7, go_sem, RF.cell (o := 0) rfl, RF.cell (o := 1) rfl, RF.cell (o := 2) rfl]) rfl ?_
        refine ⟨.yes YES.out, ?_⟩
        repeat (first | exact BV.out | refine Below.setCell ?_ (by simp <;> omega) _ | refine Below.al ?_ (Nat.le_refl _) _)
      · have NO : Hid (∀ k o m, ¬ IsField s.data.toList k o m) := noField HC.out TL.out (by omega) LC.out (fun h => absurd h (by decide)) (fun _ o' q1 q2 q3 => HN.out o' q1 q2 (by rw [UR.out]; exact q3)) hx
        have hne : ((⟨(fieldTxt 2 n true).toArray⟩ : ByteArray).toList == s.toList) = false := by
          rw [ByteArray.toList_eq, ByteArray.toList_eq]; simpa using hx
        clear hx
        generalize hq : (⟨(fieldTxt 2 n true).toArray⟩ : ByteArray) = q at hne ⊢
        clear hq
        go_wp2_with fail
        have RF := ((R1.out.set 0 (.int .i64 0)).set 1 (.int .i64 0)).set 2 (.bool false)
        refine bodyPost_ret (v := .tuple #[.agg #[.int .i64 0, .int .i64 0, .bool false], .bool false]) (by simp [results, Tryd.results7, go_sem, RF.cell (o := 0) rfl, RF.cell (o := 1) rfl, RF.cell (o := 2) rfl]) rfl ?_
        refine ⟨.no NO.out, ?_⟩
        repeat (first | exact BV.out | refine Below.setCell ?_ (by simp <;> omega) _ | refine Below.al ?_ (Nat.le_refl _) _)
    by_cases h115 : c = 115
    · have LC : Hid (letter 3 = [c]) := by show _ = _; rw [h115]; rfl
      have b110 := toNat_beq c 110 110 rfl h110
      have b114 := toNat_beq c 114 114 rfl h114
      have b115 : ((c.toNat : Int) == 115) = true := by rw [h115]; decide
      clear h110 h114 h115
      go_enter Tryd.func7, Tryd.ntmps7
      go_wp2_with fail
      refine (l2OfRead_any u _ uz).mono ?_
      rintro e wq ⟨⟨n, bq, rfl, hn, hN⟩, rfl⟩
      have HN := hide hN
      clear hN
      have B0 : Hid (Below w.heap.size w ((w.alloc (.cells #[.int .i64 0, .int .i64 0, .bool false] 23)).alloc (.cells #[.int .i64 3, .int .i64 0, .bool true] 23))) := by (repeat (first | refine Below.al ?_ (Nat.le_refl _) _ | exact Below.refl _ _))
      have R0 : Hid (Rec ((w.alloc (.cells #[.int .i64 0, .int .i64 0, .bool false] 23)).alloc (.cells #[.int .i64 3, .int .i64 0, .bool true] 23)) w.heap.size 23 [.int .i64 0, .int .i64 0, .bool false]) := (Rec.new' _ _ _ _ rfl).alloc _
      have F0 : Hid (Rec ((w.alloc (.cells #[.int .i64 0, .int .i64 0, .bool false] 23)).alloc (.cells #[.int .i64 3, .int .i64 0, .bool true] 23)) (w.heap.size + 1) 23 [.int .i64 3, .int .i64 0, .bool true]) := Rec.new' _ _ _ _ (by simp)
      have f0 := F0.out.frozen 1
      have f1 := F0.out.cell (o := 1) rfl
      have f2 := F0.out.cell (o := 0) rfl
      have f3 := F0.out.cell (o := 2) rfl
      have B9 := B0
      have R9 := R0
      have F9 := F0
      clear B0 R0 F0
      generalize (w.alloc (.cells #[.int .i64 0, .int .i64 0, .bool false] 23)).alloc (.cells #[.int .i64 3, .int .i64 0, .bool true] 23) = v0 at B9 R9 F9 f0 f1 f2 f3 ⊢
      go_wp2_with fail
      have B0 : Hid (Below w.heap.size w (v0.setCell ⟨w.heap.size + 1, 1, none⟩ (.int .i64 n))) := Below.setCell B9.out (by simp) _
      have R0 : Hid (Rec (v0.setCell ⟨w.heap.size + 1, 1, none⟩ (.int .i64 n)) w.heap.size 23 [.int .i64 0, .int .i64 0, .bool false]) := R9.out.other (by omega) _ _
      have F0 : Hid (Rec (v0.setCell ⟨w.heap.size + 1, 1, none⟩ (.int .i64 n)) (w.heap.size + 1) 23 [.int .i64 3, .int .i64 n, .bool true]) := F9.out.set 1 _
      generalize v0.setCell ⟨w.heap.size + 1, 1, none⟩ (.int .i64 n) = v2 at B0 R0 F0 ⊢
      clear B9 R9 F9 f0 f1 f2 f3
      refine (specFieldText_any 3 n true _).mono ?_
      rintro e v1 ⟨rfl, b1⟩
      have BV : Hid (Below w.heap.size w v1) := B0.out.trans (b1.mono B0.out.size)
      have R1 := hide (R0.out.below b1 R0.out.lt)
      have F1 := hide (F0.out.below b1 F0.out.lt)
      clear b1
      have r0 := R1.out.cell (o := 0) rfl
      have r1 := R1.out.cell (o := 1) rfl
      have r2 := R1.out.cell (o := 2) rfl
      have f0 := R1.out.frozen 0
      have f1 := R1.out.frozen 1
      have f2 := R1.out.frozen 2
      have c0 := F1.out.cell (o := 0) rfl
      have c1 := F1.out.cell (o := 1) rfl
      have c2 := F1.out.cell (o := 2) rfl
      have lt1 := R1.out.lt
      have lt2 := F1.out.lt
      by_cases hx : fieldTxt 3 n true = s.data.toList
      · rw [toArray_list s _ hx]
        have YES : Hid (IsField s.data.toList 3 n true) := isField_eq hx SN.out
        clear hx
        go_wp2_with fail
        have RF := ((R1.out.set 0 (.int .i64 3)).set 1 (.int .i64 n)).set 2 (.bool true)
        refine bodyPost_ret (v := .tuple #[.agg #[.int .i64 3, .int .i64 n, .bool true], .bool true]) (by simp [results, Tryd.results7, go_sem, RF.cell (o := 0) rfl, RF.cell (o := 1) rfl, RF.cell (o := 2) rfl]) rfl ?_
        refine ⟨.yes YES.out, ?_⟩
        repeat (first | exact BV.out | refine Below.setCell ?_ (by simp <;> omega) _ | refine Below.al ?_ (Nat.le_refl _) _)
      · have NO : Hid (∀ k o m, ¬ IsField s.data.toList k o m) := noField HC.out TL.out (by omega) LC.out (fun h => absurd h (by decide)) (fun _ o' q1 q2 q3 => HN.out o' q1 q2 (by rw [UR.out]; exact q3)) hx
        have hne : ((⟨(fieldTxt 3 n true).toArray⟩ : ByteArray).toList == s.toList) = false := by
          rw [ByteArray.toList_eq, ByteArray.toList_eq]; simpa using hx
        clear hx
        generalize hq : (⟨(fieldTxt 3 n true).toArray⟩ : ByteArray) = q at hne ⊢
        clear hq
        go_wp2_with fail
        have RF := ((R1.out.set 0 (.int .i64 0)).set 1 (.int .i64 0)).set 2 (.bool false)
        refine bodyPost_ret (v := .tuple #[.agg #[.int .i64 0, .int .i64 0, .bool false], .bool false]) (by simp [results, Tryd.results7, go_sem, RF.cell (o := 0) rfl, RF.cell (o := 1) rfl, RF.cell (o := 2) rfl]) rfl ?_
        refine ⟨.no NO.out, ?_⟩
        repeat (first | exact BV.out | refine Below.setCell ?_ (by simp <;> omega) _ | refine Below.al ?_ (Nat.le_refl _) _)
    have NO0 : Hid (∀ k o m, ¬ IsField s.data.toList k o m) := noField_letter HC.out TL.out ⟨h110, h114, h115⟩
    have b110 := toNat_beq c 110 110 rfl h110
    have b114 := toNat_beq c 114 114 rfl h114
    have b115 := toNat_beq c 115 115 rfl h115
    clear h110 h114 h115
    go_enter Tryd.func7, Tryd.ntmps7
    go_wp2_with fail
    have B0 : Hid (Below w.heap.size w ((w.alloc (.cells #[.int .i64 0, .int .i64 0, .bool false] 23)).alloc (.cells #[.int .i64 0, .int .i64 0, .bool true] 23))) := by (repeat (first | refine Below.al ?_ (Nat.le_refl _) _ | exact Below.refl _ _))
    have R0 : Hid (Rec ((w.alloc (.cells #[.int .i64 0, .int .i64 0, .bool false] 23)).alloc (.cells #[.int .i64 0, .int .i64 0, .bool true] 23)) w.heap.size 23 [.int .i64 0, .int .i64 0, .bool false]) := (Rec.new' _ _ _ _ rfl).alloc _
    have F0 : Hid (Rec ((w.alloc (.cells #[.int .i64 0, .int .i64 0, .bool false] 23)).alloc (.cells #[.int .i64 0, .int .i64 0, .bool true] 23)) (w.heap.size + 1) 23 [.int .i64 0, .int .i64 0, .bool true]) := Rec.new' _ _ _ _ (by simp)
    generalize (w.alloc (.cells #[.int .i64 0, .int .i64 0, .bool false] 23)).alloc (.cells #[.int .i64 0, .int .i64 0, .bool true] 23) = v0 at B0 R0 F0 ⊢
    refine (specFieldText_any 0 0 true _).mono ?_
    rintro e v1 ⟨rfl, b1⟩
    have BV : Hid (Below w.heap.size w v1) := B0.out.trans (b1.mono B0.out.size)
    have R1 := hide (R0.out.below b1 R0.out.lt)
    have F1 := hide (F0.out.below b1 F0.out.lt)
    clear b1
    have r0 := R1.out.cell (o := 0) rfl
    have r1 := R1.out.cell (o := 1) rfl
    have r2 := R1.out.cell (o := 2) rfl
    have f0 := R1.out.frozen 0
    have f1 := R1.out.frozen 1
    have f2 := R1.out.frozen 2
    have c0 := F1.out.cell (o := 0) rfl
    have c1 := F1.out.cell (o := 1) rfl
    have c2 := F1.out.cell (o := 2) rfl
    have lt1 := R1.out.lt
    have lt2 := F1.out.lt
    by_cases hx : fieldTxt 0 0 true = s.data.toList
    · rw [toArray_list s _ hx]
      have YES : Hid (IsField s.data.toList 0 0 true) := isField_eq hx SN.out
      clear hx
      go_wp2_with fail
      have RF := ((R1.out.set 0 (.int .i64 0)).set 1 (.int .i64 0)).set 2 (.bool true)
      refine bodyPost_ret (v := .tuple #[.agg #[.int .i64 0, .int .i64 0, .bool true], .bool true]) (by simp [results, Tryd.results7, go_sem, RF.cell (o := 0) rfl, RF.cell (o := 1) rfl, RF.cell (o := 2) rfl]) rfl ?_
      refine ⟨.yes YES.out, ?_⟩
      repeat (first | exact BV.out | refine Below.setCell ?_ (by simp <;> omega) _ | refine Below.al ?_ (Nat.le_refl _) _)
    · have NO : Hid (∀ k o m, ¬ IsField s.data.toList k o m) := NO0.out
      have hne : ((⟨(fieldTxt 0 0 true).toArray⟩ : ByteArray).toList == s.toList) = false := by
        rw [ByteArray.toList_eq, ByteArray.toList_eq]; simpa using hx
      clear hx
      generalize hq : (⟨(fieldTxt 0 0 true).toArray⟩ : ByteArray) = q at hne ⊢
      clear hq
      go_wp2_with fail
      have RF := ((R1.out.set 0 (.int .i64 0)).set 1 (.int .i64 0)).set 2 (.bool false)
      refine bodyPost_ret (v := .tuple #[.agg #[.int .i64 0, .int .i64 0, .bool false], .bool false]) (by simp [results, Tryd.results7, go_sem, RF.cell (o := 0) rfl, RF.cell (o := 1) rfl, RF.cell (o := 2) rfl]) rfl ?_
      refine ⟨.no NO.out, ?_⟩
      repeat (first | exact BV.out | refine Below.setCell ?_ (by simp <;> omega) _ | refine Below.al ?_ (Nat.le_refl _) _)

set_option maxHeartbeats 3200000 in
theorem specFieldRead_bare (s : ByteArray) (w : World) (hs : s.size ≤ 1048576) (l : List UInt8) (d : UInt8) (hl : s.data.toList = l ++ [d]) (hd : d ≠ 33) :
    Calls Tryd.prog 7 #[.string s] w fun e w' => FieldAns s.data.toList e ∧ Below w.heap.size w w' := by
  have hz : Hid (s.size = l.length + 1) := by show s.size = _; rw [size_list, hl]; simp
  have g0 : 0 < s.size := by rw [hz.out]; omega
  have gl : s.size - 1 < s.size := by omega
  have hh := last_byte s l d hl gl
  have SN : Hid (s.data.toList ≠ []) := by show _ ≠ _; rw [hl]; simp
  have hne := not_empty g0
  have g1 : (0 : Int) < (s.size : Int) := by omega
  have hd' := toNat_beq d 33 33 rfl hd
  have tz : s.size ≤ 1048576 := hs
  have HC : Hid (Cuts s.data.toList s.data.toList false) := ⟨fun h => (by cases h), fun _ => ⟨rfl, fun l' e => hd (by
    rw [hl] at e
    have := (List.append_inj' e rfl).2
    simpa using this)⟩⟩
  clear hl hd
  obtain ⟨c, r, hL⟩ : ∃ c r, s.data.toList = c :: r := by
    cases hq : s.data.toList with
    | nil => exact absurd hq SN.out
    | cons c r => exact ⟨c, r, rfl⟩
  · have z1 : 0 < s.size := by rw [size_list, hL]; simp
    have hc0 : s[0] = c := by have := byte_at s 0 z1; rw [hL] at this; simpa using this.symm
    have ne1 : s.toList.isEmpty = false := by rw [ByteArray.toList_eq, hL]; rfl
    have ne2 := not_empty z1
    have z2 : (0 : Int) < (s.size : Int) := by omega
    have z3 : (1 : Int) ≤ (s.size : Int) := by omega
    obtain ⟨u, hu⟩ : ∃ u, s.extract 1 s.size = u := ⟨_, rfl⟩
    have hur := (first_ext s r c hL).2
    rw [hu] at hur
    have uz : u.size ≤ 1048576 := by
      have e1 : u.size = r.length := by rw [size_list, hur]
      have e2 : s.size = r.length + 1 := by rw [size_list, hL]; simp
      omega
    have UR := hide hur
    have TL := hide hL
    clear hur hL
    by_cases h110 : c = 110
    · have LC : Hid (letter 1 = [c]) := by show _ = _; rw [h110]; rfl
      have b110 : ((c.toNat : Int) == 110) = true := by rw [h110]; decide
      clear h110
      go_enter Tryd.func7, Tryd.ntmps7
      go_wp2_with fail
      have B0 : Hid (Below w.heap.size w ((w.alloc (.cells #[.int .i64 0, .int .i64 0, .bool false] 23)).alloc (.cells #[.int .i64 1, .int .i64 0, .bool false] 23))) := by (repeat (first | refine Below.al ?_ (Nat.le_refl _) _ | exact Below.refl _ _))
      have R0 : Hid (Rec ((w.alloc (.cells #[.int .i64 0, .int .i64 0, .bool false] 23)).alloc (.cells #[.int .i64 1, .int .i64 0, .bool false] 23)) w.heap.size 23 [.int .i64 0, .int .i64 0, .bool false]) := (Rec.new' _ _ _ _ rfl).alloc _
      have F0 : Hid (Rec ((w.alloc (.cells #[.int .i64 0, .int .i64 0, .bool false] 23)).alloc (.cells #[.int .i64 1, .int .i64 0, .bool false] 23)) (w.heap.size + 1) 23 [.int .i64 1, .int .i64 0, .bool false]) := Rec.new' _ _ _ _ (by simp)
      generalize (w.alloc (.cells #[.int .i64 0, .int .i64 0, .bool false] 23)).alloc (.cells #[.int .i64 1, .int .i64 0, .bool false] 23) = v0 at B0 R0 F0 ⊢
      refine (specFieldText_any 1 0 false _).mono ?_
      rintro e v1 ⟨rfl, b1⟩
      have BV : Hid (Below w.heap.size w v1) := B0.out.trans (b1.mono B0.out.size)
      have R1 := hide (R0.out.below b1 R0.out.lt)
      have F1 := hide (F0.out.below b1 F0.out.lt)
      clear b1
      have r0 := R1.out.cell (o := 0) rfl
      have r1 := R1.out.cell (o := 1) rfl
      have r2 := R1.out.cell (o := 2) rfl
      have f0 := R1.out.frozen 0
      have f1 := R1.out.frozen 1
      have f2 := R1.out.frozen 2
      have c0 := F1.out.cell (o := 0) rfl
      have c1 := F1.out.cell (o := 1) rfl
      have c2 := F1.out.cell (o := 2) rfl
      have lt1 := R1.out.lt
      have lt2 := F1.out.lt
      by_cases hx : fieldTxt 1 0 false = s.data.toList
      · rw [toArray_list s _ hx]
        have YES : Hid (IsField s.data.toList 1 0 false) := isField_eq hx SN.out
        clear hx
        go_wp2_with fail
        have RF := ((R1.out.set 0 (.int .i64 1)).set 1 (.int .i64 0)).set 2 (.bool false)
        refine bodyPost_ret (v := .tuple #[.agg #[.int .i64 1, .int .i64 0, .bool false], .bool true]) (by simp [results, Tryd.results7, go_sem, RF.cell (o := 0) rfl, RF.cell (o := 1) rfl, RF.cell (o := 2) rfl]) rfl ?_
        refine ⟨.yes YES.out, ?_⟩
        repeat (first | exact BV.out | refine Below.setCell ?_ (by simp <;> omega) _ | refine Below.al ?_ (Nat.le_refl _) _)
      · have NO : Hid (∀ k o m, ¬ IsField s.data.toList k o m) := noField HC.out TL.out (by omega) LC.out (fun _ => rfl) (fun h => absurd rfl h) hx
        have hne : ((⟨(fieldTxt 1 0 false).toArray⟩ : ByteArray).toList == s.toList) = false := by
          rw [ByteArray.toList_eq, ByteArray.toList_eq]; simpa using hx
        clear hx
        generalize hq : (⟨(fieldTxt 1 0 false).toArray⟩ : ByteArray) = q at hne ⊢
        clear hq
        go_wp2_with fail
        have RF := ((R1.out.set 0 (.int .i64 0)).set 1 (.int .i64 0)).set 2 (.bool false)
        refine bodyPost_ret (v := .tuple #[.agg #[.int .i64 0, .int .i64 0, .bool false], .bool false]) (by simp [results, Tryd.results7, go_sem, RF.cell (o := 0) rfl, RF.cell (o := 1) rfl, RF.cell (o := 2) rfl]) rfl ?_
        refine ⟨.no NO.out, ?_⟩
        repeat (first | exact BV.out | refine Below.setCell ?_ (by simp <;> omega) _ | refine Below.al ?_ (Nat.le_refl _) _)
    by_cases h114 : c = 114
    · have LC : Hid (letter 2 = [c]) := by show _ = _; rw [h114]; rfl
      have b110 := toNat_beq c 110 110 rfl h110
      have b114 : ((c.toNat : Int) == 114) = true := by rw [h114]; decide
      clear h110 h114
      go_enter Tryd.func7, Tryd.ntmps7
      go_wp2_with fail
      refine (l2OfRead_any u _ uz).mono ?_
      rintro e wq ⟨⟨n, bq, rfl, hn, hN⟩, rfl⟩
      have HN := hide hN
      clear hN
      have B0 : Hid (Below w.heap.size w ((w.alloc (.cells #[.int .i64 0, .int .i64 0, .bool false] 23)).alloc (.cells #[.int .i64 2, .int .i64 0, .bool false] 23))) := by (repeat (first | refine Below.al ?_ (Nat.le_refl _) _ | exact Below.refl _ _))
      have R0 : Hid (Rec ((w.alloc (.cells #[.int .i64 0, .int .i64 0, .bool false] 23)).alloc (.cells #[.int .i64 2, .int .i64 0, .bool false] 23)) w.heap.size 23 [.int .i64 0, .int .i64 0, .bool false]) := (Rec.new' _ _ _ _ rfl).alloc _
      have F0 : Hid (Rec ((w.alloc (.cells #[.int .i64 0, .int .i64 0, .bool false] 23)).alloc (.cells #[.int .i64 2, .int .i64 0, .bool false] 23)) (w.heap.size + 1) 23 [.int .i64 2, .int .i64 0, .bool false]) := Rec.new' _ _ _ _ (by simp)
      have f0 := F0.out.frozen 1
      have f1 := F0.out.cell (o := 1) rfl
      have f2 := F0.out.cell (o := 0) rfl
      have f3 := F0.out.cell (o := 2) rfl
      have B9 := B0
      have R9 := R0
      have F9 := F0
      clear B0 R0 F0
      generalize (w.alloc (.cells #[.int .i64 0, .int .i64 0, .bool false] 23)).alloc (.cells #[.int .i64 2, .int .i64 0, .bool false] 23) = v0 at B9 R9 F9 f0 f1 f2 f3 ⊢
      go_wp2_with fail
      have B0 : Hid (Below w.heap.size w (v0.setCell ⟨w.heap.size + 1, 1, none⟩ (.int .i64 n))) := Below.setCell B9.out (by simp) _
      have R0 : Hid (Rec (v0.setCell ⟨w.heap.size + 1, 1, none⟩ (.int .i64 n)) w.heap.size 23 [.int .i64 0, .int .i64 0, .bool false]) := R9.out.other (by omega) _ _
      have F0 : Hid (Rec (v0.setCell ⟨w.heap.size + 1, 1, none⟩ (.int .i64 n)) (w.heap.size + 1) 23 [.int .i64 2, .int .i64 n, .bool false]) := F9.out.set 1 _
      generalize v0.setCell ⟨w.heap.size + 1, 1, none⟩ (.int .i64 n) = v2 at B0 R0 F0 ⊢
      clear B9 R9 F9 f0 f1 f2 f3
      refine (specFieldText_any 2 n false _).mono ?_
      rintro e v1 ⟨rfl, b1⟩
      have BV : Hid (Below w.heap.size w v1) := B0.out.trans (b1.mono B0.out.size)
      have R1 := hide (R0.out.below b1 R0.out.lt)
      have F1 := hide (F0.out.below b1 F0.out.lt)
      clear b1
      have r0 := R1.out.cell (o := 0) rfl
      have r1 := R1.out.cell (o := 1) rfl
      have r2 := R1.out.cell (o := 2) rfl
      have f0 := R1.out.frozen 0
      have f1 := R1.out.frozen 1
      have f2 := R1.out.frozen 2
      have c0 := F1.out.cell (o := 0) rfl
      have c1 := F1.out.cell (o := 1) rfl
      have c2 := F1.out.cell (o := 2) rfl
      have lt1 := R1.out.lt
      have lt2 := F1.out.lt
      by_cases hx : fieldTxt 2 n false = s.data.toList
      · rw [toArray_list s _ hx]
        have YES : Hid (IsField s.data.toList 2 n false) := isField_eq hx SN.out
        clear hx
        go_wp2_with fail
        have RF := ((R1.out.set 0 (.int .i64 2)).set 1 (.int .i64 n)).set 2 (.bool false)
        refine bodyPost_ret (v := .tuple #[.agg #[.int .i64 2, .int .i64 n, .bool false], .bool true]) (by simp [results, Tryd.results7, go_sem, RF.cell (o := 0) rfl, RF.cell (o := 1) rfl, RF.cell (o := 2) rfl]) rfl ?_
        refine ⟨.yes YES.out, ?_⟩
        repeat (first | exact BV.out | refine Below.setCell ?_ (by simp <;> omega) _ | refine Below.al ?_ (Nat.le_refl _) _)
      · have NO : Hid (∀ k o m, ¬ IsField s.data.toList k o m) := noField HC.out TL.out (by omega) LC.out (fun h => absurd h (by decide)) (fun _ o' q1 q2 q3 => HN.out o' q1 q2 (by rw [UR.out]; exact q3)) hx
        have hne : ((⟨(fieldTxt 2 n false).toArray⟩ : ByteArray).toList == s.toList) = false := by
          rw [ByteArray.toList_eq, ByteArray.toList_eq]; simpa using hx
        clear hx
        generalize hq : (⟨(fieldTxt 2 n false).toArray⟩ : ByteArray) = q at hne ⊢
        clear hq
        go_wp2_with fail
        have RF := ((R1.out.set 0 (.int .i64 0)).set 1 (.int .i64 0)).set 2 (.bool false)
        refine bodyPost_ret (v := .tuple #[.agg #[.int .i64 0, .int .i64 0, .bool false], .bool false]) (by simp [results, Tryd.results7, go_sem, RF.cell (o := 0) rfl, RF.cell (o := 1) rfl, RF.cell (o := 2) rfl]) rfl ?_
        refine ⟨.no NO.out, ?_⟩
        repeat (first | exact BV.out | refine Below.setCell ?_ (by simp <;> omega) _ | refine Below.al ?_ (Nat.le_refl _) _)
    by_cases h115 : c = 115
    · have LC : Hid (letter 3 = [c]) := by show _ = _; rw [h115]; rfl
      have b110 := toNat_beq c 110 110 rfl h110
      have b114 := toNat_beq c 114 114 rfl h114
      have b115 : ((c.toNat : Int) == 115) = true := by rw [h115]; decide
      clear h110 h114 h115
      go_enter Tryd.func7, Tryd.ntmps7
      go_wp2_with fail
      refine (l2OfRead_any u _ uz).mono ?_
      rintro e wq ⟨⟨n, bq, rfl, hn, hN⟩, rfl⟩
      have HN := hide hN
      clear hN
      have B0 : Hid (Below w.heap.size w ((w.alloc (.cells #[.int .i64 0, .int .i64 0, .bool false] 23)).alloc (.cells #[.int .i64 3, .int .i64 0, .bool false] 23))) := by (repeat (first | refine Below.al ?_ (Nat.le_refl _) _ | exact Below.refl _ _))
      have R0 : Hid (Rec ((w.alloc (.cells #[.int .i64 0, .int .i64 0, .bool false] 23)).alloc (.cells #[.int .i64 3, .int .i64 0, .bool false] 23)) w.heap.size 23 [.int .i64 0, .int .i64 0, .bool false]) := (Rec.new' _ _ _ _ rfl).alloc _
      have F0 : Hid (Rec ((w.alloc (.cells #[.int .i64 0, .int .i64 0, .bool false] 23)).alloc (.cells #[.int .i64 3, .int .i64 0, .bool false] 23)) (w.heap.size + 1) 23 [.int .i64 3, .int .i64 0, .bool false]) := Rec.new' _ _ _ _ (by simp)
      have f0 := F0.out.frozen 1
      have f1 := F0.out.cell (o := 1) rfl
      have f2 := F0.out.cell (o := 0) rfl
      have f3 := F0.out.cell (o := 2) rfl
      have B9 := B0
      have R9 := R0
      have F9 := F0
      clear B0 R0 F0
      generalize (w.alloc (.cells #[.int .i64 0, .int .i64 0, .bool false] 23)).alloc (.cells #[.int .i64 3, .int .i64 0, .bool false] 23) = v0 at B9 R9 F9 f0 f1 f2 f3 ⊢
      go_wp2_with fail
      have B0 : Hid (Below w.heap.size w (v0.setCell ⟨w.heap.size + 1, 1, none⟩ (.int .i64 n))) := Below.setCell B9.out (by simp) _
      have R0 : Hid (Rec (v0.setCell ⟨w.heap.size + 1, 1, none⟩ (.int .i64 n)) w.heap.size 23 [.int .i64 0, .int .i64 0, .bool false]) := R9.out.other (by omega) _ _
      have F0 : Hid (Rec (v0.setCell ⟨w.heap.size + 1, 1, none⟩ (.int .i64 n)) (w.heap.size + 1) 23 [.int .i64 3, .int .i64 n, .bool false]) := F9.out.set 1 _
      generalize v0.setCell ⟨w.heap.size + 1, 1, none⟩ (.int .i64 n) = v2 at B0 R0 F0 ⊢
      clear B9 R9 F9 f0 f1 f2 f3
      refine (specFieldText_any 3 n false _).mono ?_
      rintro e v1 ⟨rfl, b1⟩
      have BV : Hid (Below w.heap.size w v1) := B0.out.trans (b1.mono B0.out.size)
      have R1 := hide (R0.out.below b1 R0.out.lt)
      have F1 := hide (F0.out.below b1 F0.out.lt)
      clear b1
      have r0 := R1.out.cell (o := 0) rfl
      have r1 := R1.out.cell (o := 1) rfl
      have r2 := R1.out.cell (o := 2) rfl
      have f0 := R1.out.frozen 0
      have f1 := R1.out.frozen 1
      have f2 := R1.out.frozen 2
      have c0 := F1.out.cell (o := 0) rfl
      have c1 := F1.out.cell (o := 1) rfl
      have c2 := F1.out.cell (o := 2) rfl
      have lt1 := R1.out.lt
      have lt2 := F1.out.lt
      by_cases hx : fieldTxt 3 n false = s.data.toList
      · rw [toArray_list s _ hx]
        have YES : Hid (IsField s.data.toList 3 n false) := isField_eq hx SN.out
        clear hx
        go_wp2_with fail
        have RF := ((R1.out.set 0 (.int .i64 3)).set 1 (.int .i64 n)).set 2 (.bool false)
        refine bodyPost_ret (v := .tuple #[.agg #[.int .i64 3, .int .i64 n, .bool false], .bool true]) (by simp [results, Tryd.results7, go_sem, RF.cell (o := 0) rfl, RF.cell (o := 1) rfl, RF.cell (o := 2) rfl]) rfl ?_
        refine ⟨.yes YES.out, ?_⟩
        repeat (first | exact BV.out | refine Below.setCell ?_ (by simp <;> omega) _ | refine Below.al ?_ (Nat.le_refl _) _)
      · have NO : Hid (∀ k o m, ¬ IsField s.data.toList k o m) := noField HC.out TL.out (by omega) LC.out (fun h => absurd h (by decide)) (fun _ o' q1 q2 q3 => HN.out o' q1 q2 (by rw [UR.out]; exact q3)) hx
        have hne : ((⟨(fieldTxt 3 n false).toArray⟩ : ByteArray).toList == s.toList) = false := by
          rw [ByteArray.toList_eq, ByteArray.toList_eq]; simpa using hx
        clear hx
        generalize hq : (⟨(fieldTxt 3 n false).toArray⟩ : ByteArray) = q at hne ⊢
        clear hq
        go_wp2_with fail
        have RF := ((R1.out.set 0 (.int .i64 0)).set 1 (.int .i64 0)).set 2 (.bool false)
        refine bodyPost_ret (v := .tuple #[.agg #[.int .i64 0, .int .i64 0, .bool false], .bool false]) (by simp [results, Tryd.results7, go_sem, RF.cell (o := 0) rfl, RF.cell (o := 1) rfl, RF.cell (o := 2) rfl]) rfl ?_
        refine ⟨.no NO.out, ?_⟩
        repeat (first | exact BV.out | refine Below.setCell ?_ (by simp <;> omega) _ | refine Below.al ?_ (Nat.le_refl _) _)
    have NO0 : Hid (∀ k o m, ¬ IsField s.data.toList k o m) := noField_letter HC.out TL.out ⟨h110, h114, h115⟩
    have b110 := toNat_beq c 110 110 rfl h110
    have b114 := toNat_beq c 114 114 rfl h114
    have b115 := toNat_beq c 115 115 rfl h115
    clear h110 h114 h115
    go_enter Tryd.func7, Tryd.ntmps7
    go_wp2_with fail
    have B0 : Hid (Below w.heap.size w ((w.alloc (.cells #[.int .i64 0, .int .i64 0, .bool false] 23)).alloc (.cells #[.int .i64 0, .int .i64 0, .bool false] 23))) := by (repeat (first | refine Below.al ?_ (Nat.le_refl _) _ | exact Below.refl _ _))
    have R0 : Hid (Rec ((w.alloc (.cells #[.int .i64 0, .int .i64 0, .bool false] 23)).alloc (.cells #[.int .i64 0, .int .i64 0, .bool false] 23)) w.heap.size 23 [.int .i64 0, .int .i64 0, .bool false]) := (Rec.new' _ _ _ _ rfl).alloc _
    have F0 : Hid (Rec ((w.alloc (.cells #[.int .i64 0, .int .i64 0, .bool false] 23)).alloc (.cells #[.int .i64 0, .int .i64 0, .bool false] 23)) (w.heap.size + 1) 23 [.int .i64 0, .int .i64 0, .bool false]) := Rec.new' _ _ _ _ (by simp)
    generalize (w.alloc (.cells #[.int .i64 0, .int .i64 0, .bool false] 23)).alloc (.cells #[.int .i64 0, .int .i64 0, .bool false] 23) = v0 at B0 R0 F0 ⊢
    refine (specFieldText_any 0 0 false _).mono ?_
    rintro e v1 ⟨rfl, b1⟩
    have BV : Hid (Below w.heap.size w v1) := B0.out.trans (b1.mono B0.out.size)
    have R1 := hide (R0.out.below b1 R0.out.lt)
    have F1 := hide (F0.out.below b1 F0.out.lt)
    clear b1
    have r0 := R1.out.cell (o := 0) rfl
    have r1 := R1.out.cell (o := 1) rfl
    have r2 := R1.out.cell (o := 2) rfl
    have f0 := R1.out.frozen 0
    have f1 := R1.out.frozen 1
    have f2 := R1.out.frozen 2
    have c0 := F1.out.cell (o := 0) rfl
    have c1 := F1.out.cell (o := 1) rfl
    have c2 := F1.out.cell (o := 2) rfl
    have lt1 := R1.out.lt
    have lt2 := F1.out.lt
    by_cases hx : fieldTxt 0 0 false = s.data.toList
    · rw [toArray_list s _ hx]
      have YES : Hid (IsField s.data.toList 0 0 false) := isField_eq hx SN.out
      clear hx
      go_wp2_with fail
      have RF := ((R1.out.set 0 (.int .i64 0)).set 1 (.int .i64 0)).set 2 (.bool false)
      refine bodyPost_ret (v := .tuple #[.agg #[.int .i64 0, .int .i64 0, .bool false], .bool true]) (by simp [results, Tryd.results7, go_sem, RF.cell (o := 0) rfl, RF.cell (o := 1) rfl, RF.cell (o := 2) rfl]) rfl ?_
      refine ⟨.yes YES.out, ?_⟩
      repeat (first | exact BV.out | refine Below.setCell ?_ (by simp <;> omega) _ | refine Below.al ?_ (Nat.le_refl _) _)
    · have NO : Hid (∀ k o m, ¬ IsField s.data.toList k o m) := NO0.out
      have hne : ((⟨(fieldTxt 0 0 false).toArray⟩ : ByteArray).toList == s.toList) = false := by
        rw [ByteArray.toList_eq, ByteArray.toList_eq]; simpa using hx
      clear hx
      generalize hq : (⟨(fieldTxt 0 0 false).toArray⟩ : ByteArray) = q at hne ⊢
      clear hq
      go_wp2_with fail
      have RF := ((R1.out.set 0 (.int .i64 0)).set 1 (.int .i64 0)).set 2 (.bool false)
      refine bodyPost_ret (v := .tuple #[.agg #[.int .i64 0, .int .i64 0, .bool false], .bool false]) (by simp [results, Tryd.results7, go_sem, RF.cell (o := 0) rfl, RF.cell (o := 1) rfl, RF.cell (o := 2) rfl]) rfl ?_
      refine ⟨.no NO.out, ?_⟩
      repeat (first | exact BV.out | refine Below.setCell ?_ (by simp <;> omega) _ | refine Below.al ?_ (Nat.le_refl _) _)

set_option maxHeartbeats 800000 in
theorem specFieldRead_none (s : ByteArray) (w : World) (hl : s.data.toList = []) :
    Calls Tryd.prog 7 #[.string s] w fun e w' => FieldAns s.data.toList e ∧ Below w.heap.size w w' := by
  have he : s = ByteArray.empty := bytes_inj hl
  have NO : Hid (∀ k o m, ¬ IsField s.data.toList k o m) := noField_none (m := false) (t := s.data.toList) ⟨fun h => (by cases h), fun _ => ⟨rfl, fun l h => by rw [hl] at h; simp at h⟩⟩ hl
  clear hl
  subst he
  go_enter Tryd.func7, Tryd.ntmps7
  go_wp2_with fail
  have R0 : Rec ((w.alloc (.cells #[.int .i64 0, .int .i64 0, .bool false] 23)).alloc (.cells #[.int .i64 0, .int .i64 0, .bool false] 23)) w.heap.size 23 [.int .i64 0, .int .i64 0, .bool false] := (Rec.new' _ _ _ _ rfl).alloc _
  refine bodyPost_ret (v := .tuple #[.agg #[.int .i64 0, .int .i64 0, .bool false], .bool false]) (by simp [results, Tryd.results7, go_sem, R0.cell (o := 0) rfl, R0.cell (o := 1) rfl, R0.cell (o := 2) rfl]) rfl ?_
  refine ⟨.no NO.out, ?_⟩
  repeat (first | exact Below.refl _ _ | refine Below.setCell ?_ (by simp <;> omega) _ | refine Below.al ?_ (Nat.le_refl _) _)

theorem specFieldRead_any (s : ByteArray) (w : World) (hs : s.size ≤ 1048576) :
    Calls Tryd.prog 7 #[.string s] w fun e w' => FieldAns s.data.toList e ∧ Below w.heap.size w w' := by
  by_cases h : s.data.toList = []
  · exact specFieldRead_none s w h
  · obtain ⟨l, d, hl⟩ := snoc_of _ h
    by_cases hd : d = 33
    · subst hd; exact specFieldRead_mark s w hs l hl
    · exact specFieldRead_bare s w hs l d hl hd
end Go.Proofs.YtdicmlbgpbglpaaDoor
