/- FieldRead of the program: the field whose text it is, or none. -/
import Derived.Test.YtdicmlbgpbglpaaDoorOfRead2
import Derived.Test.YtdicmlbgpbglpaaDoorCut
import Derived.Test.YtdicmlbgpbglpaaDoorFieldInj
namespace Go.Proofs.YtdicmlbgpbglpaaDoor
open Go.ChangeShapes Go.WideShapes Go.ChangeAt Go.RowKit Go.Joins
set_option linter.unusedVariables false

set_option maxHeartbeats 800000 in
theorem fieldOf_any (k : Int) (s : ByteArray) (w : World) (hs : s.size ≤ 1048576) (hp : pow10 w) (he : errsAt w) :
    Calls Tryd.prog 27 #[.int .i64 k, .string s] w fun e w' => Below w.heap.size w w' ∧ ∃ n b, e = .returned (.tuple #[.int .i64 n, .bool b]) ∧
      (k = 1 → n = 0 ∧ (b = true ↔ s.data.toList = [])) ∧ (k ≠ 1 → (b = true → ofTxtI n = s.data.toList) ∧ ∀ o, -2 ≤ o → o < 1000000 → ofTxt o = s.data.toList → b = true ∧ n = o) := by
  have HP := hide hp
  have HE := hide he
  clear hp he
  by_cases hk : k = 1
  · subst hk
    by_cases h0 : s.data.toList = []
    · have h1 : (s.toList == []) = true := by rw [ByteArray.toList_eq, h0]; rfl
      have H0 := hide h0
      clear h0
      go_enter Tryd.func27, Tryd.ntmps27
      go_wp2_with fail
      refine bodyPost_ret (v := .tuple #[.int .i64 0, .bool true]) (by simp [results, Tryd.results27, go_sem]) rfl ?_
      exact ⟨Below.refl _ _, 0, true, rfl, fun _ => ⟨rfl, fun _ => H0.out, fun _ => rfl⟩, fun h => absurd rfl h⟩
    · have h1 : (s.toList == []) = false := by rw [ByteArray.toList_eq]; simpa using h0
      have H0 := hide h0
      clear h0
      go_enter Tryd.func27, Tryd.ntmps27
      go_wp2_with fail
      refine bodyPost_ret (v := .tuple #[.int .i64 0, .bool false]) (by simp [results, Tryd.results27, go_sem]) rfl ?_
      exact ⟨Below.refl _ _, 0, false, rfl, fun _ => ⟨rfl, fun h => (by cases h), fun h => absurd h H0.out⟩, fun h => absurd rfl h⟩
  · have hk' : (k == 1) = false := by simp [hk]
    go_enter Tryd.func27, Tryd.ntmps27
    go_wp2_with fail
    refine (ofRead_any s w hs HP.out HE.out).mono ?_
    rintro e w1 ⟨hb, n, b, rfl, h1, _, h2⟩
    have H1 := hide h1
    have H2 := hide h2
    clear h1 h2
    go_wp2_with fail
    refine bodyPost_ret (v := .tuple #[.int .i64 n, .bool b]) (by simp [results, Tryd.results27, go_sem]) rfl ?_
    exact ⟨hb, n, b, rfl, fun h => absurd h hk, fun _ => ⟨H1.out, H2.out⟩⟩

theorem letter_one {k : Int} (h : 1 ≤ k) (h' : k ≤ 3) : letter k = letterAt k.toNat ∧ ∃ c, letterAt k.toNat = [c] := by
  have : k = 1 ∨ k = 2 ∨ k = 3 := by omega
  rcases this with rfl | rfl | rfl
  · exact ⟨rfl, _, rfl⟩
  · exact ⟨rfl, _, rfl⟩
  · exact ⟨rfl, _, rfl⟩

theorem cut_letter (k : Int) (h1 : 1 ≤ k) (h2 : k ≤ 3) (s : ByteArray) (w : World) (hs : s.size ≤ 1048576) :
    Calls Tryd.prog 26 #[.string s, .string ⟨(letterAt k.toNat).toArray⟩] w fun e w' => ∃ t b, e = .returned (.tuple #[.string t, .bool b]) ∧ (b = true → s.data.toList = letter k ++ t.data.toList) ∧ (b = false → t = s ∧ ∀ r, s.data.toList ≠ letter k ++ r) ∧ t.size ≤ s.size ∧ w' = w := by
  obtain ⟨e1, c, e2⟩ := letter_one h1 h2
  rw [e1, e2]
  exact cutPrefix_any c s w hs

theorem letter_inj {j k : Int} {a b : List UInt8} (h1 : 1 ≤ j ∧ j ≤ 3) (h2 : 1 ≤ k ∧ k ≤ 3) (h : letter j ++ a = letter k ++ b) : j = k ∧ a = b := by
  have hj : j = 1 ∨ j = 2 ∨ j = 3 := by omega
  have hk : k = 1 ∨ k = 2 ∨ k = 3 := by omega
  rcases hj with rfl | rfl | rfl <;> rcases hk with rfl | rfl | rfl <;> simp_all [letter]

/-- What a text of a field is, cut into its parts. -/
theorem isField_parts {s : List UInt8} {k o : Int} {m : Bool} (h : IsField s k o m) : (1 ≤ k ∧ k ≤ 3) ∧ s = letter k ++ (if k = 1 then [] else ofTxt o) ++ (if m then [33] else []) ∧ (k = 1 → o = 0) ∧ (k ≠ 1 → -2 ≤ o ∧ o < 8) := by
  obtain ⟨h1, h2⟩ := h
  have hk := fieldOk_small h1
  refine ⟨by omega, ?_, by omega, by omega⟩
  rw [← h2]
  simp [fieldTxt, h1]

theorem ofTxt_last {o : Int} (h1 : -2 ≤ o) (h2 : o < 8) (l : List UInt8) : ofTxt o ≠ l ++ [33] := by
  rw [ofTxt_tab o h1 h2]
  intro h
  have hl : ∀ b : Fin 10, (ofTab.getD b.val []).getLast? ≠ some 33 := by decide
  have := hl ⟨(o + 2).toNat, by omega⟩
  rw [h] at this
  simp at this

/-- The body of a field's text does not end in a mark. -/
theorem body_last {k o : Int} (hk : 1 ≤ k ∧ k ≤ 3) (ho : k ≠ 1 → -2 ≤ o ∧ o < 8) (l : List UInt8) : letter k ++ (if k = 1 then [] else ofTxt o) ≠ l ++ [33] := by
  intro h
  have h2 := congrArg List.getLast? h
  by_cases e : k = 1
  · subst e; simp [letter] at h2
  · rw [if_neg e] at h2
    rcases snoc_of (ofTxt o) (by
      intro e0
      have := ofTxt_tab o (ho e).1 (ho e).2
      have hl : ∀ b : Fin 10, (ofTab.getD b.val []) ≠ [] := by decide
      exact hl ⟨(o + 2).toNat, by have := ho e; omega⟩ (this ▸ e0)) with ⟨r, d, hr⟩
    rw [hr] at h2
    simp at h2
    subst h2
    exact ofTxt_last (ho e).1 (ho e).2 r hr

/-- Cut into a body and a mark, a text is that of a field just if the body is. -/
theorem isField_cut {s t : List UInt8} {m : Bool} (h1 : m = true → s = t ++ [33]) (h2 : m = false → t = s ∧ ∀ l, s ≠ l ++ [33]) {k o : Int} {m' : Bool} (h : IsField s k o m') : m' = m ∧ t = letter k ++ (if k = 1 then [] else ofTxt o) := by
  obtain ⟨hk, hs, ho, ho'⟩ := isField_parts h
  cases m
  · obtain ⟨rfl, h3⟩ := h2 rfl
    cases m'
    · simp at hs; exact ⟨rfl, by simpa using hs⟩
    · exact absurd (by simpa only [if_true] using hs) (h3 _)
  · have h3 := h1 rfl
    cases m'
    · rw [h3] at hs
      simp at hs
      exact absurd (by simpa using hs.symm) (body_last hk ho' t)
    · rw [h3] at hs
      simp only [if_true] at hs
      exact ⟨rfl, (List.append_inj' hs rfl).1⟩

theorem isField_of {s t : List UInt8} {m : Bool} (h1 : m = true → s = t ++ [33]) (h2 : m = false → t = s ∧ ∀ l, s ≠ l ++ [33]) {k o : Int} (hf : fieldOk k o 8 = true) (ht : t = letter k ++ (if k = 1 then [] else ofTxt o)) : IsField s k o m := by
  refine ⟨hf, ?_⟩
  simp only [fieldTxt, hf, if_true]
  rw [← ht]
  cases m
  · rw [(h2 rfl).1]; simp
  · rw [h1 rfl]; simp

/-- The answer of FieldRead: the field whose text it is and true, or nothing and false. -/
def FieldAns (s : List UInt8) (e : Ending) : Prop := (∃ k o m, IsField s k o m ∧ e = .returned (.tuple #[.agg #[.int .i64 k, .int .i64 o, .bool m], .bool true])) ∨
  ((∀ k o m, ¬ IsField s k o m) ∧ e = .returned (.tuple #[.agg #[.int .i64 0, .int .i64 0, .bool false], .bool false]))

theorem FieldAns.no {s : List UInt8} (h : ∀ k o m, ¬ IsField s k o m) : FieldAns s (.returned (.tuple #[.agg #[.int .i64 0, .int .i64 0, .bool false], .bool false])) := .inr ⟨h, rfl⟩
theorem FieldAns.yes {s : List UInt8} {k o : Int} {m : Bool} (h : IsField s k o m) : FieldAns s (.returned (.tuple #[.agg #[.int .i64 k, .int .i64 o, .bool m], .bool true])) := .inl ⟨k, o, m, h, rfl⟩

set_option maxHeartbeats 3200000 in
theorem implFieldRead_any (s : ByteArray) (w : World) (hs : s.size ≤ 1048576) (hp : pow10 w) (he : errsAt w) (hl : lettersAt w) :
    Calls Tryd.prog 8 #[.string s] w fun e w' => FieldAns s.data.toList e ∧ Below w.heap.size w w' := by
  have HP := hide hp
  have HE := hide he
  have HLT := hide hl
  clear hp he hl
  go_enter Tryd.func8, Tryd.ntmps8
  go_wp2_with fail
  refine (cutSuffix_any 33 s _ hs).mono ?_
  rintro e w1 ⟨t, m, rfl, h1, h2, h3, rfl⟩
  have H1 := hide h1
  have H2 : Hid (m = false → t.data.toList = s.data.toList ∧ ∀ l, s.data.toList ≠ l ++ [33]) := fun h => ⟨by rw [(h2 h).1], (h2 h).2⟩
  have hz : t.size ≤ 1048576 := by omega
  clear h1 h2
  have B0 : Hid (Below w.heap.size w (w.alloc (.cells #[.int .i64 0, .int .i64 0, .bool false] 23))) := (Below.refl _ _).alloc (Nat.le_refl _) _
  have R0 : Hid (Rec (w.alloc (.cells #[.int .i64 0, .int .i64 0, .bool false] 23)) w.heap.size 23 [.int .i64 0, .int .i64 0, .bool false]) := Rec.new' _ _ _ _ rfl
  generalize w.alloc (.cells #[.int .i64 0, .int .i64 0, .bool false] 23) = w0 at B0 R0 ⊢
  go_wp2_with fail
  go_loopw [6] (fun i wr => ∃ k : Int, 1 ≤ k ∧ k ≤ 4 ∧ i = .int .i64 k ∧ (∀ j, 1 ≤ j → j < k → ∀ r, t.data.toList ≠ letter j ++ r) ∧ wr = w0) (fun i wr => (5 - intOf i).toNat)
  case atStart => exact ⟨1, by omega, by omega, rfl, fun j h1 h2 => by omega, rfl⟩
  case round =>
    obtain ⟨k, k1, k2, rfl, hno, rfl⟩ := hrel
    have HNO := hide hno
    clear hno
    by_cases hk : k ≤ 3
    · obtain ⟨kk, rfl⟩ : ∃ kk : Nat, k = (kk : Int) := ⟨k.toNat, by omega⟩
      have cw := (HLT.out.keep B0.out).2 kk (by omega)
      have g1 : (0 : Int) ≤ (kk : Int) := by omega
      have g2 : (kk : Int) < 4 := by omega
      go_wp2_with fail
      refine (cut_letter (kk : Int) k1 hk t _ hz).mono ?_
      rintro e w1 ⟨u, b, rfl, q1, q2, q3, rfl⟩
      have hzu : u.size ≤ 1048576 := by omega
      cases b
      · obtain ⟨_, q4⟩ := q2 rfl
        have Q4 := hide q4
        clear q1 q2 q3 q4
        go_wp2_with fail
        refine ⟨⟨(kk : Int) + 1, by omega, by omega, rfl, fun j j1 j2 => ?_, by first | rfl | trivial⟩, by simp [intOf]; omega⟩
        by_cases ej : j = kk
        · subst ej; exact Q4.out
        · exact HNO.out j j1 (by omega)
      · have Q1 : Hid (t.data.toList = letter (kk : Int) ++ u.data.toList) := q1 rfl
        clear q1 q2 q3
        go_wp2_with fail
        refine (fieldOf_any (kk : Int) u _ hzu (pow10_keep HP.out B0.out) (HE.out.keep B0.out)).mono ?_
        rintro e v1 ⟨b1, n, ok, rfl, p1, p2⟩
        have BV : Hid (Below w.heap.size w v1) := B0.out.trans (b1.mono B0.out.size)
        have R1 := hide (R0.out.below b1 R0.out.lt)
        have P1 := hide p1
        have P2 := hide p2
        clear p1 p2 b1
        have r0 := R1.out.cell (o := 0) rfl
        have r1 := R1.out.cell (o := 1) rfl
        have r2 := R1.out.cell (o := 2) rfl
        have f0 := R1.out.frozen 0
        have f1 := R1.out.frozen 1
        have f2 := R1.out.frozen 2
        have lt := R1.out.lt
        cases ok
        · have NO : Hid (∀ k o m', ¬ IsField s.data.toList k o m') := by
            intro k' o' m' hF
            obtain ⟨rfl, ht⟩ := isField_cut H1.out H2.out hF
            obtain ⟨hk', _, ho, ho'⟩ := isField_parts hF
            rw [Q1.out] at ht
            obtain ⟨rfl, hu⟩ := letter_inj ⟨k1, hk⟩ hk' ht
            by_cases e1 : (kk : Int) = 1
            · rw [if_pos e1] at hu
              exact absurd ((P1.out e1).2.2 hu) (by decide)
            · rw [if_neg e1] at hu
              exact absurd ((P2.out e1).2 o' (ho' e1).1 (by have := (ho' e1).2; omega) hu.symm).1 (by decide)
          go_wp2_with fail
          have RF := (((R1.out.set 0 (.int .i64 0)).set 1 (.int .i64 0)).set 2 (.bool false)).alloc (.cells #[.int .i64 kk, .int .i64 n, .bool m] 23)
          refine bodyPost_ret (v := .tuple #[.agg #[.int .i64 0, .int .i64 0, .bool false], .bool false]) (by simp [results, Tryd.results8, go_sem, RF.cell (o := 0) rfl, RF.cell (o := 1) rfl, RF.cell (o := 2) rfl]) rfl ?_
          refine ⟨.no NO.out, ?_⟩
          repeat (first | exact BV.out | refine Below.setCell ?_ (by simp <;> omega) _ | refine Below.al ?_ (Nat.le_refl _) _)
        · cases hok : fieldOk (kk : Int) n 8
          · have HK := hide hok
            have NO : Hid (∀ k o m', ¬ IsField s.data.toList k o m') := by
              intro k' o' m' hF
              obtain ⟨rfl, ht⟩ := isField_cut H1.out H2.out hF
              obtain ⟨hk', _, ho, ho'⟩ := isField_parts hF
              rw [Q1.out] at ht
              obtain ⟨rfl, hu⟩ := letter_inj ⟨k1, hk⟩ hk' ht
              have hn : n = o' := by
                by_cases e1 : (kk : Int) = 1
                · rw [(P1.out e1).1, ho e1]
                · rw [if_neg e1] at hu
                  exact ((P2.out e1).2 o' (ho' e1).1 (by have := (ho' e1).2; omega) hu.symm).2
              subst hn
              exact absurd hF.1 (by rw [HK.out]; decide)
            clear hok
            go_wp2_with fail
            refine (implFieldOk_at _ _ _ _ _ HK.out _).mono ?_
            rintro e v2 ⟨rfl, b2⟩
            have BW : Hid (Below w.heap.size w v2) := (Below.al BV.out (Nat.le_refl _) _).trans (b2.mono (Nat.le_trans BV.out.size (by go_size)))
            have R2 := hide ((R1.out.alloc _).below b2 (by go_size))
            have F2 := hide ((Rec.new' v1 23 [.int .i64 kk, .int .i64 n, .bool m] _ rfl).below b2 (by go_size))
            clear b2 r0 r1 r2 f0 f1 f2
            have f0 := R2.out.frozen 0
            have f1 := R2.out.frozen 1
            have f2 := R2.out.frozen 2
            have r0 := R2.out.cell (o := 0) rfl
            have r1 := R2.out.cell (o := 1) rfl
            have r2 := R2.out.cell (o := 2) rfl
            have lt2 := R2.out.lt
            go_wp2_with fail
            have RF := ((R2.out.set 0 (.int .i64 0)).set 1 (.int .i64 0)).set 2 (.bool false)
            refine bodyPost_ret (v := .tuple #[.agg #[.int .i64 0, .int .i64 0, .bool false], .bool false]) (by simp [results, Tryd.results8, go_sem, RF.cell (o := 0) rfl, RF.cell (o := 1) rfl, RF.cell (o := 2) rfl]) rfl ?_
            refine ⟨.no NO.out, ?_⟩
            repeat (first | exact BW.out | refine Below.setCell ?_ (by simp <;> omega) _ | refine Below.al ?_ (Nat.le_refl _) _)
          · have HK := hide hok
            have YES : Hid (IsField s.data.toList (kk : Int) n m) := by
              refine isField_of H1.out H2.out HK.out ?_
              rw [Q1.out]
              by_cases e1 : (kk : Int) = 1
              · rw [if_pos e1, (P1.out e1).2.1 rfl]
              · rw [if_neg e1, ← (P2.out e1).1 rfl, ofTxtI_small (by have := fieldOk_small HK.out; omega)]
            clear hok
            go_wp2_with fail
            refine (implFieldOk_at _ _ _ _ _ HK.out _).mono ?_
            rintro e v2 ⟨rfl, b2⟩
            have BW : Hid (Below w.heap.size w v2) := (Below.al BV.out (Nat.le_refl _) _).trans (b2.mono (Nat.le_trans BV.out.size (by go_size)))
            have R2 := hide ((R1.out.alloc _).below b2 (by go_size))
            have F2 := hide ((Rec.new' v1 23 [.int .i64 kk, .int .i64 n, .bool m] _ rfl).below b2 (by go_size))
            clear b2 r0 r1 r2 f0 f1 f2
            have f0 := R2.out.frozen 0
            have f1 := R2.out.frozen 1
            have f2 := R2.out.frozen 2
            have r0 := R2.out.cell (o := 0) rfl
            have r1 := R2.out.cell (o := 1) rfl
            have r2 := R2.out.cell (o := 2) rfl
            have lt2 := R2.out.lt
            have c0 := F2.out.cell (o := 0) rfl
            have c1 := F2.out.cell (o := 1) rfl
            have c2 := F2.out.cell (o := 2) rfl
            have lt3 := F2.out.lt
            go_wp2_with fail
            have RF := ((R2.out.set 0 (.int .i64 kk)).set 1 (.int .i64 n)).set 2 (.bool m)
            refine bodyPost_ret (v := .tuple #[.agg #[.int .i64 kk, .int .i64 n, .bool m], .bool true]) (by simp [results, Tryd.results8, go_sem, RF.cell (o := 0) rfl, RF.cell (o := 1) rfl, RF.cell (o := 2) rfl]) rfl ?_
            refine ⟨.yes YES.out, ?_⟩
            repeat (first | exact BW.out | refine Below.setCell ?_ (by simp <;> omega) _ | refine Below.al ?_ (Nat.le_refl _) _)
    · have : k = 4 := by omega
      subst this
      have NO : Hid (∀ k o m', ¬ IsField s.data.toList k o m') := by
        intro k' o' m' hF
        obtain ⟨rfl, ht⟩ := isField_cut H1.out H2.out hF
        obtain ⟨hk', _, ho, ho'⟩ := isField_parts hF
        exact HNO.out k' hk'.1 (by omega) _ ht
      have r0 := R0.out.cell (o := 0) rfl
      have r1 := R0.out.cell (o := 1) rfl
      have r2 := R0.out.cell (o := 2) rfl
      have f0 := R0.out.frozen 0
      have f1 := R0.out.frozen 1
      have f2 := R0.out.frozen 2
      have lt := R0.out.lt
      go_wp2_with fail
      refine bodyPost_ret (v := .tuple #[.agg #[.int .i64 0, .int .i64 0, .bool false], .bool false]) (by simp [results, Tryd.results8, go_sem, r0, r1, r2]) rfl ?_
      refine ⟨.no NO.out, ?_⟩
      repeat (first | exact B0.out | refine Below.setCell ?_ (by simp <;> omega) _ | refine Below.al ?_ (Nat.le_refl _) _)
end Go.Proofs.YtdicmlbgpbglpaaDoor
