/- The law of fields' texts, walked. -/
import Derived.Test.YtmcckapalmbmhaaDoorWalkFieldRead
import Derived.Test.YtmcckapalmbmhaaDoorDrawFieldRead
import Derived.Laws.StructEq
namespace Go.Proofs.YtmcckapalmbmhaaDoor
open Go.ChangeShapes Go.WideShapes Go.ChangeAt Go.RowKit Go.Joins
set_option linter.unusedVariables false

theorem implFieldText_at (k o : Int) (m : Bool) (l : List UInt8) (h : fieldTxt k o m = l) (w : World) (hp : pow10 w) (hl : lettersAt w) :
    Calls Tryd.prog 11 #[.agg #[.int .i64 k, .int .i64 o, .bool m]] w fun e w' => e = .returned (.string ⟨l.toArray⟩) ∧ Below w.heap.size w w' := h ▸ implFieldText_any k o m w hp hl

set_option maxHeartbeats 3200000 in
theorem fnField_walk (a : Option Addr) (cap n : Nat) (hc : n ≤ cap) (a' : Option Addr) (cap' n' : Nat) (hc' : n' ≤ cap') (w : World) (hx : BytesIn w w.heap.size a n) (hx' : BytesIn w w.heap.size a' n') (hp : pow10 w) (he : errsAt w) (hl : lettersAt w) :
    Calls Tryd.prog 4 #[.slice a n cap, .slice a' n' cap'] w fun e w' => e = .returned (.bool true) ∧ Below w.heap.size w w' := by
  by_cases hz : 1048576 < n
  · have g1 : (1048576 : Int) < (n : Int) := by omega
    go_enter Tryd.func4, Tryd.ntmps4
    go_wp2_with fail
    go_ret
    exact ⟨rfl, Below.refl _ _⟩
  by_cases hz' : 1048576 < n'
  · have g1 : (1048576 : Int) < (n' : Int) := by omega
    have g2 : (n : Int) ≤ 1048576 := by omega
    go_enter Tryd.func4, Tryd.ntmps4
    go_wp2_with fail
    go_ret
    exact ⟨rfl, Below.refl _ _⟩
  have g1 : (n : Int) ≤ 1048576 := by omega
  have g2 : (n' : Int) ≤ 1048576 := by omega
  have HP := hide hp
  have HE := hide he
  have HL := hide hl
  have HX' := hide hx'
  clear hp he hl hx'
  go_enter Tryd.func4, Tryd.ntmps4
  go_wp2_with fail
  refine (drawFieldText_any a cap n _ hc hx).mono ?_
  rintro e w1 ⟨k, o, m, rfl, b1⟩
  have B1 := hide b1
  clear b1 hx
  obtain ⟨l, hlt⟩ : ∃ l, fieldTxt k o m = l := ⟨_, rfl⟩
  have hlen := fieldTxt_len k o m
  rw [hlt] at hlen
  have HT := hide hlt
  clear hlt
  go_wp2_with fail
  have V0 : Hid (Below w.heap.size w (w1.alloc (.cells #[.int .i64 k, .int .i64 o, .bool m] 23))) := Below.al B1.out (Nat.le_refl _) _
  have F0 : Hid (Rec (w1.alloc (.cells #[.int .i64 k, .int .i64 o, .bool m] 23)) w1.heap.size 23 [.int .i64 k, .int .i64 o, .bool m]) := Rec.new' _ _ _ _ rfl
  generalize w1.alloc (.cells #[.int .i64 k, .int .i64 o, .bool m] 23) = v0 at V0 F0 ⊢
  refine (implFieldText_at k o m l HT.out _ (pow10_keep HP.out V0.out) (HL.out.keep V0.out)).mono ?_
  rintro e w2 ⟨rfl, b2⟩
  have V2 : Hid (Below w.heap.size w w2) := V0.out.trans (b2.mono V0.out.size)
  have F2 := hide (F0.out.below b2 F0.out.lt)
  obtain ⟨S, hS⟩ : ∃ S : ByteArray, S = ⟨l.toArray⟩ := ⟨_, rfl⟩
  have hSl : S.data.toList = l := by rw [hS]
  have hSz : S.size ≤ 8 := by rw [size_list, hSl]; exact hlen
  rw [← hS]
  have HS := hide hS
  have HSL := hide hSl
  clear b2 hS hSl hlen V0 F0
  go_wp2_with fail
  refine (implFieldRead_any S _ (by omega) (pow10_keep HP.out V2.out) (HE.out.keep V2.out) (HL.out.keep V2.out)).mono ?_
  rintro e w3 ⟨ans, b3⟩
  have V3 : Hid (Below w.heap.size w w3) := V2.out.trans (b3.mono V2.out.size)
  have F3 := hide (F2.out.below b3 F2.out.lt)
  clear b3
  have f0 := F3.out.cell (o := 0) rfl
  have f1 := F3.out.cell (o := 1) rfl
  have f2 := F3.out.cell (o := 2) rfl
  have flt := F3.out.lt
  rw [HSL.out] at ans
  cases hok : fieldOk k o 8
  · have hl0 : l = [] := by rw [← HT.out]; simp [fieldTxt, hok]
    obtain ⟨k', o', m', b', rfl, q2⟩ := ans.same (.no (fun k1 o1 m1 hF => by
      have := (isField_parts hF).2.1
      have hk1 := (isField_parts hF).1
      rw [hl0] at this
      have hk2 : k1 = 1 ∨ k1 = 2 ∨ k1 = 3 := by omega
      rcases hk2 with rfl | rfl | rfl <;> simp [letter] at this))
    have HK := hide hok
    injection q2 with q2
    simp at q2
    obtain ⟨⟨rfl, rfl, rfl⟩, rfl⟩ := q2
    clear ans hok hl0
    go_wp2_with fail
    have V3' : Hid (Below w.heap.size w (w3.alloc (.cells #[.int .i64 0, .int .i64 0, .bool false] 23))) := Below.al V3.out (Nat.le_refl _) _
    have F3' : Hid (Rec (w3.alloc (.cells #[.int .i64 0, .int .i64 0, .bool false] 23)) w1.heap.size 23 [.int .i64 k, .int .i64 o, .bool m]) := F3.out.alloc _
    have X3' : Hid (Rec (w3.alloc (.cells #[.int .i64 0, .int .i64 0, .bool false] 23)) w3.heap.size 23 [.int .i64 0, .int .i64 0, .bool false]) := Rec.new' _ _ _ _ rfl
    clear f0 f1 f2 flt V2 F2 F3
    generalize w3.alloc (.cells #[.int .i64 0, .int .i64 0, .bool false] 23) = v3 at V3' F3' X3' ⊢
    refine (specFieldText_at k o m l HT.out _).mono ?_
    rintro e w4 ⟨rfl, b4⟩
    rw [← HS.out]
    have V4 : Hid (Below w.heap.size w w4) := V3'.out.trans (b4.mono V3'.out.size)
    have F4 := hide (F3'.out.below b4 F3'.out.lt)
    have X4 := hide (X3'.out.below b4 X3'.out.lt)
    clear b4 V3' F3' X3'
    have f0 := F4.out.cell (o := 0) rfl
    have f1 := F4.out.cell (o := 1) rfl
    have f2 := F4.out.cell (o := 2) rfl
    have flt := F4.out.lt
    go_wp2_with fail
    refine (implFieldOk_at _ _ _ _ _ HK.out _).mono ?_
    rintro e w5 ⟨rfl, b5⟩
    have V5 : Hid (Below w.heap.size w w5) := V4.out.trans (b5.mono V4.out.size)
    have F5 := hide (F4.out.below b5 F4.out.lt)
    have X5 := hide (X4.out.below b5 X4.out.lt)
    clear b5 V4 F4 X4 f0 f1 f2 flt
    have f0 := F5.out.cell (o := 0) rfl
    have f1 := F5.out.cell (o := 1) rfl
    have f2 := F5.out.cell (o := 2) rfl
    have x0 := X5.out.cell (o := 0) rfl
    have x1 := X5.out.cell (o := 1) rfl
    have x2 := X5.out.cell (o := 2) rfl
    have flt := F5.out.lt
    have xlt := X5.out.lt
    go_wp2_with fail
    go_quiet (fail)
    go_wp2_with fail
    refine (drawFieldRead_any a' cap' n' _ hc' ((HX'.out.keep (below_drewN V5.out _)).wider (below_drewN V5.out _).size)).mono ?_
    rintro e w6 ⟨T, rfl, hT, b6⟩
    have V6 : Hid (Below w.heap.size w w6) := (below_drewN V5.out _).trans (b6.mono (below_drewN V5.out _).size)
    clear b6 V5 F5 X5 f0 f1 f2 x0 x1 x2 flt xlt
    go_wp2_with fail
    refine (implFieldRead_any T _ (by omega) (pow10_keep HP.out V6.out) (HE.out.keep V6.out) (HL.out.keep V6.out)).mono ?_
    rintro e w7 ⟨ans, b7⟩
    have V7 : Hid (Below w.heap.size w w7) := V6.out.trans (b7.mono V6.out.size)
    clear b7
    have HANS := hide ans
    rcases ans with ⟨ky, oy, my, hF, rfl⟩ | ⟨hno, rfl⟩
    · have HF := hide hF
      clear hF
      go_wp2_with fail
      have V7' : Hid (Below w.heap.size w (w7.alloc (.cells #[.int .i64 ky, .int .i64 oy, .bool my] 23))) := Below.al V7.out (Nat.le_refl _) _
      have Y7 : Hid (Rec (w7.alloc (.cells #[.int .i64 ky, .int .i64 oy, .bool my] 23)) w7.heap.size 23 [.int .i64 ky, .int .i64 oy, .bool my]) := Rec.new' _ _ _ _ rfl
      generalize w7.alloc (.cells #[.int .i64 ky, .int .i64 oy, .bool my] 23) = v7 at V7' Y7 ⊢
      refine (specFieldRead_any T _ (by omega)).mono ?_
      rintro e w8 ⟨ans2, b8⟩
      obtain ⟨k1, o1, m1, b1, q1, rfl⟩ := HANS.out.same ans2
      have q3 : b1 = true := by
        injection q1 with q1
        simp at q1
        exact q1.2
      subst q3
      have V8 : Hid (Below w.heap.size w w8) := V7'.out.trans (b8.mono V7'.out.size)
      have Y8 := hide (Y7.out.below b8 Y7.out.lt)
      clear b8 q1 ans2 HANS V7' Y7
      have y0 := Y8.out.cell (o := 0) rfl
      have y1 := Y8.out.cell (o := 1) rfl
      have y2 := Y8.out.cell (o := 2) rfl
      have ylt := Y8.out.lt
      go_wp2_with fail
      have V8' : Hid (Below w.heap.size w (w8.alloc (.cells #[.int .i64 k1, .int .i64 o1, .bool m1] 23))) := Below.al V8.out (Nat.le_refl _) _
      refine (implFieldText_at ky oy my _ HF.out.2 _ (pow10_keep HP.out V8'.out) (HL.out.keep V8'.out)).mono ?_
      rintro e w9 ⟨rfl, b9⟩
      rw [bytes_eta T]
      have V9 : Hid (Below w.heap.size w w9) := V8'.out.trans (b9.mono V8'.out.size)
      clear b9
      go_wp2_with fail
      go_ret
      exact ⟨rfl, V9.out⟩
    · have HNO := hide hno
      clear hno
      go_wp2_with fail
      have V7' : Hid (Below w.heap.size w (w7.alloc (.cells #[.int .i64 0, .int .i64 0, .bool false] 23))) := Below.al V7.out (Nat.le_refl _) _
      generalize w7.alloc (.cells #[.int .i64 0, .int .i64 0, .bool false] 23) = v7 at V7' ⊢
      refine (specFieldRead_any T _ (by omega)).mono ?_
      rintro e w8 ⟨ans2, b8⟩
      obtain ⟨k1, o1, m1, b1, q1, rfl⟩ := HANS.out.same ans2
      have q3 : b1 = false := by
        injection q1 with q1
        simp at q1
        exact q1.2
      subst q3
      have V8 : Hid (Below w.heap.size w w8) := V7'.out.trans (b8.mono V7'.out.size)
      clear b8 q1 ans2 HANS V7'
      go_wp2_with fail
      go_ret
      exact ⟨rfl, Below.al V8.out (Nat.le_refl _) _⟩
  · have hF : IsField l k o m := ⟨hok, HT.out⟩
    obtain ⟨k', o', m', b', rfl, q2⟩ := ans.same (.yes hF)
    have HK := hide hok
    injection q2 with q2
    simp at q2
    obtain ⟨⟨rfl, rfl, rfl⟩, rfl⟩ := q2
    obtain ⟨hk, hparts, ho, ho'⟩ := isField_parts hF
    have hne : l ≠ [] := by
      rw [hparts]
      have hk2 : k = 1 ∨ k = 2 ∨ k = 3 := by omega
      rcases hk2 with rfl | rfl | rfl <;> simp [letter]
    obtain ⟨r, d, hr⟩ := snoc_of l hne
    have g0 : 0 < S.size := by rw [size_list, HSL.out, hr]; simp
    have gl : S.size - 1 < S.size := by omega
    have HB : Hid (S[S.size - 1]'gl = d) := last_byte S r d (by rw [HSL.out]; exact hr) gl
    have HM : Hid (((d.toNat : Int) == 33) = m) := by
      show _ = _
      cases m
      · refine toNat_beq d 33 33 rfl (fun e => ?_)
        subst e
        simp only [Bool.false_eq_true, if_false, List.append_nil] at hparts
        exact body_last hk ho' r (by rw [← hparts, hr])
      · simp only [if_true] at hparts
        rw [hr] at hparts
        have := (List.append_inj' hparts rfl).2
        have hd : d = 33 := by simpa using this
        rw [hd]; decide
    have hne2 := not_empty g0
    have g3 : (0 : Int) < (S.size : Int) := by omega
    have g4 : (1 : Int) ≤ (S.size : Int) := by omega
    clear ans hok hF hparts hr hne ho ho' hk
    go_wp2_with fail
    have V3' : Hid (Below w.heap.size w (w3.alloc (.cells #[.int .i64 k, .int .i64 o, .bool m] 23))) := Below.al V3.out (Nat.le_refl _) _
    have F3' : Hid (Rec (w3.alloc (.cells #[.int .i64 k, .int .i64 o, .bool m] 23)) w1.heap.size 23 [.int .i64 k, .int .i64 o, .bool m]) := F3.out.alloc _
    have X3' : Hid (Rec (w3.alloc (.cells #[.int .i64 k, .int .i64 o, .bool m] 23)) w3.heap.size 23 [.int .i64 k, .int .i64 o, .bool m]) := Rec.new' _ _ _ _ rfl
    clear f0 f1 f2 flt V2 F2 F3
    generalize w3.alloc (.cells #[.int .i64 k, .int .i64 o, .bool m] 23) = v3 at V3' F3' X3' ⊢
    refine (specFieldText_at k o m l HT.out _).mono ?_
    rintro e w4 ⟨rfl, b4⟩
    rw [← HS.out]
    have V4 : Hid (Below w.heap.size w w4) := V3'.out.trans (b4.mono V3'.out.size)
    have F4 := hide (F3'.out.below b4 F3'.out.lt)
    have X4 := hide (X3'.out.below b4 X3'.out.lt)
    clear b4 V3' F3' X3'
    have f0 := F4.out.cell (o := 0) rfl
    have f1 := F4.out.cell (o := 1) rfl
    have f2 := F4.out.cell (o := 2) rfl
    have flt := F4.out.lt
    go_wp2_with fail
    refine (implFieldOk_at _ _ _ _ _ HK.out _).mono ?_
    rintro e w5 ⟨rfl, b5⟩
    have V5 : Hid (Below w.heap.size w w5) := V4.out.trans (b5.mono V4.out.size)
    have F5 := hide (F4.out.below b5 F4.out.lt)
    have X5 := hide (X4.out.below b5 X4.out.lt)
    clear b5 V4 F4 X4 f0 f1 f2 flt
    have f0 := F5.out.cell (o := 0) rfl
    have f1 := F5.out.cell (o := 1) rfl
    have f2 := F5.out.cell (o := 2) rfl
    have x0 := X5.out.cell (o := 0) rfl
    have x1 := X5.out.cell (o := 1) rfl
    have x2 := X5.out.cell (o := 2) rfl
    have flt := F5.out.lt
    have xlt := X5.out.lt
    have hmut := HM.out
    have hbyte := HB.out
    go_wp2_with fail
    go_quiet (fail)
    go_wp2_with fail
    refine (drawFieldRead_any a' cap' n' _ hc' ((HX'.out.keep (below_drewN V5.out _)).wider (below_drewN V5.out _).size)).mono ?_
    rintro e w6 ⟨T, rfl, hT, b6⟩
    have V6 : Hid (Below w.heap.size w w6) := (below_drewN V5.out _).trans (b6.mono (below_drewN V5.out _).size)
    clear b6 V5 F5 X5 f0 f1 f2 x0 x1 x2 flt xlt
    go_wp2_with fail
    refine (implFieldRead_any T _ (by omega) (pow10_keep HP.out V6.out) (HE.out.keep V6.out) (HL.out.keep V6.out)).mono ?_
    rintro e w7 ⟨ans, b7⟩
    have V7 : Hid (Below w.heap.size w w7) := V6.out.trans (b7.mono V6.out.size)
    clear b7
    have HANS := hide ans
    rcases ans with ⟨ky, oy, my, hF, rfl⟩ | ⟨hno, rfl⟩
    · have HF := hide hF
      clear hF
      go_wp2_with fail
      have V7' : Hid (Below w.heap.size w (w7.alloc (.cells #[.int .i64 ky, .int .i64 oy, .bool my] 23))) := Below.al V7.out (Nat.le_refl _) _
      have Y7 : Hid (Rec (w7.alloc (.cells #[.int .i64 ky, .int .i64 oy, .bool my] 23)) w7.heap.size 23 [.int .i64 ky, .int .i64 oy, .bool my]) := Rec.new' _ _ _ _ rfl
      generalize w7.alloc (.cells #[.int .i64 ky, .int .i64 oy, .bool my] 23) = v7 at V7' Y7 ⊢
      refine (specFieldRead_any T _ (by omega)).mono ?_
      rintro e w8 ⟨ans2, b8⟩
      obtain ⟨k1, o1, m1, b1, q1, rfl⟩ := HANS.out.same ans2
      have q3 : b1 = true := by
        injection q1 with q1
        simp at q1
        exact q1.2
      subst q3
      have V8 : Hid (Below w.heap.size w w8) := V7'.out.trans (b8.mono V7'.out.size)
      have Y8 := hide (Y7.out.below b8 Y7.out.lt)
      clear b8 q1 ans2 HANS V7' Y7
      have y0 := Y8.out.cell (o := 0) rfl
      have y1 := Y8.out.cell (o := 1) rfl
      have y2 := Y8.out.cell (o := 2) rfl
      have ylt := Y8.out.lt
      go_wp2_with fail
      have V8' : Hid (Below w.heap.size w (w8.alloc (.cells #[.int .i64 k1, .int .i64 o1, .bool m1] 23))) := Below.al V8.out (Nat.le_refl _) _
      refine (implFieldText_at ky oy my _ HF.out.2 _ (pow10_keep HP.out V8'.out) (HL.out.keep V8'.out)).mono ?_
      rintro e w9 ⟨rfl, b9⟩
      rw [bytes_eta T]
      have V9 : Hid (Below w.heap.size w w9) := V8'.out.trans (b9.mono V8'.out.size)
      clear b9
      go_wp2_with fail
      go_ret
      exact ⟨rfl, V9.out⟩
    · have HNO := hide hno
      clear hno
      go_wp2_with fail
      have V7' : Hid (Below w.heap.size w (w7.alloc (.cells #[.int .i64 0, .int .i64 0, .bool false] 23))) := Below.al V7.out (Nat.le_refl _) _
      generalize w7.alloc (.cells #[.int .i64 0, .int .i64 0, .bool false] 23) = v7 at V7' ⊢
      refine (specFieldRead_any T _ (by omega)).mono ?_
      rintro e w8 ⟨ans2, b8⟩
      obtain ⟨k1, o1, m1, b1, q1, rfl⟩ := HANS.out.same ans2
      have q3 : b1 = false := by
        injection q1 with q1
        simp at q1
        exact q1.2
      subst q3
      have V8 : Hid (Below w.heap.size w w8) := V7'.out.trans (b8.mono V7'.out.size)
      clear b8 q1 ans2 HANS V7'
      go_wp2_with fail
      go_ret
      exact ⟨rfl, Below.al V8.out (Nat.le_refl _) _⟩
end Go.Proofs.YtmcckapalmbmhaaDoor
