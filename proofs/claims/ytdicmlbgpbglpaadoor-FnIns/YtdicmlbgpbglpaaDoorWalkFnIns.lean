/- FnIns, walked. -/
import Derived.Test.YtdicmlbgpbglpaaDoorWalkInsRead
import Derived.Test.YtdicmlbgpbglpaaDoorDrawInsRead
import Derived.Deep.RegionHeld3
import Derived.Deep.RegionWith
import Derived.Laws.StructEq
namespace Go.Proofs.YtdicmlbgpbglpaaDoor
open Go.ChangeShapes Go.WideShapes Go.ChangeAt Go.RowKit Go.Joins
set_option linter.unusedVariables false

theorem implInsText_at (k o m : Int) (l : List UInt8) (h : insText k o m = l) (w : World) (hp : readAt w) :
    Calls Tryd.prog 19 #[.agg #[.int .i64 k, .int .i64 o, .int .i64 m]] w fun e w' => e = .returned (.string ⟨l.toArray⟩) ∧ Below w.heap.size w w' := h ▸ implInsText_any k o m w hp.1 hp.2.2

/-- Two instructions lie in their blocks; all that was there is as it was. -/
structure KeptI (w : World) (b x : Nat) (k o m k' o' m' : Int) (W : World) : Prop where
  f : Rec W b 35 [.int .i64 k, .int .i64 o, .int .i64 m]
  x : Rec W x 35 [.int .i64 k', .int .i64 o', .int .i64 m']
  b : Below w.heap.size w W
theorem KeptI.go {w W W' : World} {b x : Nat} {k o m k' o' m' : Int} (h : KeptI w b x k o m k' o' m' W) (hb : Below W.heap.size W W') : KeptI w b x k o m k' o' m' W' := ⟨h.f.below hb h.f.lt, h.x.below hb h.x.lt, h.b.trans (hb.mono h.b.size)⟩

theorem KeptI.drew {w W : World} {b x : Nat} {k o m k' o' m' : Int} (h : KeptI w b x k o m k' o' m' W) : KeptI w b x k o m k' o' m' W.drew := ⟨h.f, h.x, h.b.drew⟩

set_option maxHeartbeats 6400000 in
theorem fnIns_walk (a : Option Addr) (cap n : Nat) (hc : n ≤ cap) (a' : Option Addr) (cap' n' : Nat) (hc' : n' ≤ cap') (w : World) (hx : BytesIn w w.heap.size a n) (hx' : BytesIn w w.heap.size a' n') (hp : pow10 w) (he : errsAt w) (hl : wordsAt w) :
    Calls Tryd.prog 6 #[.slice a n cap, .slice a' n' cap'] w fun e w' => e = .returned (.bool true) ∧ Below w.heap.size w w' := by
  by_cases hz : 1048576 < n
  · have g1 : (1048576 : Int) < (n : Int) := by omega
    go_enter Tryd.func6, Tryd.ntmps6
    go_wp2_with fail
    go_ret
    exact ⟨rfl, Below.refl _ _⟩
  by_cases hz' : 1048576 < n'
  · have g1 : (1048576 : Int) < (n' : Int) := by omega
    have g2 : (n : Int) ≤ 1048576 := by omega
    go_enter Tryd.func6, Tryd.ntmps6
    go_wp2_with fail
    go_ret
    exact ⟨rfl, Below.refl _ _⟩
  have g1 : (n : Int) ≤ 1048576 := by omega
  have g2 : (n' : Int) ≤ 1048576 := by omega
  have HP : Hid (readAt w) := ⟨hp, he, hl⟩
  have HX' := hide hx'
  clear hp he hl hx'
  go_enter Tryd.func6, Tryd.ntmps6
  go_wp2_with fail
  refine (dDrawInsText_any a cap n _ hc hx).mono ?_
  rintro e w1 ⟨k, o, m, rfl, b1⟩
  have B1 := hide b1
  clear b1 hx
  obtain ⟨l, hlt⟩ : ∃ l, insText k o m = l := ⟨_, rfl⟩
  have hlen := insText_len k o m
  rw [hlt] at hlen
  have HT := hide hlt
  clear hlt
  go_wp2_with fail
  have V0 : Hid (Below w.heap.size w (w1.alloc (.cells #[.int .i64 k, .int .i64 o, .int .i64 m] 35))) := Below.al B1.out (Nat.le_refl _) _
  have F0 : Hid (Rec (w1.alloc (.cells #[.int .i64 k, .int .i64 o, .int .i64 m] 35)) w1.heap.size 35 [.int .i64 k, .int .i64 o, .int .i64 m]) := Rec.new' _ _ _ _ rfl
  generalize w1.alloc (.cells #[.int .i64 k, .int .i64 o, .int .i64 m] 35) = v0 at V0 F0 ⊢
  refine (implInsText_at k o m l HT.out _ (HP.out.keep V0.out)).mono ?_
  rintro e w2 ⟨rfl, b2⟩
  have V2 : Hid (Below w.heap.size w w2) := V0.out.trans (b2.mono V0.out.size)
  have F2 := hide (F0.out.below b2 F0.out.lt)
  obtain ⟨S, hS⟩ : ∃ S : ByteArray, S = ⟨l.toArray⟩ := ⟨_, rfl⟩
  have hSl : S.data.toList = l := by rw [hS]
  have hSz : S.size ≤ 19 := by rw [size_list, hSl]; exact hlen
  rw [← hS]
  have HS := hide hS
  have HSL := hide hSl
  clear b2 hS hSl hlen V0 F0
  go_wp2_with fail
  refine (implInsRead_any S _ (by omega) (HP.out.keep V2.out)).mono ?_
  rintro e w3 ⟨ans, b3⟩
  have V3 : Hid (Below w.heap.size w w3) := V2.out.trans (b3.mono V2.out.size)
  have F3 := hide (F2.out.below b3 F2.out.lt)
  clear b3
  rw [HSL.out] at ans
  obtain ⟨c, hok⟩ : ∃ c, insOk k o m = c := ⟨_, rfl⟩
  have HK := hide hok
  have key : ∃ k' o' m', e = .returned (.tuple #[.agg #[.int .i64 k', .int .i64 o', .int .i64 m'], .bool c]) ∧ (c = true → k' = k ∧ o' = o ∧ m' = m) := by
    cases c
    · have hl0 : l = [] := by rw [← HT.out]; simp [insText, hok]
      cases ans with
      | yes hF =>
        exfalso
        have h1 := isIns_cuts hF
        rw [hl0] at h1
        have h2 := (insWs_words (isIns_span hF)).2 [] (by rw [← h1]; simp [cuts, cutsFrom])
        exact h2.1 rfl
      | no hn => exact ⟨0, 0, 0, rfl, fun h => (by cases h)⟩
    · cases ans with
      | yes hF =>
        obtain ⟨rfl, rfl, rfl⟩ := isIns_inj hF ⟨hok, HT.out⟩
        exact ⟨_, _, _, rfl, fun _ => ⟨rfl, rfl, rfl⟩⟩
      | no hn => exact absurd ⟨hok, HT.out⟩ (hn k o m)
  obtain ⟨k', o', m', rfl, hxx⟩ := key
  have HXX := hide hxx
  clear hxx ans hok
  have K3 : Hid (∀ a b c, a = k' → b = o' → c = m' → KeptI w w1.heap.size w3.heap.size k o m a b c (w3.alloc (.cells #[.int .i64 a, .int .i64 b, .int .i64 c] 35))) := fun a b c h1 h2 h3 => ⟨F3.out.alloc _, Rec.new' _ _ _ _ rfl, Below.al V3.out (Nat.le_refl _) _⟩
  have f0 := F3.out.cell (o := 0) rfl
  have f1 := F3.out.cell (o := 1) rfl
  have f2 := F3.out.cell (o := 2) rfl
  have flt := F3.out.lt
  have CT : Hid (∀ a b c W, KeptI w w1.heap.size w3.heap.size k o m a b c W → Calls Tryd.prog 20 #[.agg #[.int .i64 k, .int .i64 o, .int .i64 m]] W fun e w' => e = .returned (.string S) ∧ KeptI w w1.heap.size w3.heap.size k o m a b c w') := fun a b c W hW =>
    (specInsText_at k o m l HT.out W).mono fun e w' ⟨he, hb⟩ => ⟨by rw [he, HS.out], hW.go hb⟩
  clear F2 F3 V2
  cases c
  · have CI : Hid (∀ W, KeptI w w1.heap.size w3.heap.size k o m k' o' m' W → Calls Tryd.prog 21 #[.agg #[.int .i64 k, .int .i64 o, .int .i64 m]] W fun e w' => e = .returned (.bool false) ∧ KeptI w w1.heap.size w3.heap.size k o m k' o' m' w') := fun W hW =>
      (implInsOk_at _ _ _ _ HK.out W).mono fun e w' ⟨he, hb⟩ => ⟨he, hW.go hb⟩
    have CJ : Hid (∀ W, KeptI w w1.heap.size w3.heap.size k o m k' o' m' W → Calls Tryd.prog 22 #[.agg #[.int .i64 k, .int .i64 o, .int .i64 m]] W fun e w' => e = .returned (.bool false) ∧ KeptI w w1.heap.size w3.heap.size k o m k' o' m' w') := fun W hW =>
      (specInsOk_at _ _ _ _ HK.out W).mono fun e w' ⟨he, hb⟩ => ⟨he, hW.go hb⟩
    have CT1 := hide (CT.out k' o' m')
    have K4 := hide (K3.out _ _ _ rfl rfl rfl)
    clear K3 CT
    go_wp2_with fail
    go_region_with (first
      | (go_at_call 20; refine (CT1.out _ ?_).mono ?_; (first | assumption | exact K4.out | exact K4.out.drew); rintro e v1 ⟨rfl, hk1⟩; have c0 := hk1.f.cell (o := 0) rfl; have c1 := hk1.f.cell (o := 1) rfl; have c2 := hk1.f.cell (o := 2) rfl)
      | (go_at_call 21; refine (CI.out _ ?_).mono ?_; assumption; rintro e v2 ⟨rfl, hk2⟩; have c0 := hk2.f.cell (o := 0) rfl; have c1 := hk2.f.cell (o := 1) rfl; have c2 := hk2.f.cell (o := 2) rfl)
      | (go_at_call 22; refine (CJ.out _ ?_).mono ?_; assumption; rintro e v3 ⟨rfl, hk3⟩; have c0 := hk3.f.cell (o := 0) rfl; have c1 := hk3.f.cell (o := 1) rfl; have c2 := hk3.f.cell (o := 2) rfl; have d0 := hk3.x.cell (o := 0) rfl; have d1 := hk3.x.cell (o := 1) rfl; have d2 := hk3.x.cell (o := 2) rfl))
    all_goals
      have K5 := hide hk3
      try clear hk1
      try clear hk2
      try clear hk3
      try clear hk3
      go_wp2_with fail
      refine (drawInsRead_any a' cap' n' _ hc' ((HX'.out.keep K5.out.b).wider K5.out.b.size)).mono ?_
      rintro e w6 ⟨T, rfl, hT, b6⟩
      have V6 : Hid (Below w.heap.size w w6) := K5.out.b.trans (b6.mono K5.out.b.size)
      clear b6 K5
      go_wp2_with fail
      refine (implInsRead_any T _ (by omega) (HP.out.keep V6.out)).mono ?_
      rintro e w7 ⟨ans, b7⟩
      have V7 : Hid (Below w.heap.size w w7) := V6.out.trans (b7.mono V6.out.size)
      clear b7
      have HANS := hide ans
      obtain ⟨ky, oy, my, bb, rfl, _⟩ := ans.same ans
      have HF : Hid (bb = true → IsIns T.data.toList ky oy my) := by
        intro hb
        subst hb
        generalize hq : Ending.returned (.tuple #[.agg #[.int .i64 ky, .int .i64 oy, .int .i64 my], .bool true]) = e at ans
        cases ans with
        | yes h =>
          injection hq with hq
          simp at hq
          obtain ⟨rfl, rfl, rfl⟩ := hq
          exact h
        | no h =>
          injection hq with hq
          simp at hq
      clear ans
      go_wp2_with fail
      have V7' : Hid (Below w.heap.size w (w7.alloc (.cells #[.int .i64 ky, .int .i64 oy, .int .i64 my] 35))) := Below.al V7.out (Nat.le_refl _) _
      have Y7 : Hid (Rec (w7.alloc (.cells #[.int .i64 ky, .int .i64 oy, .int .i64 my] 35)) w7.heap.size 35 [.int .i64 ky, .int .i64 oy, .int .i64 my]) := Rec.new' _ _ _ _ rfl
      generalize w7.alloc (.cells #[.int .i64 ky, .int .i64 oy, .int .i64 my] 35) = v7 at V7' Y7 ⊢
      refine (specInsRead_any T _ (by omega)).mono ?_
      rintro e w8 ⟨ans2, b8⟩
      obtain ⟨k1, o1, m1, b1, q1, rfl⟩ := HANS.out.same ans2
      have q3 : b1 = bb := by
        injection q1 with q1
        simp at q1
        exact q1.2.symm
      subst q3
      have V8 : Hid (Below w.heap.size w w8) := V7'.out.trans (b8.mono V7'.out.size)
      have Y8 := hide (Y7.out.below b8 Y7.out.lt)
      clear b8 q1 ans2 HANS V7' Y7
      have y0 := Y8.out.cell (o := 0) rfl
      have y1 := Y8.out.cell (o := 1) rfl
      have y2 := Y8.out.cell (o := 2) rfl
      have ylt := Y8.out.lt
      cases b1
      · go_wp2_with fail
        go_ret
        exact ⟨rfl, Below.al V8.out (Nat.le_refl _) _⟩
      · have HF1 := hide (HF.out rfl)
        go_wp2_with fail
        have V8' : Hid (Below w.heap.size w (w8.alloc (.cells #[.int .i64 k1, .int .i64 o1, .int .i64 m1] 35))) := Below.al V8.out (Nat.le_refl _) _
        have Y8' := hide (Y8.out.alloc (.cells #[.int .i64 k1, .int .i64 o1, .int .i64 m1] 35))
        refine (implInsText_at ky oy my _ HF1.out.2 _ (HP.out.keep V8'.out)).mono ?_
        rintro e w9 ⟨rfl, b9⟩
        rw [bytes_eta T]
        have V9 : Hid (Below w.heap.size w w9) := V8'.out.trans (b9.mono V8'.out.size)
        have Y9 := hide (Y8'.out.below b9 Y8'.out.lt)
        clear b9 y0 y1 y2 ylt
        have y0 := Y9.out.cell (o := 0) rfl
        have y1 := Y9.out.cell (o := 1) rfl
        have y2 := Y9.out.cell (o := 2) rfl
        have ylt := Y9.out.lt
        go_wp2_with fail
        refine (implInsOk_at ky oy my true HF1.out.1 _).mono ?_
        rintro e w10 ⟨rfl, b10⟩
        have V10 : Hid (Below w.heap.size w w10) := V9.out.trans (b10.mono V9.out.size)
        clear b10
        go_wp2_with fail
        go_ret
        exact ⟨rfl, V10.out⟩
  · obtain ⟨e1, e2, e3⟩ := HXX.out rfl
    clear HXX
    subst k' o' m'
    have CI : Hid (∀ W, KeptI w w1.heap.size w3.heap.size k o m k o m W → Calls Tryd.prog 21 #[.agg #[.int .i64 k, .int .i64 o, .int .i64 m]] W fun e w' => e = .returned (.bool true) ∧ KeptI w w1.heap.size w3.heap.size k o m k o m w') := fun W hW =>
      (implInsOk_at _ _ _ _ HK.out W).mono fun e w' ⟨he, hb⟩ => ⟨he, hW.go hb⟩
    have CJ : Hid (∀ W, KeptI w w1.heap.size w3.heap.size k o m k o m W → Calls Tryd.prog 22 #[.agg #[.int .i64 k, .int .i64 o, .int .i64 m]] W fun e w' => e = .returned (.bool true) ∧ KeptI w w1.heap.size w3.heap.size k o m k o m w') := fun W hW =>
      (specInsOk_at _ _ _ _ HK.out W).mono fun e w' ⟨he, hb⟩ => ⟨he, hW.go hb⟩
    have CT1 := hide (CT.out k o m)
    have K4 := hide (K3.out _ _ _ rfl rfl rfl)
    clear K3 CT
    go_wp2_with fail
    go_region_with (first
      | (go_at_call 20; refine (CT1.out _ ?_).mono ?_; (first | assumption | exact K4.out | exact K4.out.drew); rintro e v1 ⟨rfl, hk1⟩; have c0 := hk1.f.cell (o := 0) rfl; have c1 := hk1.f.cell (o := 1) rfl; have c2 := hk1.f.cell (o := 2) rfl)
      | (go_at_call 21; refine (CI.out _ ?_).mono ?_; assumption; rintro e v2 ⟨rfl, hk2⟩; have c0 := hk2.f.cell (o := 0) rfl; have c1 := hk2.f.cell (o := 1) rfl; have c2 := hk2.f.cell (o := 2) rfl)
      | (go_at_call 22; refine (CJ.out _ ?_).mono ?_; assumption; rintro e v3 ⟨rfl, hk3⟩; have c0 := hk3.f.cell (o := 0) rfl; have c1 := hk3.f.cell (o := 1) rfl; have c2 := hk3.f.cell (o := 2) rfl; have d0 := hk3.x.cell (o := 0) rfl; have d1 := hk3.x.cell (o := 1) rfl; have d2 := hk3.x.cell (o := 2) rfl))
    all_goals
      have K5 := hide hk3
      try clear hk1
      try clear hk2
      try clear hk3
      try clear hk3
      go_wp2_with fail
      refine (drawInsRead_any a' cap' n' _ hc' ((HX'.out.keep K5.out.b).wider K5.out.b.size)).mono ?_
      rintro e w6 ⟨T, rfl, hT, b6⟩
      have V6 : Hid (Below w.heap.size w w6) := K5.out.b.trans (b6.mono K5.out.b.size)
      clear b6 K5
      go_wp2_with fail
      refine (implInsRead_any T _ (by omega) (HP.out.keep V6.out)).mono ?_
      rintro e w7 ⟨ans, b7⟩
      have V7 : Hid (Below w.heap.size w w7) := V6.out.trans (b7.mono V6.out.size)
      clear b7
      have HANS := hide ans
      obtain ⟨ky, oy, my, bb, rfl, _⟩ := ans.same ans
      have HF : Hid (bb = true → IsIns T.data.toList ky oy my) := by
        intro hb
        subst hb
        generalize hq : Ending.returned (.tuple #[.agg #[.int .i64 ky, .int .i64 oy, .int .i64 my], .bool true]) = e at ans
        cases ans with
        | yes h =>
          injection hq with hq
          simp at hq
          obtain ⟨rfl, rfl, rfl⟩ := hq
          exact h
        | no h =>
          injection hq with hq
          simp at hq
      clear ans
      go_wp2_with fail
      have V7' : Hid (Below w.heap.size w (w7.alloc (.cells #[.int .i64 ky, .int .i64 oy, .int .i64 my] 35))) := Below.al V7.out (Nat.le_refl _) _
      have Y7 : Hid (Rec (w7.alloc (.cells #[.int .i64 ky, .int .i64 oy, .int .i64 my] 35)) w7.heap.size 35 [.int .i64 ky, .int .i64 oy, .int .i64 my]) := Rec.new' _ _ _ _ rfl
      generalize w7.alloc (.cells #[.int .i64 ky, .int .i64 oy, .int .i64 my] 35) = v7 at V7' Y7 ⊢
      refine (specInsRead_any T _ (by omega)).mono ?_
      rintro e w8 ⟨ans2, b8⟩
      obtain ⟨k1, o1, m1, b1, q1, rfl⟩ := HANS.out.same ans2
      have q3 : b1 = bb := by
        injection q1 with q1
        simp at q1
        exact q1.2.symm
      subst q3
      have V8 : Hid (Below w.heap.size w w8) := V7'.out.trans (b8.mono V7'.out.size)
      have Y8 := hide (Y7.out.below b8 Y7.out.lt)
      clear b8 q1 ans2 HANS V7' Y7
      have y0 := Y8.out.cell (o := 0) rfl
      have y1 := Y8.out.cell (o := 1) rfl
      have y2 := Y8.out.cell (o := 2) rfl
      have ylt := Y8.out.lt
      cases b1
      · go_wp2_with fail
        go_ret
        exact ⟨rfl, Below.al V8.out (Nat.le_refl _) _⟩
      · have HF1 := hide (HF.out rfl)
        go_wp2_with fail
        have V8' : Hid (Below w.heap.size w (w8.alloc (.cells #[.int .i64 k1, .int .i64 o1, .int .i64 m1] 35))) := Below.al V8.out (Nat.le_refl _) _
        have Y8' := hide (Y8.out.alloc (.cells #[.int .i64 k1, .int .i64 o1, .int .i64 m1] 35))
        refine (implInsText_at ky oy my _ HF1.out.2 _ (HP.out.keep V8'.out)).mono ?_
        rintro e w9 ⟨rfl, b9⟩
        rw [bytes_eta T]
        have V9 : Hid (Below w.heap.size w w9) := V8'.out.trans (b9.mono V8'.out.size)
        have Y9 := hide (Y8'.out.below b9 Y8'.out.lt)
        clear b9 y0 y1 y2 ylt
        have y0 := Y9.out.cell (o := 0) rfl
        have y1 := Y9.out.cell (o := 1) rfl
        have y2 := Y9.out.cell (o := 2) rfl
        have ylt := Y9.out.lt
        go_wp2_with fail
        refine (implInsOk_at ky oy my true HF1.out.1 _).mono ?_
        rintro e w10 ⟨rfl, b10⟩
        have V10 : Hid (Below w.heap.size w w10) := V9.out.trans (b10.mono V9.out.size)
        clear b10
        go_wp2_with fail
        go_ret
        exact ⟨rfl, V10.out⟩
end Go.Proofs.YtdicmlbgpbglpaaDoor
