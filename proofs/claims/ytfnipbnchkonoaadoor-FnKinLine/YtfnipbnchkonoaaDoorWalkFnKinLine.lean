/- The law of lines on drawn groups. -/
import Derived.Test.YtfnipbnchkonoaaDoorKinMath5
import Derived.Test.YtfnipbnchkonoaaDoorWalkFnKinUp
namespace Go.Proofs.YtfnipbnchkonoaaDoor
open Go.ChangeShapes Go.WideShapes Go.ChangeAt Go.RowKit Go.Deep
set_option linter.unusedVariables false

/-- KinIn, plainly: to is not empty, line is no shorter, and has at the place of the last of to that number. -/
def kinIn (n m : Nat) (f g : Nat → Int) : Bool := decide (0 < m) && (decide (m ≤ n) && (f (m - 1) == g (m - 1)))

set_option maxHeartbeats 400000 in
theorem specKinIn_core (a a' : Option Addr) (cap cap' n m : Nat) (f g : Nat → Int) (w : World) (hn : n ≤ 1048576) (hm : m ≤ 1048576)
    (hx : n ≤ 0 ∨ ∃ b off, a = some ⟨b, off, none⟩ ∧ (∀ i, i < n → w.cell? ⟨b, off + i, none⟩ = some (.int .i64 (f i))))
    (hy : m ≤ 0 ∨ ∃ b off, a' = some ⟨b, off, none⟩ ∧ (∀ i, i < m → w.cell? ⟨b, off + i, none⟩ = some (.int .i64 (g i)))) :
    Calls Tryd.prog 35 #[.slice a n cap, .slice a' m cap'] w fun e w' => e = .returned (.bool (kinIn n m f g)) ∧ ∃ q, w' = w.drewN q := by
  by_cases h0 : 0 < m
  · have hm1 : ((m - 1 : Nat) : Int) = (m : Int) - 1 := by omega
    by_cases h1 : m ≤ n
    · rcases hx with hx | ⟨b, off, rfl, hx⟩
      · omega
      rcases hy with hy | ⟨b', off', rfl, hy⟩
      · omega
      have c1 := hx (m - 1) (by omega)
      have c2 := hy (m - 1) (by omega)
      have g1 : (0 : Int) < (m : Int) := by omega
      have g2 : (m : Int) ≤ (n : Int) := by omega
      have g3 : (0 : Int) ≤ (m : Int) - 1 := by omega
      have g4 : (m : Int) - 1 < (n : Int) := by omega
      have g5 : (m : Int) - 1 < (m : Int) := by omega
      have t1 : ((m : Int) - 1).toNat = m - 1 := by omega
      have HK : Hid (kinIn n m f g = (f (m - 1) == g (m - 1))) := by simp [Hid, kinIn, h0, h1]
      clear hx hy hm1
      go_enter Tryd.func35, Tryd.ntmps35
      go_wp2
      go_quiet (fail)
      go_wp2
      go_ret
      exact ⟨ret_bool HK.out.symm, _, rfl⟩
    · have hd : decide ((m : Int) ≤ (n : Int)) = false := by simp; omega
      have g1 : (0 : Int) < (m : Int) := by omega
      have HK : Hid (kinIn n m f g = false) := by simp [Hid, kinIn, h1]
      clear hm1
      go_enter Tryd.func35, Tryd.ntmps35
      go_wp2
      go_quiet (fail)
      go_wp2
      go_ret
      exact ⟨ret_bool HK.out.symm, _, rfl⟩
  · have hd : decide ((0 : Int) < (m : Int)) = false := by simp; omega
    have HK : Hid (kinIn n m f g = false) := by simp [Hid, kinIn, h0]
    go_enter Tryd.func35, Tryd.ntmps35
    go_wp2
    go_quiet (fail)
    go_wp2
    go_ret
    exact ⟨ret_bool HK.out.symm, _, rfl⟩

set_option maxHeartbeats 400000 in
theorem implKinIn_core (a a' : Option Addr) (cap cap' n m : Nat) (f g : Nat → Int) (w : World) (hn : n ≤ 1048576) (hm : m ≤ 1048576)
    (hx : n ≤ 0 ∨ ∃ b off, a = some ⟨b, off, none⟩ ∧ (∀ i, i < n → w.cell? ⟨b, off + i, none⟩ = some (.int .i64 (f i))))
    (hy : m ≤ 0 ∨ ∃ b off, a' = some ⟨b, off, none⟩ ∧ (∀ i, i < m → w.cell? ⟨b, off + i, none⟩ = some (.int .i64 (g i)))) :
    Calls Tryd.prog 34 #[.slice a n cap, .slice a' m cap'] w fun e w' => e = .returned (.bool (kinIn n m f g)) ∧ ∃ q, w' = w.drewN q := by
  by_cases h0 : 0 < m
  · have g0 : ((m : Int) == 0) = false := by simp; omega
    by_cases h1 : m ≤ n
    · rcases hx with hx | ⟨b, off, rfl, hx⟩
      · omega
      rcases hy with hy | ⟨b', off', rfl, hy⟩
      · omega
      have c1 := hx (m - 1) (by omega)
      have c2 := hy (m - 1) (by omega)
      have gd : decide ((n : Int) < (m : Int)) = false := by simp; omega
      have g1 : (0 : Int) < (m : Int) := by omega
      have g2 : (m : Int) ≤ (n : Int) := by omega
      have g3 : (0 : Int) ≤ (m : Int) - 1 := by omega
      have g4 : (m : Int) - 1 < (n : Int) := by omega
      have g5 : (m : Int) - 1 < (m : Int) := by omega
      have t1 : ((m : Int) - 1).toNat = m - 1 := by omega
      have HK : Hid (kinIn n m f g = (f (m - 1) == g (m - 1))) := by simp [Hid, kinIn, h0, h1]
      clear hx hy
      go_enter Tryd.func34, Tryd.ntmps34
      go_wp2
      go_quiet (fail)
      go_wp2
      go_ret
      exact ⟨ret_bool HK.out.symm, _, rfl⟩
    · have gd : decide ((n : Int) < (m : Int)) = true := by simp; omega
      have g1 : (0 : Int) < (m : Int) := by omega
      have HK : Hid (kinIn n m f g = false) := by simp [Hid, kinIn, h1]
      clear hx hy
      go_enter Tryd.func34, Tryd.ntmps34
      go_wp2
      go_ret
      exact ⟨ret_bool HK.out.symm, 0, rfl⟩
  · have hd : ((m : Int) == 0) = true := by simp; omega
    have HK : Hid (kinIn n m f g = false) := by simp [Hid, kinIn, h0]
    clear hx hy
    go_enter Tryd.func34, Tryd.ntmps34
    go_wp2
    go_ret
    exact ⟨ret_bool HK.out.symm, 0, rfl⟩


/-- Drawn groups and two lists of numbers. -/
structure LS (w0 w : World) (ga gc : Nat) (gs : List (List Ty)) (xa ya : Option Addr) (xs ys : List Int) : Prop where
  g : GS w0 w ga gc gs
  x : IntsAt w xa xs
  y : IntsAt w ya ys
theorem LS.keep {w0 w w' : World} {ga gc : Nat} {gs : List (List Ty)} {xa ya : Option Addr} {xs ys : List Int} (h : LS w0 w ga gc gs xa ya xs ys) (hb : Below w.heap.size w w') : LS w0 w' ga gc gs xa ya xs ys := ⟨h.g.keep hb, h.x.keep hb, h.y.keep hb⟩
theorem LS.drewN {w0 w : World} {ga gc : Nat} {gs : List (List Ty)} {xa ya : Option Addr} {xs ys : List Int} (h : LS w0 w ga gc gs xa ya xs ys) (q : Nat) : LS w0 (w.drewN q) ga gc gs xa ya xs ys := h.keep (below_drewN (Below.refl _ _) q)
def kinInL (xs ys : List Int) : Bool := kinIn xs.length ys.length (fun i => xs.getD i 0) (fun i => ys.getD i 0)
theorem IntsAt.core {w : World} {a : Option Addr} {xs : List Int} (h : IntsAt w a xs) : xs.length ≤ 0 ∨ ∃ b off, a = some ⟨b, off, none⟩ ∧ (∀ i, i < xs.length → w.cell? ⟨b, off + i, none⟩ = some (.int .i64 (xs.getD i 0))) := by
  rcases h with rfl | ⟨b, off, h1, h2, h3⟩
  · exact .inl (Nat.le_refl _)
  · exact .inr ⟨b, off, h1, h3⟩
theorem LS.implIn {w0 w : World} {ga gc xc yc : Nat} {gs : List (List Ty)} {xa ya : Option Addr} {xs ys : List Int} (h : LS w0 w ga gc gs xa ya xs ys) (lx : xs.length ≤ 9) (ly : ys.length ≤ 9) {v : Bool} (hv : kinInL xs ys = v) :
    Calls Tryd.prog 34 #[.slice xa xs.length xc, .slice ya ys.length yc] w fun e w' => e = .returned (.bool v) ∧ Below w.heap.size w w' := by
  subst hv
  exact (implKinIn_core xa ya xc yc xs.length ys.length _ _ w (by omega) (by omega) h.x.core h.y.core).mono fun e w' ⟨q1, q, q2⟩ => ⟨q1, by rw [q2]; exact below_drewN (Below.refl _ _) q⟩
theorem LS.specIn {w0 w : World} {ga gc xc yc : Nat} {gs : List (List Ty)} {xa ya : Option Addr} {xs ys : List Int} (h : LS w0 w ga gc gs xa ya xs ys) (lx : xs.length ≤ 9) (ly : ys.length ≤ 9) {v : Bool} (hv : kinInL xs ys = v) :
    Calls Tryd.prog 35 #[.slice xa xs.length xc, .slice ya ys.length yc] w fun e w' => e = .returned (.bool v) ∧ Below w.heap.size w w' := by
  subst hv
  exact (specKinIn_core xa ya xc yc xs.length ys.length _ _ w (by omega) (by omega) h.x.core h.y.core).mono fun e w' ⟨q1, q, q2⟩ => ⟨q1, by rw [q2]; exact below_drewN (Below.refl _ _) q⟩
theorem wpInts_b (xa ya : Option Addr) (xc yc : Nat) (xs ys : List Int) (w : World) (hx : IntsAt w xa xs) (hy : IntsAt w ya ys) (lx : xs.length ≤ 9) (ly : ys.length ≤ 9) {v : Bool} (hv : decide (xs = ys) = v) :
    Calls Tryd.prog 32 #[.slice xa xs.length xc, .slice ya ys.length yc] w fun e w' => e = .returned (.bool v) ∧ Below w.heap.size w w' :=
  (wpInts_any xa ya xc yc xs ys w hx hy (by omega) (by omega) hv).mono fun e w' ⟨q1, q, q2⟩ => ⟨q1, by rw [q2]; exact below_drewN (Below.refl _ _) q⟩
theorem GS.specLine {w0 w : World} {ga gc : Nat} {gs : List (List Ty)} (h : GS w0 w ga gc gs) {a : Int} {xs : List Int} (hv : lineF gs a = xs) :
    Calls Tryd.prog 33 #[.slice (some ⟨ga, 0, none⟩) gs.length gc, .int .i64 a] w fun e w' => ∃ ad cap, e = .returned (.slice ad xs.length cap) ∧ IntsAt w' ad xs ∧ Below w.heap.size w w' := by
  obtain ⟨hi, h1, h2, h3⟩ := h.mem
  subst hv
  exact (specKinLine_any (some ⟨ga, 0, none⟩) gc _ hi gs a w h.few h.cap h1 h2 h3).mono fun e w' ⟨g, cap, q1, q2, q3⟩ => ⟨some ⟨g, 0, none⟩, cap, q1, q2.at, q3⟩
theorem lineF_of {gs : List (List Ty)} {a : Int} (hk : kinOkF gs = true) (h1 : 0 ≤ a) (h2 : a < (kinCount gs : Int)) : lineF gs a = lineN gs a.toNat := by
  unfold lineF lineN
  rw [if_pos (by simp [hk, isTypeF_iff.2 ⟨h1, h2⟩]), Int.toNat_of_nonneg h1]
theorem lineF_pos {gs : List (List Ty)} {a : Int} (h : lineF gs a ≠ []) : kinOkF gs = true ∧ 0 ≤ a ∧ a < (kinCount gs : Int) := by
  unfold lineF at h
  split at h
  · rename_i hc
    simp only [Bool.and_eq_true] at hc
    exact ⟨hc.2, isTypeF_iff.1 hc.1⟩
  · exact absurd rfl h
/-- All that the law asks of two lines. -/
theorem line_facts {gs : List (List Ty)} {a b : Int} {xs ys : List Int} (hx : lineF gs a = xs) (hy : lineF gs b = ys) (nx : xs ≠ []) (ny : ys ≠ []) :
    kinInL xs ys = underB gs a b ∧ decide (xs = ys) = sameB gs a b ∧ (kinInL xs ys = true → ys.length ≤ xs.length ∧ xs.take ys.length = ys) ∧ xs.getD (xs.length - 1) 0 = canonF gs a ∧ isTypeF gs a = true ∧ lineF gs (tyOr gs a).up = xs.take (xs.length - 1) := by
  obtain ⟨hk, a0, a1⟩ := lineF_pos (gs := gs) (a := a) (by rw [hx]; exact nx)
  obtain ⟨_, b0, b1⟩ := lineF_pos (gs := gs) (a := b) (by rw [hy]; exact ny)
  have hP := kinOk_parts hk
  rw [lineF_of hk a0 a1] at hx
  rw [lineF_of hk b0 b1] at hy
  obtain ⟨p, rfl⟩ := Int.eq_ofNat_of_zero_le a0
  obtain ⟨q, rfl⟩ := Int.eq_ofNat_of_zero_le b0
  rw [Int.toNat_natCast] at hx hy
  have hp : p < kinCount gs := by omega
  have hq : q < kinCount gs := by omega
  obtain ⟨u1, u2⟩ := under_line hP hp hq
  obtain ⟨l, e⟩ := lineN_last hP hp
  rw [hx, hy] at u1 u2
  rw [hx] at e
  have ypos : 0 < ys.length := List.length_pos_iff.2 ny
  have key : kinInL xs ys = underB gs p q := by
    rw [underB_of hk (by omega) a1 (by omega) b1, Bool.eq_iff_iff, u1]
    unfold kinInL kinIn
    simp only [Bool.and_eq_true, decide_eq_true_eq, beq_iff_eq]
    exact ⟨fun h => h.2, fun h => ⟨ypos, h⟩⟩
  refine ⟨key, ?_, fun h => ?_, ?_, isTypeF_iff.2 ⟨a0, a1⟩, ?_⟩
  · rw [sameB_of hk a0 a1 b0 b1, Int.toNat_natCast, Int.toNat_natCast, same_canon hP hp hq, ← hx, ← hy]
    congr 1
    exact propext (lineN_inj hP hp hq)
  · rw [key, underB_of hk (by omega) a1 (by omega) b1] at h
    exact ⟨(u1.1 h).1, u2 h⟩
  · rw [canonF_of hk a0 a1, Int.toNat_natCast, e]; simp
  · rw [tyOr_of a0 a1, Int.toNat_natCast]
    rcases lineN_cases hP hp with ⟨h1, e1⟩ | ⟨u, hu, hlt, hul, e1⟩
    · have e2 : lineF gs (tyN gs p).up = [] := by
        unfold lineF
        rw [if_neg]
        simp only [Bool.and_eq_true]
        rintro ⟨h, _⟩
        have := (isTypeF_iff.1 h).1
        omega
      rw [e2, ← hx, e1]; simp
    · rw [hu, lineF_of hk (by omega) (by omega), Int.toNat_natCast, ← hx, e1]; simp

set_option maxHeartbeats 8000000 in
set_option maxRecDepth 100000 in
theorem fnKinLine_walk (a0 : Option Addr) (cap0 n0 : Nat) (hc0 : n0 ≤ cap0) (w : World) (h0 : BytesIn w w.heap.size a0 n0) (ht : pow10 w) :
    Calls Tryd.prog 7 #[.slice a0 n0 cap0] w fun e w' => e = .returned (.bool true) ∧ Below w.heap.size w w' := by
  by_cases l0 : 1048576 < n0
  · have k0 : (1048576 : Int) < (n0 : Int) := by omega
    go_enter Tryd.func7, Tryd.ntmps7
    go_wp2_with fail
    go_ret
    exact ⟨rfl, Below.refl _ _⟩
  have k0 : (n0 : Int) ≤ 1048576 := by omega
  go_enter Tryd.func7, Tryd.ntmps7
  go_wp2_with fail
  refine (drawKinSame_any a0 cap0 n0 w hc0 h0 ht).mono ?_
  rintro e w1 ⟨gs, ga, gc, a, b, rfl, G1, ⟨a1, a2⟩, b1, b2⟩
  have n2 := G1.count
  obtain ⟨xs, hxs⟩ : ∃ xs, lineF gs a = xs := ⟨_, rfl⟩
  obtain ⟨ys, hys⟩ : ∃ ys, lineF gs b = ys := ⟨_, rfl⟩
  obtain ⟨k, hk⟩ : ∃ k, kinInL xs ys = k := ⟨_, rfl⟩
  have HXS := hide hxs
  have HYS := hide hys
  have HKI := hide hk
  go_wp2_with fail
  refine (G1.implLineC HXS.out).mono ?_
  rintro e w2 ⟨xa, xc, rfl, lx, xcap, X2, B2⟩
  have G2 := G1.keep B2
  clear G1 B2
  go_wp2_with fail
  refine (G2.implLine HYS.out).mono ?_
  rintro e w3 ⟨ya, yc, rfl, ly, Y3, B3, G3⟩
  have L3 : LS w w3 ga gc gs xa ya xs ys := ⟨G3, X2.keep B3, Y3⟩
  clear X2 Y3 B3 G3 G2
  have lxc : (xs.length : Int) ≤ 9 := by omega
  have lyc : (ys.length : Int) ≤ 9 := by omega
  go_wp2_with fail
  refine (L3.g.specLine HXS.out).mono ?_
  rintro e w21 ⟨x2, xc2, rfl, X2, bb⟩
  have L21 := L3.keep bb
  clear bb L3
  go_wp2_with fail
  refine (wpInts_b xa x2 xc xc2 xs xs _ L21.x X2 lx lx (v := true) (by simp)).mono ?_
  rintro e w22 ⟨rfl, bb⟩
  have L22 := L21.keep bb
  clear bb L21
  clear X2
  go_wp2_with fail
  refine (L22.g.specLine HYS.out).mono ?_
  rintro e w23 ⟨y2, yc2, rfl, Y2, bb⟩
  have L23 := L22.keep bb
  clear bb L22
  go_wp2_with fail
  refine (wpInts_b ya y2 yc yc2 ys ys _ L23.y Y2 ly ly (v := true) (by simp)).mono ?_
  rintro e w24 ⟨rfl, bb⟩
  have L24 := L23.keep bb
  clear bb L23
  clear Y2
  go_wp2_with fail
  refine (L24.implIn lx ly HKI.out).mono ?_
  rintro e w25 ⟨rfl, bb⟩
  have L25 := L24.keep bb
  clear bb L24
  go_wp2_with fail
  refine (L25.specIn lx ly HKI.out).mono ?_
  rintro e w26 ⟨rfl, bb⟩
  have L26 := L25.keep bb
  clear bb L25
  by_cases hx0 : xs.length = 0
  · have hz : ((xs.length : Int) == 0) = true := by simp [hx0]
    obtain rfl : k = false := by
      rw [← hk]
      unfold kinInL kinIn
      rw [hx0]
      cases h : decide (0 < ys.length) with
      | false => rfl
      | true =>
        have h2 : 0 < ys.length := by simpa using h
        have h3 : decide (ys.length ≤ 0) = false := decide_eq_false (by omega)
        rw [h3]; rfl
    clear hx0 hk hxs hys
    go_wp2_with fail
    refine (L26.implIn lx ly HKI.out).mono ?_
    rintro e w21 ⟨rfl, bb⟩
    have L21 := L26.keep bb
    clear bb L26
    go_wp2_with fail
    go_ret
    exact ⟨rfl, L21.g.bel⟩
  have hz : ((xs.length : Int) == 0) = false := beq_eq_false_iff_ne.2 (by omega)
  by_cases hy0 : ys.length = 0
  · have hz2 : ((ys.length : Int) == 0) = true := by simp [hy0]
    obtain rfl : k = false := by rw [← hk]; unfold kinInL kinIn; rw [hy0]; simp
    clear hx0 hy0 hk hxs hys
    go_wp2_with fail
    refine (L26.implIn lx ly HKI.out).mono ?_
    rintro e w21 ⟨rfl, bb⟩
    have L21 := L26.keep bb
    clear bb L26
    go_wp2_with fail
    go_ret
    exact ⟨rfl, L21.g.bel⟩
  have hz2 : ((ys.length : Int) == 0) = false := beq_eq_false_iff_ne.2 (by omega)
  obtain ⟨f1, f2, f3, f4, f5, f6⟩ := line_facts hxs hys (by intro h; rw [h] at hx0; simp at hx0) (by intro h; rw [h] at hy0; simp at hy0)
  obtain ⟨t, htt⟩ : ∃ t, tyOr gs a = t := ⟨_, rfl⟩
  obtain ⟨s, hss⟩ : ∃ s, sameB gs a b = s := ⟨_, rfl⟩
  obtain ⟨A, hAA⟩ : ∃ A, canonF gs a = A := ⟨_, rfl⟩
  rw [htt] at f6
  have HU : Hid (underB gs a b = k) := f1.symm.trans hk
  have HS := hide hss
  have HSX : Hid (decide (xs = ys) = s) := f2.trans hss
  have HC := hide hAA
  have HTT := hide htt
  have HT := hide f5
  have H6 := hide f6
  have hlast : Hid (xs.getD (xs.length - 1) 0 = A) := f4.trans hAA
  rw [hk] at f3
  have H3 := hide f3
  have xp : 0 < xs.length := by omega
  have m1 : (0 : Int) ≤ (xs.length : Int) - 1 := by omega
  have m2 : (xs.length : Int) - 1 < (xs.length : Int) := by omega
  have m3 : ((xs.length : Int) - 1).toNat = xs.length - 1 := by omega
  clear f1 f2 f3 f4 f5 f6 htt hss hAA hk hxs hys hx0 hy0
  rcases L26.x with h0' | ⟨xb, off, rfl, hxb, _⟩
  · exfalso; rw [h0'] at xp; simp at xp
  have HCELL : Hid (∀ W, LS w W ga gc gs (some ⟨xb, off, none⟩) ya xs ys → W.cell? ⟨xb, off + (xs.length - 1), none⟩ = some (.int .i64 A)) := by
    intro W h
    rcases h.x with h0' | ⟨b', off', e, _, hc⟩
    · rw [h0'] at xp; simp at xp
    · simp at e
      obtain ⟨rfl, rfl⟩ := e
      rw [hc _ (by omega), hlast.out]
  have c1 := HCELL.out _ L26
  have ne1 : (A != A) = false := by simp
  have m4 : (1 : Int) ≤ (xs.length : Int) := by omega
  have wr1 : IntKind.i64.wrap ((xs.length : Int) - 1) = (xs.length : Int) - 1 := by simp [IntKind.wrap, IntKind.bits, IntKind.signed]; omega
  have xcap2 : (xs.length : Int) ≤ (xc : Int) := by omega
  cases k
  · skip
    go_wp2_with fail
    cases s
    · skip
      refine wp_region_held_drew (S := (fun W => W.cell? ⟨xb, off + (xs.length - 1), none⟩ = some (.int .i64 A) ∧ LS w W ga gc gs (some ⟨xb, off, none⟩) ya xs ys)) (by kernel_rfl) ?_ (fun hHeld => ?_)
      · (try dsimp only); (refine ⟨?_, ?_⟩ <;> first | assumption | exact LS.drewN (by assumption) 1 | go_keep)
      refine takeL (i := 0) (v := ?v0n1) rfl (by kernel_rfl) (by kernel_rfl) (by kernel_rfl) (fun _ _ _ h => h) (by kernel_rfl) (by assumption) ?y0n1 ?r0n1; case y0n1 => (intro w hSw; (try dsimp only at hSw); go_simp; try with_reducible rfl); (try simp only [Act.put, List.setIfInBounds_toArray, List.set_cons_zero, List.set_cons_succ])
      refine takeL (i := 1) (v := ?v1n2) rfl (by kernel_rfl) (by kernel_rfl) (by kernel_rfl) (fun _ _ _ h => h) (by kernel_rfl) (by assumption) ?y1n2 ?r1n2; case y1n2 => (intro w hSw; (try dsimp only at hSw); go_simp; try with_reducible rfl); (try simp only [Act.put, List.setIfInBounds_toArray, List.set_cons_zero, List.set_cons_succ])
      refine takeL (i := 2) (v := ?v2n3) rfl (by kernel_rfl) (by kernel_rfl) (by kernel_rfl) (fun _ _ _ h => h) (by kernel_rfl) (by assumption) ?y2n3 ?r2n3; case y2n3 => (intro w hSw; (try dsimp only at hSw); go_simp; try with_reducible rfl); (try simp only [Act.put, List.setIfInBounds_toArray, List.set_cons_zero, List.set_cons_succ])
      refine takeL (i := 4) (v := ?v4n4) rfl (by kernel_rfl) (by kernel_rfl) (by kernel_rfl) (fun _ _ _ h => h) (by kernel_rfl) (by assumption) ?y4n4 ?r4n4; case y4n4 => (intro w hSw; (try dsimp only at hSw); go_simp; try with_reducible rfl); (try simp only [Act.put, List.setIfInBounds_toArray, List.set_cons_zero, List.set_cons_succ])
      refine takeL (i := 5) (v := ?v5n5) rfl (by kernel_rfl) (by kernel_rfl) (by kernel_rfl) (fun _ _ _ h => h) (by kernel_rfl) (by assumption) ?y5n5 ?r5n5; case y5n5 => (intro w hSw; (try dsimp only at hSw); go_simp; try with_reducible rfl); (try simp only [Act.put, List.setIfInBounds_toArray, List.set_cons_zero, List.set_cons_succ])
      refine doL (i := 3) rfl (by kernel_rfl) (fun K hK => ?_)
      go_simp
      (go_at_call 28; have hL := hHeld.2; refine (hL.g.implUnder HU.out).mono ?_; rintro e w30 ⟨rfl, bb, _⟩; have L30 := hL.keep bb; have cc := HCELL.out _ L30; clear hL bb)
      (try go_wp2_with fail)
      refine hK.out _ _ ?_ (fun hHeld2 => ?_)
      · (try dsimp only); (refine ⟨?_, ?_⟩ <;> first | assumption | exact LS.drewN (by assumption) 1 | go_keep)
      clear hK K hHeld
      have hHeld := hHeld2
      clear hHeld2
      try simp only [Act.put, List.setIfInBounds_toArray, List.set_cons_zero, List.set_cons_succ]
      refine doL (i := 6) rfl (by kernel_rfl) (fun K hK => ?_)
      go_simp
      (go_at_call 34; have hL := hHeld.2; refine (hL.implIn lx ly HKI.out).mono ?_; rintro e w30 ⟨rfl, bb⟩; have L30 := hL.keep bb; have cc := HCELL.out _ L30; clear hL bb)
      (try go_wp2_with fail)
      refine hK.out _ _ ?_ (fun hHeld2 => ?_)
      · (try dsimp only); (refine ⟨?_, ?_⟩ <;> first | assumption | exact LS.drewN (by assumption) 1 | go_keep)
      clear hK K hHeld
      have hHeld := hHeld2
      clear hHeld2
      try simp only [Act.put, List.setIfInBounds_toArray, List.set_cons_zero, List.set_cons_succ]
      refine takeL (i := 7) (v := ?v7n6) rfl (by kernel_rfl) (by kernel_rfl) (by kernel_rfl) (fun _ _ _ h => h) (by kernel_rfl) (by assumption) ?y7n6 ?r7n6; case y7n6 => (intro w hSw; (try dsimp only at hSw); go_simp; try with_reducible rfl); (try simp only [Act.put, List.setIfInBounds_toArray, List.set_cons_zero, List.set_cons_succ])
      refine takeL (i := 8) (v := ?v8n7) rfl (by kernel_rfl) (by kernel_rfl) (by kernel_rfl) (fun _ _ _ h => h) (by kernel_rfl) (by assumption) ?y8n7 ?r8n7; case y8n7 => (intro w hSw; (try dsimp only at hSw); go_simp; try with_reducible rfl); (try simp only [Act.put, List.setIfInBounds_toArray, List.set_cons_zero, List.set_cons_succ])
      refine takeL (i := 9) (v := ?v9n8) rfl (by kernel_rfl) (by kernel_rfl) (by kernel_rfl) (fun _ _ _ h => h) (by kernel_rfl) (by assumption) ?y9n8 ?r9n8; case y9n8 => (intro w hSw; (try dsimp only at hSw); go_simp; try with_reducible rfl); (try simp only [Act.put, List.setIfInBounds_toArray, List.set_cons_zero, List.set_cons_succ])
      refine takeL (i := 10) (v := ?v10n9) rfl (by kernel_rfl) (by kernel_rfl) (by kernel_rfl) (fun _ _ _ h => h) (by kernel_rfl) (by assumption) ?y10n9 ?r10n9; case y10n9 => (intro w hSw; (try dsimp only at hSw); go_simp; try with_reducible rfl); (try simp only [Act.put, List.setIfInBounds_toArray, List.set_cons_zero, List.set_cons_succ])
      refine takeL (i := 11) (v := ?v11n10) rfl (by kernel_rfl) (by kernel_rfl) (by kernel_rfl) (fun _ _ _ h => h) (by kernel_rfl) (by assumption) ?y11n10 ?r11n10; case y11n10 => (intro w hSw; (try dsimp only at hSw); go_simp; try with_reducible rfl); (try simp only [Act.put, List.setIfInBounds_toArray, List.set_cons_zero, List.set_cons_succ])
      refine takeL (i := 13) (v := ?v13n11) rfl (by kernel_rfl) (by kernel_rfl) (by kernel_rfl) (fun _ _ _ h => h) (by kernel_rfl) (by assumption) ?y13n11 ?r13n11; case y13n11 => (intro w hSw; (try dsimp only at hSw); go_simp; try with_reducible rfl); (try simp only [Act.put, List.setIfInBounds_toArray, List.set_cons_zero, List.set_cons_succ])
      refine takeL (i := 14) (v := ?v14n12) rfl (by kernel_rfl) (by kernel_rfl) (by kernel_rfl) (fun _ _ _ h => h) (by kernel_rfl) (by assumption) ?y14n12 ?r14n12; case y14n12 => (intro w hSw; (try dsimp only at hSw); go_simp; try with_reducible rfl); (try simp only [Act.put, List.setIfInBounds_toArray, List.set_cons_zero, List.set_cons_succ])
      refine doL (i := 12) rfl (by kernel_rfl) (fun K hK => ?_)
      go_simp
      (go_at_call 23; have hL := hHeld.2; refine (hL.g.implSame HS.out).mono ?_; rintro e w30 ⟨rfl, bb, _⟩; have L30 := hL.keep bb; have cc := HCELL.out _ L30; clear hL bb)
      (try go_wp2_with fail)
      refine hK.out _ _ ?_ (fun hHeld2 => ?_)
      · (try dsimp only); (refine ⟨?_, ?_⟩ <;> first | assumption | exact LS.drewN (by assumption) 1 | go_keep)
      clear hK K hHeld
      have hHeld := hHeld2
      clear hHeld2
      try simp only [Act.put, List.setIfInBounds_toArray, List.set_cons_zero, List.set_cons_succ]
      refine doL (i := 15) rfl (by kernel_rfl) (fun K hK => ?_)
      go_simp
      (go_at_call 32; have hL := hHeld.2; refine (wpInts_b _ ya xc yc xs ys _ hL.x hL.y lx ly HSX.out).mono ?_; rintro e w30 ⟨rfl, bb⟩; have L30 := hL.keep bb; have cc := HCELL.out _ L30; clear hL bb)
      (try go_wp2_with fail)
      refine hK.out _ _ ?_ (fun hHeld2 => ?_)
      · (try dsimp only); (refine ⟨?_, ?_⟩ <;> first | assumption | exact LS.drewN (by assumption) 1 | go_keep)
      clear hK K hHeld
      have hHeld := hHeld2
      clear hHeld2
      try simp only [Act.put, List.setIfInBounds_toArray, List.set_cons_zero, List.set_cons_succ]
      refine takeL (i := 16) (v := ?v16n13) rfl (by kernel_rfl) (by kernel_rfl) (by kernel_rfl) (fun _ _ _ h => h) (by kernel_rfl) (by assumption) ?y16n13 ?r16n13; case y16n13 => (intro w hSw; (try dsimp only at hSw); go_simp; try with_reducible rfl); (try simp only [Act.put, List.setIfInBounds_toArray, List.set_cons_zero, List.set_cons_succ])
      refine takeL (i := 17) (v := ?v17n14) rfl (by kernel_rfl) (by kernel_rfl) (by kernel_rfl) (fun _ _ _ h => h) (by kernel_rfl) (by assumption) ?y17n14 ?r17n14; case y17n14 => (intro w hSw; (try dsimp only at hSw); go_simp; try with_reducible rfl); (try simp only [Act.put, List.setIfInBounds_toArray, List.set_cons_zero, List.set_cons_succ])
      refine takeL (i := 18) (v := ?v18n15) rfl (by kernel_rfl) (by kernel_rfl) (by kernel_rfl) (fun _ _ _ h => h) (by kernel_rfl) (by assumption) ?y18n15 ?r18n15; case y18n15 => (intro w hSw; (try dsimp only at hSw); go_simp; try with_reducible rfl); (try simp only [Act.put, List.setIfInBounds_toArray, List.set_cons_zero, List.set_cons_succ])
      refine takeL (i := 19) (v := ?v19n16) rfl (by kernel_rfl) (by kernel_rfl) (by kernel_rfl) (fun _ _ _ h => h) (by kernel_rfl) (by assumption) ?y19n16 ?r19n16; case y19n16 => (intro w hSw; (try dsimp only at hSw); go_simp; try with_reducible rfl); (try simp only [Act.put, List.setIfInBounds_toArray, List.set_cons_zero, List.set_cons_succ])
      refine takeL (i := 20) (v := ?v20n17) rfl (by kernel_rfl) (by kernel_rfl) (by kernel_rfl) (fun _ _ _ h => h) (by kernel_rfl) (by assumption) ?y20n17 ?r20n17; case y20n17 => (intro w hSw; (try dsimp only at hSw); go_simp; try with_reducible rfl); (try simp only [Act.put, List.setIfInBounds_toArray, List.set_cons_zero, List.set_cons_succ])
      refine takeL (i := 21) (v := ?v21n18) rfl (by kernel_rfl) (by kernel_rfl) (by kernel_rfl) (fun _ _ _ h => h) (by kernel_rfl) (by assumption) ?y21n18 ?r21n18; case y21n18 => (intro w hSw; (try dsimp only at hSw); go_simp; try with_reducible rfl); (try simp only [Act.put, List.setIfInBounds_toArray, List.set_cons_zero, List.set_cons_succ])
      refine takeL (i := 22) (v := ?v22n19) rfl (by kernel_rfl) (by kernel_rfl) (by kernel_rfl) (fun _ _ _ h => h) (by kernel_rfl) (by assumption) ?y22n19 ?r22n19; case y22n19 => (intro w hSw; (try dsimp only at hSw); go_simp; try with_reducible rfl); (try simp only [Act.put, List.setIfInBounds_toArray, List.set_cons_zero, List.set_cons_succ])
      refine takeL (i := 23) (v := ?v23n20) rfl (by kernel_rfl) (by kernel_rfl) (by kernel_rfl) (fun _ _ _ h => h) (by kernel_rfl) (by assumption) ?y23n20 ?r23n20; case y23n20 => (intro w hSw; (try dsimp only at hSw); go_simp; try with_reducible rfl); (try simp only [Act.put, List.setIfInBounds_toArray, List.set_cons_zero, List.set_cons_succ])
      refine takeL (i := 24) (v := ?v24n21) rfl (by kernel_rfl) (by kernel_rfl) (by kernel_rfl) (fun _ _ _ h => h) (by kernel_rfl) (by assumption) ?y24n21 ?r24n21; case y24n21 => (intro w hSw; (try dsimp only at hSw); go_simp; try with_reducible rfl); (try simp only [Act.put, List.setIfInBounds_toArray, List.set_cons_zero, List.set_cons_succ])
      refine takeL (i := 25) (v := ?v25n22) rfl (by kernel_rfl) (by kernel_rfl) (by kernel_rfl) (fun _ _ _ h => h) (by kernel_rfl) (by assumption) ?y25n22 ?r25n22; case y25n22 => (intro w hSw; (try dsimp only at hSw); go_simp; try with_reducible rfl); (try simp only [Act.put, List.setIfInBounds_toArray, List.set_cons_zero, List.set_cons_succ])
      refine takeL (i := 26) (v := ?v26n23) rfl (by kernel_rfl) (by kernel_rfl) (by kernel_rfl) (fun _ _ _ h => h) (by kernel_rfl) (by assumption) ?y26n23 ?r26n23; case y26n23 => (intro w hSw; (try dsimp only at hSw); go_simp; try with_reducible rfl); (try simp only [Act.put, List.setIfInBounds_toArray, List.set_cons_zero, List.set_cons_succ])
      refine doL (i := 27) rfl (by kernel_rfl) (fun K hK => ?_)
      go_simp
      (go_at_call 26; have hL := hHeld.2; refine (hL.g.implCanon HC.out).mono ?_; rintro e w30 ⟨rfl, bb, _⟩; have L30 := hL.keep bb; have cc := HCELL.out _ L30; clear hL bb)
      (try go_wp2_with fail)
      refine hK.out _ _ ?_ (fun hHeld2 => ?_)
      · (try dsimp only); (refine ⟨?_, ?_⟩ <;> first | assumption | exact LS.drewN (by assumption) 1 | go_keep)
      clear hK K hHeld
      have hHeld := hHeld2
      clear hHeld2
      try simp only [Act.put, List.setIfInBounds_toArray, List.set_cons_zero, List.set_cons_succ]
      refine takeL (i := 28) (v := ?v28n24) rfl (by kernel_rfl) (by kernel_rfl) (by kernel_rfl) (fun _ _ _ h => h) (by kernel_rfl) (by assumption) ?y28n24 ?r28n24; case y28n24 => (intro w hSw; (try dsimp only at hSw); go_simp; try with_reducible rfl); (try simp only [Act.put, List.setIfInBounds_toArray, List.set_cons_zero, List.set_cons_succ])
      refine takeL (i := 29) (v := ?v29n25) rfl (by kernel_rfl) (by kernel_rfl) (by kernel_rfl) (fun _ _ _ h => h) (by kernel_rfl) (by assumption) ?y29n25 ?r29n25; case y29n25 => (intro w hSw; (try dsimp only at hSw); go_simp; try with_reducible rfl); (try simp only [Act.put, List.setIfInBounds_toArray, List.set_cons_zero, List.set_cons_succ])
      refine wpAnyH_done (by kernel_rfl) ?_ _
      clear hHeld
      go_wp2_with fail
      refine (L30.implIn lx ly HKI.out).mono ?_
      rintro e w41 ⟨rfl, bb⟩
      have L41 := L30.keep bb
      clear bb L30
      go_wp2_with fail
      refine (L41.g.implType a HTT.out HT.out).mono ?_
      rintro e w50 ⟨na, nc, rfl, _, bb, _⟩
      have L50 := (L41.keep bb).keep ((Below.refl _ _).alloc (Nat.le_refl _) (.cells #[.int .i64 t.kind, .int .i64 t.up, .bool t.last, .slice na t.fields.length nc] 28))
      have R50 := Rec.new w50 28 [.int .i64 t.kind, .int .i64 t.up, .bool t.last, .slice na t.fields.length nc]
      clear bb L41
      go_wp2_with fail
      generalize w50.alloc (.cells #[.int .i64 t.kind, .int .i64 t.up, .bool t.last, .slice na t.fields.length nc] 28) = W50 at *
      generalize w50.heap.size = tb at *
      have u1 := R50.cell (o := 1) rfl
      have z4 : (xs.take (xs.length - 1)).length = xs.length - 1 := by rw [List.length_take]; omega
      obtain ⟨zs, hzs⟩ : ∃ zs, xs.take (xs.length - 1) = zs := ⟨_, rfl⟩
      rw [hzs] at z4 H6
      have HZ : Hid (∀ W, LS w W ga gc gs (some ⟨xb, off, none⟩) ya xs ys → IntsAt W (some ⟨xb, off, none⟩) zs) := fun W h => by rw [← hzs]; exact h.x.take _
      have HZL := hide z4
      clear hzs z4
      have m5 : (xs.length : Int) - 1 ≤ (xc : Int) := by omega
      refine wp_region_held_drew (S := (fun W => W.cell? ⟨tb, 1, none⟩ = some (.int .i64 t.up) ∧ LS w W ga gc gs (some ⟨xb, off, none⟩) ya xs ys)) (by kernel_rfl) ?_ (fun hHeld => ?_)
      · (try dsimp only); (refine ⟨?_, ?_⟩ <;> first | assumption | exact LS.drewN (by assumption) 1 | go_keep)
      refine takeL (i := 0) (v := ?v0n26) rfl (by kernel_rfl) (by kernel_rfl) (by kernel_rfl) (fun _ _ _ h => h) (by kernel_rfl) (by assumption) ?y0n26 ?r0n26; case y0n26 => (intro w hSw; (try dsimp only at hSw); go_simp; try with_reducible rfl); (try simp only [Act.put, List.setIfInBounds_toArray, List.set_cons_zero, List.set_cons_succ])
      refine takeL (i := 1) (v := ?v1n27) rfl (by kernel_rfl) (by kernel_rfl) (by kernel_rfl) (fun _ _ _ h => h) (by kernel_rfl) (by assumption) ?y1n27 ?r1n27; case y1n27 => (intro w hSw; (try dsimp only at hSw); go_simp; try with_reducible rfl); (try simp only [Act.put, List.setIfInBounds_toArray, List.set_cons_zero, List.set_cons_succ])
      refine takeL (i := 2) (v := ?v2n28) rfl (by kernel_rfl) (by kernel_rfl) (by kernel_rfl) (fun _ _ _ h => h) (by kernel_rfl) (by assumption) ?y2n28 ?r2n28; case y2n28 => (intro w hSw; (try dsimp only at hSw); go_simp; try with_reducible rfl); (try simp only [Act.put, List.setIfInBounds_toArray, List.set_cons_zero, List.set_cons_succ])
      refine takeL (i := 4) (v := ?v4n29) rfl (by kernel_rfl) (by kernel_rfl) (by kernel_rfl) (fun _ _ _ h => h) (by kernel_rfl) (by assumption) ?y4n29 ?r4n29; case y4n29 => (intro w hSw; (try dsimp only at hSw); go_simp; try with_reducible rfl); (try simp only [Act.put, List.setIfInBounds_toArray, List.set_cons_zero, List.set_cons_succ])
      refine takeL (i := 5) (v := ?v5n30) rfl (by kernel_rfl) (by kernel_rfl) (by kernel_rfl) (fun _ _ _ h => h) (by kernel_rfl) (by assumption) ?y5n30 ?r5n30; case y5n30 => (intro w hSw; (try dsimp only at hSw); go_simp; try with_reducible rfl); (try simp only [Act.put, List.setIfInBounds_toArray, List.set_cons_zero, List.set_cons_succ])
      refine takeL (i := 6) (v := ?v6n31) rfl (by kernel_rfl) (by kernel_rfl) (by kernel_rfl) (fun _ _ _ h => h) (by kernel_rfl) (by assumption) ?y6n31 ?r6n31; case y6n31 => (intro w hSw; (try dsimp only at hSw); go_simp; try with_reducible rfl); (try simp only [Act.put, List.setIfInBounds_toArray, List.set_cons_zero, List.set_cons_succ])
      refine takeL (i := 7) (v := ?v7n32) rfl (by kernel_rfl) (by kernel_rfl) (by kernel_rfl) (fun _ _ _ h => h) (by kernel_rfl) (by assumption) ?y7n32 ?r7n32; case y7n32 => (intro w hSw; (try dsimp only at hSw); go_simp; try with_reducible rfl); (try simp only [Act.put, List.setIfInBounds_toArray, List.set_cons_zero, List.set_cons_succ])
      refine takeL (i := 8) (v := ?v8n33) rfl (by kernel_rfl) (by kernel_rfl) (by kernel_rfl) (fun _ _ _ h => h) (by kernel_rfl) (by assumption) ?y8n33 ?r8n33; case y8n33 => (intro w hSw; (try dsimp only at hSw); go_simp; try with_reducible rfl); (try simp only [Act.put, List.setIfInBounds_toArray, List.set_cons_zero, List.set_cons_succ])
      refine doL (i := 3) rfl (by kernel_rfl) (fun K hK => ?_)
      go_simp
      (go_at_call 31; have hL := hHeld.2; refine (hL.g.implLineC H6.out).mono ?_; rintro e w60 ⟨za, zc, rfl, lz, zcap, Z60, bb⟩; have L60 := hL.keep bb; have cc := cell_below (p := ⟨tb, 1, none⟩) bb hHeld.1; clear hL bb)
      (try go_wp2_with fail)
      refine hK.out _ _ ?_ (fun hHeld2 => ?_)
      · (try dsimp only); (refine ⟨?_, ?_⟩ <;> first | assumption | exact LS.drewN (by assumption) 1 | go_keep)
      clear hK K hHeld
      have hHeld := hHeld2
      clear hHeld2
      try simp only [Act.put, List.setIfInBounds_toArray, List.set_cons_zero, List.set_cons_succ]
      refine doL (i := 9) rfl (by kernel_rfl) (fun K hK => ?_)
      go_simp
      (go_at_call 32; have hL := hHeld.2; rw [← HZL.out]; refine (wpInts_b za _ zc _ zs zs _ (Z60) (HZ.out _ hL) lz lz (v := true) (by simp)).mono ?_; rintro e w61 ⟨rfl, bb⟩; have L61 := hL.keep bb; have cc := cell_below (p := ⟨tb, 1, none⟩) bb hHeld.1; clear hL bb)
      (try go_wp2_with fail)
      refine hK.out _ _ ?_ (fun hHeld2 => ?_)
      · (try dsimp only); (refine ⟨?_, ?_⟩ <;> first | assumption | exact LS.drewN (by assumption) 1 | go_keep)
      clear hK K hHeld
      have hHeld := hHeld2
      clear hHeld2
      try simp only [Act.put, List.setIfInBounds_toArray, List.set_cons_zero, List.set_cons_succ]
      refine takeL (i := 10) (v := ?v10n34) rfl (by kernel_rfl) (by kernel_rfl) (by kernel_rfl) (fun _ _ _ h => h) (by kernel_rfl) (by assumption) ?y10n34 ?r10n34; case y10n34 => (intro w hSw; (try dsimp only at hSw); go_simp; try with_reducible rfl); (try simp only [Act.put, List.setIfInBounds_toArray, List.set_cons_zero, List.set_cons_succ])
      refine wpAnyH_done (by kernel_rfl) ?_ _
      go_wp2_with fail
      go_ret
      exact ⟨rfl, L61.g.bel⟩
    · skip
      refine wp_region_held_drew (S := (fun W => W.cell? ⟨xb, off + (xs.length - 1), none⟩ = some (.int .i64 A) ∧ LS w W ga gc gs (some ⟨xb, off, none⟩) ya xs ys)) (by kernel_rfl) ?_ (fun hHeld => ?_)
      · (try dsimp only); (refine ⟨?_, ?_⟩ <;> first | assumption | exact LS.drewN (by assumption) 1 | go_keep)
      refine takeL (i := 0) (v := ?v0n35) rfl (by kernel_rfl) (by kernel_rfl) (by kernel_rfl) (fun _ _ _ h => h) (by kernel_rfl) (by assumption) ?y0n35 ?r0n35; case y0n35 => (intro w hSw; (try dsimp only at hSw); go_simp; try with_reducible rfl); (try simp only [Act.put, List.setIfInBounds_toArray, List.set_cons_zero, List.set_cons_succ])
      refine takeL (i := 1) (v := ?v1n36) rfl (by kernel_rfl) (by kernel_rfl) (by kernel_rfl) (fun _ _ _ h => h) (by kernel_rfl) (by assumption) ?y1n36 ?r1n36; case y1n36 => (intro w hSw; (try dsimp only at hSw); go_simp; try with_reducible rfl); (try simp only [Act.put, List.setIfInBounds_toArray, List.set_cons_zero, List.set_cons_succ])
      refine takeL (i := 2) (v := ?v2n37) rfl (by kernel_rfl) (by kernel_rfl) (by kernel_rfl) (fun _ _ _ h => h) (by kernel_rfl) (by assumption) ?y2n37 ?r2n37; case y2n37 => (intro w hSw; (try dsimp only at hSw); go_simp; try with_reducible rfl); (try simp only [Act.put, List.setIfInBounds_toArray, List.set_cons_zero, List.set_cons_succ])
      refine takeL (i := 4) (v := ?v4n38) rfl (by kernel_rfl) (by kernel_rfl) (by kernel_rfl) (fun _ _ _ h => h) (by kernel_rfl) (by assumption) ?y4n38 ?r4n38; case y4n38 => (intro w hSw; (try dsimp only at hSw); go_simp; try with_reducible rfl); (try simp only [Act.put, List.setIfInBounds_toArray, List.set_cons_zero, List.set_cons_succ])
      refine takeL (i := 5) (v := ?v5n39) rfl (by kernel_rfl) (by kernel_rfl) (by kernel_rfl) (fun _ _ _ h => h) (by kernel_rfl) (by assumption) ?y5n39 ?r5n39; case y5n39 => (intro w hSw; (try dsimp only at hSw); go_simp; try with_reducible rfl); (try simp only [Act.put, List.setIfInBounds_toArray, List.set_cons_zero, List.set_cons_succ])
      refine doL (i := 3) rfl (by kernel_rfl) (fun K hK => ?_)
      go_simp
      (go_at_call 28; have hL := hHeld.2; refine (hL.g.implUnder HU.out).mono ?_; rintro e w30 ⟨rfl, bb, _⟩; have L30 := hL.keep bb; have cc := HCELL.out _ L30; clear hL bb)
      (try go_wp2_with fail)
      refine hK.out _ _ ?_ (fun hHeld2 => ?_)
      · (try dsimp only); (refine ⟨?_, ?_⟩ <;> first | assumption | exact LS.drewN (by assumption) 1 | go_keep)
      clear hK K hHeld
      have hHeld := hHeld2
      clear hHeld2
      try simp only [Act.put, List.setIfInBounds_toArray, List.set_cons_zero, List.set_cons_succ]
      refine doL (i := 6) rfl (by kernel_rfl) (fun K hK => ?_)
      go_simp
      (go_at_call 34; have hL := hHeld.2; refine (hL.implIn lx ly HKI.out).mono ?_; rintro e w30 ⟨rfl, bb⟩; have L30 := hL.keep bb; have cc := HCELL.out _ L30; clear hL bb)
      (try go_wp2_with fail)
      refine hK.out _ _ ?_ (fun hHeld2 => ?_)
      · (try dsimp only); (refine ⟨?_, ?_⟩ <;> first | assumption | exact LS.drewN (by assumption) 1 | go_keep)
      clear hK K hHeld
      have hHeld := hHeld2
      clear hHeld2
      try simp only [Act.put, List.setIfInBounds_toArray, List.set_cons_zero, List.set_cons_succ]
      refine takeL (i := 7) (v := ?v7n40) rfl (by kernel_rfl) (by kernel_rfl) (by kernel_rfl) (fun _ _ _ h => h) (by kernel_rfl) (by assumption) ?y7n40 ?r7n40; case y7n40 => (intro w hSw; (try dsimp only at hSw); go_simp; try with_reducible rfl); (try simp only [Act.put, List.setIfInBounds_toArray, List.set_cons_zero, List.set_cons_succ])
      refine takeL (i := 8) (v := ?v8n41) rfl (by kernel_rfl) (by kernel_rfl) (by kernel_rfl) (fun _ _ _ h => h) (by kernel_rfl) (by assumption) ?y8n41 ?r8n41; case y8n41 => (intro w hSw; (try dsimp only at hSw); go_simp; try with_reducible rfl); (try simp only [Act.put, List.setIfInBounds_toArray, List.set_cons_zero, List.set_cons_succ])
      refine takeL (i := 9) (v := ?v9n42) rfl (by kernel_rfl) (by kernel_rfl) (by kernel_rfl) (fun _ _ _ h => h) (by kernel_rfl) (by assumption) ?y9n42 ?r9n42; case y9n42 => (intro w hSw; (try dsimp only at hSw); go_simp; try with_reducible rfl); (try simp only [Act.put, List.setIfInBounds_toArray, List.set_cons_zero, List.set_cons_succ])
      refine takeL (i := 10) (v := ?v10n43) rfl (by kernel_rfl) (by kernel_rfl) (by kernel_rfl) (fun _ _ _ h => h) (by kernel_rfl) (by assumption) ?y10n43 ?r10n43; case y10n43 => (intro w hSw; (try dsimp only at hSw); go_simp; try with_reducible rfl); (try simp only [Act.put, List.setIfInBounds_toArray, List.set_cons_zero, List.set_cons_succ])
      refine takeL (i := 11) (v := ?v11n44) rfl (by kernel_rfl) (by kernel_rfl) (by kernel_rfl) (fun _ _ _ h => h) (by kernel_rfl) (by assumption) ?y11n44 ?r11n44; case y11n44 => (intro w hSw; (try dsimp only at hSw); go_simp; try with_reducible rfl); (try simp only [Act.put, List.setIfInBounds_toArray, List.set_cons_zero, List.set_cons_succ])
      refine takeL (i := 13) (v := ?v13n45) rfl (by kernel_rfl) (by kernel_rfl) (by kernel_rfl) (fun _ _ _ h => h) (by kernel_rfl) (by assumption) ?y13n45 ?r13n45; case y13n45 => (intro w hSw; (try dsimp only at hSw); go_simp; try with_reducible rfl); (try simp only [Act.put, List.setIfInBounds_toArray, List.set_cons_zero, List.set_cons_succ])
      refine takeL (i := 14) (v := ?v14n46) rfl (by kernel_rfl) (by kernel_rfl) (by kernel_rfl) (fun _ _ _ h => h) (by kernel_rfl) (by assumption) ?y14n46 ?r14n46; case y14n46 => (intro w hSw; (try dsimp only at hSw); go_simp; try with_reducible rfl); (try simp only [Act.put, List.setIfInBounds_toArray, List.set_cons_zero, List.set_cons_succ])
      refine doL (i := 12) rfl (by kernel_rfl) (fun K hK => ?_)
      go_simp
      (go_at_call 23; have hL := hHeld.2; refine (hL.g.implSame HS.out).mono ?_; rintro e w30 ⟨rfl, bb, _⟩; have L30 := hL.keep bb; have cc := HCELL.out _ L30; clear hL bb)
      (try go_wp2_with fail)
      refine hK.out _ _ ?_ (fun hHeld2 => ?_)
      · (try dsimp only); (refine ⟨?_, ?_⟩ <;> first | assumption | exact LS.drewN (by assumption) 1 | go_keep)
      clear hK K hHeld
      have hHeld := hHeld2
      clear hHeld2
      try simp only [Act.put, List.setIfInBounds_toArray, List.set_cons_zero, List.set_cons_succ]
      refine doL (i := 15) rfl (by kernel_rfl) (fun K hK => ?_)
      go_simp
      (go_at_call 32; have hL := hHeld.2; refine (wpInts_b _ ya xc yc xs ys _ hL.x hL.y lx ly HSX.out).mono ?_; rintro e w30 ⟨rfl, bb⟩; have L30 := hL.keep bb; have cc := HCELL.out _ L30; clear hL bb)
      (try go_wp2_with fail)
      refine hK.out _ _ ?_ (fun hHeld2 => ?_)
      · (try dsimp only); (refine ⟨?_, ?_⟩ <;> first | assumption | exact LS.drewN (by assumption) 1 | go_keep)
      clear hK K hHeld
      have hHeld := hHeld2
      clear hHeld2
      try simp only [Act.put, List.setIfInBounds_toArray, List.set_cons_zero, List.set_cons_succ]
      refine takeL (i := 16) (v := ?v16n47) rfl (by kernel_rfl) (by kernel_rfl) (by kernel_rfl) (fun _ _ _ h => h) (by kernel_rfl) (by assumption) ?y16n47 ?r16n47; case y16n47 => (intro w hSw; (try dsimp only at hSw); go_simp; try with_reducible rfl); (try simp only [Act.put, List.setIfInBounds_toArray, List.set_cons_zero, List.set_cons_succ])
      refine takeL (i := 17) (v := ?v17n48) rfl (by kernel_rfl) (by kernel_rfl) (by kernel_rfl) (fun _ _ _ h => h) (by kernel_rfl) (by assumption) ?y17n48 ?r17n48; case y17n48 => (intro w hSw; (try dsimp only at hSw); go_simp; try with_reducible rfl); (try simp only [Act.put, List.setIfInBounds_toArray, List.set_cons_zero, List.set_cons_succ])
      refine takeL (i := 18) (v := ?v18n49) rfl (by kernel_rfl) (by kernel_rfl) (by kernel_rfl) (fun _ _ _ h => h) (by kernel_rfl) (by assumption) ?y18n49 ?r18n49; case y18n49 => (intro w hSw; (try dsimp only at hSw); go_simp; try with_reducible rfl); (try simp only [Act.put, List.setIfInBounds_toArray, List.set_cons_zero, List.set_cons_succ])
      refine takeL (i := 19) (v := ?v19n50) rfl (by kernel_rfl) (by kernel_rfl) (by kernel_rfl) (fun _ _ _ h => h) (by kernel_rfl) (by assumption) ?y19n50 ?r19n50; case y19n50 => (intro w hSw; (try dsimp only at hSw); go_simp; try with_reducible rfl); (try simp only [Act.put, List.setIfInBounds_toArray, List.set_cons_zero, List.set_cons_succ])
      refine takeL (i := 20) (v := ?v20n51) rfl (by kernel_rfl) (by kernel_rfl) (by kernel_rfl) (fun _ _ _ h => h) (by kernel_rfl) (by assumption) ?y20n51 ?r20n51; case y20n51 => (intro w hSw; (try dsimp only at hSw); go_simp; try with_reducible rfl); (try simp only [Act.put, List.setIfInBounds_toArray, List.set_cons_zero, List.set_cons_succ])
      refine takeL (i := 21) (v := ?v21n52) rfl (by kernel_rfl) (by kernel_rfl) (by kernel_rfl) (fun _ _ _ h => h) (by kernel_rfl) (by assumption) ?y21n52 ?r21n52; case y21n52 => (intro w hSw; (try dsimp only at hSw); go_simp; try with_reducible rfl); (try simp only [Act.put, List.setIfInBounds_toArray, List.set_cons_zero, List.set_cons_succ])
      refine takeL (i := 22) (v := ?v22n53) rfl (by kernel_rfl) (by kernel_rfl) (by kernel_rfl) (fun _ _ _ h => h) (by kernel_rfl) (by assumption) ?y22n53 ?r22n53; case y22n53 => (intro w hSw; (try dsimp only at hSw); go_simp; try with_reducible rfl); (try simp only [Act.put, List.setIfInBounds_toArray, List.set_cons_zero, List.set_cons_succ])
      refine takeL (i := 23) (v := ?v23n54) rfl (by kernel_rfl) (by kernel_rfl) (by kernel_rfl) (fun _ _ _ h => h) (by kernel_rfl) (by assumption) ?y23n54 ?r23n54; case y23n54 => (intro w hSw; (try dsimp only at hSw); go_simp; try with_reducible rfl); (try simp only [Act.put, List.setIfInBounds_toArray, List.set_cons_zero, List.set_cons_succ])
      refine takeL (i := 24) (v := ?v24n55) rfl (by kernel_rfl) (by kernel_rfl) (by kernel_rfl) (fun _ _ _ h => h) (by kernel_rfl) (by assumption) ?y24n55 ?r24n55; case y24n55 => (intro w hSw; (try dsimp only at hSw); go_simp; try with_reducible rfl); (try simp only [Act.put, List.setIfInBounds_toArray, List.set_cons_zero, List.set_cons_succ])
      refine takeL (i := 25) (v := ?v25n56) rfl (by kernel_rfl) (by kernel_rfl) (by kernel_rfl) (fun _ _ _ h => h) (by kernel_rfl) (by assumption) ?y25n56 ?r25n56; case y25n56 => (intro w hSw; (try dsimp only at hSw); go_simp; try with_reducible rfl); (try simp only [Act.put, List.setIfInBounds_toArray, List.set_cons_zero, List.set_cons_succ])
      refine takeL (i := 26) (v := ?v26n57) rfl (by kernel_rfl) (by kernel_rfl) (by kernel_rfl) (fun _ _ _ h => h) (by kernel_rfl) (by assumption) ?y26n57 ?r26n57; case y26n57 => (intro w hSw; (try dsimp only at hSw); go_simp; try with_reducible rfl); (try simp only [Act.put, List.setIfInBounds_toArray, List.set_cons_zero, List.set_cons_succ])
      refine doL (i := 27) rfl (by kernel_rfl) (fun K hK => ?_)
      go_simp
      (go_at_call 26; have hL := hHeld.2; refine (hL.g.implCanon HC.out).mono ?_; rintro e w30 ⟨rfl, bb, _⟩; have L30 := hL.keep bb; have cc := HCELL.out _ L30; clear hL bb)
      (try go_wp2_with fail)
      refine hK.out _ _ ?_ (fun hHeld2 => ?_)
      · (try dsimp only); (refine ⟨?_, ?_⟩ <;> first | assumption | exact LS.drewN (by assumption) 1 | go_keep)
      clear hK K hHeld
      have hHeld := hHeld2
      clear hHeld2
      try simp only [Act.put, List.setIfInBounds_toArray, List.set_cons_zero, List.set_cons_succ]
      refine takeL (i := 28) (v := ?v28n58) rfl (by kernel_rfl) (by kernel_rfl) (by kernel_rfl) (fun _ _ _ h => h) (by kernel_rfl) (by assumption) ?y28n58 ?r28n58; case y28n58 => (intro w hSw; (try dsimp only at hSw); go_simp; try with_reducible rfl); (try simp only [Act.put, List.setIfInBounds_toArray, List.set_cons_zero, List.set_cons_succ])
      refine takeL (i := 29) (v := ?v29n59) rfl (by kernel_rfl) (by kernel_rfl) (by kernel_rfl) (fun _ _ _ h => h) (by kernel_rfl) (by assumption) ?y29n59 ?r29n59; case y29n59 => (intro w hSw; (try dsimp only at hSw); go_simp; try with_reducible rfl); (try simp only [Act.put, List.setIfInBounds_toArray, List.set_cons_zero, List.set_cons_succ])
      refine wpAnyH_done (by kernel_rfl) ?_ _
      clear hHeld
      go_wp2_with fail
      refine (L30.implIn lx ly HKI.out).mono ?_
      rintro e w41 ⟨rfl, bb⟩
      have L41 := L30.keep bb
      clear bb L30
      go_wp2_with fail
      refine (L41.g.implType a HTT.out HT.out).mono ?_
      rintro e w50 ⟨na, nc, rfl, _, bb, _⟩
      have L50 := (L41.keep bb).keep ((Below.refl _ _).alloc (Nat.le_refl _) (.cells #[.int .i64 t.kind, .int .i64 t.up, .bool t.last, .slice na t.fields.length nc] 28))
      have R50 := Rec.new w50 28 [.int .i64 t.kind, .int .i64 t.up, .bool t.last, .slice na t.fields.length nc]
      clear bb L41
      go_wp2_with fail
      generalize w50.alloc (.cells #[.int .i64 t.kind, .int .i64 t.up, .bool t.last, .slice na t.fields.length nc] 28) = W50 at *
      generalize w50.heap.size = tb at *
      have u1 := R50.cell (o := 1) rfl
      have z4 : (xs.take (xs.length - 1)).length = xs.length - 1 := by rw [List.length_take]; omega
      obtain ⟨zs, hzs⟩ : ∃ zs, xs.take (xs.length - 1) = zs := ⟨_, rfl⟩
      rw [hzs] at z4 H6
      have HZ : Hid (∀ W, LS w W ga gc gs (some ⟨xb, off, none⟩) ya xs ys → IntsAt W (some ⟨xb, off, none⟩) zs) := fun W h => by rw [← hzs]; exact h.x.take _
      have HZL := hide z4
      clear hzs z4
      have m5 : (xs.length : Int) - 1 ≤ (xc : Int) := by omega
      refine wp_region_held_drew (S := (fun W => W.cell? ⟨tb, 1, none⟩ = some (.int .i64 t.up) ∧ LS w W ga gc gs (some ⟨xb, off, none⟩) ya xs ys)) (by kernel_rfl) ?_ (fun hHeld => ?_)
      · (try dsimp only); (refine ⟨?_, ?_⟩ <;> first | assumption | exact LS.drewN (by assumption) 1 | go_keep)
      refine takeL (i := 0) (v := ?v0n60) rfl (by kernel_rfl) (by kernel_rfl) (by kernel_rfl) (fun _ _ _ h => h) (by kernel_rfl) (by assumption) ?y0n60 ?r0n60; case y0n60 => (intro w hSw; (try dsimp only at hSw); go_simp; try with_reducible rfl); (try simp only [Act.put, List.setIfInBounds_toArray, List.set_cons_zero, List.set_cons_succ])
      refine takeL (i := 1) (v := ?v1n61) rfl (by kernel_rfl) (by kernel_rfl) (by kernel_rfl) (fun _ _ _ h => h) (by kernel_rfl) (by assumption) ?y1n61 ?r1n61; case y1n61 => (intro w hSw; (try dsimp only at hSw); go_simp; try with_reducible rfl); (try simp only [Act.put, List.setIfInBounds_toArray, List.set_cons_zero, List.set_cons_succ])
      refine takeL (i := 2) (v := ?v2n62) rfl (by kernel_rfl) (by kernel_rfl) (by kernel_rfl) (fun _ _ _ h => h) (by kernel_rfl) (by assumption) ?y2n62 ?r2n62; case y2n62 => (intro w hSw; (try dsimp only at hSw); go_simp; try with_reducible rfl); (try simp only [Act.put, List.setIfInBounds_toArray, List.set_cons_zero, List.set_cons_succ])
      refine takeL (i := 4) (v := ?v4n63) rfl (by kernel_rfl) (by kernel_rfl) (by kernel_rfl) (fun _ _ _ h => h) (by kernel_rfl) (by assumption) ?y4n63 ?r4n63; case y4n63 => (intro w hSw; (try dsimp only at hSw); go_simp; try with_reducible rfl); (try simp only [Act.put, List.setIfInBounds_toArray, List.set_cons_zero, List.set_cons_succ])
      refine takeL (i := 5) (v := ?v5n64) rfl (by kernel_rfl) (by kernel_rfl) (by kernel_rfl) (fun _ _ _ h => h) (by kernel_rfl) (by assumption) ?y5n64 ?r5n64; case y5n64 => (intro w hSw; (try dsimp only at hSw); go_simp; try with_reducible rfl); (try simp only [Act.put, List.setIfInBounds_toArray, List.set_cons_zero, List.set_cons_succ])
      refine takeL (i := 6) (v := ?v6n65) rfl (by kernel_rfl) (by kernel_rfl) (by kernel_rfl) (fun _ _ _ h => h) (by kernel_rfl) (by assumption) ?y6n65 ?r6n65; case y6n65 => (intro w hSw; (try dsimp only at hSw); go_simp; try with_reducible rfl); (try simp only [Act.put, List.setIfInBounds_toArray, List.set_cons_zero, List.set_cons_succ])
      refine takeL (i := 7) (v := ?v7n66) rfl (by kernel_rfl) (by kernel_rfl) (by kernel_rfl) (fun _ _ _ h => h) (by kernel_rfl) (by assumption) ?y7n66 ?r7n66; case y7n66 => (intro w hSw; (try dsimp only at hSw); go_simp; try with_reducible rfl); (try simp only [Act.put, List.setIfInBounds_toArray, List.set_cons_zero, List.set_cons_succ])
      refine takeL (i := 8) (v := ?v8n67) rfl (by kernel_rfl) (by kernel_rfl) (by kernel_rfl) (fun _ _ _ h => h) (by kernel_rfl) (by assumption) ?y8n67 ?r8n67; case y8n67 => (intro w hSw; (try dsimp only at hSw); go_simp; try with_reducible rfl); (try simp only [Act.put, List.setIfInBounds_toArray, List.set_cons_zero, List.set_cons_succ])
      refine doL (i := 3) rfl (by kernel_rfl) (fun K hK => ?_)
      go_simp
      (go_at_call 31; have hL := hHeld.2; refine (hL.g.implLineC H6.out).mono ?_; rintro e w60 ⟨za, zc, rfl, lz, zcap, Z60, bb⟩; have L60 := hL.keep bb; have cc := cell_below (p := ⟨tb, 1, none⟩) bb hHeld.1; clear hL bb)
      (try go_wp2_with fail)
      refine hK.out _ _ ?_ (fun hHeld2 => ?_)
      · (try dsimp only); (refine ⟨?_, ?_⟩ <;> first | assumption | exact LS.drewN (by assumption) 1 | go_keep)
      clear hK K hHeld
      have hHeld := hHeld2
      clear hHeld2
      try simp only [Act.put, List.setIfInBounds_toArray, List.set_cons_zero, List.set_cons_succ]
      refine doL (i := 9) rfl (by kernel_rfl) (fun K hK => ?_)
      go_simp
      (go_at_call 32; have hL := hHeld.2; rw [← HZL.out]; refine (wpInts_b za _ zc _ zs zs _ (Z60) (HZ.out _ hL) lz lz (v := true) (by simp)).mono ?_; rintro e w61 ⟨rfl, bb⟩; have L61 := hL.keep bb; have cc := cell_below (p := ⟨tb, 1, none⟩) bb hHeld.1; clear hL bb)
      (try go_wp2_with fail)
      refine hK.out _ _ ?_ (fun hHeld2 => ?_)
      · (try dsimp only); (refine ⟨?_, ?_⟩ <;> first | assumption | exact LS.drewN (by assumption) 1 | go_keep)
      clear hK K hHeld
      have hHeld := hHeld2
      clear hHeld2
      try simp only [Act.put, List.setIfInBounds_toArray, List.set_cons_zero, List.set_cons_succ]
      refine takeL (i := 10) (v := ?v10n68) rfl (by kernel_rfl) (by kernel_rfl) (by kernel_rfl) (fun _ _ _ h => h) (by kernel_rfl) (by assumption) ?y10n68 ?r10n68; case y10n68 => (intro w hSw; (try dsimp only at hSw); go_simp; try with_reducible rfl); (try simp only [Act.put, List.setIfInBounds_toArray, List.set_cons_zero, List.set_cons_succ])
      refine wpAnyH_done (by kernel_rfl) ?_ _
      go_wp2_with fail
      go_ret
      exact ⟨rfl, L61.g.bel⟩
  · skip
    go_wp2_with fail
    cases s
    · skip
      refine wp_region_held_drew (S := (fun W => W.cell? ⟨xb, off + (xs.length - 1), none⟩ = some (.int .i64 A) ∧ LS w W ga gc gs (some ⟨xb, off, none⟩) ya xs ys)) (by kernel_rfl) ?_ (fun hHeld => ?_)
      · (try dsimp only); (refine ⟨?_, ?_⟩ <;> first | assumption | exact LS.drewN (by assumption) 1 | go_keep)
      refine takeL (i := 0) (v := ?v0n69) rfl (by kernel_rfl) (by kernel_rfl) (by kernel_rfl) (fun _ _ _ h => h) (by kernel_rfl) (by assumption) ?y0n69 ?r0n69; case y0n69 => (intro w hSw; (try dsimp only at hSw); go_simp; try with_reducible rfl); (try simp only [Act.put, List.setIfInBounds_toArray, List.set_cons_zero, List.set_cons_succ])
      refine takeL (i := 1) (v := ?v1n70) rfl (by kernel_rfl) (by kernel_rfl) (by kernel_rfl) (fun _ _ _ h => h) (by kernel_rfl) (by assumption) ?y1n70 ?r1n70; case y1n70 => (intro w hSw; (try dsimp only at hSw); go_simp; try with_reducible rfl); (try simp only [Act.put, List.setIfInBounds_toArray, List.set_cons_zero, List.set_cons_succ])
      refine takeL (i := 2) (v := ?v2n71) rfl (by kernel_rfl) (by kernel_rfl) (by kernel_rfl) (fun _ _ _ h => h) (by kernel_rfl) (by assumption) ?y2n71 ?r2n71; case y2n71 => (intro w hSw; (try dsimp only at hSw); go_simp; try with_reducible rfl); (try simp only [Act.put, List.setIfInBounds_toArray, List.set_cons_zero, List.set_cons_succ])
      refine takeL (i := 4) (v := ?v4n72) rfl (by kernel_rfl) (by kernel_rfl) (by kernel_rfl) (fun _ _ _ h => h) (by kernel_rfl) (by assumption) ?y4n72 ?r4n72; case y4n72 => (intro w hSw; (try dsimp only at hSw); go_simp; try with_reducible rfl); (try simp only [Act.put, List.setIfInBounds_toArray, List.set_cons_zero, List.set_cons_succ])
      refine takeL (i := 5) (v := ?v5n73) rfl (by kernel_rfl) (by kernel_rfl) (by kernel_rfl) (fun _ _ _ h => h) (by kernel_rfl) (by assumption) ?y5n73 ?r5n73; case y5n73 => (intro w hSw; (try dsimp only at hSw); go_simp; try with_reducible rfl); (try simp only [Act.put, List.setIfInBounds_toArray, List.set_cons_zero, List.set_cons_succ])
      refine doL (i := 3) rfl (by kernel_rfl) (fun K hK => ?_)
      go_simp
      (go_at_call 28; have hL := hHeld.2; refine (hL.g.implUnder HU.out).mono ?_; rintro e w30 ⟨rfl, bb, _⟩; have L30 := hL.keep bb; have cc := HCELL.out _ L30; clear hL bb)
      (try go_wp2_with fail)
      refine hK.out _ _ ?_ (fun hHeld2 => ?_)
      · (try dsimp only); (refine ⟨?_, ?_⟩ <;> first | assumption | exact LS.drewN (by assumption) 1 | go_keep)
      clear hK K hHeld
      have hHeld := hHeld2
      clear hHeld2
      try simp only [Act.put, List.setIfInBounds_toArray, List.set_cons_zero, List.set_cons_succ]
      refine doL (i := 6) rfl (by kernel_rfl) (fun K hK => ?_)
      go_simp
      (go_at_call 34; have hL := hHeld.2; refine (hL.implIn lx ly HKI.out).mono ?_; rintro e w30 ⟨rfl, bb⟩; have L30 := hL.keep bb; have cc := HCELL.out _ L30; clear hL bb)
      (try go_wp2_with fail)
      refine hK.out _ _ ?_ (fun hHeld2 => ?_)
      · (try dsimp only); (refine ⟨?_, ?_⟩ <;> first | assumption | exact LS.drewN (by assumption) 1 | go_keep)
      clear hK K hHeld
      have hHeld := hHeld2
      clear hHeld2
      try simp only [Act.put, List.setIfInBounds_toArray, List.set_cons_zero, List.set_cons_succ]
      refine takeL (i := 7) (v := ?v7n74) rfl (by kernel_rfl) (by kernel_rfl) (by kernel_rfl) (fun _ _ _ h => h) (by kernel_rfl) (by assumption) ?y7n74 ?r7n74; case y7n74 => (intro w hSw; (try dsimp only at hSw); go_simp; try with_reducible rfl); (try simp only [Act.put, List.setIfInBounds_toArray, List.set_cons_zero, List.set_cons_succ])
      refine takeL (i := 8) (v := ?v8n75) rfl (by kernel_rfl) (by kernel_rfl) (by kernel_rfl) (fun _ _ _ h => h) (by kernel_rfl) (by assumption) ?y8n75 ?r8n75; case y8n75 => (intro w hSw; (try dsimp only at hSw); go_simp; try with_reducible rfl); (try simp only [Act.put, List.setIfInBounds_toArray, List.set_cons_zero, List.set_cons_succ])
      refine takeL (i := 9) (v := ?v9n76) rfl (by kernel_rfl) (by kernel_rfl) (by kernel_rfl) (fun _ _ _ h => h) (by kernel_rfl) (by assumption) ?y9n76 ?r9n76; case y9n76 => (intro w hSw; (try dsimp only at hSw); go_simp; try with_reducible rfl); (try simp only [Act.put, List.setIfInBounds_toArray, List.set_cons_zero, List.set_cons_succ])
      refine takeL (i := 10) (v := ?v10n77) rfl (by kernel_rfl) (by kernel_rfl) (by kernel_rfl) (fun _ _ _ h => h) (by kernel_rfl) (by assumption) ?y10n77 ?r10n77; case y10n77 => (intro w hSw; (try dsimp only at hSw); go_simp; try with_reducible rfl); (try simp only [Act.put, List.setIfInBounds_toArray, List.set_cons_zero, List.set_cons_succ])
      refine takeL (i := 11) (v := ?v11n78) rfl (by kernel_rfl) (by kernel_rfl) (by kernel_rfl) (fun _ _ _ h => h) (by kernel_rfl) (by assumption) ?y11n78 ?r11n78; case y11n78 => (intro w hSw; (try dsimp only at hSw); go_simp; try with_reducible rfl); (try simp only [Act.put, List.setIfInBounds_toArray, List.set_cons_zero, List.set_cons_succ])
      refine takeL (i := 13) (v := ?v13n79) rfl (by kernel_rfl) (by kernel_rfl) (by kernel_rfl) (fun _ _ _ h => h) (by kernel_rfl) (by assumption) ?y13n79 ?r13n79; case y13n79 => (intro w hSw; (try dsimp only at hSw); go_simp; try with_reducible rfl); (try simp only [Act.put, List.setIfInBounds_toArray, List.set_cons_zero, List.set_cons_succ])
      refine takeL (i := 14) (v := ?v14n80) rfl (by kernel_rfl) (by kernel_rfl) (by kernel_rfl) (fun _ _ _ h => h) (by kernel_rfl) (by assumption) ?y14n80 ?r14n80; case y14n80 => (intro w hSw; (try dsimp only at hSw); go_simp; try with_reducible rfl); (try simp only [Act.put, List.setIfInBounds_toArray, List.set_cons_zero, List.set_cons_succ])
      refine doL (i := 12) rfl (by kernel_rfl) (fun K hK => ?_)
      go_simp
      (go_at_call 23; have hL := hHeld.2; refine (hL.g.implSame HS.out).mono ?_; rintro e w30 ⟨rfl, bb, _⟩; have L30 := hL.keep bb; have cc := HCELL.out _ L30; clear hL bb)
      (try go_wp2_with fail)
      refine hK.out _ _ ?_ (fun hHeld2 => ?_)
      · (try dsimp only); (refine ⟨?_, ?_⟩ <;> first | assumption | exact LS.drewN (by assumption) 1 | go_keep)
      clear hK K hHeld
      have hHeld := hHeld2
      clear hHeld2
      try simp only [Act.put, List.setIfInBounds_toArray, List.set_cons_zero, List.set_cons_succ]
      refine doL (i := 15) rfl (by kernel_rfl) (fun K hK => ?_)
      go_simp
      (go_at_call 32; have hL := hHeld.2; refine (wpInts_b _ ya xc yc xs ys _ hL.x hL.y lx ly HSX.out).mono ?_; rintro e w30 ⟨rfl, bb⟩; have L30 := hL.keep bb; have cc := HCELL.out _ L30; clear hL bb)
      (try go_wp2_with fail)
      refine hK.out _ _ ?_ (fun hHeld2 => ?_)
      · (try dsimp only); (refine ⟨?_, ?_⟩ <;> first | assumption | exact LS.drewN (by assumption) 1 | go_keep)
      clear hK K hHeld
      have hHeld := hHeld2
      clear hHeld2
      try simp only [Act.put, List.setIfInBounds_toArray, List.set_cons_zero, List.set_cons_succ]
      refine takeL (i := 16) (v := ?v16n81) rfl (by kernel_rfl) (by kernel_rfl) (by kernel_rfl) (fun _ _ _ h => h) (by kernel_rfl) (by assumption) ?y16n81 ?r16n81; case y16n81 => (intro w hSw; (try dsimp only at hSw); go_simp; try with_reducible rfl); (try simp only [Act.put, List.setIfInBounds_toArray, List.set_cons_zero, List.set_cons_succ])
      refine takeL (i := 17) (v := ?v17n82) rfl (by kernel_rfl) (by kernel_rfl) (by kernel_rfl) (fun _ _ _ h => h) (by kernel_rfl) (by assumption) ?y17n82 ?r17n82; case y17n82 => (intro w hSw; (try dsimp only at hSw); go_simp; try with_reducible rfl); (try simp only [Act.put, List.setIfInBounds_toArray, List.set_cons_zero, List.set_cons_succ])
      refine takeL (i := 18) (v := ?v18n83) rfl (by kernel_rfl) (by kernel_rfl) (by kernel_rfl) (fun _ _ _ h => h) (by kernel_rfl) (by assumption) ?y18n83 ?r18n83; case y18n83 => (intro w hSw; (try dsimp only at hSw); go_simp; try with_reducible rfl); (try simp only [Act.put, List.setIfInBounds_toArray, List.set_cons_zero, List.set_cons_succ])
      refine takeL (i := 19) (v := ?v19n84) rfl (by kernel_rfl) (by kernel_rfl) (by kernel_rfl) (fun _ _ _ h => h) (by kernel_rfl) (by assumption) ?y19n84 ?r19n84; case y19n84 => (intro w hSw; (try dsimp only at hSw); go_simp; try with_reducible rfl); (try simp only [Act.put, List.setIfInBounds_toArray, List.set_cons_zero, List.set_cons_succ])
      refine takeL (i := 20) (v := ?v20n85) rfl (by kernel_rfl) (by kernel_rfl) (by kernel_rfl) (fun _ _ _ h => h) (by kernel_rfl) (by assumption) ?y20n85 ?r20n85; case y20n85 => (intro w hSw; (try dsimp only at hSw); go_simp; try with_reducible rfl); (try simp only [Act.put, List.setIfInBounds_toArray, List.set_cons_zero, List.set_cons_succ])
      refine takeL (i := 21) (v := ?v21n86) rfl (by kernel_rfl) (by kernel_rfl) (by kernel_rfl) (fun _ _ _ h => h) (by kernel_rfl) (by assumption) ?y21n86 ?r21n86; case y21n86 => (intro w hSw; (try dsimp only at hSw); go_simp; try with_reducible rfl); (try simp only [Act.put, List.setIfInBounds_toArray, List.set_cons_zero, List.set_cons_succ])
      refine takeL (i := 22) (v := ?v22n87) rfl (by kernel_rfl) (by kernel_rfl) (by kernel_rfl) (fun _ _ _ h => h) (by kernel_rfl) (by assumption) ?y22n87 ?r22n87; case y22n87 => (intro w hSw; (try dsimp only at hSw); go_simp; try with_reducible rfl); (try simp only [Act.put, List.setIfInBounds_toArray, List.set_cons_zero, List.set_cons_succ])
      refine takeL (i := 23) (v := ?v23n88) rfl (by kernel_rfl) (by kernel_rfl) (by kernel_rfl) (fun _ _ _ h => h) (by kernel_rfl) (by assumption) ?y23n88 ?r23n88; case y23n88 => (intro w hSw; (try dsimp only at hSw); go_simp; try with_reducible rfl); (try simp only [Act.put, List.setIfInBounds_toArray, List.set_cons_zero, List.set_cons_succ])
      refine takeL (i := 24) (v := ?v24n89) rfl (by kernel_rfl) (by kernel_rfl) (by kernel_rfl) (fun _ _ _ h => h) (by kernel_rfl) (by assumption) ?y24n89 ?r24n89; case y24n89 => (intro w hSw; (try dsimp only at hSw); go_simp; try with_reducible rfl); (try simp only [Act.put, List.setIfInBounds_toArray, List.set_cons_zero, List.set_cons_succ])
      refine takeL (i := 25) (v := ?v25n90) rfl (by kernel_rfl) (by kernel_rfl) (by kernel_rfl) (fun _ _ _ h => h) (by kernel_rfl) (by assumption) ?y25n90 ?r25n90; case y25n90 => (intro w hSw; (try dsimp only at hSw); go_simp; try with_reducible rfl); (try simp only [Act.put, List.setIfInBounds_toArray, List.set_cons_zero, List.set_cons_succ])
      refine takeL (i := 26) (v := ?v26n91) rfl (by kernel_rfl) (by kernel_rfl) (by kernel_rfl) (fun _ _ _ h => h) (by kernel_rfl) (by assumption) ?y26n91 ?r26n91; case y26n91 => (intro w hSw; (try dsimp only at hSw); go_simp; try with_reducible rfl); (try simp only [Act.put, List.setIfInBounds_toArray, List.set_cons_zero, List.set_cons_succ])
      refine doL (i := 27) rfl (by kernel_rfl) (fun K hK => ?_)
      go_simp
      (go_at_call 26; have hL := hHeld.2; refine (hL.g.implCanon HC.out).mono ?_; rintro e w30 ⟨rfl, bb, _⟩; have L30 := hL.keep bb; have cc := HCELL.out _ L30; clear hL bb)
      (try go_wp2_with fail)
      refine hK.out _ _ ?_ (fun hHeld2 => ?_)
      · (try dsimp only); (refine ⟨?_, ?_⟩ <;> first | assumption | exact LS.drewN (by assumption) 1 | go_keep)
      clear hK K hHeld
      have hHeld := hHeld2
      clear hHeld2
      try simp only [Act.put, List.setIfInBounds_toArray, List.set_cons_zero, List.set_cons_succ]
      refine takeL (i := 28) (v := ?v28n92) rfl (by kernel_rfl) (by kernel_rfl) (by kernel_rfl) (fun _ _ _ h => h) (by kernel_rfl) (by assumption) ?y28n92 ?r28n92; case y28n92 => (intro w hSw; (try dsimp only at hSw); go_simp; try with_reducible rfl); (try simp only [Act.put, List.setIfInBounds_toArray, List.set_cons_zero, List.set_cons_succ])
      refine takeL (i := 29) (v := ?v29n93) rfl (by kernel_rfl) (by kernel_rfl) (by kernel_rfl) (fun _ _ _ h => h) (by kernel_rfl) (by assumption) ?y29n93 ?r29n93; case y29n93 => (intro w hSw; (try dsimp only at hSw); go_simp; try with_reducible rfl); (try simp only [Act.put, List.setIfInBounds_toArray, List.set_cons_zero, List.set_cons_succ])
      refine wpAnyH_done (by kernel_rfl) ?_ _
      clear hHeld
      go_wp2_with fail
      refine (L30.implIn lx ly HKI.out).mono ?_
      rintro e w41 ⟨rfl, bb⟩
      have L41 := L30.keep bb
      clear bb L30
      obtain ⟨y1, y2⟩ := H3.out (by trivial)
      have y3 : (ys.length : Int) ≤ (xs.length : Int) := by omega
      have y5 : (ys.length : Int) ≤ (xc : Int) := by omega
      have Y5 := L41.x.take ys.length
      rw [y2] at Y5
      clear y2
      go_wp2_with fail
      refine (wpInts_b _ ya _ yc ys ys _ Y5 L41.y ly ly (v := true) (by simp)).mono ?_
      rintro e w42 ⟨rfl, bb⟩
      have L42 := L41.keep bb
      clear bb L41
      clear Y5
      go_wp2_with fail
      refine (L42.g.implType a HTT.out HT.out).mono ?_
      rintro e w50 ⟨na, nc, rfl, _, bb, _⟩
      have L50 := (L42.keep bb).keep ((Below.refl _ _).alloc (Nat.le_refl _) (.cells #[.int .i64 t.kind, .int .i64 t.up, .bool t.last, .slice na t.fields.length nc] 28))
      have R50 := Rec.new w50 28 [.int .i64 t.kind, .int .i64 t.up, .bool t.last, .slice na t.fields.length nc]
      clear bb L42
      go_wp2_with fail
      generalize w50.alloc (.cells #[.int .i64 t.kind, .int .i64 t.up, .bool t.last, .slice na t.fields.length nc] 28) = W50 at *
      generalize w50.heap.size = tb at *
      have u1 := R50.cell (o := 1) rfl
      have z4 : (xs.take (xs.length - 1)).length = xs.length - 1 := by rw [List.length_take]; omega
      obtain ⟨zs, hzs⟩ : ∃ zs, xs.take (xs.length - 1) = zs := ⟨_, rfl⟩
      rw [hzs] at z4 H6
      have HZ : Hid (∀ W, LS w W ga gc gs (some ⟨xb, off, none⟩) ya xs ys → IntsAt W (some ⟨xb, off, none⟩) zs) := fun W h => by rw [← hzs]; exact h.x.take _
      have HZL := hide z4
      clear hzs z4
      have m5 : (xs.length : Int) - 1 ≤ (xc : Int) := by omega
      refine wp_region_held_drew (S := (fun W => W.cell? ⟨tb, 1, none⟩ = some (.int .i64 t.up) ∧ LS w W ga gc gs (some ⟨xb, off, none⟩) ya xs ys)) (by kernel_rfl) ?_ (fun hHeld => ?_)
      · (try dsimp only); (refine ⟨?_, ?_⟩ <;> first | assumption | exact LS.drewN (by assumption) 1 | go_keep)
      refine takeL (i := 0) (v := ?v0n94) rfl (by kernel_rfl) (by kernel_rfl) (by kernel_rfl) (fun _ _ _ h => h) (by kernel_rfl) (by assumption) ?y0n94 ?r0n94; case y0n94 => (intro w hSw; (try dsimp only at hSw); go_simp; try with_reducible rfl); (try simp only [Act.put, List.setIfInBounds_toArray, List.set_cons_zero, List.set_cons_succ])
      refine takeL (i := 1) (v := ?v1n95) rfl (by kernel_rfl) (by kernel_rfl) (by kernel_rfl) (fun _ _ _ h => h) (by kernel_rfl) (by assumption) ?y1n95 ?r1n95; case y1n95 => (intro w hSw; (try dsimp only at hSw); go_simp; try with_reducible rfl); (try simp only [Act.put, List.setIfInBounds_toArray, List.set_cons_zero, List.set_cons_succ])
      refine takeL (i := 2) (v := ?v2n96) rfl (by kernel_rfl) (by kernel_rfl) (by kernel_rfl) (fun _ _ _ h => h) (by kernel_rfl) (by assumption) ?y2n96 ?r2n96; case y2n96 => (intro w hSw; (try dsimp only at hSw); go_simp; try with_reducible rfl); (try simp only [Act.put, List.setIfInBounds_toArray, List.set_cons_zero, List.set_cons_succ])
      refine takeL (i := 4) (v := ?v4n97) rfl (by kernel_rfl) (by kernel_rfl) (by kernel_rfl) (fun _ _ _ h => h) (by kernel_rfl) (by assumption) ?y4n97 ?r4n97; case y4n97 => (intro w hSw; (try dsimp only at hSw); go_simp; try with_reducible rfl); (try simp only [Act.put, List.setIfInBounds_toArray, List.set_cons_zero, List.set_cons_succ])
      refine takeL (i := 5) (v := ?v5n98) rfl (by kernel_rfl) (by kernel_rfl) (by kernel_rfl) (fun _ _ _ h => h) (by kernel_rfl) (by assumption) ?y5n98 ?r5n98; case y5n98 => (intro w hSw; (try dsimp only at hSw); go_simp; try with_reducible rfl); (try simp only [Act.put, List.setIfInBounds_toArray, List.set_cons_zero, List.set_cons_succ])
      refine takeL (i := 6) (v := ?v6n99) rfl (by kernel_rfl) (by kernel_rfl) (by kernel_rfl) (fun _ _ _ h => h) (by kernel_rfl) (by assumption) ?y6n99 ?r6n99; case y6n99 => (intro w hSw; (try dsimp only at hSw); go_simp; try with_reducible rfl); (try simp only [Act.put, List.setIfInBounds_toArray, List.set_cons_zero, List.set_cons_succ])
      refine takeL (i := 7) (v := ?v7n100) rfl (by kernel_rfl) (by kernel_rfl) (by kernel_rfl) (fun _ _ _ h => h) (by kernel_rfl) (by assumption) ?y7n100 ?r7n100; case y7n100 => (intro w hSw; (try dsimp only at hSw); go_simp; try with_reducible rfl); (try simp only [Act.put, List.setIfInBounds_toArray, List.set_cons_zero, List.set_cons_succ])
      refine takeL (i := 8) (v := ?v8n101) rfl (by kernel_rfl) (by kernel_rfl) (by kernel_rfl) (fun _ _ _ h => h) (by kernel_rfl) (by assumption) ?y8n101 ?r8n101; case y8n101 => (intro w hSw; (try dsimp only at hSw); go_simp; try with_reducible rfl); (try simp only [Act.put, List.setIfInBounds_toArray, List.set_cons_zero, List.set_cons_succ])
      refine doL (i := 3) rfl (by kernel_rfl) (fun K hK => ?_)
      go_simp
      (go_at_call 31; have hL := hHeld.2; refine (hL.g.implLineC H6.out).mono ?_; rintro e w60 ⟨za, zc, rfl, lz, zcap, Z60, bb⟩; have L60 := hL.keep bb; have cc := cell_below (p := ⟨tb, 1, none⟩) bb hHeld.1; clear hL bb)
      (try go_wp2_with fail)
      refine hK.out _ _ ?_ (fun hHeld2 => ?_)
      · (try dsimp only); (refine ⟨?_, ?_⟩ <;> first | assumption | exact LS.drewN (by assumption) 1 | go_keep)
      clear hK K hHeld
      have hHeld := hHeld2
      clear hHeld2
      try simp only [Act.put, List.setIfInBounds_toArray, List.set_cons_zero, List.set_cons_succ]
      refine doL (i := 9) rfl (by kernel_rfl) (fun K hK => ?_)
      go_simp
      (go_at_call 32; have hL := hHeld.2; rw [← HZL.out]; refine (wpInts_b za _ zc _ zs zs _ (Z60) (HZ.out _ hL) lz lz (v := true) (by simp)).mono ?_; rintro e w61 ⟨rfl, bb⟩; have L61 := hL.keep bb; have cc := cell_below (p := ⟨tb, 1, none⟩) bb hHeld.1; clear hL bb)
      (try go_wp2_with fail)
      refine hK.out _ _ ?_ (fun hHeld2 => ?_)
      · (try dsimp only); (refine ⟨?_, ?_⟩ <;> first | assumption | exact LS.drewN (by assumption) 1 | go_keep)
      clear hK K hHeld
      have hHeld := hHeld2
      clear hHeld2
      try simp only [Act.put, List.setIfInBounds_toArray, List.set_cons_zero, List.set_cons_succ]
      refine takeL (i := 10) (v := ?v10n102) rfl (by kernel_rfl) (by kernel_rfl) (by kernel_rfl) (fun _ _ _ h => h) (by kernel_rfl) (by assumption) ?y10n102 ?r10n102; case y10n102 => (intro w hSw; (try dsimp only at hSw); go_simp; try with_reducible rfl); (try simp only [Act.put, List.setIfInBounds_toArray, List.set_cons_zero, List.set_cons_succ])
      refine wpAnyH_done (by kernel_rfl) ?_ _
      go_wp2_with fail
      go_ret
      exact ⟨rfl, L61.g.bel⟩
    · skip
      refine wp_region_held_drew (S := (fun W => W.cell? ⟨xb, off + (xs.length - 1), none⟩ = some (.int .i64 A) ∧ LS w W ga gc gs (some ⟨xb, off, none⟩) ya xs ys)) (by kernel_rfl) ?_ (fun hHeld => ?_)
      · (try dsimp only); (refine ⟨?_, ?_⟩ <;> first | assumption | exact LS.drewN (by assumption) 1 | go_keep)
      refine takeL (i := 0) (v := ?v0n103) rfl (by kernel_rfl) (by kernel_rfl) (by kernel_rfl) (fun _ _ _ h => h) (by kernel_rfl) (by assumption) ?y0n103 ?r0n103; case y0n103 => (intro w hSw; (try dsimp only at hSw); go_simp; try with_reducible rfl); (try simp only [Act.put, List.setIfInBounds_toArray, List.set_cons_zero, List.set_cons_succ])
      refine takeL (i := 1) (v := ?v1n104) rfl (by kernel_rfl) (by kernel_rfl) (by kernel_rfl) (fun _ _ _ h => h) (by kernel_rfl) (by assumption) ?y1n104 ?r1n104; case y1n104 => (intro w hSw; (try dsimp only at hSw); go_simp; try with_reducible rfl); (try simp only [Act.put, List.setIfInBounds_toArray, List.set_cons_zero, List.set_cons_succ])
      refine takeL (i := 2) (v := ?v2n105) rfl (by kernel_rfl) (by kernel_rfl) (by kernel_rfl) (fun _ _ _ h => h) (by kernel_rfl) (by assumption) ?y2n105 ?r2n105; case y2n105 => (intro w hSw; (try dsimp only at hSw); go_simp; try with_reducible rfl); (try simp only [Act.put, List.setIfInBounds_toArray, List.set_cons_zero, List.set_cons_succ])
      refine takeL (i := 4) (v := ?v4n106) rfl (by kernel_rfl) (by kernel_rfl) (by kernel_rfl) (fun _ _ _ h => h) (by kernel_rfl) (by assumption) ?y4n106 ?r4n106; case y4n106 => (intro w hSw; (try dsimp only at hSw); go_simp; try with_reducible rfl); (try simp only [Act.put, List.setIfInBounds_toArray, List.set_cons_zero, List.set_cons_succ])
      refine takeL (i := 5) (v := ?v5n107) rfl (by kernel_rfl) (by kernel_rfl) (by kernel_rfl) (fun _ _ _ h => h) (by kernel_rfl) (by assumption) ?y5n107 ?r5n107; case y5n107 => (intro w hSw; (try dsimp only at hSw); go_simp; try with_reducible rfl); (try simp only [Act.put, List.setIfInBounds_toArray, List.set_cons_zero, List.set_cons_succ])
      refine doL (i := 3) rfl (by kernel_rfl) (fun K hK => ?_)
      go_simp
      (go_at_call 28; have hL := hHeld.2; refine (hL.g.implUnder HU.out).mono ?_; rintro e w30 ⟨rfl, bb, _⟩; have L30 := hL.keep bb; have cc := HCELL.out _ L30; clear hL bb)
      (try go_wp2_with fail)
      refine hK.out _ _ ?_ (fun hHeld2 => ?_)
      · (try dsimp only); (refine ⟨?_, ?_⟩ <;> first | assumption | exact LS.drewN (by assumption) 1 | go_keep)
      clear hK K hHeld
      have hHeld := hHeld2
      clear hHeld2
      try simp only [Act.put, List.setIfInBounds_toArray, List.set_cons_zero, List.set_cons_succ]
      refine doL (i := 6) rfl (by kernel_rfl) (fun K hK => ?_)
      go_simp
      (go_at_call 34; have hL := hHeld.2; refine (hL.implIn lx ly HKI.out).mono ?_; rintro e w30 ⟨rfl, bb⟩; have L30 := hL.keep bb; have cc := HCELL.out _ L30; clear hL bb)
      (try go_wp2_with fail)
      refine hK.out _ _ ?_ (fun hHeld2 => ?_)
      · (try dsimp only); (refine ⟨?_, ?_⟩ <;> first | assumption | exact LS.drewN (by assumption) 1 | go_keep)
      clear hK K hHeld
      have hHeld := hHeld2
      clear hHeld2
      try simp only [Act.put, List.setIfInBounds_toArray, List.set_cons_zero, List.set_cons_succ]
      refine takeL (i := 7) (v := ?v7n108) rfl (by kernel_rfl) (by kernel_rfl) (by kernel_rfl) (fun _ _ _ h => h) (by kernel_rfl) (by assumption) ?y7n108 ?r7n108; case y7n108 => (intro w hSw; (try dsimp only at hSw); go_simp; try with_reducible rfl); (try simp only [Act.put, List.setIfInBounds_toArray, List.set_cons_zero, List.set_cons_succ])
      refine takeL (i := 8) (v := ?v8n109) rfl (by kernel_rfl) (by kernel_rfl) (by kernel_rfl) (fun _ _ _ h => h) (by kernel_rfl) (by assumption) ?y8n109 ?r8n109; case y8n109 => (intro w hSw; (try dsimp only at hSw); go_simp; try with_reducible rfl); (try simp only [Act.put, List.setIfInBounds_toArray, List.set_cons_zero, List.set_cons_succ])
      refine takeL (i := 9) (v := ?v9n110) rfl (by kernel_rfl) (by kernel_rfl) (by kernel_rfl) (fun _ _ _ h => h) (by kernel_rfl) (by assumption) ?y9n110 ?r9n110; case y9n110 => (intro w hSw; (try dsimp only at hSw); go_simp; try with_reducible rfl); (try simp only [Act.put, List.setIfInBounds_toArray, List.set_cons_zero, List.set_cons_succ])
      refine takeL (i := 10) (v := ?v10n111) rfl (by kernel_rfl) (by kernel_rfl) (by kernel_rfl) (fun _ _ _ h => h) (by kernel_rfl) (by assumption) ?y10n111 ?r10n111; case y10n111 => (intro w hSw; (try dsimp only at hSw); go_simp; try with_reducible rfl); (try simp only [Act.put, List.setIfInBounds_toArray, List.set_cons_zero, List.set_cons_succ])
      refine takeL (i := 11) (v := ?v11n112) rfl (by kernel_rfl) (by kernel_rfl) (by kernel_rfl) (fun _ _ _ h => h) (by kernel_rfl) (by assumption) ?y11n112 ?r11n112; case y11n112 => (intro w hSw; (try dsimp only at hSw); go_simp; try with_reducible rfl); (try simp only [Act.put, List.setIfInBounds_toArray, List.set_cons_zero, List.set_cons_succ])
      refine takeL (i := 13) (v := ?v13n113) rfl (by kernel_rfl) (by kernel_rfl) (by kernel_rfl) (fun _ _ _ h => h) (by kernel_rfl) (by assumption) ?y13n113 ?r13n113; case y13n113 => (intro w hSw; (try dsimp only at hSw); go_simp; try with_reducible rfl); (try simp only [Act.put, List.setIfInBounds_toArray, List.set_cons_zero, List.set_cons_succ])
      refine takeL (i := 14) (v := ?v14n114) rfl (by kernel_rfl) (by kernel_rfl) (by kernel_rfl) (fun _ _ _ h => h) (by kernel_rfl) (by assumption) ?y14n114 ?r14n114; case y14n114 => (intro w hSw; (try dsimp only at hSw); go_simp; try with_reducible rfl); (try simp only [Act.put, List.setIfInBounds_toArray, List.set_cons_zero, List.set_cons_succ])
      refine doL (i := 12) rfl (by kernel_rfl) (fun K hK => ?_)
      go_simp
      (go_at_call 23; have hL := hHeld.2; refine (hL.g.implSame HS.out).mono ?_; rintro e w30 ⟨rfl, bb, _⟩; have L30 := hL.keep bb; have cc := HCELL.out _ L30; clear hL bb)
      (try go_wp2_with fail)
      refine hK.out _ _ ?_ (fun hHeld2 => ?_)
      · (try dsimp only); (refine ⟨?_, ?_⟩ <;> first | assumption | exact LS.drewN (by assumption) 1 | go_keep)
      clear hK K hHeld
      have hHeld := hHeld2
      clear hHeld2
      try simp only [Act.put, List.setIfInBounds_toArray, List.set_cons_zero, List.set_cons_succ]
      refine doL (i := 15) rfl (by kernel_rfl) (fun K hK => ?_)
      go_simp
      (go_at_call 32; have hL := hHeld.2; refine (wpInts_b _ ya xc yc xs ys _ hL.x hL.y lx ly HSX.out).mono ?_; rintro e w30 ⟨rfl, bb⟩; have L30 := hL.keep bb; have cc := HCELL.out _ L30; clear hL bb)
      (try go_wp2_with fail)
      refine hK.out _ _ ?_ (fun hHeld2 => ?_)
      · (try dsimp only); (refine ⟨?_, ?_⟩ <;> first | assumption | exact LS.drewN (by assumption) 1 | go_keep)
      clear hK K hHeld
      have hHeld := hHeld2
      clear hHeld2
      try simp only [Act.put, List.setIfInBounds_toArray, List.set_cons_zero, List.set_cons_succ]
      refine takeL (i := 16) (v := ?v16n115) rfl (by kernel_rfl) (by kernel_rfl) (by kernel_rfl) (fun _ _ _ h => h) (by kernel_rfl) (by assumption) ?y16n115 ?r16n115; case y16n115 => (intro w hSw; (try dsimp only at hSw); go_simp; try with_reducible rfl); (try simp only [Act.put, List.setIfInBounds_toArray, List.set_cons_zero, List.set_cons_succ])
      refine takeL (i := 17) (v := ?v17n116) rfl (by kernel_rfl) (by kernel_rfl) (by kernel_rfl) (fun _ _ _ h => h) (by kernel_rfl) (by assumption) ?y17n116 ?r17n116; case y17n116 => (intro w hSw; (try dsimp only at hSw); go_simp; try with_reducible rfl); (try simp only [Act.put, List.setIfInBounds_toArray, List.set_cons_zero, List.set_cons_succ])
      refine takeL (i := 18) (v := ?v18n117) rfl (by kernel_rfl) (by kernel_rfl) (by kernel_rfl) (fun _ _ _ h => h) (by kernel_rfl) (by assumption) ?y18n117 ?r18n117; case y18n117 => (intro w hSw; (try dsimp only at hSw); go_simp; try with_reducible rfl); (try simp only [Act.put, List.setIfInBounds_toArray, List.set_cons_zero, List.set_cons_succ])
      refine takeL (i := 19) (v := ?v19n118) rfl (by kernel_rfl) (by kernel_rfl) (by kernel_rfl) (fun _ _ _ h => h) (by kernel_rfl) (by assumption) ?y19n118 ?r19n118; case y19n118 => (intro w hSw; (try dsimp only at hSw); go_simp; try with_reducible rfl); (try simp only [Act.put, List.setIfInBounds_toArray, List.set_cons_zero, List.set_cons_succ])
      refine takeL (i := 20) (v := ?v20n119) rfl (by kernel_rfl) (by kernel_rfl) (by kernel_rfl) (fun _ _ _ h => h) (by kernel_rfl) (by assumption) ?y20n119 ?r20n119; case y20n119 => (intro w hSw; (try dsimp only at hSw); go_simp; try with_reducible rfl); (try simp only [Act.put, List.setIfInBounds_toArray, List.set_cons_zero, List.set_cons_succ])
      refine takeL (i := 21) (v := ?v21n120) rfl (by kernel_rfl) (by kernel_rfl) (by kernel_rfl) (fun _ _ _ h => h) (by kernel_rfl) (by assumption) ?y21n120 ?r21n120; case y21n120 => (intro w hSw; (try dsimp only at hSw); go_simp; try with_reducible rfl); (try simp only [Act.put, List.setIfInBounds_toArray, List.set_cons_zero, List.set_cons_succ])
      refine takeL (i := 22) (v := ?v22n121) rfl (by kernel_rfl) (by kernel_rfl) (by kernel_rfl) (fun _ _ _ h => h) (by kernel_rfl) (by assumption) ?y22n121 ?r22n121; case y22n121 => (intro w hSw; (try dsimp only at hSw); go_simp; try with_reducible rfl); (try simp only [Act.put, List.setIfInBounds_toArray, List.set_cons_zero, List.set_cons_succ])
      refine takeL (i := 23) (v := ?v23n122) rfl (by kernel_rfl) (by kernel_rfl) (by kernel_rfl) (fun _ _ _ h => h) (by kernel_rfl) (by assumption) ?y23n122 ?r23n122; case y23n122 => (intro w hSw; (try dsimp only at hSw); go_simp; try with_reducible rfl); (try simp only [Act.put, List.setIfInBounds_toArray, List.set_cons_zero, List.set_cons_succ])
      refine takeL (i := 24) (v := ?v24n123) rfl (by kernel_rfl) (by kernel_rfl) (by kernel_rfl) (fun _ _ _ h => h) (by kernel_rfl) (by assumption) ?y24n123 ?r24n123; case y24n123 => (intro w hSw; (try dsimp only at hSw); go_simp; try with_reducible rfl); (try simp only [Act.put, List.setIfInBounds_toArray, List.set_cons_zero, List.set_cons_succ])
      refine takeL (i := 25) (v := ?v25n124) rfl (by kernel_rfl) (by kernel_rfl) (by kernel_rfl) (fun _ _ _ h => h) (by kernel_rfl) (by assumption) ?y25n124 ?r25n124; case y25n124 => (intro w hSw; (try dsimp only at hSw); go_simp; try with_reducible rfl); (try simp only [Act.put, List.setIfInBounds_toArray, List.set_cons_zero, List.set_cons_succ])
      refine takeL (i := 26) (v := ?v26n125) rfl (by kernel_rfl) (by kernel_rfl) (by kernel_rfl) (fun _ _ _ h => h) (by kernel_rfl) (by assumption) ?y26n125 ?r26n125; case y26n125 => (intro w hSw; (try dsimp only at hSw); go_simp; try with_reducible rfl); (try simp only [Act.put, List.setIfInBounds_toArray, List.set_cons_zero, List.set_cons_succ])
      refine doL (i := 27) rfl (by kernel_rfl) (fun K hK => ?_)
      go_simp
      (go_at_call 26; have hL := hHeld.2; refine (hL.g.implCanon HC.out).mono ?_; rintro e w30 ⟨rfl, bb, _⟩; have L30 := hL.keep bb; have cc := HCELL.out _ L30; clear hL bb)
      (try go_wp2_with fail)
      refine hK.out _ _ ?_ (fun hHeld2 => ?_)
      · (try dsimp only); (refine ⟨?_, ?_⟩ <;> first | assumption | exact LS.drewN (by assumption) 1 | go_keep)
      clear hK K hHeld
      have hHeld := hHeld2
      clear hHeld2
      try simp only [Act.put, List.setIfInBounds_toArray, List.set_cons_zero, List.set_cons_succ]
      refine takeL (i := 28) (v := ?v28n126) rfl (by kernel_rfl) (by kernel_rfl) (by kernel_rfl) (fun _ _ _ h => h) (by kernel_rfl) (by assumption) ?y28n126 ?r28n126; case y28n126 => (intro w hSw; (try dsimp only at hSw); go_simp; try with_reducible rfl); (try simp only [Act.put, List.setIfInBounds_toArray, List.set_cons_zero, List.set_cons_succ])
      refine takeL (i := 29) (v := ?v29n127) rfl (by kernel_rfl) (by kernel_rfl) (by kernel_rfl) (fun _ _ _ h => h) (by kernel_rfl) (by assumption) ?y29n127 ?r29n127; case y29n127 => (intro w hSw; (try dsimp only at hSw); go_simp; try with_reducible rfl); (try simp only [Act.put, List.setIfInBounds_toArray, List.set_cons_zero, List.set_cons_succ])
      refine wpAnyH_done (by kernel_rfl) ?_ _
      clear hHeld
      go_wp2_with fail
      refine (L30.implIn lx ly HKI.out).mono ?_
      rintro e w41 ⟨rfl, bb⟩
      have L41 := L30.keep bb
      clear bb L30
      obtain ⟨y1, y2⟩ := H3.out (by trivial)
      have y3 : (ys.length : Int) ≤ (xs.length : Int) := by omega
      have y5 : (ys.length : Int) ≤ (xc : Int) := by omega
      have Y5 := L41.x.take ys.length
      rw [y2] at Y5
      clear y2
      go_wp2_with fail
      refine (wpInts_b _ ya _ yc ys ys _ Y5 L41.y ly ly (v := true) (by simp)).mono ?_
      rintro e w42 ⟨rfl, bb⟩
      have L42 := L41.keep bb
      clear bb L41
      clear Y5
      go_wp2_with fail
      refine (L42.g.implType a HTT.out HT.out).mono ?_
      rintro e w50 ⟨na, nc, rfl, _, bb, _⟩
      have L50 := (L42.keep bb).keep ((Below.refl _ _).alloc (Nat.le_refl _) (.cells #[.int .i64 t.kind, .int .i64 t.up, .bool t.last, .slice na t.fields.length nc] 28))
      have R50 := Rec.new w50 28 [.int .i64 t.kind, .int .i64 t.up, .bool t.last, .slice na t.fields.length nc]
      clear bb L42
      go_wp2_with fail
      generalize w50.alloc (.cells #[.int .i64 t.kind, .int .i64 t.up, .bool t.last, .slice na t.fields.length nc] 28) = W50 at *
      generalize w50.heap.size = tb at *
      have u1 := R50.cell (o := 1) rfl
      have z4 : (xs.take (xs.length - 1)).length = xs.length - 1 := by rw [List.length_take]; omega
      obtain ⟨zs, hzs⟩ : ∃ zs, xs.take (xs.length - 1) = zs := ⟨_, rfl⟩
      rw [hzs] at z4 H6
      have HZ : Hid (∀ W, LS w W ga gc gs (some ⟨xb, off, none⟩) ya xs ys → IntsAt W (some ⟨xb, off, none⟩) zs) := fun W h => by rw [← hzs]; exact h.x.take _
      have HZL := hide z4
      clear hzs z4
      have m5 : (xs.length : Int) - 1 ≤ (xc : Int) := by omega
      refine wp_region_held_drew (S := (fun W => W.cell? ⟨tb, 1, none⟩ = some (.int .i64 t.up) ∧ LS w W ga gc gs (some ⟨xb, off, none⟩) ya xs ys)) (by kernel_rfl) ?_ (fun hHeld => ?_)
      · (try dsimp only); (refine ⟨?_, ?_⟩ <;> first | assumption | exact LS.drewN (by assumption) 1 | go_keep)
      refine takeL (i := 0) (v := ?v0n128) rfl (by kernel_rfl) (by kernel_rfl) (by kernel_rfl) (fun _ _ _ h => h) (by kernel_rfl) (by assumption) ?y0n128 ?r0n128; case y0n128 => (intro w hSw; (try dsimp only at hSw); go_simp; try with_reducible rfl); (try simp only [Act.put, List.setIfInBounds_toArray, List.set_cons_zero, List.set_cons_succ])
      refine takeL (i := 1) (v := ?v1n129) rfl (by kernel_rfl) (by kernel_rfl) (by kernel_rfl) (fun _ _ _ h => h) (by kernel_rfl) (by assumption) ?y1n129 ?r1n129; case y1n129 => (intro w hSw; (try dsimp only at hSw); go_simp; try with_reducible rfl); (try simp only [Act.put, List.setIfInBounds_toArray, List.set_cons_zero, List.set_cons_succ])
      refine takeL (i := 2) (v := ?v2n130) rfl (by kernel_rfl) (by kernel_rfl) (by kernel_rfl) (fun _ _ _ h => h) (by kernel_rfl) (by assumption) ?y2n130 ?r2n130; case y2n130 => (intro w hSw; (try dsimp only at hSw); go_simp; try with_reducible rfl); (try simp only [Act.put, List.setIfInBounds_toArray, List.set_cons_zero, List.set_cons_succ])
      refine takeL (i := 4) (v := ?v4n131) rfl (by kernel_rfl) (by kernel_rfl) (by kernel_rfl) (fun _ _ _ h => h) (by kernel_rfl) (by assumption) ?y4n131 ?r4n131; case y4n131 => (intro w hSw; (try dsimp only at hSw); go_simp; try with_reducible rfl); (try simp only [Act.put, List.setIfInBounds_toArray, List.set_cons_zero, List.set_cons_succ])
      refine takeL (i := 5) (v := ?v5n132) rfl (by kernel_rfl) (by kernel_rfl) (by kernel_rfl) (fun _ _ _ h => h) (by kernel_rfl) (by assumption) ?y5n132 ?r5n132; case y5n132 => (intro w hSw; (try dsimp only at hSw); go_simp; try with_reducible rfl); (try simp only [Act.put, List.setIfInBounds_toArray, List.set_cons_zero, List.set_cons_succ])
      refine takeL (i := 6) (v := ?v6n133) rfl (by kernel_rfl) (by kernel_rfl) (by kernel_rfl) (fun _ _ _ h => h) (by kernel_rfl) (by assumption) ?y6n133 ?r6n133; case y6n133 => (intro w hSw; (try dsimp only at hSw); go_simp; try with_reducible rfl); (try simp only [Act.put, List.setIfInBounds_toArray, List.set_cons_zero, List.set_cons_succ])
      refine takeL (i := 7) (v := ?v7n134) rfl (by kernel_rfl) (by kernel_rfl) (by kernel_rfl) (fun _ _ _ h => h) (by kernel_rfl) (by assumption) ?y7n134 ?r7n134; case y7n134 => (intro w hSw; (try dsimp only at hSw); go_simp; try with_reducible rfl); (try simp only [Act.put, List.setIfInBounds_toArray, List.set_cons_zero, List.set_cons_succ])
      refine takeL (i := 8) (v := ?v8n135) rfl (by kernel_rfl) (by kernel_rfl) (by kernel_rfl) (fun _ _ _ h => h) (by kernel_rfl) (by assumption) ?y8n135 ?r8n135; case y8n135 => (intro w hSw; (try dsimp only at hSw); go_simp; try with_reducible rfl); (try simp only [Act.put, List.setIfInBounds_toArray, List.set_cons_zero, List.set_cons_succ])
      refine doL (i := 3) rfl (by kernel_rfl) (fun K hK => ?_)
      go_simp
      (go_at_call 31; have hL := hHeld.2; refine (hL.g.implLineC H6.out).mono ?_; rintro e w60 ⟨za, zc, rfl, lz, zcap, Z60, bb⟩; have L60 := hL.keep bb; have cc := cell_below (p := ⟨tb, 1, none⟩) bb hHeld.1; clear hL bb)
      (try go_wp2_with fail)
      refine hK.out _ _ ?_ (fun hHeld2 => ?_)
      · (try dsimp only); (refine ⟨?_, ?_⟩ <;> first | assumption | exact LS.drewN (by assumption) 1 | go_keep)
      clear hK K hHeld
      have hHeld := hHeld2
      clear hHeld2
      try simp only [Act.put, List.setIfInBounds_toArray, List.set_cons_zero, List.set_cons_succ]
      refine doL (i := 9) rfl (by kernel_rfl) (fun K hK => ?_)
      go_simp
      (go_at_call 32; have hL := hHeld.2; rw [← HZL.out]; refine (wpInts_b za _ zc _ zs zs _ (Z60) (HZ.out _ hL) lz lz (v := true) (by simp)).mono ?_; rintro e w61 ⟨rfl, bb⟩; have L61 := hL.keep bb; have cc := cell_below (p := ⟨tb, 1, none⟩) bb hHeld.1; clear hL bb)
      (try go_wp2_with fail)
      refine hK.out _ _ ?_ (fun hHeld2 => ?_)
      · (try dsimp only); (refine ⟨?_, ?_⟩ <;> first | assumption | exact LS.drewN (by assumption) 1 | go_keep)
      clear hK K hHeld
      have hHeld := hHeld2
      clear hHeld2
      try simp only [Act.put, List.setIfInBounds_toArray, List.set_cons_zero, List.set_cons_succ]
      refine takeL (i := 10) (v := ?v10n136) rfl (by kernel_rfl) (by kernel_rfl) (by kernel_rfl) (fun _ _ _ h => h) (by kernel_rfl) (by assumption) ?y10n136 ?r10n136; case y10n136 => (intro w hSw; (try dsimp only at hSw); go_simp; try with_reducible rfl); (try simp only [Act.put, List.setIfInBounds_toArray, List.set_cons_zero, List.set_cons_succ])
      refine wpAnyH_done (by kernel_rfl) ?_ _
      go_wp2_with fail
      go_ret
      exact ⟨rfl, L61.g.bel⟩
end Go.Proofs.YtfnipbnchkonoaaDoor
