/- checkFunScope and CheckSlots of the program. -/
import Derived.Test.YtchjiciopjplgaaGreatDoorCkScope2
namespace Go.Proofs.YtchjiciopjplgaaGreatDoor
open Go.ChangeShapes Go.WideShapes Go.ChangeAt Go.RowKit
set_option linter.unusedVariables false
set_option linter.unusedSimpArgs false

/-- The sorts of a function's places. -/
def slotsF (p : GProg) (f : Int) : List Fd := if progOkF p = true ∧ 0 ≤ f ∧ f < (p.funs.length : Int) then (funAt' p.funs f.toNat).takes ++ (funAt' p.funs f.toNat).own else []
/-- Whether there is such a function, of a program that is right. -/
def FunOk (R : Bool) (n : Nat) (f : Int) : Prop := R = true ∧ 0 ≤ f ∧ f < (n : Int)
/-- What checkFunScope answers. -/
def FsPost (R : Bool) (n : Nat) (f : Int) (S : Nat) (slots : List Fd) (e : Ending) (w' : World) : Prop :=
  (¬ FunOk R n f ∧ e = .returned (.tuple #[.agg scope0.toArray, notOkV])) ∨
  (FunOk R n f ∧ ∃ (vs : List Value) (a : Option Addr) (cap : Nat), e = .returned (.tuple #[.agg vs.toArray, .nilIface]) ∧ vs.length = 47 ∧ vs.toArray.all (·.oneCell') = true ∧ vs[46]? = some (.slice a slots.length cap) ∧ FdRow w' S (.slice a slots.length cap) slots)

set_option maxHeartbeats 2000000 in
set_option maxRecDepth 100000 in
theorem checkFunScope_any {md : Bool} (a0 a1 a2 : Option Addr) (c0 c1 c2 lo hi : Nat) (p : GProg) (f : Int) (w : World) (hB : ProgB 1048576 p) (hx : PM md w lo hi a0 a1 a2 p) (hl : lo ≤ hi) (hh : hi ≤ w.heap.size) (hp : pow10 w) :
    Calls Tryz.prog 21 #[.agg #[.slice a0 p.types.length c0, .slice a1 p.glob.length c1, .slice a2 p.funs.length c2], .int .i64 f] w fun e w' =>
      FsPost (progOkF p) p.funs.length f w.heap.size ((funAt' p.funs f.toNat).takes ++ (funAt' p.funs f.toNat).own) e w' ∧ Below w.heap.size w w' := by
  have HPS := hide (fun W (hb : Below w.heap.size w W) => checkProgScope_any a0 a1 a2 c0 c1 c2 lo hi p W hB (hx.keep (hb.mono hh)) hl (Nat.le_trans hh hb.size) (pow10_keep hp hb))
  have HIN := hide (fun W (hb : Below w.heap.size w W) ra ca rn rc cn cc k (hk : k < p.funs.length) => scopeIn_any a0 a1 a2 ra ca p.types.length c0 p.glob.length c1 c2 rn rc cn cc lo hi k p.funs W hk hB.2.2 (hx.2.2.keep (hb.mono hh)) (Nat.le_trans hh hb.size))
  clear hx hB hp
  generalize progOkF p = R at HPS ⊢
  obtain ⟨gs, gl, fs⟩ := p
  simp only at HPS HIN ⊢
  obtain ⟨ZL, hZL⟩ : ∃ z, z = scope0 := ⟨_, rfl⟩
  have hZl : ZL.length = 47 := by rw [hZL]; rfl
  have hZa : ZL.length = scope0.toArray.size := by rw [hZL]; rfl
  obtain ⟨w1, hw1⟩ : ∃ w1, w1 = (w.alloc (.cells #[.slice a0 gs.length c0, .slice a1 gl.length c1, .slice a2 fs.length c2] 33)).alloc (.cells scope0.toArray 61) := ⟨_, rfl⟩
  have R1 : Hid (Rec w1 w.heap.size 33 [.slice a0 gs.length c0, .slice a1 gl.length c1, .slice a2 fs.length c2]) := by show Rec _ _ _ _; rw [hw1]; exact (Rec.new _ _ _).alloc _
  have G1 : Hid (Rec w1 (w.heap.size + 1) 61 ZL) := by show Rec _ _ _ _; rw [hw1, hZL]; exact Rec.new' _ _ _ _ (by simp)
  have B1 : Hid (Below w.heap.size w w1) := by show Below _ _ _; rw [hw1]; exact ((Below.refl _ _).alloc (Nat.le_refl _) _).alloc (by simp) _
  have p0 := R1.out.cell (o := 0) rfl
  have p1 := R1.out.cell (o := 1) rfl
  have p2 := R1.out.cell (o := 2) rfl
  go_enter Tryz.func21, Tryz.ntmps21
  go_upto_region 1 with (fail)
  unfold scope0 at hw1
  rw [← hw1]
  clear hw1
  go_wp2_with fail
  refine (HPS.out w1 B1.out).mono ?_
  rintro e w2 ⟨hP, b2⟩
  have B2 := hide (B1.out.trans (b2.mono B1.out.size))
  have R2 := hide (R1.out.below b2 R1.out.lt)
  have G2 := hide (G1.out.below b2 G1.out.lt)
  clear b2 R1 G1 B1 p0 p1 p2 HPS
  have BA := hide (B2.out.alloc B2.out.size (.cells scope0.toArray 61))
  have RA := hide (R2.out.alloc (.cells scope0.toArray 61))
  have GA := hide (G2.out.alloc (.cells scope0.toArray 61))
  have ZA : Hid (Rec (w2.alloc (.cells scope0.toArray 61)) w2.heap.size 61 ZL) := by show Rec _ _ _ _; rw [hZL]; exact Rec.new _ _ _
  have z2 : w.heap.size + 1 < w2.heap.size := G2.out.lt
  clear hZL R2 G2 B2
  rcases hP with ⟨rfl, rfl⟩ | ⟨rfl, ra, rn, rc, ca, cn, cc, rfl⟩
  · have HBAD : ¬ FunOk false fs.length f := fun h => by cases h.1
    go_wp2_with (refine wpList_store_rec rfl 61 _ _ rfl w2.heap.size scope0.toArray 61 ZL rfl rfl ZA.out (by kernel_rfl) hZa scope0_one ?_)
    intro w3 r3 k3 s3 b3
    have B3 := hide (BA.out.trans (b3.mono (by omega)))
    have G3 : Hid (Rec w3 (w.heap.size + 1) 61 ZL) := (k3 _ (by omega)).trans GA.out
    clear r3 k3 s3 b3 ZA GA RA BA
    unfold notOkV
    go_wp2_with (first | (go_at_call 37; refine (checkNotOk_any w3).mono ?_; rintro e w' ⟨rfl, rfl⟩) | (refine wpList_store_rec rfl 61 _ _ rfl (w.heap.size + 1) scope0.toArray 61 ZL rfl rfl G3.out (by kernel_rfl) hZa scope0_one ?_))
    intro w4 r4 k4 s4 b4
    have G4 := hide r4
    have B4 := hide (B3.out.trans (b4.mono (Nat.le_succ _)))
    clear r4 k4 s4 b4
    go_wp2_with fail
    exact bodyPost_ret (results_ct rfl rfl G4.out Tryz.underlying61 rfl (by kernel_rfl)) rfl ⟨.inl ⟨HBAD, rfl⟩, B4.out⟩
  · go_wp2_with (refine wpList_store_rec rfl 61 _ _ rfl w2.heap.size (scope1 (.slice a0 gs.length c0) (.slice a1 gl.length c1) (.slice a2 fs.length c2) (.slice ra rn rc) (.slice ca cn cc)).toArray 61 ZL rfl rfl ZA.out (by kernel_rfl) hZl (scope1_one _ _ _ _ _ _ _ _ _ _ _ _ _ _ _) ?_)
    intro w3 r3 k3 s3 b3
    have B3 := hide (BA.out.trans (b3.mono (by omega)))
    have G3 : Hid (Rec w3 (w.heap.size + 1) 61 ZL) := (k3 _ (by omega)).trans GA.out
    have R3 : Hid (Rec w3 w.heap.size 33 [.slice a0 gs.length c0, .slice a1 gl.length c1, .slice a2 fs.length c2]) := (k3 _ (by omega)).trans RA.out
    have C3 : Hid (Rec w3 w2.heap.size 61 (scope1 (.slice a0 gs.length c0) (.slice a1 gl.length c1) (.slice a2 fs.length c2) (.slice ra rn rc) (.slice ca cn cc))) := r3
    clear r3 k3 s3 b3 ZA GA RA BA
    have p2 := R3.out.cell (o := 2) rfl
    by_cases h0 : f < 0
    · have HBAD : ¬ FunOk true fs.length f := fun h => by have := h.2.1; omega
      go_wp2_with (first | (go_at_call 37; refine (checkNotOk_any w3).mono ?_; rintro e w' ⟨rfl, rfl⟩) | (refine wpList_store_rec rfl 61 _ _ rfl (w.heap.size + 1) scope0.toArray 61 ZL rfl rfl G3.out (by kernel_rfl) hZa scope0_one ?_))
      intro w4 r4 k4 s4 b4
      have G4 := hide r4
      have B4 := hide (B3.out.trans (b4.mono (Nat.le_succ _)))
      clear r4 k4 s4 b4
      go_wp2_with fail
      exact bodyPost_ret (results_ct rfl rfl G4.out Tryz.underlying61 rfl (by kernel_rfl)) rfl ⟨.inl ⟨HBAD, rfl⟩, B4.out⟩
    by_cases h1 : f < (fs.length : Int)
    · have hok : FunOk true fs.length f := ⟨rfl, by omega, h1⟩
      have HOKK := hide hok
      have hk : f.toNat < fs.length := by omega
      have hfk : ((f.toNat : Nat) : Int) = f := by omega
      have HC := hide (HIN.out w3 B3.out ra ca rn rc cn cc f.toNat hk)
      rw [hfk] at HC
      have hge : ¬ (fs.length : Int) ≤ f := by omega
      clear hok hk hfk HIN
      generalize hSL : (funAt' fs f.toNat).takes ++ (funAt' fs f.toNat).own = SL at HC
      have HSL := hide hSL
      clear hSL
      go_wp2_with (refine wpList_load_rec rfl 61 _ rfl w2.heap.size 61 _ _ rfl C3.out Tryz.underlying61 rfl (by kernel_rfl) ?_)
      go_wp2_with fail
      refine HC.out.mono ?_
      rintro e w4 ⟨vs, a, cap, rfl, v1, v2, v3, v4, b4⟩
      have B4 := hide (B3.out.trans (b4.mono B3.out.size))
      have G4 := hide (G3.out.below b4 G3.out.lt)
      have HRow := hide v4
      have z3 : w.heap.size + 1 < w3.heap.size := G3.out.lt
      have hsz2 : (Tryz.prog.info? 61).map (·.size) = some vs.toArray.size := by rw [List.size_toArray, v1]; kernel_rfl
      have hold : ZL.length = vs.toArray.size := by rw [List.size_toArray, v1]; exact hZl
      clear b4 v4
      go_wp2_with (refine wpList_store_rec rfl 61 _ _ rfl (w.heap.size + 1) vs.toArray 61 ZL rfl rfl G4.out hsz2 hold v2 ?_)
      intro w5 r5 k5 s5 b5
      have G5 : Hid (Rec w5 (w.heap.size + 1) 61 vs) := by show Rec _ _ _ _; simpa using r5
      have B5 := hide (B4.out.trans (b5.mono (Nat.le_succ _)))
      have HRow5 : Hid (FdRow w5 w.heap.size (.slice a SL.length cap) SL) := by
        show FdRow _ _ _ _
        have q := HRow.out
        exact owns_lower (owns_of_block q fun x hx => k5 x (by have := owns_base q x hx; omega)) (by omega)
      clear r5 k5 s5 b5
      go_wp2_with fail
      exact bodyPost_ret (results_ct rfl rfl G5.out Tryz.underlying61 rfl (by rw [v1]; kernel_rfl)) rfl ⟨.inr ⟨HOKK.out, vs, a, cap, rfl, v1, v2, by rw [HSL.out]; exact v3, by rw [HSL.out]; exact HRow5.out⟩, B5.out⟩
    · have HBAD : ¬ FunOk true fs.length f := fun h => h1 h.2.2
      go_wp2_with (first | (go_at_call 37; refine (checkNotOk_any w3).mono ?_; rintro e w' ⟨rfl, rfl⟩) | (refine wpList_store_rec rfl 61 _ _ rfl (w.heap.size + 1) scope0.toArray 61 ZL rfl rfl G3.out (by kernel_rfl) hZa scope0_one ?_))
      intro w4 r4 k4 s4 b4
      have G4 := hide r4
      have B4 := hide (B3.out.trans (b4.mono (Nat.le_succ _)))
      clear r4 k4 s4 b4
      go_wp2_with fail
      exact bodyPost_ret (results_ct rfl rfl G4.out Tryz.underlying61 rfl (by kernel_rfl)) rfl ⟨.inl ⟨HBAD, rfl⟩, B4.out⟩

set_option maxHeartbeats 2000000 in
set_option maxRecDepth 100000 in
theorem implCheckSlots_any {md : Bool} (a0 a1 a2 : Option Addr) (c0 c1 c2 lo hi : Nat) (p : GProg) (f : Int) (w : World) (hB : ProgB 1048576 p) (hx : PM md w lo hi a0 a1 a2 p) (hl : lo ≤ hi) (hh : hi ≤ w.heap.size) (hp : pow10 w) :
    Calls Tryz.prog 7 #[.agg #[.slice a0 p.types.length c0, .slice a1 p.glob.length c1, .slice a2 p.funs.length c2], .int .i64 f] w fun e w' =>
      ∃ a c, e = .returned (.slice a (slotsF p f).length c) ∧ FieldsM true w' w.heap.size w'.heap.size a (slotsF p f) ∧ Below w.heap.size w w' := by
  have HFS := hide (fun W (hb : Below w.heap.size w W) => checkFunScope_any a0 a1 a2 c0 c1 c2 lo hi p f W hB (hx.keep (hb.mono hh)) hl (Nat.le_trans hh hb.size) (pow10_keep hp hb))
  have HS0 : Hid (¬ FunOk (progOkF p) p.funs.length f → slotsF p f = []) := fun h => if_neg h
  have HS1 : Hid (FunOk (progOkF p) p.funs.length f → slotsF p f = (funAt' p.funs f.toNat).takes ++ (funAt' p.funs f.toNat).own) := fun h => if_pos h
  clear hx hB hp
  generalize slotsF p f = TT at HS0 HS1 ⊢
  generalize progOkF p = R at HFS HS0 HS1
  obtain ⟨gs, gl, fs⟩ := p
  simp only at HFS HS0 HS1 ⊢
  generalize (funAt' fs f.toNat).takes ++ (funAt' fs f.toNat).own = SL at HFS HS1
  obtain ⟨ZL, hZL⟩ : ∃ z, z = scope0 := ⟨_, rfl⟩
  have hZl : ZL.length = 47 := by rw [hZL]; rfl
  have hZa : ZL.length = scope0.toArray.size := by rw [hZL]; rfl
  have B0 : Hid (Below w.heap.size w (w.alloc (.cells #[.slice a0 gs.length c0, .slice a1 gl.length c1, .slice a2 fs.length c2] 33))) := (Below.refl _ _).alloc (Nat.le_refl _) _
  go_enter Tryz.func7, Tryz.ntmps7
  go_wp2_with fail
  refine (HFS.out _ B0.out).mono ?_
  rintro e w2 ⟨hP, b2⟩
  have B2 := hide (B0.out.trans (b2.mono B0.out.size))
  clear b2 B0 HFS
  have BA := hide (B2.out.alloc B2.out.size (.cells scope0.toArray 61))
  have ZA : Hid (Rec (w2.alloc (.cells scope0.toArray 61)) w2.heap.size 61 ZL) := by show Rec _ _ _ _; rw [hZL]; exact Rec.new _ _ _
  clear hZL
  rcases hP with ⟨hbad, rfl⟩ | ⟨hok, vs, a, cap, rfl, v1, v2, v3, v4⟩
  · have hT := HS0.out hbad
    have HTT := hide hT
    clear hT HS0 HS1 hbad
    go_wp2_with (refine wpList_store_rec rfl 61 _ _ rfl w2.heap.size scope0.toArray 61 ZL rfl rfl ZA.out (by kernel_rfl) hZa scope0_one ?_)
    intro w3 r3 k3 s3 b3
    have B3 := hide (BA.out.trans (b3.mono B2.out.size))
    clear r3 k3 s3 b3
    unfold notOkV
    go_wp2_with fail
    go_ret
    rw [HTT.out]
    exact ⟨none, 0, rfl, ⟨.inl rfl, fun _ => .inl rfl⟩, B3.out⟩
  · have hT := HS1.out hok
    have HTT := hide hT
    clear hT HS0 HS1 hok
    have hsz2 : (Tryz.prog.info? 61).map (·.size) = some vs.toArray.size := by rw [List.size_toArray, v1]; kernel_rfl
    have hold : ZL.length = vs.toArray.size := by rw [List.size_toArray, v1]; exact hZl
    have HRow := hide v4
    clear v4
    go_wp2_with (refine wpList_store_rec rfl 61 _ _ rfl w2.heap.size vs.toArray 61 ZL rfl rfl ZA.out hsz2 hold v2 ?_)
    intro w3 r3 k3 s3 b3
    have B3 := hide (BA.out.trans (b3.mono B2.out.size))
    have G3 : Hid (Rec w3 w2.heap.size 61 vs) := by show Rec _ _ _ _; simpa using r3
    have e46 := G3.out.cell v3
    have HRow3 : Hid (FdRow w3 w.heap.size (.slice a SL.length cap) SL) := by
      show FdRow _ _ _ _
      have q := HRow.out.alloc (.cells scope0.toArray 61)
      exact owns_lower (owns_of_block q fun x hx => k3 x (by have := owns_lt HRow.out x hx; omega)) (by simp)
    clear r3 k3 s3 b3
    go_wp2_with fail
    go_ret
    rw [HTT.out]
    exact ⟨a, cap, rfl, HRow3.out.own, B3.out⟩
end Go.Proofs.YtchjiciopjplgaaGreatDoor
