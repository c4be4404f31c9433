/- PbProg: DrawProg, RegionL. -/
import Derived.Test.YtblliefejffhoaaGreatDoorPbRow
import Derived.Test.YtblliefejffhoaaGreatDoorPbKinC
import Derived.Test.YtblliefejffhoaaGreatDoorBase
import Derived.Deep.RegionHeld3
/- l3Prog of the model: a program, drawn (what l1Kin answers is a premise here: DrawProg2 pays it). -/
namespace Go.Proofs.YtblliefejffhoaaGreatDoor
open Go.ChangeShapes Go.WideShapes Go.ChangeAt Go.RowKit Go.Deep
set_option linter.unusedVariables false

/-- What is known of each drawn function. -/
def FunSm (f : GFun) : Prop := f.takes.length ≤ 3 ∧ f.own.length ≤ 3 ∧ 1 ≤ f.body.length ∧ f.body.length ≤ 6

/-- What l1Kin answers (KinPost). -/
def KinP (g p : Nat) (w : World) (e : Ending) (w' : World) : Prop :=
  ∃ (gs : List (List Ty)) (gb gc : Nat), e = .returned (.slice (some ⟨gb, 0, none⟩) gs.length gc) ∧ (gs = [] ∨ kinOkF gs = true) ∧ gs.length ≤ gc ∧ GroupsIn w' w.heap.size w'.heap.size (some ⟨gb, 0, none⟩) gs ∧ Few gs ∧ (∃ p', p' ≤ p + 500 ∧ Rd w' g p') ∧ Only g w w'

/-- The state of l3Prog's loop: the result's block, the program's variable, its lists. -/
structure ProgSt (g : Nat) (w : World) (pb S : Nat) (P : GProg) (gb gc : Nat) (ga : Option Addr) (gcap : Nat) (v : Value) (wr : World) : Prop where
  z : Rec wr w.heap.size 27 [.slice none 0 0, .slice none 0 0, .slice none 0 0]
  var : Rec wr pb 27 [.slice (some ⟨gb, 0, none⟩) P.types.length gc, .slice ga P.glob.length gcap, v]
  gr : GroupsIn wr (w.heap.size + 1) pb (some ⟨gb, 0, none⟩) P.types
  gl : FieldsIn wr (pb + 1) S ga P.glob
  fu : FunRow wr S v P.funs
  sm : ∀ i, i < P.funs.length → FunSm (funAt' P.funs i)
  on : Only g w wr
  hw : w.heap.size < pb
  hS : pb < S
  hg : g < w.heap.size
  hz : S ≤ wr.heap.size

theorem ProgSt.only {g : Nat} {w : World} {pb S : Nat} {P : GProg} {gb gc : Nat} {ga : Option Addr} {gcap : Nat} {v : Value} {wr w' : World} (h : ProgSt g w pb S P gb gc ga gcap v wr) (o : Only g wr w') : ProgSt g w pb S P gb gc ga gcap v w' where
  z := h.z.only o (by have := h.hg; omega)
  var := h.var.only o (by have := h.hg; have := h.hw; omega)
  gr := h.gr.same (o.same (by have := h.hg; omega) (by have := h.hS; have := h.hz; omega)) (Nat.le_refl _) (Nat.le_refl _)
  gl := h.gl.same (o.same (by have := h.hg; have := h.hw; omega) h.hz) (Nat.le_refl _) (Nat.le_refl _)
  fu := h.fu.only o (by have := h.hg; have := h.hw; have := h.hS; omega)
  sm := h.sm
  on := h.on.trans o
  hw := h.hw
  hS := h.hS
  hg := h.hg
  hz := Nat.le_trans h.hz o.size

theorem ProgSt.push {g : Nat} {w : World} {pb S : Nat} {P : GProg} {gb gc : Nat} {ga : Option Addr} {gcap : Nat} {v : Value} {wa w1 : World} (h : ProgSt g w pb S P gb gc ga gcap v wa)
    {f : GFun} {a0 a4 a5 : Option Addr} {c0 c4 c5 b3 g' cap' : Nat} {xs : List Value} {B : Nat → Nat}
    (ho0 : wa.ownsRow S 36 6 v P.funs.length xs)
    (hS : S ≤ B 0) (hB : ∀ i, B i ≤ B (i + 1)) (hf : ∀ i, i < P.funs.length → FunV wa (B i) (B (i + 1)) xs (i * 6) (funAt' P.funs i))
    (r0 : FdI wa (B P.funs.length) b3 (.slice a0 f.takes.length c0) f.takes) (r4 : FdI wa (B P.funs.length) b3 (.slice a4 f.own.length c4) f.own) (r5 : InI wa (B P.funs.length) b3 (.slice a5 f.body.length c5) f.body) (r6 : Apart2 (.slice a0 f.takes.length c0) (.slice a4 f.own.length c4)) (q1 : B P.funs.length ≤ b3) (q4 : b3 ≤ wa.heap.size) (hsm : FunSm f)
    (ho : w1.ownsRow S 36 6 (.slice (some ⟨g', 0, none⟩) (P.funs.length + 1) cap') (P.funs.length + 1) (xs ++ [.slice a0 f.takes.length c0, .int .i64 f.gives.kind, .int .i64 f.gives.of, .bool f.gives.mt, .slice a4 f.own.length c4, .slice a5 f.body.length c5]))
    (hgr : wa.grownBy w1 v.ownBlock) :
    ProgSt g w pb S ⟨P.types, P.glob, P.funs ++ [f]⟩ gb gc ga gcap (.slice (some ⟨g', 0, none⟩) (P.funs.length + 1) cap') (w1.setCell ⟨pb, 2, none⟩ (.slice (some ⟨g', 0, none⟩) (P.funs.length + 1) cap')) := by
  have k1 := h.hg
  have k2 := h.hw
  have k3 := h.hS
  have k4 := h.hz
  have hnb : ∀ k, v.ownBlock = some k → S ≤ k := owns_base ho0
  have hb1 : Below S wa w1 := (Below.refl S wa).grown hgr k4 hnb
  have V1 : Rec w1 pb 27 [.slice (some ⟨gb, 0, none⟩) P.types.length gc, .slice ga P.glob.length gcap, v] := h.var.below hb1 k3
  have hk : KeepF S wa (w1.setCell ⟨pb, 2, none⟩ (.slice (some ⟨g', 0, none⟩) (P.funs.length + 1) cap')) :=
    ⟨(KeepE.grown ho0 hgr (by decide)).trans (KeepE.set _ V1 (by decide)), (KeepE.grown ho0 hgr (by decide)).trans (KeepE.set _ V1 (by decide))⟩
  have hsz : (w1.setCell ⟨pb, 2, none⟩ (.slice (some ⟨g', 0, none⟩) (P.funs.length + 1) cap')).heap.size = w1.heap.size := by simp
  have hs1 : wa.heap.size ≤ w1.heap.size := hb1.size
  refine ⟨?_, ?_, ?_, ?_, ?_, ?_, ?_, k2, k3, k1, by rw [hsz]; omega⟩
  · exact (h.z.below hb1 (by omega)).other (by omega) _ _
  · exact V1.set 2 _
  · exact h.gr.same ((Same.of_below hb1 (by omega)).set (.inr (Nat.le_refl _)) _ _) (Nat.le_refl _) (Nat.le_refl _)
  · exact h.gl.same ((Same.of_below hb1 (Nat.le_refl _)).set (.inl (Nat.lt_succ_self _)) _ _) (Nat.le_refl _) (Nat.le_refl _)
  · exact FunRow.snoc (w := wa) hS hB ho0.1 hf r0 r4 r5 r6 q1 (by rw [hsz]; omega) hk (owns_of_block ho fun k hkk => Below.heap_setCell _ _ _ _ (by have := owns_base ho k hkk; simp; omega))
  · intro i hi
    show FunSm (funAt' (P.funs ++ [f]) i)
    by_cases e : i < P.funs.length
    · rw [funAt_snoc_left _ _ _ e]; exact h.sm i e
    · have : i = P.funs.length := by simp at hi; omega
      subst this
      rw [funAt_snoc_last]; exact hsm
  · exact ((h.on.transB (hb1.mono (by omega))).set (by omega) _ _)

/-- What l3Prog answers. -/
def ProgPost (g p : Nat) (w : World) (e : Ending) (w' : World) : Prop :=
  ∃ (P : GProg) (a0 a1 a2 : Option Addr) (c0 c1 c2 : Nat), e = .returned (.agg #[.slice a0 P.types.length c0, .slice a1 P.glob.length c1, .slice a2 P.funs.length c2]) ∧
    GroupsIn w' w.heap.size w'.heap.size a0 P.types ∧ FieldsIn w' w.heap.size w'.heap.size a1 P.glob ∧ FunsM false w' w.heap.size w'.heap.size a2 P.funs ∧
    (P.types = [] ∨ kinOkF P.types = true) ∧ Few P.types ∧ P.types.length ≤ c0 ∧ P.funs.length ≤ c2 ∧ P.glob.length ≤ 3 ∧ 1 ≤ P.funs.length ∧ P.funs.length ≤ 3 ∧ (∀ i, i < P.funs.length → FunSm (funAt' P.funs i)) ∧
    (∃ p', p' ≤ p + 1000 ∧ Rd w' g p') ∧ Only g w w'

theorem InRow.only {w w' : World} {S g : Nat} {v : Value} {xs : List GIns} (h : InRow w S v xs) (ho : Only g w w') (hg : g < S) : InRow w' S v xs := owns_only h ho hg
theorem icells_snoc (l : List GIns) (x : GIns) : icells (l ++ [x]) = icells l ++ [.int .i64 x.op, .int .i64 x.a, .int .i64 x.b] := icells_app l [x]
theorem InRow.of_snoc {w : World} {S cap g : Nat} {l : List GIns} {x : GIns} (h : w.ownsRow S 59 3 (.slice (some ⟨g, 0, none⟩) (l.length + 1) cap) (l.length + 1) (icells l ++ [.int .i64 x.op, .int .i64 x.a, .int .i64 x.b])) : InRow w S (.slice (some ⟨g, 0, none⟩) (l.length + 1) cap) (l ++ [x]) := by
  unfold InRow
  rw [icells_snoc]
  simpa using h
theorem kin_small {gs : List (List Ty)} (h : gs = [] ∨ kinOkF gs = true) : kinCount gs ≤ 8 := by
  rcases h with rfl | h
  · simp [kinCount, countTo]
  · exact (kinOk_parts h).2.1

theorem FdI.only {w w' : World} {lo hi g : Nat} {v : Value} {xs : List Fd} (h : FdI w lo hi v xs) (ho : Only g w w') (hg : g < lo) : FdI w' lo hi v xs := ⟨h.1.only ho hg, h.2⟩
theorem FdI.upper {w : World} {lo hi hi' : Nat} {v : Value} {xs : List Fd} (h : FdI w lo hi v xs) (hl : hi ≤ hi') : FdI w lo hi' v xs := ⟨h.1, fun k hk => Nat.lt_of_lt_of_le (h.2 k hk) hl⟩
theorem FdI.lower {w : World} {lo lo' hi : Nat} {v : Value} {xs : List Fd} (h : FdI w lo hi v xs) (hl : lo' ≤ lo) : FdI w lo' hi v xs := ⟨h.1.lower hl, h.2⟩

set_option maxHeartbeats 16000000 in
set_option maxRecDepth 100000 in
theorem l3Prog_of (g p : Nat) (w : World) (hp : p < 600000) (h : Rd w g p) (HK : ∀ (q : Nat) (W : World), q < 700000 → Rd W g q → Calls Tryz.prog 65 #[.pointer (some ⟨g, 0, none⟩)] W (KinP g q W)) :
    Calls Tryz.prog 30 #[.pointer (some ⟨g, 0, none⟩)] w (ProgPost g p w) := by
  have hg := h.lt
  have HKh := hide HK
  clear HK
  obtain ⟨i0, hi0, hzz⟩ := Option.map_eq_some_iff.1 Tryz.infoIns
  simp only [Prod.mk.injEq] at hzz
  obtain ⟨hz0, hs0, hb0⟩ := hzz
  have IZ := hide hz0
  have IS := hide hs0
  have IB := hide hb0
  have II := hide hi0
  clear hz0 hs0 hb0 hi0
  obtain ⟨j0, hj0, hzz⟩ := Option.map_eq_some_iff.1 Tryz.infoFun
  simp only [Prod.mk.injEq] at hzz
  obtain ⟨hz0, hs0, hb0⟩ := hzz
  have JZ := hide hz0
  have JS := hide hs0
  have JB := hide hb0
  have JI := hide hj0
  clear hz0 hs0 hb0 hj0
  go_enter Tryz.func30, Tryz.ntmps30
  go_wp2_with fail
  refine (HKh.out p _ (by omega) (h.alloc _)).mono ?_
  rintro e w1 ⟨gs, gb, gc, rfl, hok, hgc, hG, hFew, ⟨p1, hp1, r1⟩, o1⟩
  simp only [World.size_alloc] at hG
  have Z1 := hide ((Rec.new w 27 [.slice none 0 0, .slice none 0 0, .slice none 0 0]).only o1 (by omega))
  have O1 := hide (((Only.refl g w).alloc (.cells #[.slice none 0 0, .slice none 0 0, .slice none 0 0] 27)).trans o1)
  have k8 : kinCount gs ≤ 8 := kin_small hok
  have HOk := hide hok
  have HFew := hide hFew
  have HG1 := hide hG
  have z1 : w.heap.size < w1.heap.size := Z1.out.lt
  clear hok hFew hG o1 h
  have G2 : Hid (GroupsIn (w1.alloc (.cells #[.slice (some ⟨gb, 0, none⟩) gs.length gc, .slice none 0 0, .slice none 0 0] 27)) (w.heap.size + 1) w1.heap.size (some ⟨gb, 0, none⟩) gs) := HG1.out.keep ((Below.refl _ _).alloc (Nat.le_refl _) _)
  have r2 := r1.alloc (.cells #[.slice (some ⟨gb, 0, none⟩) gs.length gc, .slice none 0 0, .slice none 0 0] 27)
  have V2 := hide (Rec.new w1 27 [.slice (some ⟨gb, 0, none⟩) gs.length gc, .slice none 0 0, .slice none 0 0])
  have Z2 := hide (Z1.out.alloc (.cells #[.slice (some ⟨gb, 0, none⟩) gs.length gc, .slice none 0 0, .slice none 0 0] 27))
  have O2 := hide (O1.out.alloc (.cells #[.slice (some ⟨gb, 0, none⟩) gs.length gc, .slice none 0 0, .slice none 0 0] 27))
  go_wp2_with (first | (go_at_call 25; refine (specKinCount_any (some ⟨gb, 0, none⟩) gc _ _ gs _ HFew.out G2.out).mono ?_; rintro e w2 ⟨rfl, rfl⟩))
  have k8' : (kinCount gs : Int) ≤ 8 := by omega
  have k0' : (0 : Int) ≤ (kinCount gs : Int) := by omega
  generalize (kinCount gs : Int) = K at k8' k0' ⊢
  clear k8
  refine (pick_only g p1 _ _ (by omega) r2).mono ?_
  rintro e w3 ⟨k3, rfl, _, l3, u3, r3, o3, s3⟩
  have u3' := u3 (by omega)
  obtain ⟨m3, rfl⟩ : ∃ m : Nat, k3 = m := ⟨k3.toNat, by omega⟩
  simp only [World.size_alloc] at s3
  have V3 := hide (V2.out.only o3 (by omega))
  have Z3 := hide (Z2.out.only o3 (by omega))
  have O3 := hide (O2.out.trans o3)
  have G3 := hide (G2.out.same (o3.same (by omega) (by simp)) (Nat.le_refl _) (Nat.le_refl _))
  clear V2 Z2 O2 G2 o3 r2 r1 u3 l3 HG1 Z1 O1
  go_wp2_with fail
  refine (l3SortList_any g (p1 + 1) m3 K true w3 (by omega) r3 (by omega) k0' (by omega)).mono ?_
  rintro e w4 ⟨glob, ga, gcap, rfl, hgl, hrow, ⟨p4, hp4, r4⟩, o4⟩
  have V4 := hide (V3.out.only o4 (by omega))
  have Z4 := hide (Z3.out.only o4 (by omega))
  have O4 := hide (O3.out.trans o4)
  have G4 := hide (G3.out.same (o4.same (by omega) (by omega)) (Nat.le_refl _) (Nat.le_refl _))
  have F4 : Hid (FieldsIn w4 (w1.heap.size + 1) w4.heap.size ga glob) := by
    have := (FdRow.own hrow).1
    exact this.wide (by omega) (Nat.le_refl _)
  have gl3 : glob.length ≤ 3 := by omega
  have s4 : w1.heap.size + 1 ≤ w4.heap.size := by have := o4.size; omega
  clear V3 Z3 O3 G3 o4 r3 hrow s3 hgl
  have v4f := V4.out.frozen 1
  have v4c := V4.out.cell (o := 1) rfl
  have S5 : Hid (ProgSt g w w1.heap.size w4.heap.size ⟨gs, glob, []⟩ gb gc ga gcap (.slice none 0 0) (w4.setCell ⟨w1.heap.size, 1, none⟩ (.slice ga glob.length gcap))) :=
    ⟨Z4.out.other (by omega) _ _, V4.out.set 1 _, G4.out.same ((Same.refl _ _ _).set (.inr (Nat.le_refl _)) _ _) (Nat.le_refl _) (Nat.le_refl _), F4.out.same ((Same.refl _ _ _).set (.inl (Nat.lt_succ_self _)) _ _) (Nat.le_refl _) (Nat.le_refl _), FunRow.nil _ _ (by simp), fun i hi => absurd hi (Nat.not_lt_zero _), O4.out.set (by omega) _ _, z1, by omega, hg, by simp⟩
  have r5 : Rd (w4.setCell ⟨w1.heap.size, 1, none⟩ (.slice ga glob.length gcap)) g p4 := r4.set (by omega) _ _
  clear Z4 G4 F4 O4 r4 V4
  go_wp2_with fail
  clear v4f v4c
  generalize hw5 : w4.setCell ⟨w1.heap.size, 1, none⟩ (.slice ga glob.length gcap) = w5 at S5 r5 ⊢
  clear hw5
  refine (pick_only g p4 _ w5 (by omega) r5).mono ?_
  rintro e w6 ⟨k6, rfl, _, l6, u6, r6, o6, s6⟩
  have u6' := u6 (by omega)
  obtain ⟨m6, rfl⟩ : ∃ m : Nat, k6 = m := ⟨k6.toNat, by omega⟩
  have S6 := hide (S5.out.only o6)
  generalize hpb : w1.heap.size = pb at *
  generalize hSS : w4.heap.size = SS at *
  clear S5 o6 r5 hpb hSS s6 l6 u6
  go_wp2_with fail
  go_loopw [5] (fun i wr => ∃ (j : Nat) (fs : List GFun) (v : Value) (pq : Nat), i = .int .i64 j ∧ j ≤ 3 ∧ Hid (fs.length + j = m6 + 1) ∧ Hid (ProgSt g w pb SS ⟨gs, glob, fs⟩ gb gc ga gcap v wr) ∧ Hid (Rd wr g pq) ∧ pq + 100 * j ≤ p4 + 400) (fun i wr => (intOf i).toNat)
  case atStart => exact ⟨m6 + 1, [], .slice none 0 0, p4 + 1, by go_num, by omega, (by show _ = _; simp), S6, r6, by omega⟩
  case round =>
    clear S6 r6
    obtain ⟨j, fs, v, pq, rfl, hj, HJ, HSt, HR, hpq⟩ := hrel
    by_cases hj0 : j = 0
    · subst hj0
      have hv := HSt.out.fu.val
      obtain ⟨a2, c2, hv⟩ := hv
      subst hv
      have q0 := HSt.out.var.cell (o := 0) rfl
      have q1 := HSt.out.var.cell (o := 1) rfl
      have q2 := HSt.out.var.cell (o := 2) rfl
      have zf0 := HSt.out.z.frozen 0
      have zf1 := HSt.out.z.frozen 1
      have zf2 := HSt.out.z.frozen 2
      have z0 := HSt.out.z.cell (o := 0) rfl
      have z1 := HSt.out.z.cell (o := 1) rfl
      have z2 := HSt.out.z.cell (o := 2) rfl
      simp only at q0 q1 q2
      go_wp2_with fail
      have hb9 : Below (w.heap.size) wr (((wr.setCell ⟨w.heap.size, 0, none⟩ (.slice (some ⟨gb, 0, none⟩) gs.length gc)).setCell ⟨w.heap.size, 1, none⟩ (.slice ga glob.length gcap)).setCell ⟨w.heap.size, 2, none⟩ (.slice a2 fs.length c2)) := (((Below.refl _ _).setCell (show w.heap.size ≤ w.heap.size from Nat.le_refl _) _).setCell (show w.heap.size ≤ w.heap.size from Nat.le_refl _) _).setCell (show w.heap.size ≤ w.heap.size from Nat.le_refl _) _
      have sm9 : Same (w.heap.size + 1) wr.heap.size wr (((wr.setCell ⟨w.heap.size, 0, none⟩ (.slice (some ⟨gb, 0, none⟩) gs.length gc)).setCell ⟨w.heap.size, 1, none⟩ (.slice ga glob.length gcap)).setCell ⟨w.heap.size, 2, none⟩ (.slice a2 fs.length c2)) := (((Same.refl _ _ _).set (.inl (Nat.lt_succ_self _)) _ _).set (.inl (Nat.lt_succ_self _)) _ _).set (.inl (Nat.lt_succ_self _)) _ _
      have y1 := HSt.out.hw
      have y2 := HSt.out.hS
      have y3 := HSt.out.hz
      have y4 := HJ.out
      refine bodyPost_ret (v := .agg #[.slice (some ⟨gb, 0, none⟩) gs.length gc, .slice ga glob.length gcap, .slice a2 fs.length c2]) (by simp [results, Tryz.results30, go_sem, *]) rfl ⟨⟨gs, glob, fs⟩, some ⟨gb, 0, none⟩, ga, a2, gc, gcap, c2, rfl, ?_, ?_, ?_, HOk.out, HFew.out, hgc, (by obtain ⟨_, _, ho, _⟩ := HSt.out.fu; exact owns_cap ho), gl3, by show 1 ≤ fs.length; omega, by show fs.length ≤ 3; omega, HSt.out.sm, ⟨pq, by omega, HR.out.keep' (hb9.mono (by omega))⟩, ?_⟩
      · exact HSt.out.gr.same (sm9.sub (Nat.le_refl _) (by omega)) (by omega) (by simp; omega)
      · exact HSt.out.gl.same (sm9.sub (by omega) (by omega)) (by omega) (by simp; omega)
      · exact HSt.out.fu.funs.same (sm9.sub (by omega) (Nat.le_refl _)) (by omega) (by simp)
      · exact ((HSt.out.on.set (Nat.le_refl _) _ _).set (Nat.le_refl _) _ _).set (Nat.le_refl _) _ _
    · have hj1 : (0 : Int) < (j : Int) := by omega
      obtain ⟨xs, B, ho, hS0, hB, hBl, hfv⟩ := HSt.out.fu
      have HOr := hide ho
      have HB0 := hide hS0
      have HBm := hide hB
      have HBl := hide hBl
      have HFv := hide hfv
      clear ho hS0 hB hBl hfv
      go_wp2_with fail
      refine (pick_only g pq _ wr (by omega) HR.out).mono ?_
      rintro e w1 ⟨k1, rfl, _, l1, u1, r1, o1, s1⟩
      have u1' := u1 (by omega)
      obtain ⟨m1, rfl⟩ : ∃ m : Nat, k1 = m := ⟨k1.toNat, by omega⟩
      go_wp2_with fail
      refine (l3SortList_any g (pq + 1) m1 K false w1 (by omega) r1 (by omega) k0' (by omega)).mono ?_
      rintro e w2 ⟨tk, ta, tc, rfl, htl, hT, ⟨p2, hp2, r2⟩, o2⟩
      have tl3 : tk.length ≤ 3 := by omega
      clear htl
      go_wp2_with fail
      refine (l3Sort_any g p2 K false w2 (by omega) r2 k0' (by omega)).mono ?_
      rintro e w3 ⟨gv, rfl, ⟨p3, hp3, r3⟩, o3⟩
      go_wp2_with fail
      refine (pick_only g p3 _ w3 (by omega) r3).mono ?_
      rintro e w4 ⟨k4, rfl, _, l4, u4, r4, o4, s4⟩
      have u4' := u4 (by omega)
      obtain ⟨m4, rfl⟩ : ∃ m : Nat, k4 = m := ⟨k4.toNat, by omega⟩
      go_wp2_with fail
      refine (l3SortList_any g (p3 + 1) m4 K true w4 (by omega) r4 (by omega) k0' (by omega)).mono ?_
      rintro e w5 ⟨ow, oa, oc, rfl, hol, hO, ⟨p5, hp5, r5⟩, o5⟩
      have ol3 : ow.length ≤ 3 := by omega
      clear hol
      have t1 := HSt.out.hw
      have t2 := HSt.out.hS
      have t3 := HSt.out.hz
      have n2 := o2.size
      have n3 := o3.size
      have n5 := o5.size
      have T5 : Hid (FdI w5 w1.heap.size w2.heap.size (.slice ta tk.length tc) tk) := (((FdI.of hT (Nat.le_refl _)).only o3 (by omega)).only o4 (by omega)).only o5 (by omega)
      have W5 : Hid (FdI w5 w2.heap.size w5.heap.size (.slice oa ow.length oc) ow) := FdI.of hO (by omega)
      have ONr := hide (((o1.trans o2).trans (o3.trans o4)).trans o5)
      have St5 := hide (HSt.out.only ONr.out)
      have HBl1 : Hid (B fs.length ≤ w1.heap.size) := Nat.le_trans HBl.out (by omega)
      have z5 : w1.heap.size ≤ w2.heap.size ∧ w2.heap.size ≤ w5.heap.size ∧ w.heap.size < w1.heap.size ∧ SS ≤ w1.heap.size := by omega
      clear hT hO o1 o2 o3 o4 o5 r1 r2 r3 r4 HSt HR s1 s4 HBl l1 u1 l4 u4
      have q5 : p5 ≤ pq + 30 := by omega
      go_wp2_with fail
      refine (pick_only g p5 _ _ (by omega) (r5.alloc _)).mono ?_
      rintro e w6 ⟨k6, rfl, _, l6, u6, r6, o6, s6⟩
      have u6' := u6 (by omega)
      obtain ⟨m7, rfl⟩ : ∃ m : Nat, k6 = m := ⟨k6.toNat, by omega⟩
      have hne6 : w5.heap.size ≠ g := by omega
      have F6 : Hid (Rec w6 w5.heap.size 36 [.slice ta tk.length tc, .int .i64 gv.kind, .int .i64 gv.of, .bool gv.mt, .slice oa ow.length oc, .slice none ([] : List GIns).length 0]) := (Rec.new w5 36 [.slice ta tk.length tc, .int .i64 gv.kind, .int .i64 gv.of, .bool gv.mt, .slice oa ow.length oc, .slice none 0 0]).only o6 hne6
      have O6 : Hid (Only g w5 w6) := ((Only.refl g w5).alloc _).trans o6
      clear o6 r5 l6 u6 s6
      go_wp2_with fail
      go_loopw [7] (fun i wq => ∃ (m : Nat) (bs : List GIns) (ba : Option Addr) (bc pr : Nat), i = .int .i64 m ∧ m ≤ 6 ∧ Hid (bs.length + m = m7 + 1) ∧ Hid (Rec wq w5.heap.size 36 [.slice ta tk.length tc, .int .i64 gv.kind, .int .i64 gv.of, .bool gv.mt, .slice oa ow.length oc, .slice ba bs.length bc]) ∧ Hid (InRow wq (w5.heap.size + 1) (.slice ba bs.length bc) bs) ∧ Hid (Only g w5 wq) ∧ Hid (Rd wq g pr) ∧ pr + 5 * m ≤ p5 + 40) (fun i wq => (intOf i).toNat)
      case atStart => exact ⟨m7 + 1, [], none, 0, p5 + 1, by go_num, by omega, (by show _ = _; simp), F6, InRow.nil _ _, O6, r6, by omega⟩
      case round =>
        clear F6 O6 r6
        rename World => wq
        obtain ⟨m, bs, ba, bc, pr, rfl, hm, HM, HF, HB, HO, HR, hpr⟩ := hrel
        have c0 := HF.out.cell (o := 0) rfl
        have c1 := HF.out.cell (o := 1) rfl
        have c2 := HF.out.cell (o := 2) rfl
        have c3 := HF.out.cell (o := 3) rfl
        have c4 := HF.out.cell (o := 4) rfl
        have c5 := HF.out.cell (o := 5) rfl
        have f5 := HF.out.frozen 5
        have fblt := HF.out.lt
        have bl6 : bs.length ≤ 6 := by have := HM.out; omega
        obtain ⟨z5a, z5b, z5c, z5d⟩ := z5
        by_cases hm0 : m = 0
        · subst hm0
          have OAq := hide ((ONr.out.trans HO.out).alloc (.cells #[.slice ta tk.length tc, .int .i64 gv.kind, .int .i64 gv.of, .bool gv.mt, .slice oa ow.length oc, .slice ba bs.length bc] 36))
          have Stq := hide (St5.out.only HO.out)
          have Sta := hide (Stq.out.only ((Only.refl g wq).alloc (.cells #[.slice ta tk.length tc, .int .i64 gv.kind, .int .i64 gv.of, .bool gv.mt, .slice oa ow.length oc, .slice ba bs.length bc] 36)))
          have t1 := Stq.out.hw
          have t2 := Stq.out.hS
          have t3 := Stq.out.hz
          have HOw : Hid ((wq.alloc (.cells #[.slice ta tk.length tc, .int .i64 gv.kind, .int .i64 gv.of, .bool gv.mt, .slice oa ow.length oc, .slice ba bs.length bc] 36)).ownsRow SS 36 6 v fs.length xs) := owns_only HOr.out OAq.out (by omega)
          have HFa : Hid (∀ i, i < fs.length → FunV (wq.alloc (.cells #[.slice ta tk.length tc, .int .i64 gv.kind, .int .i64 gv.of, .bool gv.mt, .slice oa ow.length oc, .slice ba bs.length bc] 36)) (B i) (B (i + 1)) xs (i * 6) (funAt' fs i)) := fun i hi => (HFv.out i hi).keep (KeepF.only (S := SS) OAq.out (by omega)) (Nat.le_trans HB0.out (mono_le' HBm.out (Nat.zero_le _)))
          have q2 := Stq.out.var.cell (o := 2) rfl
          have fl3 : fs.length ≤ 3 := by have := HJ.out; omega
          have OA5 := hide (HO.out.alloc (.cells #[.slice ta tk.length tc, .int .i64 gv.kind, .int .i64 gv.of, .bool gv.mt, .slice oa ow.length oc, .slice ba bs.length bc] 36))
          have s9 : w5.heap.size ≤ wq.heap.size := HO.out.size
          have HB1 := HBl1.out
          have X0 : Hid (FdI (wq.alloc (.cells #[.slice ta tk.length tc, .int .i64 gv.kind, .int .i64 gv.of, .bool gv.mt, .slice oa ow.length oc, .slice ba bs.length bc] 36)) (B fs.length) (wq.alloc (.cells #[.slice ta tk.length tc, .int .i64 gv.kind, .int .i64 gv.of, .bool gv.mt, .slice oa ow.length oc, .slice ba bs.length bc] 36)).heap.size (.slice ta tk.length tc) tk) := ((T5.out.only OA5.out (by omega)).lower HBl1.out).upper (by simp; omega)
          have X4 : Hid (FdI (wq.alloc (.cells #[.slice ta tk.length tc, .int .i64 gv.kind, .int .i64 gv.of, .bool gv.mt, .slice oa ow.length oc, .slice ba bs.length bc] 36)) (B fs.length) (wq.alloc (.cells #[.slice ta tk.length tc, .int .i64 gv.kind, .int .i64 gv.of, .bool gv.mt, .slice oa ow.length oc, .slice ba bs.length bc] 36)).heap.size (.slice oa ow.length oc) ow) := ((W5.out.only OA5.out (by omega)).lower (Nat.le_trans HB1 z5a)).upper (by simp; omega)
          have X5 : Hid (InI (wq.alloc (.cells #[.slice ta tk.length tc, .int .i64 gv.kind, .int .i64 gv.of, .bool gv.mt, .slice oa ow.length oc, .slice ba bs.length bc] 36)) (B fs.length) (wq.alloc (.cells #[.slice ta tk.length tc, .int .i64 gv.kind, .int .i64 gv.of, .bool gv.mt, .slice oa ow.length oc, .slice ba bs.length bc] 36)).heap.size (.slice ba bs.length bc) bs) := InI.of (World.ownsRow.alloc HB.out _) (by omega)
          have X6 : Hid (Apart2 (.slice ta tk.length tc) (.slice oa ow.length oc)) := Apart2.of T5.out.2 (owns_base W5.out.1)
          clear HB1
          have HSm : Hid (FunSm ⟨tk, gv, ow, bs⟩) := ⟨tl3, ol3, by show 1 ≤ bs.length; have := HM.out; omega, bl6⟩
          have RA : Hid (Rd (wq.alloc (.cells #[.slice ta tk.length tc, .int .i64 gv.kind, .int .i64 gv.of, .bool gv.mt, .slice oa ow.length oc, .slice ba bs.length bc] 36)) g pr) := HR.out.alloc _
          go_wp2_with (first | (at_builtin; refine wpList_append_lies _ rfl _ _ 25 rfl SS 36 j0 _ 6 96 Tryz.underlying25 JI.out JZ.out JS.out JB.out (by rfl) (by decide) v fs.length xs rfl HOw.out ⟨wq.heap.size, 0, none⟩ 1 1 [.slice ta tk.length tc, .int .i64 gv.kind, .int .i64 gv.of, .bool gv.mt, .slice oa ow.length oc, .slice ba bs.length bc] rfl rfl (World.news_of_block (Deep.blk_alloc_new _ _)) (by intro u hu; simp at hu; rcases hu with rfl | rfl | rfl | rfl | rfl | rfl <;> rfl) (by decide) (by unfold maxLen; omega) (by omega) (by simp; omega) _ rfl ?_))
          intro gB cap9 w9 hown9 hgr9 hat9 hlt9
          have V9 := hide (Sta.out.var.grown hgr9 (row_ne HOw.out t2))
          have d2 := V9.out.cell (o := 2) rfl
          have d2f := V9.out.frozen 2
          have S9 := hide (ProgSt.push (f := ⟨tk, gv, ow, bs⟩) Sta.out HOw.out HB0.out HBm.out HFa.out X0.out X4.out X5.out X6.out (by have := HBl1.out; show B fs.length ≤ _; simp; omega) (Nat.le_refl _) HSm.out hown9 hgr9)
          have hbg : Below SS (wq.alloc (.cells #[.slice ta tk.length tc, .int .i64 gv.kind, .int .i64 gv.of, .bool gv.mt, .slice oa ow.length oc, .slice ba bs.length bc] 36)) w9 := (Below.refl SS _).grown hgr9 (by simp; omega) (owns_base HOw.out)
          have R9 : Hid (Rd (w9.setCell ⟨pb, 2, none⟩ (.slice (some ⟨gB, 0, none⟩) (fs.length + 1) cap9)) g pr) := RA.out.keep' ((hbg.mono (by omega)).setCell (by show g + 1 ≤ pb; omega) _)
          clear hown9 hgr9 hat9 hlt9 hbg Sta Stq HOw HFa X0 X4 X5 c0 c1 c2 c3 c4 c5 f5 q2
          go_wp2_with fail
          exact ⟨⟨j - 1, fs ++ [⟨tk, gv, ow, bs⟩], .slice (some ⟨gB, 0, none⟩) (fs.length + 1) cap9, pr, by go_num, by omega, (by show _ = _; have := HJ.out; simp; omega), S9, R9, by omega⟩, by simp [intOf]; omega⟩
        · have hm1 : (0 : Int) < (m : Int) := by omega
          go_wp2_with fail
          go_region_law ((first
            | (refine step_append_lies _ (by rfl) _ _ 34 (by rfl) (w5.heap.size + 1) 59 i0 _ 3 24 Tryz.underlying34 II.out IZ.out IS.out IB.out (by rfl) (by decide) (.slice ba bs.length bc) bs.length (icells bs) (by rfl) (B7.out.alloc _) ⟨w7.heap.size, 0, none⟩ 1 1 [.int .i64 io, .int .i64 ix, .int .i64 iy] (by rfl) rfl (World.news_of_block (Deep.blk_alloc_new _ _)) (by intro u hu; simp at hu; rcases hu with rfl | rfl | rfl <;> rfl) (by decide) (by unfold maxLen; omega) (by omega) (by simp; omega) _ rfl ?_; intro gB cap8 w8 hown8 hgr8 hat8 hlt8; have F8 := hide ((F7.out.alloc _).grown hgr8 (row_ne B7.out (by omega))); have d5 := F8.out.cell (o := 5) rfl; have d5f := F8.out.frozen 5)
            | (go_simp; go_at_call 68; refine (l2Ins_any g pr _ (by omega) (by exact HR.out)).mono ?_; rintro e w7 ⟨io, ix, iy, rfl, p7, hp7, r7, o7⟩; have F7 := hide (Rec.only (w := wq.drew) HF.out o7 hne6); have B7 := hide (InRow.only (w := wq.drew) HB.out o7 (by omega)); have O7 := hide (Only.trans (b := wq.drew) (HO.out.drewN 1) o7); have s7 := F7.out.lt; have d5 := F7.out.cell (o := 5) rfl; clear o7)))
          all_goals
            have e8 : (bs ++ [(⟨io, ix, iy⟩ : GIns)]).length = bs.length + 1 := by simp
            have F9 : Hid (Rec (w8.setCell ⟨w5.heap.size, 5, none⟩ (.slice (some ⟨gB, 0, none⟩) (bs.length + 1) cap8)) w5.heap.size 36 [.slice ta tk.length tc, .int .i64 gv.kind, .int .i64 gv.of, .bool gv.mt, .slice oa ow.length oc, .slice (some ⟨gB, 0, none⟩) (bs ++ [(⟨io, ix, iy⟩ : GIns)]).length cap8]) := by rw [e8]; exact F8.out.set 5 _
            have B9 : Hid (InRow (w8.setCell ⟨w5.heap.size, 5, none⟩ (.slice (some ⟨gB, 0, none⟩) (bs.length + 1) cap8)) (w5.heap.size + 1) (.slice (some ⟨gB, 0, none⟩) (bs ++ [(⟨io, ix, iy⟩ : GIns)]).length cap8) (bs ++ [(⟨io, ix, iy⟩ : GIns)])) := by rw [e8]; exact InRow.of_snoc (owns_of_block hown8 fun q hq => Below.heap_setCell _ _ _ _ (by have := owns_base hown8 q hq; simp; omega))
            have O9 := hide (((O7.out.alloc (.cells #[.int .i64 io, .int .i64 ix, .int .i64 iy] 59)).grown hgr8 (fun q hq => by have := owns_base B7.out q hq; omega)).setNew (show w5.heap.size ≤ w5.heap.size from Nat.le_refl _) 5 (.slice (some ⟨gB, 0, none⟩) (bs.length + 1) cap8))
            have R9 : Rd (w8.setCell ⟨w5.heap.size, 5, none⟩ (.slice (some ⟨gB, 0, none⟩) (bs.length + 1) cap8)) g p7 := r7.keep' ((((Below.refl _ _).alloc (by omega) (.cells #[.int .i64 io, .int .i64 ix, .int .i64 iy] 59)).grown hgr8 (by simp; omega) (fun q hq => by have := owns_base B7.out q hq; omega)).setCell (by show g + 1 ≤ w5.heap.size; omega) _)
            clear F7 B7 O7 F8 hown8 hgr8 hat8 hlt8 d5 d5f r7
            go_wp2_with fail
            exact ⟨⟨m - 1, bs ++ [(⟨io, ix, iy⟩ : GIns)], some ⟨gB, 0, none⟩, cap8, p7, by go_num, by omega, (by show _ = _; rw [e8]; have := HM.out; omega), F9, B9, O9, R9, by omega⟩, by simp [intOf]; omega⟩
end Go.Proofs.YtblliefejffhoaaGreatDoor

/- A region that draws its order and whose LAST operation, number L, turns what others have read: a condition S is kept behind every operation but L; what yields its value wherever S holds, and what L waits for, may be taken first. -/
namespace Go.Proofs.YtblliefejffhoaaGreatDoor
set_option linter.unusedVariables false

section
variable {P : Program} {md : Region.Mode} {l : List Oper} {Q : Exit → Act → World → Prop} {S : World → Prop} {L : Nat}

/-- Whatever order is picked from here on; S holds behind every operation that is carried out, but for number L. -/
def AnyL (P : Program) (md : Region.Mode) (ops : Array Oper) (Q : Exit → Act → World → Prop) (S : World → Prop) (L : Nat) : Nat → Array Bool → Act → World → Prop
  | 0, listed, a, w => Region.ready md ops listed = [] ∧ Q .normal a w
  | fuel + 1, listed, a, w => (Region.ready md ops listed = [] → Q .normal a w) ∧
    ∀ i ∈ Region.ready md ops listed, wpOp P ops Q i (fun a' w' => (i = L ∨ S w') ∧ AnyL P md ops Q S L fuel (listed.setIfInBounds i true) a' w') a w

theorem AnyL.any {ops : Array Oper} : ∀ (fuel : Nat) (listed : Array Bool) (a : Act) (w : World), AnyL P md ops Q S L fuel listed a w → wpAny P md ops Q fuel listed a w
  | 0, _, _, _, h => h
  | fuel + 1, _, _, _, h => ⟨h.1, fun i hi => wpOp_mono (fun a' w' k => AnyL.any fuel _ a' w' k.2) (h.2 i hi)⟩

/-- Number L waits for number i. -/
def waits (md : Region.Mode) (ops : Array Oper) (L i : Nat) : Bool := ((ops[L]?).map fun o => o.after.any fun e => Region.binds md e && e.on == i).getD false

theorem waits_not {ops : Array Oper} {i : Nat} {listed : Array Bool} (hw : waits md ops L i = true) (hi : listed.getD i true = false) (hr : L ∈ Region.ready md ops listed) : False := by
  obtain ⟨_, o, ho, hall⟩ := mem_ready.1 hr
  simp only [waits, ho, Option.map_some, Option.getD_some, Array.any_eq_true] at hw
  obtain ⟨k, hk, he⟩ := hw
  simp only [Bool.and_eq_true, beq_iff_eq] at he
  have h1 := hall o.after[k] (Array.getElem_mem hk) he.1
  rw [he.2] at h1
  rcases Nat.lt_or_ge i listed.size with h' | h'
  · simp [h'] at hi h1
    rw [hi] at h1
    cases h1
  · simp [Array.getElem?_eq_none h'] at h1

theorem AnyL.first {ops : Array Oper} {i : Nat} {oi : Oper} {v : Value} (hi : ops[i]? = some oi) (hsel : ∀ (j : Nat) (o : Oper) cs b, ops[j]? = some o → o.op ≠ .select cs b)
    (hQ : ∀ c a w, Q (.panic c) (a.put oi.dst v) w → Q (.panic c) a w) (hL : waits md ops L i = true) :
    ∀ (fuel : Nat) (listed : Array Bool) (a : Act) (w : World),
      (∀ j oj, ops[j]? = some oj → j ≠ i → listed.getD j true = false → (∀ e ∈ oj.after, Region.binds md e = true → e.on ≠ i) → oi.apart ops oj = true) →
      i ∈ Region.ready md ops listed → YieldsIf P ops S oi v a → S w → AnyL P md ops Q S L fuel (listed.setIfInBounds i true) (a.put oi.dst v) w → AnyL P md ops Q S L (fuel + 1) listed a w := by
  intro fuel
  induction fuel with
  | zero =>
    intro listed a w _ hr hy hS H
    refine ⟨fun h => (by rw [h] at hr; cases hr), fun j hj => ?_⟩
    by_cases e : j = i
    · subst e
      exact hy.wpOp hi hS ⟨.inr hS, H⟩
    · have := ready_mono hj e
      rw [H.1] at this
      cases this
  | succ fuel ih =>
    intro listed a w hfree hr hy hS H
    refine ⟨fun h => (by rw [h] at hr; cases hr), fun j hj => ?_⟩
    by_cases e : j = i
    · subst e
      exact hy.wpOp hi hS ⟨.inr hS, H⟩
    · have hun := (mem_ready.1 hr).1
      have hjL : j ≠ L := fun h => waits_not hL hun (h ▸ hj)
      have h1 := H.2 j (ready_mono hj e)
      obtain ⟨hjun, oj, hoj, hall⟩ := mem_ready.1 hj
      have hnot : ∀ ed ∈ oj.after, Region.binds md ed = true → ed.on ≠ i := fun ed he hb heq => by
        have h1 := hall ed he hb
        rw [heq] at h1
        rcases Nat.lt_or_ge i listed.size with h' | h'
        · simp [h'] at hun h1
          rw [hun] at h1
          cases h1
        · simp [Array.getElem?_eq_none h'] at h1
      have h2 := wpOp_putIf hoj (hfree j oj hoj e hjun hnot) (fun cs b => hsel i oi cs b hi) (fun cs b => hsel j oj cs b hoj) hQ hy h1
      have hfree' : ∀ k ok, ops[k]? = some ok → k ≠ i → (listed.setIfInBounds j true).getD k true = false →
          (∀ ed ∈ ok.after, Region.binds md ed = true → ed.on ≠ i) → oi.apart ops ok = true := fun k ok hk hki hu hno => by
        refine hfree k ok hk hki ?_ hno
        by_cases hjk : j = k
        · subst hjk; exact hjun
        · rw [getD_set_ne true hjk] at hu; exact hu
      refine wpOp_mono (fun a' w' h3 => ?_) h2
      obtain ⟨y3, s3, r3⟩ := h3
      have s3' : S w' := s3.resolve_left hjL
      refine ⟨.inr s3', ih (listed.setIfInBounds j true) a' w' hfree' (ready_mono hr (Ne.symm e)) y3 s3' ?_⟩
      rw [Array.setIfInBounds_comm _ _ e]
      exact r3

/-- One taken first. -/
theorem takeA {i : Nat} {oi : Oper} {v : Value} {fuel : Nat} {listed : Array Bool} {a : Act} {w : World} (hi : l[i]? = some oi) (hs : Region.noSelect l.toArray = true) (hf : Region.free md l.toArray listed i = true) (hr : (Region.ready md l.toArray listed).contains i = true)
    (hQ : ∀ c a w, Q (.panic c) (a.put oi.dst v) w → Q (.panic c) a w) (hw : Region.wanted oi (yielded l.toArray a.tmps) = true) (hL : waits md l.toArray L i = true) (hS : S w) (hy : ∀ w, S w → (execOp a.eval oi).run P w = .ok (.value v) w)
    (h : AnyL P md l.toArray Q S L fuel (listed.setIfInBounds i true) (a.put oi.dst v) w) : AnyL P md l.toArray Q S L (fuel + 1) listed a w :=
  AnyL.first (by simpa using hi) (Region.noSelect_spec hs) hQ hL fuel listed a w (Region.free_spec (by simpa using hi) hf) (by simpa using hr) (Or.inl ⟨hw, hy⟩) hS h

/-- Each of those that may come up. -/
def AllL (P : Program) (md : Region.Mode) (l : List Oper) (Q : Exit → Act → World → Prop) (S : World → Prop) (L fuel : Nat) (listed : Array Bool) (a : Act) (w : World) (rs : List Nat) : Prop :=
  ∀ i ∈ rs, wpOp P l.toArray Q i (fun a' w' => (i = L ∨ S w') ∧ AnyL P md l.toArray Q S L fuel (listed.setIfInBounds i true) a' w') a w
theorem AllL.nil {fuel : Nat} {listed : Array Bool} {a : Act} {w : World} : AllL P md l Q S L fuel listed a w [] := fun _ h => by cases h
theorem AllL.cons {fuel : Nat} {listed : Array Bool} {a : Act} {w : World} {i : Nat} {o : Oper} {rs : List Nat} (ho : l[i]? = some o)
    (h : ∀ K' : Act → World → Prop, Shut (∀ a w, S w → (S w → AnyL P md l.toArray Q S L fuel (listed.setIfInBounds i true) a w) → K' a w) → if Region.wanted o (yielded l.toArray a.tmps) = true then Oper.wp P o a w K' Q else K' (a.put o.dst undef) w)
    (hs : AllL P md l Q S L fuel listed a w rs) : AllL P md l Q S L fuel listed a w (i :: rs) := fun j hj => by
  rcases List.mem_cons.1 hj with rfl | hj
  · exact wpOp_step (by simpa using ho) (fun K' hK => h K' (fun a w hS h1 => hK a w ⟨.inr hS, h1 hS⟩))
  · exact hs j hj
/-- The last one. -/
theorem AllL.last {fuel : Nat} {listed : Array Bool} {a : Act} {w : World} {o : Oper} (ho : l[L]? = some o)
    (h : ∀ K' : Act → World → Prop, Shut (∀ a w, AnyL P md l.toArray Q S L fuel (listed.setIfInBounds L true) a w → K' a w) → if Region.wanted o (yielded l.toArray a.tmps) = true then Oper.wp P o a w K' Q else K' (a.put o.dst undef) w) :
    AllL P md l Q S L fuel listed a w [L] := fun j hj => by
  rcases List.mem_cons.1 hj with rfl | hj
  · exact wpOp_step (by simpa using ho) (fun K' hK => h K' (fun a w h1 => hK a w ⟨.inl rfl, h1⟩))
  · cases hj
theorem readyA {rs : List Nat} {fuel : Nat} {listed : Array Bool} {a : Act} {w : World} (hr : Region.ready md l.toArray listed = rs) (hne : rs ≠ []) (h : AllL P md l Q S L fuel listed a w rs) : AnyL P md l.toArray Q S L (fuel + 1) listed a w :=
  ⟨fun h0 => absurd (hr ▸ h0) hne, hr ▸ h⟩
theorem doneA {listed : Array Bool} {a : Act} {w : World} (hr : Region.ready md l.toArray listed = []) (h : Q .normal a w) : ∀ fuel, AnyL P md l.toArray Q S L fuel listed a w
  | 0 => ⟨hr, h⟩
  | _ + 1 => ⟨fun _ => h, by rw [hr]; simp⟩
/-- The beginning. -/
theorem beginA {id : Nat} {a : Act} {w : World} (L : Nat) (hm : P.follows .mixedOrders = true) (hS : S w.drew) (h : S w.drew → AnyL P .any l.toArray Q S L l.toArray.size (Array.replicate l.toArray.size false) a w.drew) : (Code.region id l.toArray true).wp P Q a w :=
  wp_region_any hm (AnyL.any _ _ _ _ (h hS))
end
end Go.Proofs.YtblliefejffhoaaGreatDoor
