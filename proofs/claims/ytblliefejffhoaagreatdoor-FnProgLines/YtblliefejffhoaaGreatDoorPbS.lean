/- PbS: ProgS, ProgS2. -/
import Derived.Test.YtblliefejffhoaaGreatDoorDrawSpoil
import Derived.Test.YtblliefejffhoaaGreatDoorPbKin
import Derived.Test.YtblliefejffhoaaGreatDoorPbOk
import Derived.Test.YtblliefejffhoaaGreatDoorPbTxtI
import Derived.Test.YtblliefejffhoaaGreatDoorPbTxtS
/- A program that was drawn: what is known of it; what ProgOk answers; DrawProgOk of the model. -/
namespace Go.Proofs.YtblliefejffhoaaGreatDoor
open Go.ChangeShapes Go.WideShapes Go.ChangeAt Go.RowKit Go.Deep
set_option linter.unusedVariables false

/-- The program P lies in w, in memory that w0 does not have. -/
structure PS (w0 w : World) (a0 a1 a2 : Option Addr) (c0 c2 : Nat) (P : GProg) : Prop where
  pm : PM false w w0.heap.size w.heap.size a0 a1 a2 P
  pb : ProgB 1048576 P
  hc : P.types.length ≤ c0
  hf : P.funs.length ≤ c2
  bel : Below w0.heap.size w0 w
theorem PS.keep {w0 w w' : World} {a0 a1 a2 : Option Addr} {c0 c2 : Nat} {P : GProg} (h : PS w0 w a0 a1 a2 c0 c2 P) (hb : Below w.heap.size w w') : PS w0 w' a0 a1 a2 c0 c2 P :=
  ⟨(h.pm.keep hb).wide (Nat.le_refl _) hb.size, h.pb, h.hc, h.hf, h.bel.trans (hb.mono h.bel.size)⟩
theorem PS.alloc {w0 w : World} {a0 a1 a2 : Option Addr} {c0 c2 : Nat} {P : GProg} (h : PS w0 w a0 a1 a2 c0 c2 P) (o : Obj) : PS w0 (w.alloc o) a0 a1 a2 c0 c2 P := h.keep ((Below.refl _ _).alloc (Nat.le_refl _) o)
theorem PS.implOk {w0 w : World} {a0 a1 a2 : Option Addr} {c0 c1 c2 : Nat} {P : GProg} {c : Bool} (h : PS w0 w a0 a1 a2 c0 c2 P) (ht : pow10 w0) (hv : progOkF P = c) :
    Calls Tryz.prog 14 #[.agg #[.slice a0 P.types.length c0, .slice a1 P.glob.length c1, .slice a2 P.funs.length c2]] w fun e w' => e = .returned (.bool c) ∧ Below w.heap.size w w' ∧ PS w0 w' a0 a1 a2 c0 c2 P := by
  refine (implProgOk_any a0 a1 a2 c0 c1 c2 _ _ P w h.pb h.pm h.bel.size (Nat.le_refl _) (pow10_keep ht h.bel)).mono ?_
  rintro e w' ⟨rfl, hb⟩
  exact ⟨by rw [hv], hb, h.keep hb⟩
theorem PS.specOk {w0 w : World} {a0 a1 a2 : Option Addr} {c0 c1 c2 : Nat} {P : GProg} {c : Bool} (h : PS w0 w a0 a1 a2 c0 c2 P) (hv : progOkF P = c) :
    Calls Tryz.prog 9 #[.agg #[.slice a0 P.types.length c0, .slice a1 P.glob.length c1, .slice a2 P.funs.length c2]] w fun e w' => e = .returned (.bool c) ∧ Below w.heap.size w w' ∧ PS w0 w' a0 a1 a2 c0 c2 P := by
  refine (specProgOk_any a0 a1 a2 c0 c1 c2 _ _ P w h.pb h.pm h.hc h.bel.size (Nat.le_refl _)).mono ?_
  rintro e w' ⟨rfl, hb⟩
  exact ⟨by rw [hv], hb, h.keep hb⟩

theorem small_of_kin {gs : List (List Ty)} (h : gs = [] ∨ kinOkF gs = true) : ∀ i, i < gs.length → Small (grAt gs i) := by
  intro i hi
  rcases h with rfl | h
  · exact absurd hi (Nat.not_lt_zero _)
  have hP := kinOk_parts h
  have hW := hP.w
  have h8 : countTo (grAt gs) i + (grAt gs i).length ≤ kinCount gs := countTo_mono (grAt gs) (show i + 1 ≤ gs.length by omega)
  have h88 := hP.2.1
  refine ⟨by omega, fun j hj => ?_⟩
  obtain ⟨q1, q2, q3⟩ := hW.2 i hi j hj
  exact ⟨by omega, ⟨by omega, by omega⟩, fun k hk => by have := q3 k hk; omega⟩
theorem kin_len4 {gs : List (List Ty)} (h : gs = [] ∨ kinOkF gs = true) : gs.length ≤ 4 := by
  rcases h with rfl | h
  · simp
  · exact (kinOk_parts h).1
theorem progB_of {P : GProg} (h : QB P) : ProgB 1048576 P :=
  ⟨h.1.2, by show _ ≤ _; have := h.2.1; omega, by have := h.2.2.1; omega, fun i hi => by
    obtain ⟨q1, q2, q3⟩ := h.2.2.2 i hi
    unfold FieldsB InssB at *
    exact ⟨by show _ ≤ _; omega, by show _ ≤ _; omega, by show _ ≤ _; omega⟩⟩

set_option maxHeartbeats 4000000 in
set_option maxRecDepth 100000 in
theorem drawProgOk_any (a : Option Addr) (cap n : Nat) (w : World) (hc : n ≤ cap) (h : BytesIn w w.heap.size a n) :
    Calls Tryz.prog 17 #[.slice a n cap] w fun e w' => ∃ (P : GProg) (a0 a1 a2 : Option Addr) (c0 c1 c2 : Nat), e = .returned (.agg #[.slice a0 P.types.length c0, .slice a1 P.glob.length c1, .slice a2 P.funs.length c2]) ∧ PS w w' a0 a1 a2 c0 c2 P := by
  go_enter Tryz.func17, Tryz.ntmps17
  go_wp2_with fail
  refine (open_any a cap n _ hc ((h.keep ((Below.refl _ _).alloc (Nat.le_refl _) _)).wider (by simp))).mono ?_
  rintro e w1 ⟨rfl, r1, b1, s1⟩
  have Z1 : Hid (Rec w1 w.heap.size 27 [.slice none 0 0, .slice none 0 0, .slice none 0 0]) := (Rec.new' _ _ _ _ rfl).below b1 (by simp)
  have O1 : Hid (Only (w.heap.size + 1) w w1) := (Only.of_below ((Below.refl _ _).alloc (Nat.le_refl _) _)).trans (Only.of_below b1)
  simp only [World.size_alloc] at r1 s1
  clear b1 h
  go_wp2_with fail
  refine (l3Prog_any (w.heap.size + 1) 0 w1 (by omega) r1).mono ?_
  rintro e w2 ⟨P, a0, a1, a2, c0, c1, c2, rfl, g0, g1, g2, hk, hFew, hc0, hc2, gl3, f1, f3, hsm, ⟨p2, hp2, r2⟩, o2⟩
  have HK := hide hk
  have t4 : P.types.length ≤ 4 := kin_len4 hk
  have hs2 : Hid (Src3 w2 w1.heap.size w2.heap.size a0 a1 a2 P) := ⟨g0, g1, g2, Nat.le_refl _, by omega, by omega, by omega, small_of_kin hk, fun i hi => by obtain ⟨q1, q2, q3, q4⟩ := hsm i hi; omega⟩
  have hqb : Hid (QB P) := ⟨⟨by omega, hFew⟩, by omega, by omega, fun i hi => by obtain ⟨q1, q2, q3, q4⟩ := hsm i hi; exact ⟨by show _ ≤ _; omega, by show _ ≤ _; omega, by show _ ≤ _; omega⟩⟩
  have HSm := hide hsm
  have Z2 := hide (Z1.out.only o2 (by omega))
  have O2 := hide (O1.out.trans o2)
  have so2 := o2.size
  clear g0 g1 g2 hk hFew hsm o2 Z1 O1 r1
  go_wp2_with fail
  refine (l3Spoil_any (w.heap.size + 1) p2 w1.heap.size a0 a1 a2 c0 c1 c2 P w2 (by omega) r2 (by omega) hs2.out so2 f1 hc0 hc2 hqb.out t4 gl3 f3 HSm.out).mono ?_
  rintro e w3 ⟨Q, e0, e1, e2, d0, d1, d2, rfl, g0, g1, g2, hq, hd0, hd2, ⟨p3, hp3, r3⟩, o3⟩
  have Z3 := hide (Z2.out.only o3 (by omega))
  have O3 := hide (O2.out.trans o3)
  have G0 := hide g0
  have G1 := hide g1
  have G2 := hide g2
  have HQ := hide hq
  have z0 := Z3.out.cell (o := 0) rfl
  have z1 := Z3.out.cell (o := 1) rfl
  have z2 := Z3.out.cell (o := 2) rfl
  have zf0 := Z3.out.frozen 0
  have zf1 := Z3.out.frozen 1
  have zf2 := Z3.out.frozen 2
  clear g0 g1 g2 hq o3 Z2 O2 hs2 hqb r2 r3
  go_wp2_with fail
  have sm9 : Same w1.heap.size w3.heap.size w3 (((w3.setCell ⟨w.heap.size, 0, none⟩ (.slice e0 Q.types.length d0)).setCell ⟨w.heap.size, 1, none⟩ (.slice e1 Q.glob.length d1)).setCell ⟨w.heap.size, 2, none⟩ (.slice e2 Q.funs.length d2)) := (((Same.refl _ _ _).set (.inl (by omega)) _ _).set (.inl (by omega)) _ _).set (.inl (by omega)) _ _
  refine bodyPost_ret (v := .agg #[.slice e0 Q.types.length d0, .slice e1 Q.glob.length d1, .slice e2 Q.funs.length d2]) (by simp [results, Tryz.results17, go_sem, *]) rfl ⟨Q, e0, e1, e2, d0, d1, d2, rfl, ⟨⟨G0.out.same sm9 (by omega) (by simp), fun e => (by cases e)⟩, ⟨G1.out.same sm9 (by omega) (by simp), fun e => (by cases e)⟩, G2.out.same sm9 (by omega) (by simp)⟩, progB_of HQ.out, hd0, hd2, ?_⟩
  exact (((O3.out.below (by omega) (Nat.le_refl _)).setCell (show w.heap.size ≤ w.heap.size from Nat.le_refl _) _).setCell (show w.heap.size ≤ w.heap.size from Nat.le_refl _) _).setCell (show w.heap.size ≤ w.heap.size from Nat.le_refl _) _
end Go.Proofs.YtblliefejffhoaaGreatDoor

/- A program that was drawn: what ProgText answers; DrawProgText of the model. -/
namespace Go.Proofs.YtblliefejffhoaaGreatDoor
open Go.ChangeShapes Go.WideShapes Go.ChangeAt Go.RowKit Go.Deep
set_option linter.unusedVariables false

theorem PS.implText {w0 w : World} {a0 a1 a2 : Option Addr} {c0 c1 c2 : Nat} {P : GProg} {s : ByteArray} (h : PS w0 w a0 a1 a2 c0 c2 P) (ht : Tabs w0) (hv : (⟨(progTxt P).toArray⟩ : ByteArray) = s) :
    Calls Tryz.prog 7 #[.agg #[.slice a0 P.types.length c0, .slice a1 P.glob.length c1, .slice a2 P.funs.length c2]] w fun e w' => e = .returned (.string s) ∧ Below w.heap.size w w' ∧ PS w0 w' a0 a1 a2 c0 c2 P := by
  refine (implProgText_any a0 a1 a2 c0 c1 c2 _ _ P w h.pb h.pm h.bel.size (Nat.le_refl _) (ht.keep h.bel)).mono ?_
  rintro e w' ⟨rfl, hb⟩
  exact ⟨by rw [hv], hb, h.keep hb⟩
theorem PS.specText {w0 w : World} {a0 a1 a2 : Option Addr} {c0 c1 c2 : Nat} {P : GProg} {s : ByteArray} (h : PS w0 w a0 a1 a2 c0 c2 P) (hv : (⟨(progTxt P).toArray⟩ : ByteArray) = s) :
    Calls Tryz.prog 8 #[.agg #[.slice a0 P.types.length c0, .slice a1 P.glob.length c1, .slice a2 P.funs.length c2]] w fun e w' => e = .returned (.string s) ∧ Below w.heap.size w w' ∧ PS w0 w' a0 a1 a2 c0 c2 P := by
  refine (specProgText_any a0 a1 a2 c0 c1 c2 _ _ P w h.pb h.pm h.hc h.bel.size (Nat.le_refl _)).mono ?_
  rintro e w' ⟨rfl, hb⟩
  exact ⟨by rw [hv], hb, h.keep hb⟩
theorem PS.wider {w0 w1 w : World} {a0 a1 a2 : Option Addr} {c0 c2 : Nat} {P : GProg} (h : PS w1 w a0 a1 a2 c0 c2 P) (hb : Below w0.heap.size w0 w1) : PS w0 w a0 a1 a2 c0 c2 P :=
  ⟨h.pm.wide hb.size (Nat.le_refl _), h.pb, h.hc, h.hf, hb.trans (h.bel.mono hb.size)⟩

set_option maxHeartbeats 2000000 in
theorem drawProgText_any (a : Option Addr) (cap n : Nat) (w : World) (hc : n ≤ cap) (h : BytesIn w w.heap.size a n) :
    Calls Tryz.prog 6 #[.slice a n cap] w fun e w' => ∃ (P : GProg) (a0 a1 a2 : Option Addr) (c0 c1 c2 : Nat), e = .returned (.agg #[.slice a0 P.types.length c0, .slice a1 P.glob.length c1, .slice a2 P.funs.length c2]) ∧ PS w w' a0 a1 a2 c0 c2 P := by
  go_enter Tryz.func6, Tryz.ntmps6
  go_wp2_with fail
  refine (drawProgOk_any a cap n _ hc ((h.keep ((Below.refl _ _).alloc (Nat.le_refl _) _)).wider (by simp))).mono ?_
  rintro e w1 ⟨P, a0, a1, a2, c0, c1, c2, rfl, hP⟩
  have P1 := hide hP
  have Z1 : Hid (Rec w1 w.heap.size 27 [.slice none 0 0, .slice none 0 0, .slice none 0 0]) := (Rec.new' _ _ _ _ rfl).below hP.bel (by simp)
  have z0 := Z1.out.cell (o := 0) rfl
  have z1 := Z1.out.cell (o := 1) rfl
  have z2 := Z1.out.cell (o := 2) rfl
  have zf0 := Z1.out.frozen 0
  have zf1 := Z1.out.frozen 1
  have zf2 := Z1.out.frozen 2
  clear hP h
  go_wp2_with fail
  have pm := P1.out.pm
  have sz : (w.alloc (.cells #[.slice none 0 0, .slice none 0 0, .slice none 0 0] 27)).heap.size = w.heap.size + 1 := by simp
  have sm9 : Same (w.heap.size + 1) w1.heap.size w1 (((w1.setCell ⟨w.heap.size, 0, none⟩ (.slice a0 P.types.length c0)).setCell ⟨w.heap.size, 1, none⟩ (.slice a1 P.glob.length c1)).setCell ⟨w.heap.size, 2, none⟩ (.slice a2 P.funs.length c2)) := (((Same.refl _ _ _).set (.inl (by omega)) _ _).set (.inl (by omega)) _ _).set (.inl (by omega)) _ _
  rw [sz] at pm
  refine bodyPost_ret (v := .agg #[.slice a0 P.types.length c0, .slice a1 P.glob.length c1, .slice a2 P.funs.length c2]) (by simp [results, Tryz.results6, go_sem, *]) rfl ⟨P, a0, a1, a2, c0, c1, c2, rfl, ⟨pm.1.same sm9 (by omega) (by simp), pm.2.1.same sm9 (by omega) (by simp), pm.2.2.same sm9 (by omega) (by simp)⟩, P1.out.pb, P1.out.hc, P1.out.hf, ?_⟩
  have b1 : Below w.heap.size w w1 := ((Below.refl _ _).alloc (Nat.le_refl _) _).trans (P1.out.bel.mono (by simp))
  exact ((b1.setCell (show w.heap.size ≤ w.heap.size from Nat.le_refl _) _).setCell (show w.heap.size ≤ w.heap.size from Nat.le_refl _) _).setCell (show w.heap.size ≤ w.heap.size from Nat.le_refl _) _
end Go.Proofs.YtblliefejffhoaaGreatDoor
