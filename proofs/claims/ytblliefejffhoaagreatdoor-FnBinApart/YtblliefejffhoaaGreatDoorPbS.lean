/- PbS: ProgS, ProgS2. -/
import Derived.Test.YtblliefejffhoaaGreatDoorDrawSpoil
import Derived.Test.YtblliefejffhoaaGreatDoorPbKin
import Derived.Test.YtblliefejffhoaaGreatDoorPbOk
import Derived.Test.YtblliefejffhoaaGreatDoorPbTxtI
import Derived.Test.YtblliefejffhoaaGreatDoorPbTxtS
/- A program that was drawn: what is known of it; what ProgOk answers; DrawProgOk of the model. -/
namespace Go.Proofs.YtblliefejffhoaaGreatDoor
open Go.ChangeShapes Go.WideShapes Go.ChangeAt Go.RowKit Go.Deep
set_option linter.unusedVariables false

/-- The program P lies in w, in memory that w0 does not have. -/
structure PS (w0 w : World) (a0 a1 a2 : Option Addr) (c0 c2 : Nat) (P : GProg) : Prop where
  pm : PM false w w0.heap.size w.heap.size a0 a1 a2 P
  pb : ProgB 1048576 P
  hc : P.types.length ≤ c0
  hf : P.funs.length ≤ c2
  bel : Below w0.heap.size w0 w
theorem PS.keep {w0 w w' : World} {a0 a1 a2 : Option Addr} {c0 c2 : Nat} {P : GProg} (h : PS w0 w a0 a1 a2 c0 c2 P) (hb : Below w.heap.size w w') : PS w0 w' a0 a1 a2 c0 c2 P :=
  ⟨(h.pm.keep hb).wide (Nat.le_refl _) hb.size, h.pb, h.hc, h.hf, h.bel.trans (hb.mono h.bel.size)⟩
theorem PS.alloc {w0 w : World} {a0 a1 a2 : Option Addr} {c0 c2 : Nat} {P : GProg} (h : PS w0 w a0 a1 a2 c0 c2 P) (o : Obj) : PS w0 (w.alloc o) a0 a1 a2 c0 c2 P := h.keep ((Below.refl _ _).alloc (Nat.le_refl _) o)
theorem PS.implOk {w0 w : World} {a0 a1 a2 : Option Addr} {c0 c1 c2 : Nat} {P : GProg} {c : Bool} (h : PS w0 w a0 a1 a2 c0 c2 P) (ht : pow10 w0) (hv : progOkF P = c) :
    Calls Tryz.prog 14 #[.agg #[.slice a0 P.types.length c0, .slice a1 P.glob.length c1, .slice a2 P.funs.length c2]] w fun e w' => e = .returned (.bool c) ∧ Below w.heap.size w w' ∧ PS w0 w' a0 a1 a2 c0 c2 P := by
  refine (implProgOk_any a0 a1 a2 c0 c1 c2 _ _ P w h.pb h.pm h.bel.size (Nat.le_refl _) (pow10_keep ht h.bel)).mono ?_
  rintro e w' ⟨rfl, hb⟩
  exact ⟨by rw [hv], hb, h.keep hb⟩
theorem small_of_kin {gs : List (List Ty)} (h : gs = [] ∨ kinOkF gs = true) : ∀ i, i < gs.length → Small (grAt gs i) := by
  intro i hi
  rcases h with rfl | h
  · exact absurd hi (Nat.not_lt_zero _)
  have hP := kinOk_parts h
  have hW := hP.w
  have h8 : countTo (grAt gs) i + (grAt gs i).length ≤ kinCount gs := countTo_mono (grAt gs) (show i + 1 ≤ gs.length by omega)
  have h88 := hP.2.1
  refine ⟨by omega, fun j hj => ?_⟩
  obtain ⟨q1, q2, q3⟩ := hW.2 i hi j hj
  exact ⟨by omega, ⟨by omega, by omega⟩, fun k hk => by have := q3 k hk; omega⟩
theorem kin_len4 {gs : List (List Ty)} (h : gs = [] ∨ kinOkF gs = true) : gs.length ≤ 4 := by
  rcases h with rfl | h
  · simp
  · exact (kinOk_parts h).1
theorem progB_of {P : GProg} (h : QB P) : ProgB 1048576 P :=
  ⟨h.1.2, by show _ ≤ _; have := h.2.1; omega, by have := h.2.2.1; omega, fun i hi => by
    obtain ⟨q1, q2, q3⟩ := h.2.2.2 i hi
    unfold FieldsB InssB at *
    exact ⟨by show _ ≤ _; omega, by show _ ≤ _; omega, by show _ ≤ _; omega⟩⟩

end Go.Proofs.YtblliefejffhoaaGreatDoor

/- A program that was drawn: what ProgText answers; DrawProgText of the model. -/
namespace Go.Proofs.YtblliefejffhoaaGreatDoor
open Go.ChangeShapes Go.WideShapes Go.ChangeAt Go.RowKit Go.Deep
set_option linter.unusedVariables false

theorem PS.implText {w0 w : World} {a0 a1 a2 : Option Addr} {c0 c1 c2 : Nat} {P : GProg} {s : ByteArray} (h : PS w0 w a0 a1 a2 c0 c2 P) (ht : Tabs w0) (hv : (⟨(progTxt P).toArray⟩ : ByteArray) = s) :
    Calls Tryz.prog 7 #[.agg #[.slice a0 P.types.length c0, .slice a1 P.glob.length c1, .slice a2 P.funs.length c2]] w fun e w' => e = .returned (.string s) ∧ Below w.heap.size w w' ∧ PS w0 w' a0 a1 a2 c0 c2 P := by
  refine (implProgText_any a0 a1 a2 c0 c1 c2 _ _ P w h.pb h.pm h.bel.size (Nat.le_refl _) (ht.keep h.bel)).mono ?_
  rintro e w' ⟨rfl, hb⟩
  exact ⟨by rw [hv], hb, h.keep hb⟩
theorem PS.wider {w0 w1 w : World} {a0 a1 a2 : Option Addr} {c0 c2 : Nat} {P : GProg} (h : PS w1 w a0 a1 a2 c0 c2 P) (hb : Below w0.heap.size w0 w1) : PS w0 w a0 a1 a2 c0 c2 P :=
  ⟨h.pm.wide hb.size (Nat.le_refl _), h.pb, h.hc, h.hf, hb.trans (h.bel.mono hb.size)⟩

end Go.Proofs.YtblliefejffhoaaGreatDoor
