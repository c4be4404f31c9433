/- under of the program's table: what it answers. -/
import Derived.Test.YtlmciclkfmeepaaDoorKinH
namespace Go.Proofs.YtlmciclkfmeepaaDoor
open Go.ChangeShapes Go.WideShapes Go.ChangeAt Go.RowKit
set_option linter.unusedVariables false

/-- The table of right groups lies in memory. -/
def TabIn (w : World) (lo hi : Nat) (ra : Option Addr) (cb co : Nat) (gs : List (List Ty)) : Prop :=
  RowsIn w lo hi ra (rowsOf gs) ∧ cb < hi ∧ ∀ i, i < kinCount gs → w.cell? ⟨cb, co + i, none⟩ = some (.int .i64 (canon gs i : Nat))
theorem TabIn.keep {w w' : World} {lo hi : Nat} {ra : Option Addr} {cb co : Nat} {gs : List (List Ty)} (h : TabIn w lo hi ra cb co gs) (hb : Below hi w w') : TabIn w' lo hi ra cb co gs :=
  ⟨h.1.keep hb, h.2.1, fun i hi => by rw [hb.cell (p := ⟨cb, co + i, none⟩) h.2.1]; exact h.2.2 i hi⟩
theorem TabIn.wide {w : World} {lo hi lo' hi' : Nat} {ra : Option Addr} {cb co : Nat} {gs : List (List Ty)} (h : TabIn w lo hi ra cb co gs) (h1 : lo' ≤ lo) (h2 : hi ≤ hi') : TabIn w lo' hi' ra cb co gs :=
  ⟨h.1.same (fun _ _ _ => rfl) h1 h2, Nat.lt_of_lt_of_le h.2.1 h2, h.2.2⟩

theorem rows_ty (gs : List (List Ty)) {p : Nat} (hp : p < kinCount gs) : (krAt (rowsOf gs) p).t = tyN gs p := by
  obtain ⟨g1, g2, g3⟩ := grp_spec gs p hp
  have hi : p - beg gs (grp gs p) < (grAt gs (grp gs p)).length := by unfold beg; simp only [countTo] at g3; omega
  have h := rows_at (gs := gs) g1 hi
  have e : beg gs (grp gs p) + (p - beg gs (grp gs p)) = p := by unfold beg; omega
  rw [e] at h
  rw [h]
  unfold tyN
  rw [flat_at hp]

theorem rows_len (gs : List (List Ty)) : (rowsOf gs).length = kinCount gs := rowsOf_length gs

theorem upL_succ (U : Nat → Int) (n f m : Nat) (hm : m < n) : upL U n (f + 1) (m : Int) = ⟨m, hm⟩ :: upL U n f (U m) := by
  show (if h : 0 ≤ (m : Int) ∧ (m : Int).toNat < n then _ else _) = _
  rw [dif_pos ⟨by omega, by simpa using hm⟩]
  simp
theorem upSame_any {gs : List (List Ty)} (hP : Parts gs) {q : Nat} (hq : q < kinCount gs) : ∀ (f f' : Nat) (c : Int), -1 ≤ c → c < (kinCount gs : Int) → c < (f : Int) → c < (f' : Int) →
    upSame gs q f c = (upL (fun i => (tyN gs i).up) (kinCount gs) f' c).any fun x => canon gs x.val == canon gs q := by
  intro f
  induction f with
  | zero =>
    intro f' c h1 h2 h3 h4
    have : c = -1 := by omega
    subst this
    cases f' with
    | zero => rfl
    | succ f' => unfold upL; rw [dif_neg (by omega)]; rfl
  | succ f ih =>
    intro f' c h1 h2 h3 h4
    by_cases hc : c < 0
    · cases f' with
      | zero => simp [upSame, hc, upL]
      | succ f' => unfold upL; rw [dif_neg (by omega)]; simp [upSame, hc]
    · obtain ⟨m, rfl⟩ := Int.eq_ofNat_of_zero_le (show 0 ≤ c by omega)
      cases f' with
      | zero => omega
      | succ f' =>
        have hm : m < kinCount gs := by omega
        obtain ⟨_, ⟨u1, u2⟩, _⟩ := parts_flat hP hm
        have e1 : upSame gs q (f + 1) (m : Int) = (same gs m q || upSame gs q f (tyN gs m).up) := by simp [upSame, hc]
        rw [e1, ih f' _ u1 (by omega) (by omega) (by omega), same_canon hP hm hq]
        rw [upL_succ _ _ _ _ hm, List.any_cons]
        congr 1

set_option maxHeartbeats 800000 in
theorem under_any (ra : Option Addr) (rc cb co cc lo hi : Nat) (gs : List (List Ty)) (a b : Int) (w : World) (hP : Parts gs) (hT : TabIn w lo hi ra cb co gs) (hh : hi ≤ w.heap.size)
    (a0 : -2 ≤ a) (a1 : a < (kinCount gs : Int)) (b0 : -2 ≤ b) (b1 : b < (kinCount gs : Int)) :
    Calls Tryd.prog 50 #[.agg #[.slice ra (kinCount gs) rc, .slice (some ⟨cb, co, none⟩) (kinCount gs) cc], .int .i64 a, .int .i64 b] w fun e w' => e = .returned (.bool (under gs a b)) ∧ Below w.heap.size w w' := by
  have m8 := hP.2.1
  have B0 : ∀ o0 o1 o2, Below w.heap.size w (((w.alloc o0).alloc o1).alloc o2) := fun o0 o1 o2 => by
    refine (((Below.refl _ _).alloc (Nat.le_refl _) _).alloc ?_ _).alloc ?_ _ <;> simp <;> omega
  have HB0 := hide B0
  clear B0
  by_cases e1 : b = -1
  · subst e1
    have HF : Hid (under gs a (-1) = true) := by show _ = _; simp [under]
    clear hT hP
    by_cases e2 : a = -1
    · subst e2
      go_enter Tryd.func50, Tryd.ntmps50
      go_wp2_with fail
      refine bodyPost_ret (v := .bool true) (by simp [results, Tryd.results50, go_sem]) rfl ⟨ret_bool HF.out.symm, HB0.out _ _ _⟩
    · have n1 : (a == -1) = false := beq_eq_false_iff_ne.2 e2
      go_enter Tryd.func50, Tryd.ntmps50
      go_wp2_with fail
      refine bodyPost_ret (v := .bool true) (by simp [results, Tryd.results50, go_sem]) rfl ⟨ret_bool HF.out.symm, HB0.out _ _ _⟩
  by_cases e2 : a = b
  · subst e2
    have HF : Hid (under gs a a = true) := by show _ = _; simp [under]
    have n1 : (a == a) = true := by simp
    clear hT hP
    go_enter Tryd.func50, Tryd.ntmps50
    go_wp2_with fail
    refine bodyPost_ret (v := .bool true) (by simp [results, Tryd.results50, go_sem]) rfl ⟨ret_bool HF.out.symm, HB0.out _ _ _⟩
  have n1 : (b == -1) = false := beq_eq_false_iff_ne.2 e1
  have n2 : (a == b) = false := beq_eq_false_iff_ne.2 e2
  by_cases e3 : a < 0
  · have HF : Hid (under gs a b = false) := by show _ = _; simp [under, e1, e2, e3]
    clear hT hP
    go_enter Tryd.func50, Tryd.ntmps50
    go_wp2_with fail
    refine bodyPost_ret (v := .bool false) (by simp [results, Tryd.results50, go_sem]) rfl ⟨ret_bool HF.out.symm, HB0.out _ _ _⟩
  by_cases e4 : b < 0
  · have HF : Hid (under gs a b = false) := by show _ = _; simp [under, e1, e2, e4]
    clear hT hP
    go_enter Tryd.func50, Tryd.ntmps50
    go_wp2_with fail
    refine bodyPost_ret (v := .bool false) (by simp [results, Tryd.results50, go_sem]) rfl ⟨ret_bool HF.out.symm, HB0.out _ _ _⟩
  obtain ⟨p, rfl⟩ := Int.eq_ofNat_of_zero_le (show 0 ≤ a by omega)
  obtain ⟨q, rfl⟩ := Int.eq_ofNat_of_zero_le (show 0 ≤ b by omega)
  have hp : p < kinCount gs := by omega
  have hq : q < kinCount gs := by omega
  have hu : under gs (p : Int) (q : Int) = upSame gs q (p + 1) p := by
    unfold under
    rw [if_neg (by omega), if_neg (by omega)]
    simp
  rw [hu, upSame_any hP hq (p + 1) (kinCount gs + 1) p (by omega) (by omega) (by omega) (by omega)]
  obtain ⟨hR, hcb, hC⟩ := hT
  rcases hR with h0 | ⟨rb, ro, rfl, r1, r2, r3⟩
  · have := rows_len gs
    rw [h0] at this
    simp at this
    omega
  refine (callsIn_wide (n := 3)).1 ?_
  refine under_walk _ 3 trivial trivial trivial rfl (Nat.le_refl _) rb ro (kinCount gs) rc cb co cc (fun i => (tyN gs i).up) (canon gs) p q w m8 hp hq (by omega) (fun i hi => (parts_flat hP hi).2.1) ⟨by omega, fun i hi => ?_⟩ (by omega) hC
  have h := (r3 i (by rw [rows_len]; exact hi)).1.2.1
  rw [rows_ty gs hi] at h
  exact h
end Go.Proofs.YtlmciclkfmeepaaDoor
