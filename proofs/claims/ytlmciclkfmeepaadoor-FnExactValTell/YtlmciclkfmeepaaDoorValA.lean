/- ValFits and ValTell, plainly; the program's side. -/
import Derived.Test.YtlmciclkfmeepaaDoorKinO0
import Derived.Test.YtlmciclkfmeepaaDoorValForm
import Derived.Test.YtlmciclkfmeepaaDoorGenThing
namespace Go.Proofs.YtlmciclkfmeepaaDoor
open Go.ChangeShapes Go.WideShapes Go.ChangeAt Go.RowKit
set_option linter.unusedVariables false

/-- What a chip or a thing is of. -/
def ofV (xs : List GThing) (k n : Int) : Int := if k = 3 then -2 else (thingAt' xs n.toNat).typ
/-- A value is right: a thing has a type that there is. -/
def valOkF (gs : List (List Ty)) (xs : List GThing) (k n : Int) : Bool := valForm k n (xs.length : Nat) && (!(k == 4) || isTypeF gs (thingAt' xs n.toNat).typ)
def fitsV (gs : List (List Ty)) (xs : List GThing) (k n : Int) (f : Fd) : Bool :=
  fieldOk f.kind f.of (kinCount gs : Nat) && (valOkF gs xs k n && (if f.kind = 1 ∨ k = 1 then (f.kind == 1) && (k == 1) else if k = 2 then f.kind == 2 else under gs (ofV xs k n) f.of))
def valFitsF (gs : List (List Ty)) (xs : List GThing) (k n : Int) (f : Fd) : Bool := kinOkF gs && fitsV gs xs k n f
def tellV (gs : List (List Ty)) (xs : List GThing) (k n : Int) : Int := if k = 2 then -1 else if k = 3 then -2 - n else if k = 4 then 9973 + (canon gs (thingAt' xs n.toNat).typ.toNat : Nat) else n
def valTellF (gs : List (List Ty)) (xs : List GThing) (k n : Int) : Int := if kinOkF gs && valOkF gs xs k n then tellV gs xs k n else 0

theorem valForm_thing {n m : Int} (h : valForm 4 n m = true) : 0 ≤ n ∧ n < m := by simpa [valForm] using h
theorem valForm_kinds {k n m : Int} (h : valForm k n m = true) : k = 1 ∨ k = 2 ∨ k = 3 ∨ k = 4 := by
  unfold valForm at h
  split at h
  · rename_i h1; omega
  · split at h
    · omega
    · split at h
      · omega
      · cases h

/-- The type of a thing that is there. -/
theorem thing_typ {md : Bool} {w : World} {lo hi : Nat} {a : Option Addr} {xs : List GThing} {m : Nat} (h : ThingsM md w lo hi a xs) (hm : m < xs.length) : ∃ b off, a = some ⟨b, off, none⟩ ∧ b < hi ∧ w.cell? ⟨b, off + m * 2, none⟩ = some (.int .i64 (thingAt' xs m).typ) := by
  rcases h with rfl | ⟨b, off, e, h1, h2, _, h3⟩
  · exact absurd hm (Nat.not_lt_zero _)
  · obtain ⟨a1, c1, e0, _⟩ := h3 m hm
    exact ⟨b, off, e, h2, e0⟩

theorem two_below (w : World) (o0 o1 : Obj) : Below w.heap.size w ((w.alloc o0).alloc o1) := ((Below.refl _ _).alloc (Nat.le_refl _) _).alloc (by simp) _

set_option maxHeartbeats 1600000 in
theorem valOk_any {md : Bool} (ra ca ta : Option Addr) (rc cc tc lo hi : Nat) (gs : List (List Ty)) (xs : List GThing) (k n : Int) (w : World) (hN : kinCount gs ≤ 1099511627776) (hm : xs.length ≤ 1048576) (hx : ThingsM md w lo hi ta xs) (hh : hi ≤ w.heap.size) :
    Calls Tryd.prog 31 #[.agg #[.slice ra (kinCount gs) rc, .slice ca (kinCount gs) cc], .slice ta xs.length tc, .agg #[.int .i64 k, .int .i64 n]] w fun e w' => e = .returned (.bool (valOkF gs xs k n)) ∧ Below w.heap.size w w' := by
  have b0 := two_below w (.cells #[.slice ra (kinCount gs) rc, .slice ca (kinCount gs) cc] 62) (.cells #[.int .i64 k, .int .i64 n] 35)
  have B0 := hide b0
  clear b0
  by_cases h4 : k = 4
  · subst h4
    by_cases hn : 0 ≤ n ∧ n < (xs.length : Int)
    · obtain ⟨m, rfl⟩ := Int.eq_ofNat_of_zero_le hn.1
      have hml : m < xs.length := by omega
      have HZ : Hid (valOkF gs xs 4 m = isTypeF gs (thingAt' xs m).typ) := by
        show _ = _
        have : valForm 4 (m : Int) (xs.length : Nat) = true := by simp [valForm]; omega
        unfold valOkF; rw [this]; simp
      obtain ⟨b, off, rfl, hb, hc⟩ := thing_typ hx hml
      have m1 : (0 : Int) ≤ (m : Int) := by omega
      have m2 : (m : Int) < (xs.length : Int) := by omega
      have b5 : b < w.heap.size := by omega
      have b6 : b < w.heap.size + 1 := by omega
      clear hx hn
      generalize (thingAt' xs m).typ = ty at hc HZ
      have rt : Rec ((w.alloc (.cells #[.slice ra (kinCount gs) rc, .slice ca (kinCount gs) cc] 62)).alloc (.cells #[.int .i64 4, .int .i64 m] 35)) w.heap.size 62 [.slice ra (kinCount gs) rc, .slice ca (kinCount gs) cc] := (Rec.new _ _ _).alloc _
      have rv : Rec ((w.alloc (.cells #[.slice ra (kinCount gs) rc, .slice ca (kinCount gs) cc] 62)).alloc (.cells #[.int .i64 4, .int .i64 m] 35)) (w.heap.size + 1) 35 [.int .i64 4, .int .i64 m] := Rec.new' _ _ _ _ (by simp)
      generalize hW : (w.alloc (.cells #[.slice ra (kinCount gs) rc, .slice ca (kinCount gs) cc] 62)).alloc (.cells #[.int .i64 4, .int .i64 m] 35) = W at B0 rt rv
      have HW := hide hW
      have x0 := (B0.out.cell (p := ⟨b, off + m * 2, none⟩) b5).trans hc
      have t0 := rt.cell (o := 0) rfl
      have t1 := rt.cell (o := 1) rfl
      have v0 := rv.cell (o := 0) rfl
      have v1 := rv.cell (o := 1) rfl
      clear hW rt rv hc
      go_enter Tryd.func31, Tryd.ntmps31
      go_wp2_with fail
      rw [HW.out]
      first
      | (go_region_held3 (fun w' => (w'.cell? ⟨w.heap.size, 0, none⟩ = some (.slice ra (kinCount gs) rc) ∧ w'.cell? ⟨w.heap.size, 1, none⟩ = some (.slice ca (kinCount gs) cc)) ∧ (w'.cell? ⟨w.heap.size + 1, 0, none⟩ = some (.int .i64 4) ∧ w'.cell? ⟨w.heap.size + 1, 1, none⟩ = some (.int .i64 m)) ∧ w'.cell? ⟨b, off + m * 2, none⟩ = some (.int .i64 ty))
          (go_keep)
          ((go_at_call 55; refine (isType_any ra ca rc cc gs ty _ hN).mono ?_; rintro e w1 ⟨rfl, hb1⟩; have B1 := hide (B0.out.drew.trans (hb1.mono B0.out.size)); have qq : ∀ q o v, W.cell? ⟨q, o, none⟩ = some v → w1.cell? ⟨q, o, none⟩ = some v := fun q o v hv => (hb1.cell (p := ⟨q, o, none⟩) (cell_lt hv)).trans hv; have x0 := qq _ _ _ x0; have t0 := qq _ _ _ t0; have t1 := qq _ _ _ t1; have v0 := qq _ _ _ v0; have v1 := qq _ _ _ v1; clear qq hb1)))
      | fail
      go_wp2_with fail
      go_ret
      exact ⟨ret_bool HZ.out.symm, B1.out⟩
    · have HZ : Hid (valOkF gs xs 4 n = false) := by
        show _ = _
        have : valForm 4 n (xs.length : Nat) = false := by rw [Bool.eq_false_iff]; intro h; exact hn (valForm_thing h)
        unfold valOkF; rw [this]; rfl
      have hc : n < 0 ∨ (0 ≤ n ∧ (xs.length : Int) ≤ n) := by omega
      clear hx hn
      have rt : Rec ((w.alloc (.cells #[.slice ra (kinCount gs) rc, .slice ca (kinCount gs) cc] 62)).alloc (.cells #[.int .i64 4, .int .i64 n] 35)) w.heap.size 62 [.slice ra (kinCount gs) rc, .slice ca (kinCount gs) cc] := (Rec.new _ _ _).alloc _
      have rv : Rec ((w.alloc (.cells #[.slice ra (kinCount gs) rc, .slice ca (kinCount gs) cc] 62)).alloc (.cells #[.int .i64 4, .int .i64 n] 35)) (w.heap.size + 1) 35 [.int .i64 4, .int .i64 n] := Rec.new' _ _ _ _ (by simp)
      generalize hW : (w.alloc (.cells #[.slice ra (kinCount gs) rc, .slice ca (kinCount gs) cc] 62)).alloc (.cells #[.int .i64 4, .int .i64 n] 35) = W at B0 rt rv
      have HW := hide hW
      have t0 := rt.cell (o := 0) rfl
      have t1 := rt.cell (o := 1) rfl
      have v0 := rv.cell (o := 0) rfl
      have v1 := rv.cell (o := 1) rfl
      clear hW rt rv
      rcases hc with h1 | ⟨h1, h2⟩
      · have d1 : decide (0 ≤ n) = false := by simpa using h1
        go_enter Tryd.func31, Tryd.ntmps31
        go_wp2_with fail
        rw [HW.out]
        go_quiet (fail)
        go_wp2_with fail
        go_ret
        exact ⟨ret_bool HZ.out.symm, below_drewN B0.out _⟩
      · have d1 : decide (0 ≤ n) = true := by simpa using h1
        have d2 : decide (n < (xs.length : Int)) = false := by simpa using h2
        go_enter Tryd.func31, Tryd.ntmps31
        go_wp2_with fail
        rw [HW.out]
        go_quiet (fail)
        go_wp2_with fail
        go_ret
        exact ⟨ret_bool HZ.out.symm, below_drewN B0.out _⟩
  · have HZ : Hid (valOkF gs xs k n = valForm k n (xs.length : Nat)) := by
      show _ = _
      have : (k == 4) = false := beq_eq_false_iff_ne.2 h4
      unfold valOkF; rw [this]; simp
    have n4 : (k == 4) = false := beq_eq_false_iff_ne.2 h4
    clear hx
    by_cases h1 : k = 1
    · subst h1
      have HV : Hid (valForm 1 n (xs.length : Nat) = decide (0 ≤ n ∧ n < 9973)) := by show _ = _; simp [valForm]
      go_enter Tryd.func31, Tryd.ntmps31
      go_wp2_with fail
      all_goals go_ret
      all_goals refine ⟨ret_bool ?_, B0.out⟩
      all_goals (rw [HZ.out, HV.out, Bool.eq_iff_iff]; simp_all <;> omega)
    by_cases h3 : k = 3
    · subst h3
      have HV : Hid (valForm 3 n (xs.length : Nat) = decide (0 ≤ n ∧ n < 9973)) := by show _ = _; simp [valForm]
      go_enter Tryd.func31, Tryd.ntmps31
      go_wp2_with fail
      all_goals go_ret
      all_goals refine ⟨ret_bool ?_, B0.out⟩
      all_goals (rw [HZ.out, HV.out, Bool.eq_iff_iff]; simp_all <;> omega)
    by_cases h2 : k = 2
    · subst h2
      have HV : Hid (valForm 2 n (xs.length : Nat) = decide (n = 0)) := by show _ = _; simp [valForm]
      go_enter Tryd.func31, Tryd.ntmps31
      go_wp2_with fail
      go_ret
      exact ⟨ret_bool (by rw [HZ.out, HV.out, Bool.eq_iff_iff]; simp), B0.out⟩
    have n1 : (k == 1) = false := beq_eq_false_iff_ne.2 h1
    have n2 : (k == 2) = false := beq_eq_false_iff_ne.2 h2
    have n3 : (k == 3) = false := beq_eq_false_iff_ne.2 h3
    have HV : Hid (valForm k n (xs.length : Nat) = false) := by show _ = _; simp [valForm, h1, h2, h3, h4]
    go_enter Tryd.func31, Tryd.ntmps31
    go_wp2_with fail
    go_ret
    exact ⟨ret_bool (by rw [HZ.out, HV.out]), B0.out⟩

set_option maxHeartbeats 800000 in
theorem valOf_any {md : Bool} (ta : Option Addr) (tc lo hi : Nat) (xs : List GThing) (k n : Int) (w : World) (hm : xs.length ≤ 1048576) (hx : ThingsM md w lo hi ta xs) (hh : hi ≤ w.heap.size) (hn : k = 3 ∨ (k = 4 ∧ 0 ≤ n ∧ n < (xs.length : Int))) :
    Calls Tryd.prog 33 #[.slice ta xs.length tc, .agg #[.int .i64 k, .int .i64 n]] w fun e w' => e = .returned (.int .i64 (ofV xs k n)) ∧ Below w.heap.size w w' := by
  by_cases h3 : k = 3
  · subst h3
    have HZ : Hid (ofV xs 3 n = -2) := by show _ = _; simp [ofV]
    clear hx hn
    go_enter Tryd.func33, Tryd.ntmps33
    go_wp2_with fail
    go_ret
    exact ⟨ret_int HZ.out.symm, (Below.refl _ _).alloc (Nat.le_refl _) _⟩
  · obtain ⟨rfl, p0, p1⟩ := hn.resolve_left h3
    obtain ⟨m, rfl⟩ := Int.eq_ofNat_of_zero_le p0
    have HZ : Hid (ofV xs 4 m = (thingAt' xs m).typ) := by show _ = _; simp [ofV]
    obtain ⟨b, off, rfl, hb, hc⟩ := thing_typ hx (show m < xs.length by omega)
    have m1 : (0 : Int) ≤ (m : Int) := by omega
    have m2 : (m : Int) < (xs.length : Int) := by omega
    have b5 : b < w.heap.size := by omega
    clear hx hn h3
    generalize (thingAt' xs m).typ = ty at hc HZ
    go_enter Tryd.func33, Tryd.ntmps33
    go_wp2_with fail
    go_ret
    exact ⟨ret_int HZ.out.symm, (Below.refl _ _).alloc (Nat.le_refl _) _⟩

set_option maxHeartbeats 800000 in
theorem valOf_other (ta : Option Addr) (tl tc : Nat) (k n : Int) (w : World) (h3 : k ≠ 3) (h4 : k ≠ 4) :
    Calls Tryd.prog 33 #[.slice ta tl tc, .agg #[.int .i64 k, .int .i64 n]] w fun e w' => e = .returned (.int .i64 (-1)) ∧ Below w.heap.size w w' := by
  have n3 : (k == 3) = false := beq_eq_false_iff_ne.2 h3
  have n4 : (k == 4) = false := beq_eq_false_iff_ne.2 h4
  go_enter Tryd.func33, Tryd.ntmps33
  go_wp2_with fail
  go_ret
  exact ⟨rfl, (Below.refl _ _).alloc (Nat.le_refl _) _⟩
end Go.Proofs.YtlmciclkfmeepaaDoor
