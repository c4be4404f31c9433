/- ValFits of the program. -/
import Derived.Test.YtlmciclkfmeepaaDoorValB
namespace Go.Proofs.YtlmciclkfmeepaaDoor
open Go.ChangeShapes Go.WideShapes Go.ChangeAt Go.RowKit
set_option linter.unusedVariables false

set_option maxHeartbeats 1600000 in
theorem implValFits_any {md : Bool} (ga : Option Addr) (gc lo hi : Nat) (ta : Option Addr) (tc lo' hi' : Nat) (gs : List (List Ty)) (xs : List GThing) (k n fk fo : Int) (fm : Bool) (w : World) (hN : Few gs) (hl : lo ≤ hi) (hh : hi ≤ w.heap.size) (hx : GroupsIn w lo hi ga gs) (hm : xs.length ≤ 1048576) (hy : ThingsM md w lo' hi' ta xs) (hh' : hi' ≤ w.heap.size) (hp : pow10 w) :
    Calls Tryd.prog 12 #[.slice ga gs.length gc, .slice ta xs.length tc, .agg #[.int .i64 k, .int .i64 n], .agg #[.int .i64 fk, .int .i64 fo, .bool fm]] w fun e w' => e = .returned (.bool (valFitsF gs xs k n ⟨fk, fo, fm⟩)) ∧ Below w.heap.size w w' := by
  have b0 := two_below w (.cells #[.int .i64 k, .int .i64 n] 35) (.cells #[.int .i64 fk, .int .i64 fo, .bool fm] 37)
  have rv : Rec ((w.alloc (.cells #[.int .i64 k, .int .i64 n] 35)).alloc (.cells #[.int .i64 fk, .int .i64 fo, .bool fm] 37)) w.heap.size 35 [.int .i64 k, .int .i64 n] := (Rec.new _ _ _).alloc _
  have rf : Rec ((w.alloc (.cells #[.int .i64 k, .int .i64 n] 35)).alloc (.cells #[.int .i64 fk, .int .i64 fo, .bool fm] 37)) (w.heap.size + 1) 37 [.int .i64 fk, .int .i64 fo, .bool fm] := Rec.new' _ _ _ _ (by simp)
  cases hk : kinOkF gs with
  | false =>
    have HC := hide (kinTableOf_no ga gc lo hi gs _ hN hl (Nat.le_trans hh b0.size) (hx.keep (b0.mono hh)) (pow10_keep hp b0) hk)
    have HZ : Hid (valFitsF gs xs k n ⟨fk, fo, fm⟩ = false) := by show _ = _; simp [valFitsF, hk]
    generalize valFitsF gs xs k n ⟨fk, fo, fm⟩ = R at *
    have B0 := hide b0
    clear hN hx hp hk b0 rv rf hy
    go_enter Tryd.func12, Tryd.ntmps12
    go_wp2_with fail
    refine HC.out.mono ?_
    rintro e w1 ⟨rfl, hb1⟩
    have B1 := hide (B0.out.trans (hb1.mono B0.out.size))
    clear hb1
    go_wp2_with fail
    go_ret
    exact ⟨ret_bool HZ.out.symm, B1.out.alloc B1.out.size _⟩
  | true =>
    have HC := hide (kinTableOf_ok ga gc lo hi gs _ hN hl (Nat.le_trans hh b0.size) (hx.keep (b0.mono hh)) (pow10_keep hp b0) hk)
    have HZ : Hid (valFitsF gs xs k n ⟨fk, fo, fm⟩ = fitsV gs xs k n ⟨fk, fo, fm⟩) := by show _ = _; simp [valFitsF, hk]
    have HPt := hide (kinOk_parts hk)
    have HFU := hide (fun ra rc cb lo1 hi1 w1 (hb : Below w.heap.size w w1) (hT : TabIn w1 lo1 hi1 ra cb 0 gs) (h : hi1 ≤ w1.heap.size) => tabValFits_any ra rc cb 0 (kinCount gs) lo1 hi1 ta tc lo' hi' gs xs k n fk fo fm w1 HPt.out hT h hm (hy.keep (hb.mono hh')) (Nat.le_trans hh' hb.size))
    generalize valFitsF gs xs k n ⟨fk, fo, fm⟩ = R at *
    generalize fitsV gs xs k n ⟨fk, fo, fm⟩ = s at *
    have B0 := hide b0
    have RV := hide rv
    have RF := hide rf
    clear hN hx hp hk b0 rv rf hy
    go_enter Tryd.func12, Tryd.ntmps12
    go_wp2_with fail
    refine HC.out.mono ?_
    rintro e w1 ⟨ra, rc, cb, rfl, ht, hb1⟩
    have B1 := hide ((B0.out.trans (hb1.mono B0.out.size)).alloc (by have := B0.out.size; have := hb1.size; omega) (.cells #[.slice ra (kinCount gs) rc, .slice (some ⟨cb, 0, none⟩) (kinCount gs) (kinCount gs)] 62))
    have V1 := hide ((RV.out.below hb1 RV.out.lt).alloc (.cells #[.slice ra (kinCount gs) rc, .slice (some ⟨cb, 0, none⟩) (kinCount gs) (kinCount gs)] 62))
    have F1 := hide ((RF.out.below hb1 RF.out.lt).alloc (.cells #[.slice ra (kinCount gs) rc, .slice (some ⟨cb, 0, none⟩) (kinCount gs) (kinCount gs)] 62))
    have HT := hide (tab_alloc ht (Nat.le_refl _) (.cells #[.slice ra (kinCount gs) rc, .slice (some ⟨cb, 0, none⟩) (kinCount gs) (kinCount gs)] 62))
    have v0 := V1.out.cell (o := 0) rfl
    have v1 := V1.out.cell (o := 1) rfl
    have f0 := F1.out.cell (o := 0) rfl
    have f1 := F1.out.cell (o := 1) rfl
    have f2 := F1.out.cell (o := 2) rfl
    clear hb1 B0 RF RV ht
    go_wp2_with fail
    refine (HFU.out ra rc cb _ _ _ B1.out HT.out (by simp)).mono ?_
    rintro e w2 ⟨rfl, hb2⟩
    have B2 := hide (B1.out.trans (hb2.mono B1.out.size))
    clear hb2
    go_wp2_with fail
    go_ret
    exact ⟨ret_bool HZ.out.symm, B2.out⟩
end Go.Proofs.YtlmciclkfmeepaaDoor
