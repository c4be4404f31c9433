/- ValFits of the model: groups that are not right. -/
import Derived.Test.YtlmciclkfmeepaaDoorValD
namespace Go.Proofs.YtlmciclkfmeepaaDoor
open Go.ChangeShapes Go.WideShapes Go.ChangeAt Go.RowKit
set_option linter.unusedVariables false

theorem valFitsF_M (gs : List (List Ty)) (xs : List GThing) (k n : Int) (f : Fd) : valFitsF gs xs k n f = (kinOkF gs && (fieldOk f.kind f.of (kinCount gs : Nat) && fitsM gs xs k n f)) := rfl

set_option maxHeartbeats 1600000 in
theorem specValFits_1 {md : Bool} (ga : Option Addr) (gc lo hi : Nat) (ta : Option Addr) (tc lo' hi' : Nat) (gs : List (List Ty)) (xs : List GThing) (k n fk fo : Int) (fm : Bool) (w : World) (hN : Few gs) (hc : gs.length ≤ gc) (hl : lo ≤ hi) (hh : hi ≤ w.heap.size) (hx : GroupsIn w lo hi ga gs) (hm : xs.length ≤ 1048576) (hy : ThingsM md w lo' hi' ta xs) (hh' : hi' ≤ w.heap.size) (hk : kinOkF gs = false) :
    Calls Tryd.prog 7 #[.slice ga gs.length gc, .slice ta xs.length tc, .agg #[.int .i64 k, .int .i64 n], .agg #[.int .i64 fk, .int .i64 fo, .bool fm]] w fun e w' => e = .returned (.bool (valFitsF gs xs k n ⟨fk, fo, fm⟩)) ∧ Below w.heap.size w w' := by
  have HZ : Hid (valFitsF gs xs k n ⟨fk, fo, fm⟩ = (kinOkF gs && (fieldOk fk fo (kinCount gs : Nat) && fitsM gs xs k n ⟨fk, fo, fm⟩))) := rfl
  generalize valFitsF gs xs k n ⟨fk, fo, fm⟩ = R at *
  have b0 := two_below w (.cells #[.int .i64 k, .int .i64 n] 35) (.cells #[.int .i64 fk, .int .i64 fo, .bool fm] 37)
  have rv : Rec ((w.alloc (.cells #[.int .i64 k, .int .i64 n] 35)).alloc (.cells #[.int .i64 fk, .int .i64 fo, .bool fm] 37)) w.heap.size 35 [.int .i64 k, .int .i64 n] := (Rec.new _ _ _).alloc _
  have rf : Rec ((w.alloc (.cells #[.int .i64 k, .int .i64 n] 35)).alloc (.cells #[.int .i64 fk, .int .i64 fo, .bool fm] 37)) (w.heap.size + 1) 37 [.int .i64 fk, .int .i64 fo, .bool fm] := Rec.new' _ _ _ _ (by simp)
  generalize hW : (w.alloc (.cells #[.int .i64 k, .int .i64 n] 35)).alloc (.cells #[.int .i64 fk, .int .i64 fo, .bool fm] 37) = W at b0 rv rf
  have HW := hide hW
  have HCnt := hide (fun w1 (hb : Below w.heap.size w w1) => specKinCount_any ga gc lo hi gs w1 hN (hx.keep (hb.mono hh)))
  have HOk := hide (fun w1 (hb : Below w.heap.size w w1) => specKinOk_any ga gc lo hi gs w1 hN hc hl (Nat.le_trans hh hb.size) (hx.keep (hb.mono hh)))
  have HFt := hide (fun (hP : Parts gs) (hf : fieldOk fk fo (kinCount gs : Nat) = true) w1 (hb : Below w.heap.size w w1) => l5Fits_any ga gc lo hi ta tc lo' hi' gs xs k n fk fo fm w1 hP hN hc hl (Nat.le_trans hh hb.size) (hx.keep (hb.mono hh)) hm (hy.keep (hb.mono hh')) (Nat.le_trans hh' hb.size) hf)
  have HFo := hide (fun w1 => specFieldOk_any fk fo (kinCount gs : Nat) fm w1)
  have HKp := hide (@kinOk_parts gs)
  generalize fitsM gs xs k n ⟨fk, fo, fm⟩ = s at *
  have BB := hide b0
  have RV := hide rv
  have RF := hide rf
  have v0 := rv.cell (o := 0) rfl
  have v1 := rv.cell (o := 1) rfl
  have f0 := rf.cell (o := 0) rfl
  have f1 := rf.cell (o := 1) rfl
  have f2 := rf.cell (o := 2) rfl
  clear b0 rv rf hN hx hy hW
  have HR : Hid (R = false) := by show _ = _; rw [HZ.out, hk]; rfl
  rw [hk] at HOk
  clear HFt HKp HZ
  go_enter Tryd.func7, Tryd.ntmps7
  go_wp2_with fail
  rw [HW.out]
  first
  | (go_region_with ((go_at_call 19; refine (HOk.out _ (by first | exact BB.out.drew | exact BB.out)).mono ?_; rintro e w1 ⟨rfl, hb1⟩; have B1 := hide (BB.out.drew.trans (hb1.mono BB.out.size)); clear hb1)))
  | fail
  all_goals go_wp2_with fail
  all_goals go_ret
  all_goals exact ⟨ret_bool HR.out.symm, B1.out⟩
end Go.Proofs.YtlmciclkfmeepaaDoor
