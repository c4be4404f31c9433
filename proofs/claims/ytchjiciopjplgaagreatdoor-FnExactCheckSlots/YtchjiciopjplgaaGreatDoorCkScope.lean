/- checkProgScope, checkFunScope, in and CheckSlots of the program. -/
import Derived.Test.YtchjiciopjplgaaGreatDoorCkRules
import Derived.Test.YtchjiciopjplgaaGreatDoorPaOk
import Derived.Test.YtchjiciopjplgaaGreatDoorConcatF
import Derived.Laws.ResultCell
import Derived.Deep.RegionHeld3
import Derived.Deep.RegionLaw
namespace Go.Proofs.YtchjiciopjplgaaGreatDoor
open Go.ChangeShapes Go.WideShapes Go.ChangeAt Go.RowKit
set_option linter.unusedVariables false
set_option linter.unusedSimpArgs false

def scope0 : List Value := [.slice none 0 0, .slice none 0 0, .slice none 0 0, .slice none 0 0, .slice none 0 0, .nilFunc, .nilFunc, .nilFunc, .nilFunc, .nilFunc, .nilFunc, .nilFunc, .nilFunc, .nilFunc, .nilFunc, .nilFunc, .nilFunc, .nilFunc, .nilFunc, .nilFunc, .nilFunc, .nilFunc, .nilFunc, .nilFunc, .nilFunc, .nilFunc, .nilFunc, .nilFunc, .nilFunc, .nilFunc, .nilFunc, .nilFunc, .nilFunc, .nilFunc, .nilFunc, .nilFunc, .nilFunc, .nilFunc, .nilFunc, .int .i64 0, .slice none 0 0, .int .i64 0, .int .i64 0, .bool false, .slice none 0 0, .slice none 0 0, .slice none 0 0]
theorem scope0_one : scope0.toArray.all (·.oneCell') = true := by simp [scope0, Value.oneCell']
/-- A scope in no function yet. -/
def scope1 (x0 x1 x2 rv cv : Value) : List Value := [x0, x1, x2, rv, cv] ++ ruleVs ++ [.int .i64 0, .slice none 0 0, .int .i64 0, .int .i64 0, .bool false, .slice none 0 0, .slice none 0 0, .slice none 0 0]
theorem scope1_lit (x0 x1 x2 rv cv : Value) : (scope1 x0 x1 x2 rv cv) = [x0, x1, x2, rv, cv, .nilFunc, .func (.func 76) #[] #[], .func (.func 77) #[] #[], .func (.func 78) #[] #[], .func (.func 79) #[] #[], .func (.func 80) #[] #[], .func (.func 81) #[] #[], .func (.func 82) #[] #[], .func (.func 82) #[] #[], .func (.func 82) #[] #[], .func (.func 83) #[] #[], .func (.func 84) #[] #[], .func (.func 85) #[] #[], .func (.func 86) #[] #[], .func (.func 87) #[] #[], .func (.func 88) #[] #[], .func (.func 89) #[] #[], .func (.func 90) #[] #[], .func (.func 91) #[] #[], .func (.func 92) #[] #[], .func (.func 93) #[] #[], .func (.func 94) #[] #[], .func (.func 95) #[] #[], .func (.func 96) #[] #[], .func (.func 97) #[] #[], .func (.func 98) #[] #[], .func (.func 99) #[] #[], .func (.func 100) #[] #[], .func (.func 101) #[] #[], .func (.func 102) #[] #[], .func (.func 103) #[] #[], .func (.func 104) #[] #[], .func (.func 105) #[] #[], .func (.func 106) #[] #[], .int .i64 0, .slice none 0 0, .int .i64 0, .int .i64 0, .bool false, .slice none 0 0, .slice none 0 0, .slice none 0 0] := rfl
theorem checkRules_lit (w : World) :
    Calls Tryz.prog 54 #[] w fun e w' => e = .returned (.agg #[.nilFunc, .func (.func 76) #[] #[], .func (.func 77) #[] #[], .func (.func 78) #[] #[], .func (.func 79) #[] #[], .func (.func 80) #[] #[], .func (.func 81) #[] #[], .func (.func 82) #[] #[], .func (.func 82) #[] #[], .func (.func 82) #[] #[], .func (.func 83) #[] #[], .func (.func 84) #[] #[], .func (.func 85) #[] #[], .func (.func 86) #[] #[], .func (.func 87) #[] #[], .func (.func 88) #[] #[], .func (.func 89) #[] #[], .func (.func 90) #[] #[], .func (.func 91) #[] #[], .func (.func 92) #[] #[], .func (.func 93) #[] #[], .func (.func 94) #[] #[], .func (.func 95) #[] #[], .func (.func 96) #[] #[], .func (.func 97) #[] #[], .func (.func 98) #[] #[], .func (.func 99) #[] #[], .func (.func 100) #[] #[], .func (.func 101) #[] #[], .func (.func 102) #[] #[], .func (.func 103) #[] #[], .func (.func 104) #[] #[], .func (.func 105) #[] #[], .func (.func 106) #[] #[]]) ∧ Below w.heap.size w w' := checkRules_any w

/-- What checkProgScope answers. -/
def ScPost (R : Bool) (x0 x1 x2 : Value) (e : Ending) : Prop := (R = false ∧ e = .returned (.tuple #[.agg scope0.toArray, notOkV])) ∨ (R = true ∧ ∃ ra rn rc ca cn cc, e = .returned (.tuple #[.agg (scope1 x0 x1 x2 (.slice ra rn rc) (.slice ca cn cc)).toArray, .nilIface]))

theorem cell_blk {w w' : World} {b o : Nat} (h : w'.heap[b]? = w.heap[b]?) : w'.cell? ⟨b, o, none⟩ = w.cell? ⟨b, o, none⟩ := World.cell?_of_block (w := w) (a := ⟨b, o, none⟩) h
theorem results_ct {fn : Func} {p u : Tmp} {a : Act} {w : World} {g : Nat} {T ty : TypeId} {vs : List Value} {d : TypeDesc} (h : fn.results = #[.cell p ty, .tmp u]) (hp : a.tmps.getD p undef = .pointer (some ⟨g, 0, none⟩)) (hr : Rec w g T vs)
    (hu : Tryz.prog.underlying ty = some d) (hd : d.isRow = true) (hi : (Tryz.prog.info? ty).map (·.size) = some vs.length) : (results fn a.tmps).run Tryz.prog w = .ok (.tuple #[.agg vs.toArray, a.tmps.getD u undef]) w := by
  have hld := run_loadVar_mid (P := Tryz.prog) w g 0 ty vs d hr.range hu hd hi
  rw [results_cell_tmp h, hp]
  simp [asAddr, Result.andThen, hld]

set_option maxHeartbeats 3200000 in
set_option maxRecDepth 100000 in
theorem checkProgScope_any {md : Bool} (a0 a1 a2 : Option Addr) (c0 c1 c2 lo hi : Nat) (p : GProg) (w : World) (hB : ProgB 1048576 p) (hx : PM md w lo hi a0 a1 a2 p) (hl : lo ≤ hi) (hh : hi ≤ w.heap.size) (hp : pow10 w) :
    Calls Tryz.prog 36 #[.agg #[.slice a0 p.types.length c0, .slice a1 p.glob.length c1, .slice a2 p.funs.length c2]] w fun e w' =>
      ScPost (progOkF p) (.slice a0 p.types.length c0) (.slice a1 p.glob.length c1) (.slice a2 p.funs.length c2) e ∧ Below w.heap.size w w' := by
  have HOk := hide (fun W (hb : Below w.heap.size w W) => implProgOk_any a0 a1 a2 c0 c1 c2 lo hi p W hB (hx.keep (hb.mono hh)) hl (Nat.le_trans hh hb.size) (pow10_keep hp hb))
  have HK := hide (fun W (hb : Below w.heap.size w W) => kinTableOf_any a0 c0 lo hi p.types W hB.1 hl (Nat.le_trans hh hb.size) (hx.1.1.keep (hb.mono hh)) (pow10_keep hp hb))
  have HKK : Hid (progOkF p = true → kinOkF p.types = true) := fun h => by
    unfold progOkF at h
    simp only [Bool.and_eq_true] at h
    exact h.1.1
  clear hx hB hp
  generalize progOkF p = R at HOk HKK ⊢
  obtain ⟨gs, gl, fs⟩ := p
  simp only at HOk HK HKK ⊢
  have B0 : Hid (Below w.heap.size w ((w.alloc (.cells #[.slice a0 gs.length c0, .slice a1 gl.length c1, .slice a2 fs.length c2] 33)).alloc (.cells scope0.toArray 61))) := ((Below.refl _ _).alloc (Nat.le_refl _) _).alloc (by simp) _
  have R0 : Hid (Rec ((w.alloc (.cells #[.slice a0 gs.length c0, .slice a1 gl.length c1, .slice a2 fs.length c2] 33)).alloc (.cells scope0.toArray 61)) w.heap.size 33 [.slice a0 gs.length c0, .slice a1 gl.length c1, .slice a2 fs.length c2]) := (Rec.new _ _ _).alloc _
  have G0 : Hid (Rec ((w.alloc (.cells #[.slice a0 gs.length c0, .slice a1 gl.length c1, .slice a2 fs.length c2] 33)).alloc (.cells scope0.toArray 61)) (w.heap.size + 1) 61 scope0) := Rec.new' _ _ _ _ (by simp)
  go_enter Tryz.func36, Tryz.ntmps36
  go_wp2_with fail
  refine (HOk.out _ B0.out).mono ?_
  rintro e w1 ⟨rfl, b1⟩
  have B1 := hide (B0.out.trans (b1.mono B0.out.size))
  have R1 := hide (R0.out.below b1 R0.out.lt)
  have G1 := hide (G0.out.below b1 G0.out.lt)
  clear b1 R0 B0 G0 HOk
  cases R with
  | false =>
    go_wp2_with (first | (go_at_call 37; refine (checkNotOk_any w1).mono ?_; rintro e w' ⟨rfl, rfl⟩) | (refine wpList_store_rec rfl 61 _ _ rfl (w.heap.size + 1) scope0.toArray 61 scope0 rfl rfl G1.out (by kernel_rfl) (by rfl) scope0_one ?_))
    intro w2 r2 k2 s2 b2
    have G2 := hide r2
    have B2 := hide (B1.out.trans (b2.mono (Nat.le_succ _)))
    clear r2 k2 s2 b2
    go_wp2_with fail
    exact bodyPost_ret (results_ct rfl rfl G2.out Tryz.underlying61 rfl (by kernel_rfl)) rfl ⟨.inl ⟨rfl, rfl⟩, B2.out⟩
  | true =>
    have hk := HKK.out rfl
    have p0 := R1.out.cell (o := 0) rfl
    go_wp2_with fail
    refine (HK.out _ B1.out).mono ?_
    rintro e w2 ⟨hT, b2⟩
    rcases hT with ⟨hf, _⟩ | ⟨_, _, ra, rc, cb, rfl, _⟩
    · rw [hk] at hf; cases hf
    have B2 := hide (B1.out.trans (b2.mono B1.out.size))
    have R2 := hide (R1.out.below b2 R1.out.lt)
    have G2 := hide (G1.out.below b2 G1.out.lt)
    clear b2 hk HKK HK R1 G1 B1 p0
    generalize kinCount gs = n
    have BA := hide (B2.out.alloc B2.out.size (.cells #[.slice ra n rc, .slice (some ⟨cb, 0, none⟩) n n] 56))
    have RA := hide (R2.out.alloc (.cells #[.slice ra n rc, .slice (some ⟨cb, 0, none⟩) n n] 56))
    have GA := hide (G2.out.alloc (.cells #[.slice ra n rc, .slice (some ⟨cb, 0, none⟩) n n] 56))
    have KA : Hid (Rec (w2.alloc (.cells #[.slice ra n rc, .slice (some ⟨cb, 0, none⟩) n n] 56)) w2.heap.size 56 [.slice ra n rc, .slice (some ⟨cb, 0, none⟩) n n]) := Rec.new _ _ _
    have hg1 := G2.out.lt
    have pa0 := RA.out.cell (o := 0) rfl
    have pa1 := RA.out.cell (o := 1) rfl
    have pa2 := RA.out.cell (o := 2) rfl
    go_wp2_with fail
    refine wp_region_noPanic ?_
    refine wp_region_held_drew (S := fun w' => Rec w' w.heap.size 33 [.slice a0 gs.length c0, .slice a1 gl.length c1, .slice a2 fs.length c2] ∧ Rec w' w2.heap.size 56 [.slice ra n rc, .slice (some ⟨cb, 0, none⟩) n n]) (by kernel_rfl) ⟨RA.out, KA.out⟩ (fun hHeld => ?_)
    refine wpAnyH_take (i := 0) (oi := _) (v := .agg #[.slice a0 gs.length c0, .slice a1 gl.length c1, .slice a2 fs.length c2]) rfl (by kernel_rfl) (by kernel_rfl) (by kernel_rfl) (fun _ _ _ h => h) (yieldsIf_load_mid (by rfl) 33 _ rfl w.heap.size 0 rfl [.slice a0 gs.length c0, .slice a1 gl.length c1, .slice a2 fs.length c2] _ (fun w hS => hS.1.range) Tryz.underlying33 rfl (by kernel_rfl)) hHeld ?_
    try simp only [Act.put, List.setIfInBounds_toArray, List.set_cons_zero, List.set_cons_succ]
    refine wpAnyH_take (i := 1) (oi := _) (v := .agg #[.slice ra n rc, .slice (some ⟨cb, 0, none⟩) n n]) rfl (by kernel_rfl) (by kernel_rfl) (by kernel_rfl) (fun _ _ _ h => h) (yieldsIf_load_mid (by rfl) 56 _ rfl w2.heap.size 0 rfl [.slice ra n rc, .slice (some ⟨cb, 0, none⟩) n n] _ (fun w hS => hS.2.range) Tryz.underlying56 rfl (by kernel_rfl)) hHeld ?_
    try simp only [Act.put, List.setIfInBounds_toArray, List.set_cons_zero, List.set_cons_succ]
    refine wpAnyH_ready (rs := [2]) (by kernel_rfl) (by simp) ?_
    refine AllReadyH.cons (o := _) rfl (fun K hK => ?_) AllReadyH.nil
    go_simp
    refine (checkRules_lit _).mono ?_
    rintro e w3 ⟨rfl, b3⟩
    have B3 := hide (BA.out.drew.trans (b3.mono BA.out.size))
    have R3 : Hid (Rec w3 w.heap.size 33 [.slice a0 gs.length c0, .slice a1 gl.length c1, .slice a2 fs.length c2]) := Rec.below (w := (w2.alloc (.cells #[.slice ra n rc, .slice (some ⟨cb, 0, none⟩) n n] 56)).drew) RA.out b3 RA.out.lt
    have G3 : Hid (Rec w3 (w.heap.size + 1) 61 scope0) := Rec.below (w := (w2.alloc (.cells #[.slice ra n rc, .slice (some ⟨cb, 0, none⟩) n n] 56)).drew) GA.out b3 GA.out.lt
    have K3 : Hid (Rec w3 w2.heap.size 56 [.slice ra n rc, .slice (some ⟨cb, 0, none⟩) n n]) := Rec.below (w := (w2.alloc (.cells #[.slice ra n rc, .slice (some ⟨cb, 0, none⟩) n n] 56)).drew) KA.out b3 KA.out.lt
    clear b3
    go_wp2_with fail
    refine hK.out _ _ ⟨R3.out, K3.out⟩ (fun hHeld2 => ?_)
    clear hK K hHeld
    try simp only [Act.put, List.setIfInBounds_toArray, List.set_cons_zero, List.set_cons_succ]
    refine wpAnyH_take (i := 3) (oi := _) (v := .agg #[.slice a0 gs.length c0, .slice a1 gl.length c1, .slice a2 fs.length c2, .slice ra n rc, .slice (some ⟨cb, 0, none⟩) n n, .nilFunc, .func (.func 76) #[] #[], .func (.func 77) #[] #[], .func (.func 78) #[] #[], .func (.func 79) #[] #[], .func (.func 80) #[] #[], .func (.func 81) #[] #[], .func (.func 82) #[] #[], .func (.func 82) #[] #[], .func (.func 82) #[] #[], .func (.func 83) #[] #[], .func (.func 84) #[] #[], .func (.func 85) #[] #[], .func (.func 86) #[] #[], .func (.func 87) #[] #[], .func (.func 88) #[] #[], .func (.func 89) #[] #[], .func (.func 90) #[] #[], .func (.func 91) #[] #[], .func (.func 92) #[] #[], .func (.func 93) #[] #[], .func (.func 94) #[] #[], .func (.func 95) #[] #[], .func (.func 96) #[] #[], .func (.func 97) #[] #[], .func (.func 98) #[] #[], .func (.func 99) #[] #[], .func (.func 100) #[] #[], .func (.func 101) #[] #[], .func (.func 102) #[] #[], .func (.func 103) #[] #[], .func (.func 104) #[] #[], .func (.func 105) #[] #[], .func (.func 106) #[] #[], .int .i64 0, .slice none 0 0, .int .i64 0, .int .i64 0, .bool false, .slice none 0 0, .slice none 0 0, .slice none 0 0]) rfl (by kernel_rfl) (by kernel_rfl) (by kernel_rfl) (fun _ _ _ h => h) (Or.inl ⟨by rfl, ?yb⟩) hHeld2 ?_
    case yb =>
      intro W hW
      go_simp
    try simp only [Act.put, List.setIfInBounds_toArray, List.set_cons_zero, List.set_cons_succ]
    refine wpAnyH_ready (rs := [4]) (by kernel_rfl) (by simp) ?_
    refine AllReadyH.cons (o := _) rfl (fun K hK => ?_) AllReadyH.nil
    refine step_store_rec (by rfl) 61 _ _ (by rfl) (w.heap.size + 1) #[.slice a0 gs.length c0, .slice a1 gl.length c1, .slice a2 fs.length c2, .slice ra n rc, .slice (some ⟨cb, 0, none⟩) n n, .nilFunc, .func (.func 76) #[] #[], .func (.func 77) #[] #[], .func (.func 78) #[] #[], .func (.func 79) #[] #[], .func (.func 80) #[] #[], .func (.func 81) #[] #[], .func (.func 82) #[] #[], .func (.func 82) #[] #[], .func (.func 82) #[] #[], .func (.func 83) #[] #[], .func (.func 84) #[] #[], .func (.func 85) #[] #[], .func (.func 86) #[] #[], .func (.func 87) #[] #[], .func (.func 88) #[] #[], .func (.func 89) #[] #[], .func (.func 90) #[] #[], .func (.func 91) #[] #[], .func (.func 92) #[] #[], .func (.func 93) #[] #[], .func (.func 94) #[] #[], .func (.func 95) #[] #[], .func (.func 96) #[] #[], .func (.func 97) #[] #[], .func (.func 98) #[] #[], .func (.func 99) #[] #[], .func (.func 100) #[] #[], .func (.func 101) #[] #[], .func (.func 102) #[] #[], .func (.func 103) #[] #[], .func (.func 104) #[] #[], .func (.func 105) #[] #[], .func (.func 106) #[] #[], .int .i64 0, .slice none 0 0, .int .i64 0, .int .i64 0, .bool false, .slice none 0 0, .slice none 0 0, .slice none 0 0] 61 scope0 (by rfl) (by rfl) G3.out (by kernel_rfl) (by rfl) (by simp [Value.oneCell']) ?_
    intro w4 r4 k4 s4 b4
    refine hK.out _ _ ⟨(k4 _ (by omega)).trans R3.out, (k4 _ (by omega)).trans K3.out⟩ (fun hHeld3 => ?_)
    clear hK K hHeld2
    try simp only [Act.put, List.setIfInBounds_toArray, List.set_cons_zero, List.set_cons_succ]
    refine wpAnyH_take (i := 5) (oi := _) (v := .nilIface) rfl (by kernel_rfl) (by kernel_rfl) (by kernel_rfl) (fun _ _ _ h => h) (Or.inl ⟨by rfl, ?yc⟩) hHeld3 ?_
    case yc =>
      intro W hW
      go_simp
    try simp only [Act.put, List.setIfInBounds_toArray, List.set_cons_zero, List.set_cons_succ]
    refine wpAnyH_done (by kernel_rfl) ?_ _
    refine NoPanic.normal ?_
    have G4 := hide r4
    have B4 := hide (B3.out.trans (b4.mono (Nat.le_succ _)))
    clear r4 k4 s4 b4
    go_wp2_with fail
    exact bodyPost_ret (results_ct rfl rfl G4.out Tryz.underlying61 rfl (by kernel_rfl)) rfl ⟨.inr ⟨rfl, ra, n, rc, some ⟨cb, 0, none⟩, n, n, rfl⟩, B4.out⟩
end Go.Proofs.YtchjiciopjplgaaGreatDoor
