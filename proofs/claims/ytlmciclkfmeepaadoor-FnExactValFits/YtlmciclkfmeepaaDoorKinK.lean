/- fits and fitsAbove of the program's table. -/
import Derived.Test.YtlmciclkfmeepaaDoorKinJ
namespace Go.Proofs.YtlmciclkfmeepaaDoor
open Go.ChangeShapes Go.WideShapes Go.ChangeAt Go.RowKit
set_option linter.unusedVariables false

def fitsU (gs : List (List Ty)) (f g : Fd) : Bool := if f.mt = g.mt then fieldUnderF gs f g && (!f.mt || fieldUnderF gs g f) else false

set_option maxHeartbeats 1600000 in
theorem tabFits_any (ra : Option Addr) (rc cb co cc lo hi : Nat) (gs : List (List Ty)) (f g : Fd) (w : World) (hP : Parts gs) (hT : TabIn w lo hi ra cb co gs) (hh : hi ≤ w.heap.size) :
    Calls Tryd.prog 65 #[.agg #[.slice ra (kinCount gs) rc, .slice (some ⟨cb, co, none⟩) (kinCount gs) cc], .agg #[.int .i64 f.kind, .int .i64 f.of, .bool f.mt], .agg #[.int .i64 g.kind, .int .i64 g.of, .bool g.mt]] w
      fun e w' => e = .returned (.bool (fitsU gs f g)) ∧ Below w.heap.size w w' := by
  have HF : Hid (fitsU gs f g = if f.mt = g.mt then fieldUnderF gs f g && (!f.mt || fieldUnderF gs g f) else false) := rfl
  have HC := hide (fun w2 (h : Below w.heap.size w w2) => fieldUnder_any ra rc cb co cc lo hi gs f g w2 hP (hT.keep (h.mono hh)) (Nat.le_trans hh h.size))
  have HD := hide (fun w2 (h : Below w.heap.size w w2) => fieldUnder_any ra rc cb co cc lo hi gs g f w2 hP (hT.keep (h.mono hh)) (Nat.le_trans hh h.size))
  generalize fitsU gs f g = R at *
  generalize fieldUnderF gs f g = s1 at *
  generalize fieldUnderF gs g f = s2 at *
  obtain ⟨fk, fo, fm⟩ := f
  obtain ⟨gk, go, gm⟩ := g
  simp only at HF HC HD ⊢
  have b0 := three_new w (.cells #[.slice ra (kinCount gs) rc, .slice (some ⟨cb, co, none⟩) (kinCount gs) cc] 62) (.cells #[.int .i64 fk, .int .i64 fo, .bool fm] 37) (.cells #[.int .i64 gk, .int .i64 go, .bool gm] 37)
  have rt : Rec (((w.alloc (.cells #[.slice ra (kinCount gs) rc, .slice (some ⟨cb, co, none⟩) (kinCount gs) cc] 62)).alloc (.cells #[.int .i64 fk, .int .i64 fo, .bool fm] 37)).alloc (.cells #[.int .i64 gk, .int .i64 go, .bool gm] 37)) w.heap.size 62 [.slice ra (kinCount gs) rc, .slice (some ⟨cb, co, none⟩) (kinCount gs) cc] := ((Rec.new _ _ _).alloc _).alloc _
  have rf : Rec (((w.alloc (.cells #[.slice ra (kinCount gs) rc, .slice (some ⟨cb, co, none⟩) (kinCount gs) cc] 62)).alloc (.cells #[.int .i64 fk, .int .i64 fo, .bool fm] 37)).alloc (.cells #[.int .i64 gk, .int .i64 go, .bool gm] 37)) (w.heap.size + 1) 37 [.int .i64 fk, .int .i64 fo, .bool fm] := (Rec.new' _ _ _ _ (by simp)).alloc _
  have rg : Rec (((w.alloc (.cells #[.slice ra (kinCount gs) rc, .slice (some ⟨cb, co, none⟩) (kinCount gs) cc] 62)).alloc (.cells #[.int .i64 fk, .int .i64 fo, .bool fm] 37)).alloc (.cells #[.int .i64 gk, .int .i64 go, .bool gm] 37)) (w.heap.size + 1 + 1) 37 [.int .i64 gk, .int .i64 go, .bool gm] := Rec.new' _ _ _ _ (by simp)
  have B0 := hide b0
  have RT := hide rt
  have RF := hide rf
  have RG := hide rg
  clear b0 rt rf rg hT hP
  cases fm <;> cases gm
  case false.true | true.false =>
    have HZ : Hid (R = false) := by rw [HF.out]; rfl
    go_enter Tryd.func65, Tryd.ntmps65
    go_wp2_with fail
    go_ret
    exact ⟨ret_bool HZ.out.symm, B0.out⟩
  case false.false =>
    have HZ : Hid (R = s1) := by rw [HF.out]; simp [Hid]
    go_enter Tryd.func65, Tryd.ntmps65
    go_wp2_with fail
    refine (HC.out _ B0.out).mono ?_
    rintro e w1 ⟨rfl, hb1⟩
    have F1 := hide (RF.out.below hb1 RF.out.lt)
    have B1 := hide (B0.out.trans (hb1.mono B0.out.size))
    have c2 := F1.out.cell (o := 2) rfl
    clear hb1 B0 RT RF RG
    cases s1
    all_goals
      go_wp2_with fail
      go_ret
      exact ⟨ret_bool HZ.out.symm, B1.out⟩
  case true.true =>
    have HZ : Hid (R = (s1 && s2)) := by rw [HF.out]; simp [Hid]
    go_enter Tryd.func65, Tryd.ntmps65
    go_wp2_with fail
    refine (HC.out _ B0.out).mono ?_
    rintro e w1 ⟨rfl, hb1⟩
    have T1 := hide (RT.out.below hb1 RT.out.lt)
    have F1 := hide (RF.out.below hb1 RF.out.lt)
    have G1 := hide (RG.out.below hb1 RG.out.lt)
    have B1 := hide (B0.out.trans (hb1.mono B0.out.size))
    have c0 := F1.out.cell (o := 0) rfl
    have c1 := F1.out.cell (o := 1) rfl
    have c2 := F1.out.cell (o := 2) rfl
    have d0 := G1.out.cell (o := 0) rfl
    have d1 := G1.out.cell (o := 1) rfl
    have d2 := G1.out.cell (o := 2) rfl
    have t0 := T1.out.cell (o := 0) rfl
    have t1 := T1.out.cell (o := 1) rfl
    clear hb1 B0 RT RF RG
    cases s1
    · go_wp2_with fail
      go_ret
      exact ⟨ret_bool (by rw [HZ.out]; rfl), B1.out⟩
    · go_wp2_with fail
      refine (HD.out _ B1.out).mono ?_
      rintro e w2 ⟨rfl, hb2⟩
      have B2 := hide (B1.out.trans (hb2.mono B1.out.size))
      clear hb2
      go_wp2_with fail
      go_ret
      exact ⟨ret_bool (by rw [HZ.out]; simp), B2.out⟩

/-- What fitsAbove looks at, up to k fields of the one above. -/
def aboveF (gs : List (List Ty)) (a k : Nat) : Bool := allTo (fun i => fitsU gs (fdAt (tyN gs a).fields i) (fdAt (tyN gs (tyN gs a).up.toNat).fields i)) k
def fitsAboveF (gs : List (List Ty)) (a : Nat) : Bool := decide ((tyN gs a).up < 0) || aboveF gs a (tyN gs (tyN gs a).up.toNat).fields.length

set_option maxHeartbeats 3200000 in
set_option maxRecDepth 100000 in
theorem fitsAbove_any (ra : Option Addr) (rc cb co cc lo hi : Nat) (gs : List (List Ty)) (a : Nat) (w : World) (hP : Parts gs) (hT : TabIn w lo hi ra cb co gs) (hh : hi ≤ w.heap.size) (ha : a < kinCount gs)
    (hup : 0 ≤ (tyN gs a).up → (tyN gs (tyN gs a).up.toNat).fields.length ≤ (tyN gs a).fields.length) :
    Calls Tryd.prog 48 #[.agg #[.slice ra (kinCount gs) rc, .slice (some ⟨cb, co, none⟩) (kinCount gs) cc], .int .i64 (a : Int)] w
      fun e w' => e = .returned (.bool (fitsAboveF gs a)) ∧ Below w.heap.size w w' := by
  have m8 := hP.2.1
  have HC := hide (fun f g w2 (h : Below w.heap.size w w2) => tabFits_any ra rc cb co cc lo hi gs f g w2 hP (hT.keep (h.mono hh)) (Nat.le_trans hh h.size))
  obtain ⟨p1, ⟨p2, p3⟩, _⟩ := parts_flat hP ha
  obtain ⟨hR, _, _⟩ := hT
  rcases hR with h0 | ⟨rb, ro, rfl, r1, r2, r3⟩
  · have := rows_len gs
    rw [h0] at this
    simp at this
    omega
  have hty : ∀ i, i < kinCount gs → TypeAt w lo hi rb (ro + i * 6) (tyN gs i) := fun i hi => by
    have h := (r3 i (by rw [rows_len]; exact hi)).1
    rw [rows_ty gs hi] at h
    exact h
  have HTy := hide hty
  obtain ⟨c0, c1, c2, fa, fc, c3, c4⟩ := hty a ha
  have C4 := hide c4
  have rb5 : rb < w.heap.size := Nat.lt_of_lt_of_le r2 hh
  have i1 : (0 : Int) ≤ (a : Int) := by omega
  have i2 : (a : Int) < (kinCount gs : Int) := by omega
  have HP := hide hP
  have HUp := hide hup
  clear hty r3 c4 hP hup
  by_cases hneg : (tyN gs a).up < 0
  · have HZ : Hid (fitsAboveF gs a = true) := by show _ = _; simp [fitsAboveF, hneg]
    go_enter Tryd.func48, Tryd.ntmps48
    go_wp2_with fail
    go_ret
    exact ⟨ret_bool HZ.out.symm, ((Below.refl _ _).alloc (Nat.le_refl _) _).alloc (by simp) _⟩
  obtain ⟨m, hm⟩ := Int.eq_ofNat_of_zero_le (show 0 ≤ (tyN gs a).up by omega)
  have hmk : m < kinCount gs := by omega
  have hle := HUp.out (by omega)
  have HZ : Hid (fitsAboveF gs a = allTo (fun i => fitsU gs (fdAt (tyN gs a).fields i) (fdAt (tyN gs m).fields i)) (tyN gs m).fields.length) := by
    show _ = _
    unfold fitsAboveF aboveF
    rw [hm]
    have : decide ((m : Int) < 0) = false := by simp
    rw [this]
    simp
  rw [hm] at hle
  simp only [Int.toNat_natCast] at hle
  obtain ⟨q1, _, _⟩ := parts_flat HP.out hmk
  obtain ⟨d0, d1, d2, ga, gc, d3, d4⟩ := HTy.out m hmk
  have D4 := hide d4
  have m1 : (0 : Int) ≤ (m : Int) := by omega
  have m2 : (m : Int) < (kinCount gs : Int) := by omega
  rw [hm] at c1
  clear HUp HTy d4 hneg p2 p3 hm
  generalize fitsAboveF gs a = R at *
  generalize tyN gs a = s at *
  generalize tyN gs m = t at *
  obtain ⟨sk, su, sl, ss⟩ := s
  obtain ⟨tk, tu, tl, ts⟩ := t
  simp only at c0 c1 c2 c3 C4 d0 d1 d2 d3 D4 p1 q1 hle HZ
  have rt : Rec ((w.alloc (.cells #[.slice (some ⟨rb, ro, none⟩) (kinCount gs) rc, .slice (some ⟨cb, co, none⟩) (kinCount gs) cc] 62)).alloc (.cells #[.int .i64 sk, .int .i64 (m : Int), .bool sl, .slice fa ss.length fc] 80)) w.heap.size 62 [.slice (some ⟨rb, ro, none⟩) (kinCount gs) rc, .slice (some ⟨cb, co, none⟩) (kinCount gs) cc] := (Rec.new _ _ _).alloc _
  have rl : Rec ((w.alloc (.cells #[.slice (some ⟨rb, ro, none⟩) (kinCount gs) rc, .slice (some ⟨cb, co, none⟩) (kinCount gs) cc] 62)).alloc (.cells #[.int .i64 sk, .int .i64 (m : Int), .bool sl, .slice fa ss.length fc] 80)) (w.heap.size + 1) 80 [.int .i64 sk, .int .i64 (m : Int), .bool sl, .slice fa ss.length fc] := Rec.new' _ _ _ _ (by simp)
  have b0 : Below w.heap.size w ((w.alloc (.cells #[.slice (some ⟨rb, ro, none⟩) (kinCount gs) rc, .slice (some ⟨cb, co, none⟩) (kinCount gs) cc] 62)).alloc (.cells #[.int .i64 sk, .int .i64 (m : Int), .bool sl, .slice fa ss.length fc] 80)) := ((Below.refl _ _).alloc (Nat.le_refl _) _).alloc (by simp) _
  have RT := hide rt
  have RL := hide rl
  have B0 := hide b0
  clear rt rl b0
  go_enter Tryd.func48, Tryd.ntmps48
  go_wp2_with fail
  go_loopw [26] (fun i wr => ∃ j : Nat, j ≤ ts.length ∧ i = .int .i64 j ∧ allTo (fun i => fitsU gs (fdAt ss i) (fdAt ts i)) j = true ∧ Below w.heap.size w wr ∧ Rec wr w.heap.size 62 [.slice (some ⟨rb, ro, none⟩) (kinCount gs) rc, .slice (some ⟨cb, co, none⟩) (kinCount gs) cc] ∧ Rec wr (w.heap.size + 1) 80 [.int .i64 sk, .int .i64 (m : Int), .bool sl, .slice fa ss.length fc]) (fun i wr => ts.length - (intOf i).toNat)
  case atStart => exact ⟨0, Nat.zero_le _, rfl, rfl, B0.out, RT.out, RL.out⟩
  case round =>
    clear RT RL B0 c0 c1 c2 c3 d0 d1 d2 d3
    obtain ⟨j, hj, rfl, hA, hb, hrt, hrl⟩ := hrel
    have HA := hide hA
    have HB := hide hb
    have HRT := hide hrt
    have HRL := hide hrl
    have s1 := hb.size
    have s2 := hrl.lt
    clear hA hb hrt hrl
    by_cases hjn : j < ts.length
    · rcases D4.out with hnil | ⟨b3, off3, rfl, u1, u2, u3⟩
      · rw [hnil] at hjn; exact absurd hjn (Nat.not_lt_zero _)
      rcases C4.out with hnil | ⟨b2, off2, rfl, t1, t2, t3⟩
      · exfalso
        have h9 : ss.length = 0 := by rw [hnil]; rfl
        omega
      obtain ⟨x0, x1, x2⟩ := (t3 j (by omega)).same (lo := lo) (hi := hi) (.of_below HB.out hh) t1 t2
      obtain ⟨y0, y1, y2⟩ := (u3 j hjn).same (lo := lo) (hi := hi) (.of_below HB.out hh) u1 u2
      have HA2 : Hid (fitsU gs (fdAt ss j) (fdAt ts j) = false → R = false) := fun h => by rw [HZ.out]; exact allTo_false hjn h
      have HA1 : Hid (fitsU gs (fdAt ss j) (fdAt ts j) = true → allTo (fun i => fitsU gs (fdAt ss i) (fdAt ts i)) (j + 1) = true) := fun h => by
        show (allTo _ j && fitsU gs (fdAt ss j) (fdAt ts j)) = true
        rw [HA.out, h]; rfl
      have HCj := hide (fun w2 (h : Below w.heap.size w w2) => HC.out (fdAt ss j) (fdAt ts j) w2 h)
      generalize fitsU gs (fdAt ss j) (fdAt ts j) = v at HA1 HA2 HCj
      generalize fdAt ss j = f at x0 x1 x2 HCj
      generalize fdAt ts j = g at y0 y1 y2 HCj
      obtain ⟨fk, fo, fm⟩ := f
      obtain ⟨gk, go, gm⟩ := g
      simp only at x0 x1 x2 y0 y1 y2 HCj
      have b4 : b2 < wr.heap.size := by omega
      have j1 : (0 : Int) ≤ (j : Int) := by omega
      have j2 : (j : Int) < (ts.length : Int) := by omega
      have j3 : (j : Int) < (ss.length : Int) := by omega
      have rt1 := HRT.out.alloc (.cells #[.int .i64 gk, .int .i64 go, .bool gm] 37)
      have rl1 := HRL.out.alloc (.cells #[.int .i64 gk, .int .i64 go, .bool gm] 37)
      have rg1 := Rec.new wr 37 [.int .i64 gk, .int .i64 go, .bool gm]
      have bb1 : Below w.heap.size w (wr.alloc (.cells #[.int .i64 gk, .int .i64 go, .bool gm] 37)) := HB.out.alloc s1 _
      have RT1 := hide rt1
      have RL1 := hide rl1
      have BB1 := hide bb1
      have k0 := rt1.cell (o := 0) rfl
      have k1 := rt1.cell (o := 1) rfl
      have k3 := rl1.cell (o := 3) rfl
      have l0 := rg1.cell (o := 0) rfl
      have l1 := rg1.cell (o := 1) rfl
      have l2 := rg1.cell (o := 2) rfl
      have z0 : (wr.alloc (.cells #[.int .i64 gk, .int .i64 go, .bool gm] 37)).cell? ⟨b2, off2 + j * 3, none⟩ = some (.int .i64 fk) := by
        rw [((Below.refl wr.heap.size wr).alloc (Nat.le_refl _) _).cell (by exact b4)]; exact x0
      have z1 : (wr.alloc (.cells #[.int .i64 gk, .int .i64 go, .bool gm] 37)).cell? ⟨b2, off2 + j * 3 + 1, none⟩ = some (.int .i64 fo) := by
        rw [((Below.refl wr.heap.size wr).alloc (Nat.le_refl _) _).cell (by exact b4)]; exact x1
      have z2 : (wr.alloc (.cells #[.int .i64 gk, .int .i64 go, .bool gm] 37)).cell? ⟨b2, off2 + j * 3 + 2, none⟩ = some (.bool fm) := by
        rw [((Below.refl wr.heap.size wr).alloc (Nat.le_refl _) _).cell (by exact b4)]; exact x2
      clear t3 u3 rt1 rl1 rg1 bb1 x0 x1 x2
      go_wp2_with fail
      go_region_held3 (fun w' => (w'.cell? ⟨w.heap.size, 0, none⟩ = some (.slice (some ⟨rb, ro, none⟩) (kinCount gs) rc) ∧ w'.cell? ⟨w.heap.size, 1, none⟩ = some (.slice (some ⟨cb, co, none⟩) (kinCount gs) cc) ∧ w'.cell? ⟨w.heap.size + 1, 3, none⟩ = some (.slice (some ⟨b2, off2, none⟩) ss.length fc)) ∧ (w'.cell? ⟨b2, off2 + j * 3, none⟩ = some (.int .i64 fk) ∧ w'.cell? ⟨b2, off2 + j * 3 + 1, none⟩ = some (.int .i64 fo) ∧ w'.cell? ⟨b2, off2 + j * 3 + 2, none⟩ = some (.bool fm)) ∧ (w'.cell? ⟨wr.heap.size, 0, none⟩ = some (.int .i64 gk) ∧ w'.cell? ⟨wr.heap.size, 1, none⟩ = some (.int .i64 go) ∧ w'.cell? ⟨wr.heap.size, 2, none⟩ = some (.bool gm)))
        (go_keep)
        ((go_at_call 65; refine (HCj.out _ BB1.out.drew).mono ?_; rintro e w2 ⟨rfl, hb2⟩; have qq : ∀ q o v, (wr.alloc (.cells #[.int .i64 gk, .int .i64 go, .bool gm] 37)).cell? ⟨q, o, none⟩ = some v → w2.cell? ⟨q, o, none⟩ = some v := fun q o v hv => (hb2.cell (p := ⟨q, o, none⟩) (cell_lt hv)).trans hv; have e0 := qq _ _ _ k0; have e1 := qq _ _ _ k1; have e3 := qq _ _ _ k3; have f0 := qq _ _ _ z0; have f1 := qq _ _ _ z1; have f2 := qq _ _ _ z2; have g0 := qq _ _ _ l0; have g1 := qq _ _ _ l1; have g2 := qq _ _ _ l2; clear qq))
      have B2 := hide (BB1.out.drew.trans (hb2.mono BB1.out.size))
      have T2 : Hid (Rec w2 w.heap.size 62 [.slice (some ⟨rb, ro, none⟩) (kinCount gs) rc, .slice (some ⟨cb, co, none⟩) (kinCount gs) cc]) := Rec.below (w := (wr.alloc (.cells #[.int .i64 gk, .int .i64 go, .bool gm] 37)).drew) RT1.out hb2 RT1.out.lt
      have L2 : Hid (Rec w2 (w.heap.size + 1) 80 [.int .i64 sk, .int .i64 (m : Int), .bool sl, .slice (some ⟨b2, off2, none⟩) ss.length fc]) := Rec.below (w := (wr.alloc (.cells #[.int .i64 gk, .int .i64 go, .bool gm] 37)).drew) RL1.out hb2 RL1.out.lt
      clear hb2 e0 e1 e3 f0 f1 f2 g0 g1 g2
      cases v with
      | true =>
        go_wp2_with fail
        exact ⟨⟨j + 1, by omega, by go_num, HA1.out (by first | rfl | trivial), B2.out, T2.out, L2.out⟩, by simp [intOf]; omega⟩
      | false =>
        go_wp2_with fail
        go_ret
        exact ⟨ret_bool (HA2.out (by first | rfl | trivial)).symm, B2.out⟩
    · have hje : Hid (j = ts.length) := Nat.le_antisymm hj (Nat.le_of_not_lt hjn)
      go_wp2_with fail
      go_ret
      exact ⟨ret_bool (by rw [HZ.out, ← hje.out, HA.out]), HB.out⟩
end Go.Proofs.YtlmciclkfmeepaaDoor
