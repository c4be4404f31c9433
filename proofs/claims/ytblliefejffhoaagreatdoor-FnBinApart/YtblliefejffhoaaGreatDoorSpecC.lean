/- l1Alike of the model: whether two types of two groups are written alike. -/
import Derived.Test.YtblliefejffhoaaGreatDoorSpecB
namespace Go.Proofs.YtblliefejffhoaaGreatDoor
open Go.ChangeShapes Go.WideShapes Go.ChangeAt Go.RowKit
set_option linter.unusedVariables false

def fAlike (S : Nat → Nat → Bool) (gs : List (List Ty)) (f g : Fd) (x y : Nat) : Bool := ((f.kind == g.kind) && (f.mt == g.mt)) && ((f.kind == 1) || matchF S gs f.of g.of x y)
def alikeF (S : Nat → Nat → Bool) (gs : List (List Ty)) (s t : Ty) (x y : Nat) : Bool :=
  (((s.kind == t.kind) && (s.last == t.last)) && (s.fields.length == t.fields.length)) && (matchF S gs s.up t.up x y && allTo (fun i => fAlike S gs (fdAt s.fields i) (fdAt t.fields i) x y) s.fields.length)

/-- So many fields lie at a. -/
def FsAt (w : World) (lo hi : Nat) (a : Option Addr) (n : Nat) (F : Nat → Fd) : Prop :=
  n ≤ 0 ∨ ∃ b off, a = some ⟨b, off, none⟩ ∧ lo ≤ b ∧ b < hi ∧ ∀ i, i < n → FieldAt w b (off + i * 3) (F i)
theorem FieldsIn.fsAt {w : World} {lo hi : Nat} {a : Option Addr} {fs : List Fd} (h : FieldsIn w lo hi a fs) : FsAt w lo hi a fs.length (fdAt fs) := by
  rcases h with rfl | ⟨b, off, h1, h2, h3, h4⟩
  · exact .inl (Nat.le_refl _)
  · exact .inr ⟨b, off, h1, h2, h3, h4⟩

set_option maxHeartbeats 1600000 in
set_option maxRecDepth 100000 in
theorem l1Alike_loop (ga : Option Addr) (gc lo hi : Nat) (gs : List (List Ty)) (S : Nat → Nat → Bool) (k u v : Int) (l : Bool) (fa fb : Option Addr) (fc fd n : Nat) (F H : Nat → Fd) (x y : Nat) (w : World) (hP : PartsW gs) (hN : Few gs) (hc : gs.length ≤ gc) (hh : hi ≤ w.heap.size) (hx : GroupsIn w lo hi ga gs)
    (h1 : x < gs.length) (h2 : y < gs.length) (hn : n ≤ 4) (u0 : -2 ≤ u) (u1 : u ≤ 1000) (v0 : -2 ≤ v) (v1 : v ≤ 1000) (hF : ∀ i, i < n → -2 ≤ (F i).of ∧ (F i).of ≤ 1000) (hH : ∀ i, i < n → -2 ≤ (H i).of ∧ (H i).of ≤ 1000) (ff : FsAt w lo hi fa n F) (fh : FsAt w lo hi fb n H) (ih : SameSaid ga gc lo hi gs S (beg gs x)) :
    Calls Tryz.prog 148 #[.slice ga gs.length gc, .agg #[.int .i64 k, .int .i64 u, .bool l, .slice fa n fc], .agg #[.int .i64 k, .int .i64 v, .bool l, .slice fb n fd], .int .i64 (x : Int), .int .i64 (y : Int)] w
      fun e w' => e = .returned (.bool (matchF S gs u v x y && allTo (fun i => fAlike S gs (F i) (H i) x y) n)) ∧ Below w.heap.size w w' := by
  have HX := hide hx
  have HN := hide hN
  have HP := hide hP
  have HF := hide hF
  have HH := hide hH
  have FF := hide ff
  have FH := hide fh
  have IH := hide ih
  clear hx hN hP hF hH ff fh ih
  have b0 : Below w.heap.size w ((w.alloc (.cells #[.int .i64 k, .int .i64 u, .bool l, .slice fa n fc] 44)).alloc (.cells #[.int .i64 k, .int .i64 v, .bool l, .slice fb n fd] 44)) := ((Below.refl _ _).alloc (Nat.le_refl _) _).alloc (by simp) _
  have B0 := hide b0
  clear b0
  go_enter Tryz.func148, Tryz.ntmps148
  go_wp2_with fail
  refine (l1Match_any ga gc lo hi gs S u v x y _ HP.out HN.out hc (Nat.le_trans hh B0.out.size) (HX.out.keep (B0.out.mono hh)) h1 h2 u0 u1 v0 v1 IH.out).mono ?_
  rintro e w1 ⟨rfl, hb1⟩
  obtain ⟨hc1, hf1⟩ := bcell hb1
  have hs1 := hb1.size
  simp only [World.size_alloc] at hc1 hs1
  have c3 : w1.cell? ⟨w.heap.size, 3, none⟩ = some (.slice fa n fc) := by rw [hc1 _ _ (by omega)]; simp
  have c4 : w1.cell? ⟨w.heap.size + 1, 3, none⟩ = some (.slice fb n fd) := by rw [hc1 _ _ (by omega)]; simp
  have B1 := hide (B0.out.trans (hb1.mono (by simp; omega)))
  clear hc1 hf1 hb1
  cases hm : matchF S gs u v x y with
  | false =>
    have HM := hide hm
    clear hm
    go_wp2_with fail
    go_ret
    exact ⟨ret_bool (by rw [HM.out]; simp), B1.out⟩
  | true =>
    have HM := hide hm
    clear hm
    go_wp2_with fail
    go_loopw [11] (fun i wr => ∃ j : Nat, j ≤ n ∧ i = .int .i64 j ∧ allTo (fun i => fAlike S gs (F i) (H i) x y) j = true ∧ Below w.heap.size w wr ∧ wr.cell? ⟨w.heap.size, 3, none⟩ = some (.slice fa n fc) ∧ wr.cell? ⟨w.heap.size + 1, 3, none⟩ = some (.slice fb n fd)) (fun i wr => n - (intOf i).toNat)
    case atStart => exact ⟨0, Nat.zero_le _, rfl, rfl, B1.out, c3, c4⟩
    case round =>
      clear c3 c4 B1
      obtain ⟨j, hj, rfl, hA, hb, c3, c4⟩ := hrel
      have HA := hide hA
      have HB := hide hb
      have s1 : w.heap.size + 1 < wr.heap.size := cell_lt c4
      clear hA hb
      by_cases hjn : j < n
      · rcases FF.out with h0 | ⟨b, off, rfl, g1, g2, g3⟩
        · omega
        rcases FH.out with h0 | ⟨b', off', rfl, g1', g2', g3'⟩
        · omega
        obtain ⟨d0, d1, d2⟩ := (g3 j hjn).same (lo := lo) (hi := hi) (.of_below HB.out hh) g1 g2
        obtain ⟨e0, e1, e2⟩ := (g3' j hjn).same (lo := lo) (hi := hi) (.of_below HB.out hh) g1' g2'
        have o1 := HF.out j hjn
        have o2 := HH.out j hjn
        have HA1 : Hid (allTo (fun i => fAlike S gs (F i) (H i) x y) (j + 1) = fAlike S gs (F j) (H j) x y) := by
          show (allTo (fun i => fAlike S gs (F i) (H i) x y) j && fAlike S gs (F j) (H j) x y) = _
          rw [HA.out]; simp
        have HA2 : Hid (fAlike S gs (F j) (H j) x y = false → allTo (fun i => fAlike S gs (F i) (H i) x y) n = false) := fun h => allTo_false hjn h
        clear g3 g3'
        generalize F j = f at *
        generalize H j = g at *
        obtain ⟨fk, fo, fm⟩ := f
        obtain ⟨gk, go, gm⟩ := g
        simp only at d0 d1 d2 e0 e1 e2 o1 o2
        by_cases ek : fk = gk
        · subst ek
          have k1 : (0 : Int) ≤ (j : Int) := by omega
          have k2 : (j : Int) < (n : Int) := by omega
          have HW : Hid (fm ≠ gm → fAlike S gs ⟨fk, fo, fm⟩ ⟨fk, go, gm⟩ x y = false) := fun h => by simp [fAlike, h]
          have HV : Hid (fm = gm → fAlike S gs ⟨fk, fo, fm⟩ ⟨fk, go, gm⟩ x y = ((fk == 1) || matchF S gs fo go x y)) := fun h => by simp [fAlike, h]
          cases fm <;> cases gm
          case false.true | true.false =>
            go_wp2_with fail
            go_quiet (fail)
            go_wp2_with fail
            go_ret
            exact ⟨ret_bool (by rw [HA2.out (HW.out (by decide))]; simp), below_drewN HB.out _⟩
          all_goals
            by_cases hk1 : fk = 1
            · subst hk1
              have HA3 := hide (HA1.out.trans (HV.out rfl))
              go_wp2_with fail
              go_quiet (fail)
              go_wp2_with fail
              go_quiet (fail)
              go_wp2_with fail
              exact ⟨⟨j + 1, by omega, by go_num, by rw [HA3.out]; simp, below_drewN HB.out _, c3, c4⟩, by simp [intOf]; omega⟩
            · have hk2 : (fk != 1) = true := by simp [hk1]
              have hk3 : (fk == 1) = false := by simp [hk1]
              have hs2 : hi ≤ wr.heap.size := by omega
              have HA3 : Hid (allTo (fun i => fAlike S gs (F i) (H i) x y) (j + 1) = matchF S gs fo go x y) := by
                show _ = _
                rw [HA1.out, HV.out rfl, hk3]; simp
              have HA4 : Hid (matchF S gs fo go x y = false → allTo (fun i => fAlike S gs (F i) (H i) x y) n = false) := fun h => HA2.out (by rw [HV.out rfl, hk3, h]; rfl)
              obtain ⟨o11, o12⟩ := o1
              obtain ⟨o21, o22⟩ := o2
              go_wp2_with fail
              go_quiet (fail)
              go_wp2_with fail
              go_region_held3 (fun w' => w'.cell? ⟨w.heap.size, 3, none⟩ = some (.slice (some ⟨b, off, none⟩) n fc) ∧ w'.cell? ⟨w.heap.size + 1, 3, none⟩ = some (.slice (some ⟨b', off', none⟩) n fd) ∧ w'.cell? ⟨b, off + j * 3, none⟩ = some (.int .i64 fk) ∧ w'.cell? ⟨b, off + j * 3 + 1, none⟩ = some (.int .i64 fo) ∧ w'.cell? ⟨b', off' + j * 3 + 1, none⟩ = some (.int .i64 go)) (go_keep)
                ((go_at_call 150; refine (l1Match_any ga gc lo hi gs S fo go x y _ HP.out HN.out hc (by exact hs2) (by exact HX.out.keep (below_drewN (HB.out.mono hh) _)) h1 h2 o11 o12 o21 o22 IH.out).mono ?_; rintro e w2 ⟨rfl, hb2⟩; have q1 : ∀ o, w2.cell? ⟨w.heap.size, o, none⟩ = wr.cell? ⟨w.heap.size, o, none⟩ := fun o => hb2.cell (Nat.lt_of_succ_lt s1); have q2 : ∀ o, w2.cell? ⟨w.heap.size + 1, o, none⟩ = wr.cell? ⟨w.heap.size + 1, o, none⟩ := fun o => hb2.cell s1; have q3 : ∀ o, w2.cell? ⟨b, o, none⟩ = wr.cell? ⟨b, o, none⟩ := fun o => hb2.cell (Nat.lt_of_lt_of_le g2 hs2); have q4 : ∀ o, w2.cell? ⟨b', o, none⟩ = wr.cell? ⟨b', o, none⟩ := fun o => hb2.cell (Nat.lt_of_lt_of_le g2' hs2)))
              have C3 := hide ((q1 3).trans c3)
              have C4 := hide ((q2 3).trans c4)
              have HB2 := hide ((below_drewN HB.out nq).trans ((Below.refl _ _).drew.trans (hb2.mono (by exact Nat.le_of_lt (Nat.lt_of_succ_lt s1)))))
              clear q1 q2 q3 q4 hb2
              cases hmm : matchF S gs fo go x y with
              | true =>
                have HMM := hide hmm
                clear hmm
                go_wp2_with fail
                exact ⟨⟨j + 1, by omega, by go_num, by rw [HA3.out]; exact HMM.out, HB2.out, C3.out, C4.out⟩, by simp [intOf]; omega⟩
              | false =>
                have HMM := hide hmm
                clear hmm
                go_wp2_with fail
                go_ret
                exact ⟨ret_bool (by rw [HA4.out HMM.out]; simp), HB2.out⟩
        · have HW : Hid (fAlike S gs ⟨fk, fo, fm⟩ ⟨gk, go, gm⟩ x y = false) := by show _ = _; simp [fAlike, ek]
          have hk2 : (fk != gk) = true := by simp [ek]
          have k1 : (0 : Int) ≤ (j : Int) := by omega
          have k2 : (j : Int) < (n : Int) := by omega
          go_wp2_with fail
          go_quiet (fail)
          go_wp2_with fail
          go_ret
          exact ⟨ret_bool (by rw [HA2.out HW.out]; simp), below_drewN HB.out _⟩
      · have hje : Hid (j = n) := Nat.le_antisymm hj (Nat.le_of_not_lt hjn)
        go_wp2_with fail
        go_ret
        exact ⟨ret_bool (by rw [HM.out, ← hje.out, HA.out]; simp), HB.out⟩

set_option maxHeartbeats 800000 in
set_option maxRecDepth 100000 in
theorem l1Alike_short (ga : Option Addr) (gc : Nat) (gs : List (List Ty)) (sk tk u v : Int) (sl tl : Bool) (fa fb : Option Addr) (fc fd n m : Nat) (x y : Nat) (w : World) (hn : n ≤ 4) (hm : m ≤ 4) (h : sk ≠ tk ∨ (sk = tk ∧ sl ≠ tl) ∨ (sk = tk ∧ sl = tl ∧ n ≠ m)) :
    Calls Tryz.prog 148 #[.slice ga gs.length gc, .agg #[.int .i64 sk, .int .i64 u, .bool sl, .slice fa n fc], .agg #[.int .i64 tk, .int .i64 v, .bool tl, .slice fb m fd], .int .i64 (x : Int), .int .i64 (y : Int)] w
      fun e w' => e = .returned (.bool false) ∧ Below w.heap.size w w' := by
  rcases h with h | ⟨rfl, h⟩ | ⟨rfl, rfl, h⟩
  · have hk2 : (sk != tk) = true := by simp [h]
    go_enter Tryz.func148, Tryz.ntmps148
    go_wp2_with fail
    go_ret
    exact ⟨rfl, ((Below.refl _ _).alloc (Nat.le_refl _) _).alloc (by simp) _⟩
  · cases sl <;> cases tl
    case false.false | true.true => exact absurd rfl h
    all_goals
      go_enter Tryz.func148, Tryz.ntmps148
      go_wp2_with fail
      go_ret
      exact ⟨rfl, ((Below.refl _ _).alloc (Nat.le_refl _) _).alloc (by simp) _⟩
  · have hlt : n < m ∨ m < n := by omega
    clear h
    rcases hlt with h | h
    all_goals
      go_enter Tryz.func148, Tryz.ntmps148
      go_wp2_with fail
      go_ret
      exact ⟨rfl, ((Below.refl _ _).alloc (Nat.le_refl _) _).alloc (by simp) _⟩

theorem l1Alike_any (ga : Option Addr) (gc lo hi : Nat) (gs : List (List Ty)) (S : Nat → Nat → Bool) (s t : Ty) (fa fb : Option Addr) (fc fd x y : Nat) (w : World) (hP : PartsW gs) (hN : Few gs) (hc : gs.length ≤ gc) (hh : hi ≤ w.heap.size) (hx : GroupsIn w lo hi ga gs)
    (h1 : x < gs.length) (h2 : y < gs.length) (ls : s.fields.length ≤ 4) (lt : t.fields.length ≤ 4) (u0 : -2 ≤ s.up ∧ s.up ≤ 1000) (v0 : -2 ≤ t.up ∧ t.up ≤ 1000) (hF : ∀ i, i < s.fields.length → -2 ≤ (fdAt s.fields i).of ∧ (fdAt s.fields i).of ≤ 1000) (hH : ∀ i, i < t.fields.length → -2 ≤ (fdAt t.fields i).of ∧ (fdAt t.fields i).of ≤ 1000)
    (ff : FieldsIn w lo hi fa s.fields) (fh : FieldsIn w lo hi fb t.fields) (ih : SameSaid ga gc lo hi gs S (beg gs x)) :
    Calls Tryz.prog 148 #[.slice ga gs.length gc, .agg #[.int .i64 s.kind, .int .i64 s.up, .bool s.last, .slice fa s.fields.length fc], .agg #[.int .i64 t.kind, .int .i64 t.up, .bool t.last, .slice fb t.fields.length fd], .int .i64 (x : Int), .int .i64 (y : Int)] w
      fun e w' => e = .returned (.bool (alikeF S gs s t x y)) ∧ Below w.heap.size w w' := by
  by_cases e : s.kind = t.kind ∧ s.last = t.last ∧ s.fields.length = t.fields.length
  · obtain ⟨e1, e2, e3⟩ := e
    have hA : alikeF S gs s t x y = (matchF S gs s.up t.up x y && allTo (fun i => fAlike S gs (fdAt s.fields i) (fdAt t.fields i) x y) s.fields.length) := by
      simp [alikeF, e1, e2, e3]
    rw [hA, ← e1, ← e2, ← e3]
    exact l1Alike_loop ga gc lo hi gs S s.kind s.up t.up s.last fa fb fc fd s.fields.length (fdAt s.fields) (fdAt t.fields) x y w hP hN hc hh hx h1 h2 ls u0.1 u0.2 v0.1 v0.2 hF (fun i hi => hH i (by omega)) ff.fsAt (e3 ▸ fh.fsAt) ih
  · have hA : alikeF S gs s t x y = false := by
      by_cases e1 : s.kind = t.kind
      · by_cases e2 : s.last = t.last
        · have e3 : s.fields.length ≠ t.fields.length := fun h => e ⟨e1, e2, h⟩
          simp [alikeF, e3]
        · simp [alikeF, e2]
      · simp [alikeF, e1]
    rw [hA]
    refine l1Alike_short ga gc gs s.kind t.kind s.up t.up s.last t.last fa fb fc fd _ _ x y w ls lt ?_
    by_cases e1 : s.kind = t.kind
    · by_cases e2 : s.last = t.last
      · exact .inr (.inr ⟨e1, e2, fun h => e ⟨e1, e2, h⟩⟩)
      · exact .inr (.inl ⟨e1, e2⟩)
    · exact .inl e1
end Go.Proofs.YtblliefejffhoaaGreatDoor
