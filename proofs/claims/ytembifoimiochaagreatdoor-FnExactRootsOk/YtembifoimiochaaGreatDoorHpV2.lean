/- slices.EqualFunc of values and sorts; kinTable.valsFit. -/
import Derived.Test.YtembifoimiochaaGreatDoorHpV1
namespace Go.Proofs.YtembifoimiochaaGreatDoor
open Go.ChangeShapes Go.WideShapes Go.ChangeAt Go.RowKit Go.Deep
set_option linter.unusedVariables false
set_option linter.unusedSimpArgs false

set_option maxHeartbeats 1600000 in
set_option maxRecDepth 100000 in
theorem cloFit_any {md : Bool} (kb tb rc cb co cc lo hi tc lo' hi' : Nat) (ra ta : Option Addr) (gs : List (List Ty)) (xs : List GThing) (v : GVal) (f : Fd) (w : World) (hP : Parts gs) (hT : TabIn w lo hi ra cb co gs) (hh : hi ≤ w.heap.size) (hm : xs.length ≤ 1048576) (hx : ThingsM md w lo' hi' ta xs) (hh' : hi' ≤ w.heap.size)
  (hkb : kb < w.heap.size) (htb : tb < w.heap.size) (k0 : w.cell? ⟨kb, 0, none⟩ = some (.slice ra (kinCount gs) rc)) (k1 : w.cell? ⟨kb, 1, none⟩ = some (.slice (some ⟨cb, co, none⟩) (kinCount gs) cc)) (t0 : w.cell? ⟨tb, 0, none⟩ = some (.slice ta xs.length tc)) :
  Calls Tryz.prog 105 #[.agg #[.int .i64 v.kind, .int .i64 v.n], .agg #[.int .i64 f.kind, .int .i64 f.of, .bool f.mt], .pointer (some ⟨kb, 0, none⟩), .pointer (some ⟨tb, 0, none⟩)] w fun e w' => e = .returned (.bool (fitsV gs xs v.kind v.n f)) ∧ Below w.heap.size w w' := by
 obtain ⟨k, n⟩ := v
 obtain ⟨fk, fo, fm⟩ := f
 have HC := hide (fun W (hb : Below w.heap.size w W) => tabValFits_any ra rc cb co cc lo hi ta tc lo' hi' gs xs k n fk fo fm W hP (hT.keep (hb.mono hh)) (Nat.le_trans hh hb.size) hm (hx.keep (hb.mono hh')) (Nat.le_trans hh' hb.size))
 clear hP hT hx hm hh hh'
 generalize fitsV gs xs k n ⟨fk, fo, fm⟩ = R at HC ⊢
 generalize kinCount gs = nk at *
 generalize xs.length = nx at *
 have B0 := hide (two_below w (.cells #[.int .i64 k, .int .i64 n] 49) (.cells #[.int .i64 fk, .int .i64 fo, .bool fm] 70))
 have e0 := (B0.out.cell (p := ⟨kb, 0, none⟩) hkb).trans k0
 have e1 := (B0.out.cell (p := ⟨kb, 1, none⟩) hkb).trans k1
 have e2 := (B0.out.cell (p := ⟨tb, 0, none⟩) htb).trans t0
 clear k0 k1 t0
 go_enter Tryz.func105, Tryz.ntmps105
 go_wp2_with (first | (go_at_call 57; refine (HC.out _ B0.out).mono ?_; rintro e w2 ⟨rfl, b2⟩; have B2 := hide (B0.out.trans (b2.mono B0.out.size)); clear b2))
 go_ret
 exact ⟨rfl, B2.out⟩

set_option maxHeartbeats 1600000 in
set_option maxRecDepth 100000 in
theorem eqFit_core (a a' : Option Addr) (cap cap' n lo hi lo' hi' kb tb : Nat) (F : Nat → GVal) (G : Nat → Fd) (U : GVal → Fd → Bool) (w : World) (hn : n ≤ 1048576) (hh : hi ≤ w.heap.size) (hh' : hi' ≤ w.heap.size)
    (HC : Hid (∀ W v f, Below w.heap.size w W → Calls Tryz.prog 105 #[.agg #[.int .i64 v.kind, .int .i64 v.n], .agg #[.int .i64 f.kind, .int .i64 f.of, .bool f.mt], .pointer (some ⟨kb, 0, none⟩), .pointer (some ⟨tb, 0, none⟩)] W fun e w' => e = .returned (.bool (U v f)) ∧ Below W.heap.size W w'))
    (hx : n ≤ 0 ∨ ∃ b off b' off', a = some ⟨b, off, none⟩ ∧ a' = some ⟨b', off', none⟩ ∧ (lo ≤ b ∧ b < hi) ∧ (lo' ≤ b' ∧ b' < hi') ∧ (∀ i, i < n → ValAt false w lo hi b (off + i * 2) (F i)) ∧ (∀ i, i < n → FieldAt w b' (off' + i * 3) (G i))) :
    Calls Tryz.prog 104 #[.slice a n cap, .slice a' n cap', .func (.func 105) #[] #[.pointer (some ⟨kb, 0, none⟩), .pointer (some ⟨tb, 0, none⟩)]] w fun e w' => e = .returned (.bool (allTo (fun i => U (F i) (G i)) n)) ∧ Below w.heap.size w w' := by
  rcases hx with h0 | ⟨b, off, b', off', rfl, rfl, t1, t2, h3, h4⟩
  all_goals
    go_enter Tryz.func104, Tryz.ntmps104
    go_wp2_with fail
    go_loopw [17] (fun i wr => ∃ k : Nat, k ≤ n ∧ i = .int .i64 k ∧ allTo (fun i => U (F i) (G i)) k = true ∧ Below w.heap.size w wr) (fun i wr => n - (intOf i).toNat)
    case atStart => exact ⟨0, Nat.zero_le _, rfl, rfl, Below.refl _ _⟩
    case round =>
      obtain ⟨k, hk, rfl, hu, hb⟩ := hrel
      have HU := hide hu
      have HB := hide hb
      have sb := hb.size
      clear hu
      by_cases hlt : k < n
      · first
        | (exfalso; omega)
        | (have g1 : (0 : Int) ≤ (k : Int) := by omega
           have g2 : (k : Int) < (n : Int) := by omega
           have hb1 : b < w.heap.size := by omega
           have hb2 : b' < w.heap.size := by omega
           obtain ⟨c0, c1⟩ := h3 k hlt
           obtain ⟨d0, d1, d2⟩ := h4 k hlt
           have c0 := (hb.cell (p := ⟨b, off + k * 2, none⟩) hb1).trans c0
           have c1 := (hb.cell (p := ⟨b, off + k * 2 + 1, none⟩) hb1).trans c1
           have d0 := (hb.cell (p := ⟨b', off' + k * 3, none⟩) hb2).trans d0
           have d1 := (hb.cell (p := ⟨b', off' + k * 3 + 1, none⟩) hb2).trans d1
           have d2 := (hb.cell (p := ⟨b', off' + k * 3 + 2, none⟩) hb2).trans d2
           have z1 : b < wr.heap.size := by omega
           have z2 : b' < wr.heap.size := by omega
           have z3 : b < wr.heap.size + 1 := by omega
           have z4 : b' < wr.heap.size + 1 := by omega
           have HS1 : Hid (allTo (fun i => U (F i) (G i)) (k + 1) = U (F k) (G k)) := by show _ = _; rw [allTo, HU.out, Bool.true_and]
           have HS2 : Hid (U (F k) (G k) = false → allTo (fun i => U (F i) (G i)) n = false) := fun h => allTo_false hlt h
           clear h3 h4 hb
           generalize F k = f at c0 c1 HS1 HS2
           generalize G k = g at d0 d1 d2 HS1 HS2
           have HCC := hide (fun W (hb : Below w.heap.size w W) => HC.out W f g hb)
           obtain ⟨fk, fo⟩ := f
           obtain ⟨gk, go, gm⟩ := g
           simp only at c0 c1 d0 d1 d2 HCC
           cases hv : U ⟨fk, fo⟩ ⟨gk, go, gm⟩
           · rw [hv] at HS1 HCC
             have HF := hide (HS2.out hv)
             clear HS1 HS2 hv
             go_wp2_with fail
             refine (HCC.out _ ((HB.out.alloc sb _).alloc (by simp; omega) _)).mono ?_
             rintro e v ⟨rfl, hb1⟩
             have HD := hide (((HB.out.alloc sb _).alloc (by simp; omega) _).trans (hb1.mono (by simp; omega)))
             clear hb1
             go_wp2_with fail
             go_ret
             exact ⟨ret_bool HF.out.symm, HD.out⟩
           · rw [hv] at HS1 HCC
             have HF := hide HS1.out
             clear HS1 HS2 hv
             go_wp2_with fail
             refine (HCC.out _ ((HB.out.alloc sb _).alloc (by simp; omega) _)).mono ?_
             rintro e v ⟨rfl, hb1⟩
             have HD := hide (((HB.out.alloc sb _).alloc (by simp; omega) _).trans (hb1.mono (by simp; omega)))
             clear hb1
             go_wp2_with fail
             exact ⟨⟨k + 1, by omega, by go_num, HF.out, HD.out⟩, by simp [intOf]; omega⟩)
      · have hkn : Hid (k = n) := Nat.le_antisymm hk (Nat.le_of_not_lt hlt)
        clear hb
        go_wp2_with fail
        go_ret
        exact ⟨ret_bool (hkn.out ▸ HU.out).symm, HB.out⟩
theorem eqFit_any (a a' : Option Addr) (cap cap' lo hi lo' hi' kb tb : Nat) (vs : List GVal) (fs : List Fd) (U : GVal → Fd → Bool) (w : World) (hl : vs.length = fs.length) (hn : fs.length ≤ 1048576) (hh : hi ≤ w.heap.size) (hh' : hi' ≤ w.heap.size)
    (HC : Hid (∀ W v f, Below w.heap.size w W → Calls Tryz.prog 105 #[.agg #[.int .i64 v.kind, .int .i64 v.n], .agg #[.int .i64 f.kind, .int .i64 f.of, .bool f.mt], .pointer (some ⟨kb, 0, none⟩), .pointer (some ⟨tb, 0, none⟩)] W fun e w' => e = .returned (.bool (U v f)) ∧ Below W.heap.size W w'))
    (hx : ValsM false w lo hi a vs) (hy : FieldsIn w lo' hi' a' fs) :
    Calls Tryz.prog 104 #[.slice a vs.length cap, .slice a' fs.length cap', .func (.func 105) #[] #[.pointer (some ⟨kb, 0, none⟩), .pointer (some ⟨tb, 0, none⟩)]] w fun e w' => e = .returned (.bool (allTo (fun i => U (valAt' vs i) (fdAt fs i)) fs.length)) ∧ Below w.heap.size w w' := by
 rw [hl]
 refine eqFit_core a a' cap cap' fs.length lo hi lo' hi' kb tb (valAt' vs) (fdAt fs) U w hn hh hh' HC ?_
 rcases hx with rfl | ⟨b, off, rfl, h1, h2, _, h3⟩
 · exact .inl (by rw [← hl]; exact Nat.le_refl _)
 · rcases hy with rfl | ⟨b', off', rfl, h1', h2', h3'⟩
   · exact .inl (Nat.le_refl _)
   · exact .inr ⟨b, off, b', off', rfl, rfl, ⟨h1, h2⟩, ⟨h1', h2'⟩, fun i hi => h3 i (by omega), h3'⟩

set_option maxHeartbeats 1600000 in
set_option maxRecDepth 100000 in
theorem tabValsFit_any {md : Bool} (rc cb co cc lo hi tc lo' hi' : Nat) (ra ta : Option Addr) (gs : List (List Ty)) (xs : List GThing) (a a' : Option Addr) (cap cap' l1 h1 l2 h2 : Nat) (vs : List GVal) (fs : List Fd) (w : World) (hP : Parts gs) (hT : TabIn w lo hi ra cb co gs) (hh : hi ≤ w.heap.size) (hm : xs.length ≤ 1048576) (hx : ThingsM md w lo' hi' ta xs) (hh' : hi' ≤ w.heap.size)
  (hl : vs.length = fs.length) (hn : fs.length ≤ 1048576) (hv : ValsM false w l1 h1 a vs) (hh1 : h1 ≤ w.heap.size) (hf : FieldsIn w l2 h2 a' fs) (hh2 : h2 ≤ w.heap.size) :
  Calls Tryz.prog 79 #[.agg #[.slice ra (kinCount gs) rc, .slice (some ⟨cb, co, none⟩) (kinCount gs) cc], .slice ta xs.length tc, .slice a vs.length cap, .slice a' fs.length cap'] w fun e w' => e = .returned (.bool (allTo (fun i => fitsV gs xs (valAt' vs i).kind (valAt' vs i).n (fdAt fs i)) fs.length)) ∧ Below w.heap.size w w' := by
 have B0 := hide (two_below w (.cells #[.slice ra (kinCount gs) rc, .slice (some ⟨cb, co, none⟩) (kinCount gs) cc] 93) (.cells #[.slice ta xs.length tc] 110))
 have R0 : Rec ((w.alloc (.cells #[.slice ra (kinCount gs) rc, .slice (some ⟨cb, co, none⟩) (kinCount gs) cc] 93)).alloc (.cells #[.slice ta xs.length tc] 110)) w.heap.size 93 [.slice ra (kinCount gs) rc, .slice (some ⟨cb, co, none⟩) (kinCount gs) cc] := (Rec.new _ _ _).alloc _
 have R1 : Rec ((w.alloc (.cells #[.slice ra (kinCount gs) rc, .slice (some ⟨cb, co, none⟩) (kinCount gs) cc] 93)).alloc (.cells #[.slice ta xs.length tc] 110)) (w.heap.size + 1) 110 [.slice ta xs.length tc] := Rec.new' _ _ _ _ (by simp)
 have B := B0.out
 generalize hW : (w.alloc (.cells #[.slice ra (kinCount gs) rc, .slice (some ⟨cb, co, none⟩) (kinCount gs) cc] 93)).alloc (.cells #[.slice ta xs.length tc] 110) = W at *
 have hWs := B.size
 have HC : Hid (∀ X v f, Below W.heap.size W X → Calls Tryz.prog 105 #[.agg #[.int .i64 v.kind, .int .i64 v.n], .agg #[.int .i64 f.kind, .int .i64 f.of, .bool f.mt], .pointer (some ⟨w.heap.size, 0, none⟩), .pointer (some ⟨w.heap.size + 1, 0, none⟩)] X fun e w' => e = .returned (.bool ((fun (v : GVal) (f : Fd) => fitsV gs xs v.kind v.n f) v f)) ∧ Below X.heap.size X w') := fun X v f hX =>
  cloFit_any w.heap.size (w.heap.size + 1) rc cb co cc lo hi tc lo' hi' ra ta gs xs v f X hP (hT.keep ((B.trans (hX.mono hWs)).mono hh)) (Nat.le_trans hh (Nat.le_trans hWs hX.size)) hm (hx.keep ((B.trans (hX.mono hWs)).mono hh')) (Nat.le_trans hh' (Nat.le_trans hWs hX.size)) (Nat.lt_of_lt_of_le R0.lt hX.size) (Nat.lt_of_lt_of_le R1.lt hX.size)
   ((R0.below hX R0.lt).cell (o := 0) rfl) ((R0.below hX R0.lt).cell (o := 1) rfl) ((R1.below hX R1.lt).cell (o := 0) rfl)
 have HE := hide (eqFit_any a a' cap cap' l1 h1 l2 h2 w.heap.size (w.heap.size + 1) vs fs (fun (v : GVal) (f : Fd) => fitsV gs xs v.kind v.n f) W hl hn (Nat.le_trans hh1 hWs) (Nat.le_trans hh2 hWs) HC (hv.keep (B.mono hh1)) (hf.keep (B.mono hh2)))
 clear hP hT hx hm hv hf HC R0 R1 B hWs
 generalize (allTo (fun i => fitsV gs xs (valAt' vs i).kind (valAt' vs i).n (fdAt fs i)) fs.length) = R at HE ⊢
 rw [hl] at HE ⊢
 subst hW
 go_enter Tryz.func79, Tryz.ntmps79
 go_wp2_with (first | (go_at_call 104; refine HE.out.mono ?_; rintro e w2 ⟨rfl, b2⟩; have B2 := hide (B0.out.trans (b2.mono B0.out.size)); clear b2))
 go_ret
 exact ⟨rfl, B2.out⟩
end Go.Proofs.YtembifoimiochaaGreatDoor
