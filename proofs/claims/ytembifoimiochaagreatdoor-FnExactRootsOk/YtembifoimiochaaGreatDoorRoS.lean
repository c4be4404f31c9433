/- RootsOk of the model. -/
import Derived.Test.YtembifoimiochaaGreatDoorRoM
import Derived.Test.YtembifoimiochaaGreatDoorHeldL
namespace Go.Proofs.YtembifoimiochaaGreatDoor
open Go.ChangeShapes Go.WideShapes Go.ChangeAt Go.RowKit Go.Deep
set_option linter.unusedVariables false
set_option linter.unusedSimpArgs false

theorem l4Num_r (w : World) : Calls Tryz.prog 35 #[] w fun e w' => e = .returned (.agg #[.int .i64 1, .int .i64 0, .bool false]) ∧ Below w.heap.size w w' := by
 go_enter Tryz.func35, Tryz.ntmps35
 go_wp2_with fail
 refine bodyPost_ret (v := .agg #[.int .i64 1, .int .i64 0, .bool false]) (by simp [results, Tryz.results35, go_sem]) rfl ⟨rfl, ?_⟩
 exact (Below.refl _ _).alloc (Nat.le_refl _) _
theorem l4Ref_r (o : Int) (w : World) : Calls Tryz.prog 34 #[.int .i64 o] w fun e w' => e = .returned (.agg #[.int .i64 2, .int .i64 o, .bool false]) ∧ Below w.heap.size w w' := by
 go_enter Tryz.func34, Tryz.ntmps34
 go_wp2_with fail
 refine bodyPost_ret (v := .agg #[.int .i64 2, .int .i64 o, .bool false]) (by simp [results, Tryz.results34, go_sem]) rfl ⟨rfl, ?_⟩
 exact (Below.refl _ _).alloc (Nat.le_refl _) _
theorem vals_at {md : Bool} {w : World} {lo hi : Nat} {a : Option Addr} {xs : List GVal} (h : ValsM md w lo hi a xs) {i : Nat} (hi' : i < xs.length) : ∃ b off, a = some ⟨b, off, none⟩ ∧ lo ≤ b ∧ b < hi ∧ w.cell? ⟨b, off + i * 2, none⟩ = some (.int .i64 (valAt' xs i).kind) ∧ w.cell? ⟨b, off + i * 2 + 1, none⟩ = some (.int .i64 (valAt' xs i).n) := by
 rcases h with h0 | ⟨b, off, e, h1, h2, _, h3⟩
 ·rw [h0] at hi'; exact absurd hi' (Nat.not_lt_zero _)
 ·obtain ⟨e0, e1⟩ := h3 i hi'
  exact ⟨b, off, e, h1, h2, e0, e1⟩

set_option maxHeartbeats 6400000 in
set_option maxRecDepth 20000 in
theorem l8Roots_any (ga ra : Option Addr) (gc rc lo hi lo4 hi4 : Nat) (gs : List (List Ty)) (h : GHeap) (rs : List GVal) (wa la : Option Addr) (wc lc lo2 hi2 : Nat) (w : World) (hP : Parts gs) (hk8 : kinCount gs ≤ 8) (hso : SizeOk h) (hN : Few gs) (hc : gs.length ≤ gc) (hl : lo ≤ hi) (hh : hi ≤ w.heap.size) (hx : GroupsIn w lo hi ga gs) (H : HIn w lo2 hi2 h wa la wc lc) (hr : ValsM true w lo4 hi4 ra rs) (hh4 : hi4 ≤ w.heap.size) (hrl : rs.length ≤ 1048576) :
 Calls Tryz.prog 18 #[.slice ga gs.length gc, heapV h wa la wc lc, .slice ra rs.length rc] w fun e w' => e = .returned (.bool (rootsF gs h rs)) ∧ Below w.heap.size w w' := by
 have HFL := hide (fun (W : World) (hb : Below w.heap.size w W) => l1Flat_any ga gc lo hi gs W hN (hx.keep (hb.mono hh)) (Nat.le_trans hh hb.size) hl)
 have HTH := hide (fun (ta : Option Addr) (tc lot hit : Nat) (W : World) (hb : Below w.heap.size w W) (hxt : TypesIn W lot hit ta (flat gs)) (hht : hit ≤ W.heap.size) => l7Things_any ta wa la tc wc lc lot hit lo2 hi2 gs h W hk8 hxt hht (H.keep (hb.mono H.hh)) hso)
 have HFT := hide (fun (k n fk fo : Int) (fm : Bool) (ho : ¬ fk = 1 → -2 ≤ fo ∧ fo < (kinCount gs : Int)) (sa : Option Addr) (sc lo3 hi3 : Nat) (W : World) (hb : Below w.heap.size w W) (hsx : IntsIn W lo3 hi3 sa (startsF gs h)) (hh3 : hi3 ≤ W.heap.size) => l7Fits_any ga sa wa la gc sc wc lc lo hi lo2 hi2 lo3 hi3 gs h (startsF gs h) k n fk fo fm W hP hN hc hl (Nat.le_trans hh hb.size) (hx.keep (hb.mono hh)) (H.keep (hb.mono H.hh)) hsx hh3 (by have := starts_len (gs := gs) hso; omega) (starts_ok hso) ho)
 have HRV := hide (fun (W : World) (hb : Below w.heap.size w W) => hr.same (lo' := lo4) (hi' := hi4) (fun k _ h2 => hb.block k (Nat.lt_of_lt_of_le h2 hh4)) (Nat.le_refl _) (Nat.le_refl _))
 have B1 := hide (one_b w (.cells #[.slice wa h.words.length wc, .int .i64 h.old, .int .i64 h.oldAt, .int .i64 h.youngAt, .slice la h.log.length lc] 33))
 have P1 := hide (Rec.new w 33 [.slice wa h.words.length wc, .int .i64 h.old, .int .i64 h.oldAt, .int .i64 h.youngAt, .slice la h.log.length lc])
 have HF : Hid (rootsF gs h rs = allTo (fun i => rootF gs h (startsF gs h) (valAt' rs i)) rs.length) := rfl
 rw [HF.out]
 have HRF : Hid (∀ k n, rootF gs h (startsF gs h) ⟨k, n⟩ = hfitF gs h (startsF gs h) k n (rootS k)) := fun k n => rfl
 have HRS : Hid (∀ k, ¬ (rootS k).kind = 1 → -2 ≤ (rootS k).of ∧ (rootS k).of < (kinCount gs : Int)) := fun k => by
  unfold rootS
  split
  ·simp
  ·intro _; simp; omega
 clear hP hN hx H hr HF
 obtain ⟨F, hF⟩ : ∃ F : Nat → Bool, F = fun i => rootF gs h (startsF gs h) (valAt' rs i) := ⟨_, rfl⟩
 have HFj : Hid (∀ j, F j = rootF gs h (startsF gs h) (valAt' rs j)) := fun j => by rw [hF]
 rw [← hF]
 clear hF
 unfold heapV at *
 have p0 := P1.out.cell (o := 0) rfl
 have p1 := P1.out.cell (o := 1) rfl
 have p2 := P1.out.cell (o := 2) rfl
 have p3 := P1.out.cell (o := 3) rfl
 have p4 := P1.out.cell (o := 4) rfl
 obtain ⟨W1, hW1⟩ : ∃ W1, W1 = w.alloc (.cells #[.slice wa h.words.length wc, .int .i64 h.old, .int .i64 h.oldAt, .int .i64 h.youngAt, .slice la h.log.length lc] 33) := ⟨_, rfl⟩
 have B2 : Hid (Below w.heap.size w W1) := by show Below _ _ _; rw [hW1]; exact B1.out
 have P2 : Hid (Rec W1 w.heap.size 33 [.slice wa h.words.length wc, .int .i64 h.old, .int .i64 h.oldAt, .int .i64 h.youngAt, .slice la h.log.length lc]) := by show Rec _ _ _ _; rw [hW1]; exact P1.out
 clear p0 p1 p2 p3 p4 B1 P1
 go_enter Tryz.func18, Tryz.ntmps18
 go_upto_region 1 with (fail)
 rw [← hW1]
 clear hW1
 have p0 := P2.out.cell (o := 0) rfl
 have p1 := P2.out.cell (o := 1) rfl
 have p2 := P2.out.cell (o := 2) rfl
 have p3 := P2.out.cell (o := 3) rfl
 have p4 := P2.out.cell (o := 4) rfl
 refine wp_region_held_drew (S := (fun w' => w'.cell? ⟨w.heap.size, 0, none⟩ = some (.slice wa h.words.length wc) ∧ w'.cell? ⟨w.heap.size, 1, none⟩ = some (.int .i64 h.old) ∧ w'.cell? ⟨w.heap.size, 2, none⟩ = some (.int .i64 h.oldAt) ∧ w'.cell? ⟨w.heap.size, 3, none⟩ = some (.int .i64 h.youngAt) ∧ w'.cell? ⟨w.heap.size, 4, none⟩ = some (.slice la h.log.length lc))) (by kernel_rfl) ?_ (fun hHeld => ?_)
 · (try dsimp only); (first | exact ⟨k0, k1, k2, k3, k4⟩ | exact ⟨p0, p1, p2, p3, p4⟩)
 refine takeL (i := 0) (v := ?v0n1) rfl (by kernel_rfl) (by kernel_rfl) (by kernel_rfl) (fun _ _ _ h => h) (by kernel_rfl) (by assumption) ?y0n1 ?r0n1; case y0n1 => (intro w hSw; (try dsimp only at hSw); go_simp; try with_reducible rfl); (try simp only [Act.put, List.setIfInBounds_toArray, List.set_cons_zero, List.set_cons_succ])
 refine takeL (i := 2) (v := ?v2n2) rfl (by kernel_rfl) (by kernel_rfl) (by kernel_rfl) (fun _ _ _ h => h) (by kernel_rfl) (by assumption) ?y2n2 ?r2n2; case y2n2 => (intro w hSw; (try dsimp only at hSw); go_simp; try with_reducible rfl); (try simp only [Act.put, List.setIfInBounds_toArray, List.set_cons_zero, List.set_cons_succ])
 refine doL (i := 1) rfl (by kernel_rfl) (fun K hK => ?_)
 go_simp
 (go_at_call 30; refine (HFL.out _ B2.out.drew).mono ?_; rintro e w5 ⟨ta, tc, rfl, hty, b5⟩; have B5 := hide (B2.out.drew.trans (b5.mono B2.out.size)); have P5 := hide (Rec.below (w := W1.drew) P2.out b5 P2.out.lt); have T5 := hide hty; clear hty b5; have k0 := P5.out.cell (o := 0) rfl; have k1 := P5.out.cell (o := 1) rfl; have k2 := P5.out.cell (o := 2) rfl; have k3 := P5.out.cell (o := 3) rfl; have k4 := P5.out.cell (o := 4) rfl)
 (try go_wp2_with fail)
 refine hK.out _ _ ?_ (fun hHeld2 => ?_)
 · (try dsimp only); (first | exact ⟨k0, k1, k2, k3, k4⟩ | exact ⟨p0, p1, p2, p3, p4⟩)
 clear hK K hHeld
 have hHeld := hHeld2
 clear hHeld2
 try simp only [Act.put, List.setIfInBounds_toArray, List.set_cons_zero, List.set_cons_succ]
 refine doL (i := 3) rfl (by kernel_rfl) (fun K hK => ?_)
 go_simp
 (go_at_call 31; refine (HTH.out ta tc lo w5.heap.size _ B5.out T5.out (Nat.le_refl _)).mono ?_; rintro e w6 ⟨g, cap, rfl, hr, b6⟩; have B6 := hide (B5.out.trans (b6.mono B5.out.size)); have S6 := hide hr.intsIn; have P6 := hide (P5.out.below b6 P5.out.lt); clear hr b6; clear k0 k1 k2 k3 k4; have k0 := P6.out.cell (o := 0) rfl; have k1 := P6.out.cell (o := 1) rfl; have k2 := P6.out.cell (o := 2) rfl; have k3 := P6.out.cell (o := 3) rfl; have k4 := P6.out.cell (o := 4) rfl)
 (try go_wp2_with fail)
 refine hK.out _ _ ?_ (fun hHeld2 => ?_)
 · (try dsimp only); (first | exact ⟨k0, k1, k2, k3, k4⟩ | exact ⟨p0, p1, p2, p3, p4⟩)
 clear hK K hHeld
 have hHeld := hHeld2
 clear hHeld2
 try simp only [Act.put, List.setIfInBounds_toArray, List.set_cons_zero, List.set_cons_succ]
 refine takeL (i := 4) (v := ?v4n3) rfl (by kernel_rfl) (by kernel_rfl) (by kernel_rfl) (fun _ _ _ h => h) (by kernel_rfl) (by assumption) ?y4n3 ?r4n3; case y4n3 => (intro w hSw; (try dsimp only at hSw); go_simp; try with_reducible rfl); (try simp only [Act.put, List.setIfInBounds_toArray, List.set_cons_zero, List.set_cons_succ])
 refine takeL (i := 5) (v := ?v5n4) rfl (by kernel_rfl) (by kernel_rfl) (by kernel_rfl) (fun _ _ _ h => h) (by kernel_rfl) (by assumption) ?y5n4 ?r5n4; case y5n4 => (intro w hSw; (try dsimp only at hSw); go_simp; try with_reducible rfl); (try simp only [Act.put, List.setIfInBounds_toArray, List.set_cons_zero, List.set_cons_succ])
 refine takeL (i := 6) (v := ?v6n5) rfl (by kernel_rfl) (by kernel_rfl) (by kernel_rfl) (fun _ _ _ h => h) (by kernel_rfl) (by assumption) ?y6n5 ?r6n5; case y6n5 => (intro w hSw; (try dsimp only at hSw); go_simp; try with_reducible rfl); (try simp only [Act.put, List.setIfInBounds_toArray, List.set_cons_zero, List.set_cons_succ])
 refine takeL (i := 7) (v := ?v7n6) rfl (by kernel_rfl) (by kernel_rfl) (by kernel_rfl) (fun _ _ _ h => h) (by kernel_rfl) (by assumption) ?y7n6 ?r7n6; case y7n6 => (intro w hSw; (try dsimp only at hSw); go_simp; try with_reducible rfl); (try simp only [Act.put, List.setIfInBounds_toArray, List.set_cons_zero, List.set_cons_succ])
 refine takeL (i := 8) (v := ?v8n7) rfl (by kernel_rfl) (by kernel_rfl) (by kernel_rfl) (fun _ _ _ h => h) (by kernel_rfl) (by assumption) ?y8n7 ?r8n7; case y8n7 => (intro w hSw; (try dsimp only at hSw); go_simp; try with_reducible rfl); (try simp only [Act.put, List.setIfInBounds_toArray, List.set_cons_zero, List.set_cons_succ])
 refine wpAnyH_done (by kernel_rfl) ?_ _
 clear hHeld p0 p1 p2 p3 p4 k0 k1 k2 k3 k4
 go_wp2_with fail
 go_loopw [9] (fun i wr => ∃ j : Nat, j ≤ rs.length ∧ i = .int .i64 (j : Int) ∧ Hid (allTo F j = true) ∧ Hid (Below w6.heap.size w6 wr)) (fun i wr => rs.length - (intOf i).toNat)
 case atStart => exact ⟨0, Nat.zero_le _, rfl, rfl, Below.refl _ _⟩
 case round =>
  obtain ⟨j, hj, rfl, HA, HB⟩ := hrel
  have Br := hide (B6.out.trans (HB.out.mono B6.out.size))
  have s6 := B6.out.size
  by_cases hlt : j < rs.length
  ·obtain ⟨vb, off, rfl, v1', v2', cv0, cv1⟩ := vals_at (HRV.out wr Br.out) hlt
   have hvb6 : vb < w6.heap.size := by omega
   have HEj := hide (HFj.out j)
   have HYN : Hid (F j = true → allTo F (j + 1) = true) := fun e => by show (allTo F j && F j) = true; rw [HA.out, e]; rfl
   have HNO : Hid (F j = false → allTo F rs.length = false) := fun e => allTo_false hlt e
   have q0 : (0 : Int) ≤ (j : Int) := by omega
   have q1 : (j : Int) < (rs.length : Int) := by omega
   generalize valAt' rs j = v at *
   obtain ⟨k, n⟩ := v
   simp only at cv0 cv1
   rw [HRF.out] at HEj
   have cw0 : w6.cell? ⟨vb, off + j * 2, none⟩ = some (.int .i64 k) := (HB.out.cell (p := ⟨vb, off + j * 2, none⟩) hvb6).symm.trans cv0
   have cw1 : w6.cell? ⟨vb, off + j * 2 + 1, none⟩ = some (.int .i64 n) := (HB.out.cell (p := ⟨vb, off + j * 2 + 1, none⟩) hvb6).symm.trans cv1
   clear HA HRF HFj HFL HTH Br HRV v1' v2'
   go_wp2_with fail
   refine (l4Ref_r (-1) wr).mono ?_
   rintro e w7 ⟨rfl, b7⟩
   have B7 := hide (HB.out.trans (b7.mono HB.out.size))
   clear b7 cv0 cv1 HB
   obtain ⟨W8, hW8⟩ : ∃ W8, W8 = w7.alloc (.cells #[.int .i64 2, .int .i64 (-1), .bool false] 70) := ⟨_, rfl⟩
   have B8 : Hid (Below w6.heap.size w6 W8) := by show Below _ _ _; rw [hW8]; exact B7.out.alloc B7.out.size _
   have F8 : Hid (Rec W8 w7.heap.size 70 [.int .i64 2, .int .i64 (-1), .bool false]) := by show Rec _ _ _ _; rw [hW8]; exact Rec.new _ _ _
   have s7 := B7.out.size
   have hpw := P6.out.lt
   go_upto_region 6 with (fail)
   rw [← hW8]
   clear hW8 B7
   have PX := hide (P6.out.below B8.out P6.out.lt)
   have p0 := PX.out.cell (o := 0) rfl
   have p1 := PX.out.cell (o := 1) rfl
   have p2 := PX.out.cell (o := 2) rfl
   have p3 := PX.out.cell (o := 3) rfl
   have p4 := PX.out.cell (o := 4) rfl
   have v0 := (B8.out.cell (p := ⟨vb, off + j * 2, none⟩) hvb6).trans cw0
   have v1 := (B8.out.cell (p := ⟨vb, off + j * 2 + 1, none⟩) hvb6).trans cw1
   have f0 := F8.out.cell (o := 0) rfl
   have f1 := F8.out.cell (o := 1) rfl
   have f2 := F8.out.cell (o := 2) rfl
   by_cases hk : k = 1
   ·subst hk
    have hrs : rootS 1 = ⟨1, 0, false⟩ := rfl
    rw [hrs] at HEj
    clear hrs
    go_wp2_with fail
    refine (l4Num_r _).mono ?_
    rintro e w9 ⟨rfl, b9⟩
    have B9 := hide (B8.out.trans (b9.mono B8.out.size))
    have F9 := hide (F8.out.below b9 F8.out.lt)
    have e0 := F9.out.cell (o := 0) rfl
    have e1 := F9.out.cell (o := 1) rfl
    have e2 := F9.out.cell (o := 2) rfl
    have x0 := F9.out.frozen 0
    have x1 := F9.out.frozen 1
    have x2 := F9.out.frozen 2
    clear b9 p0 p1 p2 p3 p4 v0 v1 f0 f1 f2 PX F8 B8
    obtain ⟨W10, hW10⟩ : ∃ W10, W10 = ((w9.setCell ⟨w7.heap.size, 0, none⟩ (.int .i64 1)).setCell ⟨w7.heap.size, 1, none⟩ (.int .i64 0)).setCell ⟨w7.heap.size, 2, none⟩ (.bool false) := ⟨_, rfl⟩
    have BY : Hid (Below w6.heap.size w6 W10) := by show Below _ _ _; rw [hW10]; exact ((B9.out.setCell (p := ⟨w7.heap.size, 0, none⟩) s7 _).setCell (p := ⟨w7.heap.size, 1, none⟩) s7 _).setCell (p := ⟨w7.heap.size, 2, none⟩) s7 _
    have FX : Hid (Rec W10 w7.heap.size 70 [.int .i64 1, .int .i64 0, .bool false]) := by show Rec _ _ _ _; rw [hW10]; exact ((F9.out.set 0 _).set 1 _).set 2 _
    go_upto_region 8 with (fail)
    rw [← hW10]
    clear hW10 e0 e1 e2 x0 x1 x2 B9 F9
    have PX := hide (P6.out.below BY.out P6.out.lt)
    have p0 := PX.out.cell (o := 0) rfl
    have p1 := PX.out.cell (o := 1) rfl
    have p2 := PX.out.cell (o := 2) rfl
    have p3 := PX.out.cell (o := 3) rfl
    have p4 := PX.out.cell (o := 4) rfl
    have v0 := (BY.out.cell (p := ⟨vb, off + j * 2, none⟩) hvb6).trans cw0
    have v1 := (BY.out.cell (p := ⟨vb, off + j * 2 + 1, none⟩) hvb6).trans cw1
    have f0 := FX.out.cell (o := 0) rfl
    have f1 := FX.out.cell (o := 1) rfl
    have f2 := FX.out.cell (o := 2) rfl
    go_wp2_with fail
    have BX : Hid (Below w6.heap.size w6 W10) := BY
    have HFx := hide (fun (W : World) (hb : Below w6.heap.size w6 W) => HFT.out 1 n 1 0 false (by simp) (some ⟨g, 0, none⟩) cap w5.heap.size w6.heap.size W (B6.out.trans (hb.mono B6.out.size)) (S6.out.keep hb) hb.size)
    obtain ⟨r, hr⟩ : ∃ r, r = hfitF gs h (startsF gs h) 1 n ⟨1, 0, false⟩ := ⟨_, rfl⟩
    rw [← hr] at HFx HEj
    clear hr HFT
    cases r with
    | false =>
     have HR : Hid (allTo F rs.length = false) := HNO.out HEj.out
     clear HYN HNO HEj
     refine wp_region_held_drew (S := (fun w' => w'.cell? ⟨w.heap.size, 0, none⟩ = some (.slice wa h.words.length wc) ∧ w'.cell? ⟨w.heap.size, 1, none⟩ = some (.int .i64 h.old) ∧ w'.cell? ⟨w.heap.size, 2, none⟩ = some (.int .i64 h.oldAt) ∧ w'.cell? ⟨w.heap.size, 3, none⟩ = some (.int .i64 h.youngAt) ∧ w'.cell? ⟨w.heap.size, 4, none⟩ = some (.slice la h.log.length lc) ∧ w'.cell? ⟨vb, off + j * 2, none⟩ = some (.int .i64 1) ∧ w'.cell? ⟨vb, off + j * 2 + 1, none⟩ = some (.int .i64 n) ∧ w'.cell? ⟨w7.heap.size, 0, none⟩ = some (.int .i64 1) ∧ w'.cell? ⟨w7.heap.size, 1, none⟩ = some (.int .i64 0) ∧ w'.cell? ⟨w7.heap.size, 2, none⟩ = some (.bool false))) (by kernel_rfl) ?_ (fun hHeld => ?_)
     · (try dsimp only); (first | exact ⟨k0, k1, k2, k3, k4, k5, k6, k7, k8, k9⟩ | exact ⟨p0, p1, p2, p3, p4, v0, v1, f0, f1, f2⟩)
     refine takeL (i := 0) (v := ?v0n8) rfl (by kernel_rfl) (by kernel_rfl) (by kernel_rfl) (fun _ _ _ h => h) (by kernel_rfl) (by assumption) ?y0n8 ?r0n8; case y0n8 => (intro w hSw; (try dsimp only at hSw); go_simp; try with_reducible rfl); (try simp only [Act.put, List.setIfInBounds_toArray, List.set_cons_zero, List.set_cons_succ])
     refine takeL (i := 1) (v := ?v1n9) rfl (by kernel_rfl) (by kernel_rfl) (by kernel_rfl) (fun _ _ _ h => h) (by kernel_rfl) (by assumption) ?y1n9 ?r1n9; case y1n9 => (intro w hSw; (try dsimp only at hSw); go_simp; try with_reducible rfl); (try simp only [Act.put, List.setIfInBounds_toArray, List.set_cons_zero, List.set_cons_succ])
     refine takeL (i := 2) (v := ?v2n10) rfl (by kernel_rfl) (by kernel_rfl) (by kernel_rfl) (fun _ _ _ h => h) (by kernel_rfl) (by assumption) ?y2n10 ?r2n10; case y2n10 => (intro w hSw; (try dsimp only at hSw); go_simp; try with_reducible rfl); (try simp only [Act.put, List.setIfInBounds_toArray, List.set_cons_zero, List.set_cons_succ])
     refine takeL (i := 3) (v := ?v3n11) rfl (by kernel_rfl) (by kernel_rfl) (by kernel_rfl) (fun _ _ _ h => h) (by kernel_rfl) (by assumption) ?y3n11 ?r3n11; case y3n11 => (intro w hSw; (try dsimp only at hSw); go_simp; try with_reducible rfl); (try simp only [Act.put, List.setIfInBounds_toArray, List.set_cons_zero, List.set_cons_succ])
     refine takeL (i := 4) (v := ?v4n12) rfl (by kernel_rfl) (by kernel_rfl) (by kernel_rfl) (fun _ _ _ h => h) (by kernel_rfl) (by assumption) ?y4n12 ?r4n12; case y4n12 => (intro w hSw; (try dsimp only at hSw); go_simp; try with_reducible rfl); (try simp only [Act.put, List.setIfInBounds_toArray, List.set_cons_zero, List.set_cons_succ])
     refine takeL (i := 5) (v := ?v5n13) rfl (by kernel_rfl) (by kernel_rfl) (by kernel_rfl) (fun _ _ _ h => h) (by kernel_rfl) (by assumption) ?y5n13 ?r5n13; case y5n13 => (intro w hSw; (try dsimp only at hSw); go_simp; try with_reducible rfl); (try simp only [Act.put, List.setIfInBounds_toArray, List.set_cons_zero, List.set_cons_succ])
     refine takeL (i := 6) (v := ?v6n14) rfl (by kernel_rfl) (by kernel_rfl) (by kernel_rfl) (fun _ _ _ h => h) (by kernel_rfl) (by assumption) ?y6n14 ?r6n14; case y6n14 => (intro w hSw; (try dsimp only at hSw); go_simp; try with_reducible rfl); (try simp only [Act.put, List.setIfInBounds_toArray, List.set_cons_zero, List.set_cons_succ])
     refine takeL (i := 7) (v := ?v7n15) rfl (by kernel_rfl) (by kernel_rfl) (by kernel_rfl) (fun _ _ _ h => h) (by kernel_rfl) (by assumption) ?y7n15 ?r7n15; case y7n15 => (intro w hSw; (try dsimp only at hSw); go_simp; try with_reducible rfl); (try simp only [Act.put, List.setIfInBounds_toArray, List.set_cons_zero, List.set_cons_succ])
     refine doL (i := 8) rfl (by kernel_rfl) (fun K hK => ?_)
     go_simp
     (go_at_call 36; refine (HFx.out _ BX.out.drew).mono ?_; rintro e w11 ⟨rfl, b11⟩; have B11 := hide (BX.out.drew.trans (b11.mono BX.out.size)); have FY := hide (Rec.below (w := W10.drew) FX.out b11 FX.out.lt); have PY := hide (P6.out.below B11.out P6.out.lt); have k0 := PY.out.cell (o := 0) rfl; have k1 := PY.out.cell (o := 1) rfl; have k2 := PY.out.cell (o := 2) rfl; have k3 := PY.out.cell (o := 3) rfl; have k4 := PY.out.cell (o := 4) rfl; have k5 := (B11.out.cell (p := ⟨vb, off + j * 2, none⟩) hvb6).trans cw0; have k6 := (B11.out.cell (p := ⟨vb, off + j * 2 + 1, none⟩) hvb6).trans cw1; have k7 := FY.out.cell (o := 0) rfl; have k8 := FY.out.cell (o := 1) rfl; have k9 := FY.out.cell (o := 2) rfl; clear b11)
     (try go_wp2_with fail)
     refine hK.out _ _ ?_ (fun hHeld2 => ?_)
     · (try dsimp only); (first | exact ⟨k0, k1, k2, k3, k4, k5, k6, k7, k8, k9⟩ | exact ⟨p0, p1, p2, p3, p4, v0, v1, f0, f1, f2⟩)
     clear hK K hHeld
     have hHeld := hHeld2
     clear hHeld2
     try simp only [Act.put, List.setIfInBounds_toArray, List.set_cons_zero, List.set_cons_succ]
     refine takeL (i := 9) (v := ?v9n16) rfl (by kernel_rfl) (by kernel_rfl) (by kernel_rfl) (fun _ _ _ h => h) (by kernel_rfl) (by assumption) ?y9n16 ?r9n16; case y9n16 => (intro w hSw; (try dsimp only at hSw); go_simp; try with_reducible rfl); (try simp only [Act.put, List.setIfInBounds_toArray, List.set_cons_zero, List.set_cons_succ])
     refine wpAnyH_done (by kernel_rfl) ?_ _
     go_wp2_with fail
     go_ret
     exact ⟨ret_bool HR.out.symm, B6.out.trans (B11.out.mono B6.out.size)⟩
    | true =>
     have HY := hide (HYN.out HEj.out)
     clear HYN HNO HEj
     refine wp_region_held_drew (S := (fun w' => w'.cell? ⟨w.heap.size, 0, none⟩ = some (.slice wa h.words.length wc) ∧ w'.cell? ⟨w.heap.size, 1, none⟩ = some (.int .i64 h.old) ∧ w'.cell? ⟨w.heap.size, 2, none⟩ = some (.int .i64 h.oldAt) ∧ w'.cell? ⟨w.heap.size, 3, none⟩ = some (.int .i64 h.youngAt) ∧ w'.cell? ⟨w.heap.size, 4, none⟩ = some (.slice la h.log.length lc) ∧ w'.cell? ⟨vb, off + j * 2, none⟩ = some (.int .i64 1) ∧ w'.cell? ⟨vb, off + j * 2 + 1, none⟩ = some (.int .i64 n) ∧ w'.cell? ⟨w7.heap.size, 0, none⟩ = some (.int .i64 1) ∧ w'.cell? ⟨w7.heap.size, 1, none⟩ = some (.int .i64 0) ∧ w'.cell? ⟨w7.heap.size, 2, none⟩ = some (.bool false))) (by kernel_rfl) ?_ (fun hHeld => ?_)
     · (try dsimp only); (first | exact ⟨k0, k1, k2, k3, k4, k5, k6, k7, k8, k9⟩ | exact ⟨p0, p1, p2, p3, p4, v0, v1, f0, f1, f2⟩)
     refine takeL (i := 0) (v := ?v0n17) rfl (by kernel_rfl) (by kernel_rfl) (by kernel_rfl) (fun _ _ _ h => h) (by kernel_rfl) (by assumption) ?y0n17 ?r0n17; case y0n17 => (intro w hSw; (try dsimp only at hSw); go_simp; try with_reducible rfl); (try simp only [Act.put, List.setIfInBounds_toArray, List.set_cons_zero, List.set_cons_succ])
     refine takeL (i := 1) (v := ?v1n18) rfl (by kernel_rfl) (by kernel_rfl) (by kernel_rfl) (fun _ _ _ h => h) (by kernel_rfl) (by assumption) ?y1n18 ?r1n18; case y1n18 => (intro w hSw; (try dsimp only at hSw); go_simp; try with_reducible rfl); (try simp only [Act.put, List.setIfInBounds_toArray, List.set_cons_zero, List.set_cons_succ])
     refine takeL (i := 2) (v := ?v2n19) rfl (by kernel_rfl) (by kernel_rfl) (by kernel_rfl) (fun _ _ _ h => h) (by kernel_rfl) (by assumption) ?y2n19 ?r2n19; case y2n19 => (intro w hSw; (try dsimp only at hSw); go_simp; try with_reducible rfl); (try simp only [Act.put, List.setIfInBounds_toArray, List.set_cons_zero, List.set_cons_succ])
     refine takeL (i := 3) (v := ?v3n20) rfl (by kernel_rfl) (by kernel_rfl) (by kernel_rfl) (fun _ _ _ h => h) (by kernel_rfl) (by assumption) ?y3n20 ?r3n20; case y3n20 => (intro w hSw; (try dsimp only at hSw); go_simp; try with_reducible rfl); (try simp only [Act.put, List.setIfInBounds_toArray, List.set_cons_zero, List.set_cons_succ])
     refine takeL (i := 4) (v := ?v4n21) rfl (by kernel_rfl) (by kernel_rfl) (by kernel_rfl) (fun _ _ _ h => h) (by kernel_rfl) (by assumption) ?y4n21 ?r4n21; case y4n21 => (intro w hSw; (try dsimp only at hSw); go_simp; try with_reducible rfl); (try simp only [Act.put, List.setIfInBounds_toArray, List.set_cons_zero, List.set_cons_succ])
     refine takeL (i := 5) (v := ?v5n22) rfl (by kernel_rfl) (by kernel_rfl) (by kernel_rfl) (fun _ _ _ h => h) (by kernel_rfl) (by assumption) ?y5n22 ?r5n22; case y5n22 => (intro w hSw; (try dsimp only at hSw); go_simp; try with_reducible rfl); (try simp only [Act.put, List.setIfInBounds_toArray, List.set_cons_zero, List.set_cons_succ])
     refine takeL (i := 6) (v := ?v6n23) rfl (by kernel_rfl) (by kernel_rfl) (by kernel_rfl) (fun _ _ _ h => h) (by kernel_rfl) (by assumption) ?y6n23 ?r6n23; case y6n23 => (intro w hSw; (try dsimp only at hSw); go_simp; try with_reducible rfl); (try simp only [Act.put, List.setIfInBounds_toArray, List.set_cons_zero, List.set_cons_succ])
     refine takeL (i := 7) (v := ?v7n24) rfl (by kernel_rfl) (by kernel_rfl) (by kernel_rfl) (fun _ _ _ h => h) (by kernel_rfl) (by assumption) ?y7n24 ?r7n24; case y7n24 => (intro w hSw; (try dsimp only at hSw); go_simp; try with_reducible rfl); (try simp only [Act.put, List.setIfInBounds_toArray, List.set_cons_zero, List.set_cons_succ])
     refine doL (i := 8) rfl (by kernel_rfl) (fun K hK => ?_)
     go_simp
     (go_at_call 36; refine (HFx.out _ BX.out.drew).mono ?_; rintro e w11 ⟨rfl, b11⟩; have B11 := hide (BX.out.drew.trans (b11.mono BX.out.size)); have FY := hide (Rec.below (w := W10.drew) FX.out b11 FX.out.lt); have PY := hide (P6.out.below B11.out P6.out.lt); have k0 := PY.out.cell (o := 0) rfl; have k1 := PY.out.cell (o := 1) rfl; have k2 := PY.out.cell (o := 2) rfl; have k3 := PY.out.cell (o := 3) rfl; have k4 := PY.out.cell (o := 4) rfl; have k5 := (B11.out.cell (p := ⟨vb, off + j * 2, none⟩) hvb6).trans cw0; have k6 := (B11.out.cell (p := ⟨vb, off + j * 2 + 1, none⟩) hvb6).trans cw1; have k7 := FY.out.cell (o := 0) rfl; have k8 := FY.out.cell (o := 1) rfl; have k9 := FY.out.cell (o := 2) rfl; clear b11)
     (try go_wp2_with fail)
     refine hK.out _ _ ?_ (fun hHeld2 => ?_)
     · (try dsimp only); (first | exact ⟨k0, k1, k2, k3, k4, k5, k6, k7, k8, k9⟩ | exact ⟨p0, p1, p2, p3, p4, v0, v1, f0, f1, f2⟩)
     clear hK K hHeld
     have hHeld := hHeld2
     clear hHeld2
     try simp only [Act.put, List.setIfInBounds_toArray, List.set_cons_zero, List.set_cons_succ]
     refine takeL (i := 9) (v := ?v9n25) rfl (by kernel_rfl) (by kernel_rfl) (by kernel_rfl) (fun _ _ _ h => h) (by kernel_rfl) (by assumption) ?y9n25 ?r9n25; case y9n25 => (intro w hSw; (try dsimp only at hSw); go_simp; try with_reducible rfl); (try simp only [Act.put, List.setIfInBounds_toArray, List.set_cons_zero, List.set_cons_succ])
     refine wpAnyH_done (by kernel_rfl) ?_ _
     go_wp2_with fail
     exact ⟨⟨j + 1, by omega, by go_num, HY, B11⟩, by simp [intOf]; omega⟩
   ·have hkf : (k == 1) = false := beq_eq_false_iff_ne.2 hk
    have hrs : rootS k = ⟨2, -1, false⟩ := if_neg hk
    rw [hrs] at HEj
    clear hrs
    have FX := F8
    have BY := B8
    go_wp2_with fail
    have BX : Hid (Below w6.heap.size w6 W8) := BY
    have HFx := hide (fun (W : World) (hb : Below w6.heap.size w6 W) => HFT.out k n 2 (-1) false (by simp; omega) (some ⟨g, 0, none⟩) cap w5.heap.size w6.heap.size W (B6.out.trans (hb.mono B6.out.size)) (S6.out.keep hb) hb.size)
    obtain ⟨r, hr⟩ : ∃ r, r = hfitF gs h (startsF gs h) k n ⟨2, (-1), false⟩ := ⟨_, rfl⟩
    rw [← hr] at HFx HEj
    clear hr HFT
    cases r with
    | false =>
     have HR : Hid (allTo F rs.length = false) := HNO.out HEj.out
     clear HYN HNO HEj
     refine wp_region_held_drew (S := (fun w' => w'.cell? ⟨w.heap.size, 0, none⟩ = some (.slice wa h.words.length wc) ∧ w'.cell? ⟨w.heap.size, 1, none⟩ = some (.int .i64 h.old) ∧ w'.cell? ⟨w.heap.size, 2, none⟩ = some (.int .i64 h.oldAt) ∧ w'.cell? ⟨w.heap.size, 3, none⟩ = some (.int .i64 h.youngAt) ∧ w'.cell? ⟨w.heap.size, 4, none⟩ = some (.slice la h.log.length lc) ∧ w'.cell? ⟨vb, off + j * 2, none⟩ = some (.int .i64 k) ∧ w'.cell? ⟨vb, off + j * 2 + 1, none⟩ = some (.int .i64 n) ∧ w'.cell? ⟨w7.heap.size, 0, none⟩ = some (.int .i64 2) ∧ w'.cell? ⟨w7.heap.size, 1, none⟩ = some (.int .i64 (-1)) ∧ w'.cell? ⟨w7.heap.size, 2, none⟩ = some (.bool false))) (by kernel_rfl) ?_ (fun hHeld => ?_)
     · (try dsimp only); (first | exact ⟨k0, k1, k2, k3, k4, k5, k6, k7, k8, k9⟩ | exact ⟨p0, p1, p2, p3, p4, v0, v1, f0, f1, f2⟩)
     refine takeL (i := 0) (v := ?v0n26) rfl (by kernel_rfl) (by kernel_rfl) (by kernel_rfl) (fun _ _ _ h => h) (by kernel_rfl) (by assumption) ?y0n26 ?r0n26; case y0n26 => (intro w hSw; (try dsimp only at hSw); go_simp; try with_reducible rfl); (try simp only [Act.put, List.setIfInBounds_toArray, List.set_cons_zero, List.set_cons_succ])
     refine takeL (i := 1) (v := ?v1n27) rfl (by kernel_rfl) (by kernel_rfl) (by kernel_rfl) (fun _ _ _ h => h) (by kernel_rfl) (by assumption) ?y1n27 ?r1n27; case y1n27 => (intro w hSw; (try dsimp only at hSw); go_simp; try with_reducible rfl); (try simp only [Act.put, List.setIfInBounds_toArray, List.set_cons_zero, List.set_cons_succ])
     refine takeL (i := 2) (v := ?v2n28) rfl (by kernel_rfl) (by kernel_rfl) (by kernel_rfl) (fun _ _ _ h => h) (by kernel_rfl) (by assumption) ?y2n28 ?r2n28; case y2n28 => (intro w hSw; (try dsimp only at hSw); go_simp; try with_reducible rfl); (try simp only [Act.put, List.setIfInBounds_toArray, List.set_cons_zero, List.set_cons_succ])
     refine takeL (i := 3) (v := ?v3n29) rfl (by kernel_rfl) (by kernel_rfl) (by kernel_rfl) (fun _ _ _ h => h) (by kernel_rfl) (by assumption) ?y3n29 ?r3n29; case y3n29 => (intro w hSw; (try dsimp only at hSw); go_simp; try with_reducible rfl); (try simp only [Act.put, List.setIfInBounds_toArray, List.set_cons_zero, List.set_cons_succ])
     refine takeL (i := 4) (v := ?v4n30) rfl (by kernel_rfl) (by kernel_rfl) (by kernel_rfl) (fun _ _ _ h => h) (by kernel_rfl) (by assumption) ?y4n30 ?r4n30; case y4n30 => (intro w hSw; (try dsimp only at hSw); go_simp; try with_reducible rfl); (try simp only [Act.put, List.setIfInBounds_toArray, List.set_cons_zero, List.set_cons_succ])
     refine takeL (i := 5) (v := ?v5n31) rfl (by kernel_rfl) (by kernel_rfl) (by kernel_rfl) (fun _ _ _ h => h) (by kernel_rfl) (by assumption) ?y5n31 ?r5n31; case y5n31 => (intro w hSw; (try dsimp only at hSw); go_simp; try with_reducible rfl); (try simp only [Act.put, List.setIfInBounds_toArray, List.set_cons_zero, List.set_cons_succ])
     refine takeL (i := 6) (v := ?v6n32) rfl (by kernel_rfl) (by kernel_rfl) (by kernel_rfl) (fun _ _ _ h => h) (by kernel_rfl) (by assumption) ?y6n32 ?r6n32; case y6n32 => (intro w hSw; (try dsimp only at hSw); go_simp; try with_reducible rfl); (try simp only [Act.put, List.setIfInBounds_toArray, List.set_cons_zero, List.set_cons_succ])
     refine takeL (i := 7) (v := ?v7n33) rfl (by kernel_rfl) (by kernel_rfl) (by kernel_rfl) (fun _ _ _ h => h) (by kernel_rfl) (by assumption) ?y7n33 ?r7n33; case y7n33 => (intro w hSw; (try dsimp only at hSw); go_simp; try with_reducible rfl); (try simp only [Act.put, List.setIfInBounds_toArray, List.set_cons_zero, List.set_cons_succ])
     refine doL (i := 8) rfl (by kernel_rfl) (fun K hK => ?_)
     go_simp
     (go_at_call 36; refine (HFx.out _ BX.out.drew).mono ?_; rintro e w11 ⟨rfl, b11⟩; have B11 := hide (BX.out.drew.trans (b11.mono BX.out.size)); have FY := hide (Rec.below (w := W8.drew) FX.out b11 FX.out.lt); have PY := hide (P6.out.below B11.out P6.out.lt); have k0 := PY.out.cell (o := 0) rfl; have k1 := PY.out.cell (o := 1) rfl; have k2 := PY.out.cell (o := 2) rfl; have k3 := PY.out.cell (o := 3) rfl; have k4 := PY.out.cell (o := 4) rfl; have k5 := (B11.out.cell (p := ⟨vb, off + j * 2, none⟩) hvb6).trans cw0; have k6 := (B11.out.cell (p := ⟨vb, off + j * 2 + 1, none⟩) hvb6).trans cw1; have k7 := FY.out.cell (o := 0) rfl; have k8 := FY.out.cell (o := 1) rfl; have k9 := FY.out.cell (o := 2) rfl; clear b11)
     (try go_wp2_with fail)
     refine hK.out _ _ ?_ (fun hHeld2 => ?_)
     · (try dsimp only); (first | exact ⟨k0, k1, k2, k3, k4, k5, k6, k7, k8, k9⟩ | exact ⟨p0, p1, p2, p3, p4, v0, v1, f0, f1, f2⟩)
     clear hK K hHeld
     have hHeld := hHeld2
     clear hHeld2
     try simp only [Act.put, List.setIfInBounds_toArray, List.set_cons_zero, List.set_cons_succ]
     refine takeL (i := 9) (v := ?v9n34) rfl (by kernel_rfl) (by kernel_rfl) (by kernel_rfl) (fun _ _ _ h => h) (by kernel_rfl) (by assumption) ?y9n34 ?r9n34; case y9n34 => (intro w hSw; (try dsimp only at hSw); go_simp; try with_reducible rfl); (try simp only [Act.put, List.setIfInBounds_toArray, List.set_cons_zero, List.set_cons_succ])
     refine wpAnyH_done (by kernel_rfl) ?_ _
     go_wp2_with fail
     go_ret
     exact ⟨ret_bool HR.out.symm, B6.out.trans (B11.out.mono B6.out.size)⟩
    | true =>
     have HY := hide (HYN.out HEj.out)
     clear HYN HNO HEj
     refine wp_region_held_drew (S := (fun w' => w'.cell? ⟨w.heap.size, 0, none⟩ = some (.slice wa h.words.length wc) ∧ w'.cell? ⟨w.heap.size, 1, none⟩ = some (.int .i64 h.old) ∧ w'.cell? ⟨w.heap.size, 2, none⟩ = some (.int .i64 h.oldAt) ∧ w'.cell? ⟨w.heap.size, 3, none⟩ = some (.int .i64 h.youngAt) ∧ w'.cell? ⟨w.heap.size, 4, none⟩ = some (.slice la h.log.length lc) ∧ w'.cell? ⟨vb, off + j * 2, none⟩ = some (.int .i64 k) ∧ w'.cell? ⟨vb, off + j * 2 + 1, none⟩ = some (.int .i64 n) ∧ w'.cell? ⟨w7.heap.size, 0, none⟩ = some (.int .i64 2) ∧ w'.cell? ⟨w7.heap.size, 1, none⟩ = some (.int .i64 (-1)) ∧ w'.cell? ⟨w7.heap.size, 2, none⟩ = some (.bool false))) (by kernel_rfl) ?_ (fun hHeld => ?_)
     · (try dsimp only); (first | exact ⟨k0, k1, k2, k3, k4, k5, k6, k7, k8, k9⟩ | exact ⟨p0, p1, p2, p3, p4, v0, v1, f0, f1, f2⟩)
     refine takeL (i := 0) (v := ?v0n35) rfl (by kernel_rfl) (by kernel_rfl) (by kernel_rfl) (fun _ _ _ h => h) (by kernel_rfl) (by assumption) ?y0n35 ?r0n35; case y0n35 => (intro w hSw; (try dsimp only at hSw); go_simp; try with_reducible rfl); (try simp only [Act.put, List.setIfInBounds_toArray, List.set_cons_zero, List.set_cons_succ])
     refine takeL (i := 1) (v := ?v1n36) rfl (by kernel_rfl) (by kernel_rfl) (by kernel_rfl) (fun _ _ _ h => h) (by kernel_rfl) (by assumption) ?y1n36 ?r1n36; case y1n36 => (intro w hSw; (try dsimp only at hSw); go_simp; try with_reducible rfl); (try simp only [Act.put, List.setIfInBounds_toArray, List.set_cons_zero, List.set_cons_succ])
     refine takeL (i := 2) (v := ?v2n37) rfl (by kernel_rfl) (by kernel_rfl) (by kernel_rfl) (fun _ _ _ h => h) (by kernel_rfl) (by assumption) ?y2n37 ?r2n37; case y2n37 => (intro w hSw; (try dsimp only at hSw); go_simp; try with_reducible rfl); (try simp only [Act.put, List.setIfInBounds_toArray, List.set_cons_zero, List.set_cons_succ])
     refine takeL (i := 3) (v := ?v3n38) rfl (by kernel_rfl) (by kernel_rfl) (by kernel_rfl) (fun _ _ _ h => h) (by kernel_rfl) (by assumption) ?y3n38 ?r3n38; case y3n38 => (intro w hSw; (try dsimp only at hSw); go_simp; try with_reducible rfl); (try simp only [Act.put, List.setIfInBounds_toArray, List.set_cons_zero, List.set_cons_succ])
     refine takeL (i := 4) (v := ?v4n39) rfl (by kernel_rfl) (by kernel_rfl) (by kernel_rfl) (fun _ _ _ h => h) (by kernel_rfl) (by assumption) ?y4n39 ?r4n39; case y4n39 => (intro w hSw; (try dsimp only at hSw); go_simp; try with_reducible rfl); (try simp only [Act.put, List.setIfInBounds_toArray, List.set_cons_zero, List.set_cons_succ])
     refine takeL (i := 5) (v := ?v5n40) rfl (by kernel_rfl) (by kernel_rfl) (by kernel_rfl) (fun _ _ _ h => h) (by kernel_rfl) (by assumption) ?y5n40 ?r5n40; case y5n40 => (intro w hSw; (try dsimp only at hSw); go_simp; try with_reducible rfl); (try simp only [Act.put, List.setIfInBounds_toArray, List.set_cons_zero, List.set_cons_succ])
     refine takeL (i := 6) (v := ?v6n41) rfl (by kernel_rfl) (by kernel_rfl) (by kernel_rfl) (fun _ _ _ h => h) (by kernel_rfl) (by assumption) ?y6n41 ?r6n41; case y6n41 => (intro w hSw; (try dsimp only at hSw); go_simp; try with_reducible rfl); (try simp only [Act.put, List.setIfInBounds_toArray, List.set_cons_zero, List.set_cons_succ])
     refine takeL (i := 7) (v := ?v7n42) rfl (by kernel_rfl) (by kernel_rfl) (by kernel_rfl) (fun _ _ _ h => h) (by kernel_rfl) (by assumption) ?y7n42 ?r7n42; case y7n42 => (intro w hSw; (try dsimp only at hSw); go_simp; try with_reducible rfl); (try simp only [Act.put, List.setIfInBounds_toArray, List.set_cons_zero, List.set_cons_succ])
     refine doL (i := 8) rfl (by kernel_rfl) (fun K hK => ?_)
     go_simp
     (go_at_call 36; refine (HFx.out _ BX.out.drew).mono ?_; rintro e w11 ⟨rfl, b11⟩; have B11 := hide (BX.out.drew.trans (b11.mono BX.out.size)); have FY := hide (Rec.below (w := W8.drew) FX.out b11 FX.out.lt); have PY := hide (P6.out.below B11.out P6.out.lt); have k0 := PY.out.cell (o := 0) rfl; have k1 := PY.out.cell (o := 1) rfl; have k2 := PY.out.cell (o := 2) rfl; have k3 := PY.out.cell (o := 3) rfl; have k4 := PY.out.cell (o := 4) rfl; have k5 := (B11.out.cell (p := ⟨vb, off + j * 2, none⟩) hvb6).trans cw0; have k6 := (B11.out.cell (p := ⟨vb, off + j * 2 + 1, none⟩) hvb6).trans cw1; have k7 := FY.out.cell (o := 0) rfl; have k8 := FY.out.cell (o := 1) rfl; have k9 := FY.out.cell (o := 2) rfl; clear b11)
     (try go_wp2_with fail)
     refine hK.out _ _ ?_ (fun hHeld2 => ?_)
     · (try dsimp only); (first | exact ⟨k0, k1, k2, k3, k4, k5, k6, k7, k8, k9⟩ | exact ⟨p0, p1, p2, p3, p4, v0, v1, f0, f1, f2⟩)
     clear hK K hHeld
     have hHeld := hHeld2
     clear hHeld2
     try simp only [Act.put, List.setIfInBounds_toArray, List.set_cons_zero, List.set_cons_succ]
     refine takeL (i := 9) (v := ?v9n43) rfl (by kernel_rfl) (by kernel_rfl) (by kernel_rfl) (fun _ _ _ h => h) (by kernel_rfl) (by assumption) ?y9n43 ?r9n43; case y9n43 => (intro w hSw; (try dsimp only at hSw); go_simp; try with_reducible rfl); (try simp only [Act.put, List.setIfInBounds_toArray, List.set_cons_zero, List.set_cons_succ])
     refine wpAnyH_done (by kernel_rfl) ?_ _
     go_wp2_with fail
     exact ⟨⟨j + 1, by omega, by go_num, HY, B11⟩, by simp [intOf]; omega⟩
  ·have hq : ¬ (j : Int) < (rs.length : Int) := by omega
   have HF : Hid (allTo F rs.length = true) := by show _ = _; rw [← show j = rs.length by omega]; exact HA.out
   go_wp2_with fail
   go_ret
   exact ⟨ret_bool HF.out.symm, Br.out⟩

set_option maxRecDepth 20000 in
theorem specRootsOk_any (ga ra : Option Addr) (gc rc lo hi lo4 hi4 : Nat) (gs : List (List Ty)) (h : GHeap) (rs : List GVal) (wa la : Option Addr) (wc lc lo2 hi2 : Nat) (w : World) (hN : Few gs) (hc : gs.length ≤ gc) (hl : lo ≤ hi) (hh : hi ≤ w.heap.size) (hx : GroupsIn w lo hi ga gs) (H : HIn w lo2 hi2 h wa la wc lc) (hr : ValsM true w lo4 hi4 ra rs) (hh4 : hi4 ≤ w.heap.size) (hrl : rs.length ≤ 1048576) :
 Calls Tryz.prog 7 #[.slice ga gs.length gc, heapV h wa la wc lc, .slice ra rs.length rc] w fun e w' => e = .returned (.bool (rootsOkF gs h rs)) ∧ Below w.heap.size w w' := by
 have HHO := hide (fun (W : World) (hb : Below w.heap.size w W) => specHeapOk_any ga gc lo hi gs h wa la wc lc lo2 hi2 W hN hc hl (Nat.le_trans hh hb.size) (hx.keep (hb.mono hh)) (H.keep (hb.mono H.hh)))
 have HLR := hide (fun (e : heapOkF gs h = true) (W : World) (hb : Below w.heap.size w W) => l8Roots_any ga ra gc rc lo hi lo4 hi4 gs h rs wa la wc lc lo2 hi2 W (heapOk_ok e).1 (heapOk_ok e).2.1 (heapOk_ok e).2.2 hN hc hl (Nat.le_trans hh hb.size) (hx.keep (hb.mono hh)) (H.keep (hb.mono H.hh)) (hr.same (lo' := lo4) (hi' := hi4) (fun k _ h2 => hb.block k (Nat.lt_of_lt_of_le h2 hh4)) (Nat.le_refl _) (Nat.le_refl _)) (Nat.le_trans hh4 hb.size) hrl)
 have HEQ : Hid (rootsOkF gs h rs = (heapOkF gs h && rootsF gs h rs)) := rfl
 have B1 := hide (one_b w (.cells #[.slice wa h.words.length wc, .int .i64 h.old, .int .i64 h.oldAt, .int .i64 h.youngAt, .slice la h.log.length lc] 33))
 have P1 := hide (Rec.new w 33 [.slice wa h.words.length wc, .int .i64 h.old, .int .i64 h.oldAt, .int .i64 h.youngAt, .slice la h.log.length lc])
 clear hN hx H hr
 unfold heapV at *
 generalize rootsOkF gs h rs = R at *
 generalize rootsF gs h rs = R2 at *
 obtain ⟨ok, hok⟩ : ∃ b, b = heapOkF gs h := ⟨_, rfl⟩
 rw [← hok] at HHO HEQ HLR
 clear hok
 go_enter Tryz.func7, Tryz.ntmps7
 go_wp2_with fail
 refine (HHO.out _ B1.out).mono ?_
 rintro e w2 ⟨rfl, b2⟩
 have B2 := hide (B1.out.trans (b2.mono B1.out.size))
 have P2 := hide (P1.out.below b2 P1.out.lt)
 clear b2 B1 P1
 have p0 := P2.out.cell (o := 0) rfl
 have p1 := P2.out.cell (o := 1) rfl
 have p2 := P2.out.cell (o := 2) rfl
 have p3 := P2.out.cell (o := 3) rfl
 have p4 := P2.out.cell (o := 4) rfl
 cases ok with
 | false =>
  have HR : Hid (R = false) := by show _ = _; rw [HEQ.out]; rfl
  clear HEQ HLR HHO
  go_wp2_with fail
  go_ret
  exact ⟨ret_bool HR.out.symm, B2.out⟩
 | true =>
  have HR : Hid (R = R2) := by show _ = _; rw [HEQ.out]; rfl
  have HL := hide (HLR.out rfl)
  clear HEQ HLR HHO
  go_wp2_with fail
  refine (HL.out _ B2.out).mono ?_
  rintro e w3 ⟨rfl, b3⟩
  have B3 := hide (B2.out.trans (b3.mono B2.out.size))
  clear b3
  go_wp2_with fail
  go_ret
  exact ⟨ret_bool HR.out.symm, B3.out⟩
end Go.Proofs.YtembifoimiochaaGreatDoor
