/- heapSpaceOf: the space of a heap. -/
import Derived.Test.YtembifoimiochaaGreatDoorHpV10
import Derived.Test.YtembifoimiochaaGreatDoorHpS1
import Derived.Test.YtembifoimiochaaGreatDoorRegionL
namespace Go.Proofs.YtembifoimiochaaGreatDoor
open Go.ChangeShapes Go.WideShapes Go.ChangeAt Go.RowKit Go.Shelf Go.Deep
set_option linter.unusedVariables false
set_option linter.unusedSimpArgs false

theorem KpF.below {S sb B : Nat} {A X : World} (h : KpF S sb A X) (h1 : B ≤ S) (h2 : B ≤ sb) : Below B A X := ⟨h.os, h.tape, h.output, h.sz, fun k hk => h.blk k (by omega) (by omega)⟩
theorem KpT.below {S sb B : Nat} {A X : World} (h : KpT S sb A X) (h1 : B ≤ S) (h2 : B ≤ sb) : Below B A X := ⟨h.os, h.tape, h.output, h.sz, fun k hk => h.blk k (by omega) (by omega)⟩
theorem LogAt.baseF {w w' : World} {sb : Nat} (h : LogAt w w.heap.size sb []) (c : ∀ o, 488 ≤ o → w'.cell? ⟨sb, o, none⟩ = w.cell? ⟨sb, o, none⟩) : LogAt w' w'.heap.size sb [] := by
 obtain ⟨va, cap, h1, h2, h3⟩ := h
 have e : Value.slice va 0 cap = .slice none 0 0 := by
  rcases h2.2 with ⟨e, _⟩ | ⟨g, cap', cur, e, hS, hg, _⟩
  ·exact e
  ·have := (Array.getElem?_eq_some_iff.1 hg).1; omega
 cases e
 exact ⟨none, 0, (c 488 (by omega)).trans h1, NRow.nil _ _, fun j hj => (c _ (by omega)).trans (h3 j hj)⟩
theorem KpT.sps {S sb lo hi : Nat} {A B : World} {gs : List (List Ty)} {h : GHeap} {ra : Option Addr} {rc cb co cc : Nat} {L : List Int} (k : KpT S sb A B) (H : SpS A lo hi sb gs h ra rc cb co cc L) (hl : h.words.length ≤ 160) (hS : hi ≤ S) : SpS B lo hi sb gs h ra rc cb co cc L := by
 have hh := H.hh
 have c : ∀ o, o < 488 → B.cell? ⟨sb, o, none⟩ = A.cell? ⟨sb, o, none⟩ := k.ws
 refine ⟨⟨H.hh, Nat.lt_of_lt_of_le H.lt k.sz, tab_blocks H.tab fun j hj => k.blk j (by omega) (by omega), (c _ (by omega)).trans H.k0, (c _ (by omega)).trans H.k1, fun i hi' => (c _ (by omega)).trans (H.ws i hi'), (c _ (by omega)).trans H.o0, (c _ (by omega)).trans H.o1, (c _ (by omega)).trans H.o2, (c _ (by omega)).trans H.y0, (c _ (by omega)).trans H.y1, (c _ (by omega)).trans H.y2⟩, ?_⟩
 rcases H.st with h0 | ⟨b, off, e, h1, h2, h3, h4⟩
 ·exact .inl h0
 ·cases e
  refine .inr ⟨sb, 168, rfl, h1, h2, (fun e => by cases e), fun i hi' => ?_⟩
  have hl' : i < 160 := by rw [stL_len] at hi'; exact hi'
  obtain ⟨a1, c1, e0, e1, e2⟩ := h4 i hi'
  refine ⟨a1, c1, (c _ (by omega)).trans e0, (c _ (by omega)).trans e1, ?_⟩
  rw [stL_at h L hl'] at e2 ⊢
  exact .inl rfl
/-- What heapSpaceOf answers. -/
def SpOut (gs : List (List Ty)) (h : GHeap) (w : World) (e : Ending) (w' : World) : Prop :=
 Below w.heap.size w w' ∧ ((heapOkF gs h = false ∧ e = .returned (.tuple #[.pointer none, .bool false])) ∨ (heapOkF gs h = true ∧ ∃ sb S lo hi ra rc cb cc, e = .returned (.tuple #[.pointer (some ⟨sb, 0, none⟩), .bool true]) ∧ w.heap.size ≤ sb ∧ SpS w' lo hi sb gs h ra rc cb 0 cc (startsF gs h) ∧ (∀ o, w'.frozen? ⟨sb, o, none⟩ = false) ∧ LogAt w' S sb h.log ∧ sb < S ∧ S ≤ w'.heap.size))
theorem rec_drewS {X : World} {b : Nat} {T : TypeId} {vs : List Value} (h : Rec X b T vs) : Rec X.drew b T vs := h

set_option maxRecDepth 100000 in
set_option maxHeartbeats 8000000 in
theorem spaceMade_any (ga : Option Addr) (gc lo hi : Nat) (gs : List (List Ty)) (h : GHeap) (wa la : Option Addr) (wc lc hi' : Nat) (w : World) (hN : Few gs) (hl : lo ≤ hi) (hh : hi ≤ w.heap.size) (hx : GroupsIn w lo hi ga gs) (hp : pow10 w) (hW : HIn w 0 hi' h wa la wc lc) (hh' : hi' ≤ w.heap.size)
 (hwl : h.words.length ≤ 1048576) (ho : i64 h.old) (ha : i64 h.oldAt) (hy : i64 h.youngAt) (hk : kinOkF gs = true) (hsz : sizeF h = true) :
 Calls Tryz.prog 38 #[.slice ga gs.length gc, heapV h wa la wc lc] w fun e w' => SpOut gs h w e w' := by
 have B0 := hide (two_b w (.cells #[.slice wa h.words.length wc, .int .i64 h.old, .int .i64 h.oldAt, .int .i64 h.youngAt, .slice la h.log.length lc] 33))
 have RH := hide (Rec.new w 33 [.slice wa h.words.length wc, .int .i64 h.old, .int .i64 h.oldAt, .int .i64 h.youngAt, .slice la h.log.length lc])
 have HC := hide (kinTableOf_ok ga gc lo hi gs _ hN hl (Nat.le_trans hh B0.out.size) (hx.keep (B0.out.mono hh)) (pow10_keep hp B0.out) hk)
 have HSZ := hide (fun (W : World) => implHeapSizesOk_any h wa la wc lc 0 0 W hwl ho ha hy)
 rw [hsz] at HSZ
 have HBD := fun (x y : Value) (W : World) => run_build_space x y W
 unfold heapV
 clear hx hp hN
 have hmo : Tryz.prog.follows .mixedOrders = true := by kernel_rfl
 go_enter Tryz.func38, Tryz.ntmps38
 go_wp2_with fail
 refine HC.out.mono ?_
 rintro e w1 ⟨ra, rc, cb, rfl, ht, hb1⟩
 have BT := two_b w1 (.cells #[.slice ra (kinCount gs) rc, .slice (some ⟨cb, 0, none⟩) (kinCount gs) (kinCount gs)] 93)
 obtain ⟨w2, hw2⟩ : ∃ w2, w2 = w1.alloc (.cells #[.slice ra (kinCount gs) rc, .slice (some ⟨cb, 0, none⟩) (kinCount gs) (kinCount gs)] 93) := ⟨_, rfl⟩
 have B2 : Hid (Below w.heap.size w w2) := by show Below _ _ _; rw [hw2]; exact (B0.out.trans (hb1.mono B0.out.size)).trans (BT.mono (Nat.le_trans B0.out.size hb1.size))
 have RT2 : Hid (Rec w2 w1.heap.size 93 [.slice ra (kinCount gs) rc, .slice (some ⟨cb, 0, none⟩) (kinCount gs) (kinCount gs)]) := by show Rec _ _ _ _; rw [hw2]; exact Rec.new _ _ _
 have RH2 : Hid (Rec w2 w.heap.size 33 [.slice wa h.words.length wc, .int .i64 h.old, .int .i64 h.oldAt, .int .i64 h.youngAt, .slice la h.log.length lc]) := by show Rec _ _ _ _; rw [hw2]; exact Rec.alloc (RH.out.below hb1 RH.out.lt) _
 have TI2 : Hid (TabIn w2 lo w1.heap.size ra cb 0 gs) := by show TabIn _ _ _ _ _ _ _; rw [hw2]; exact ht.keep (BT)
 have hl1 : w.heap.size < w1.heap.size := Nat.lt_of_lt_of_le RH.out.lt hb1.size
 have h0 := (RH.out.below hb1 RH.out.lt).cell (o := 0) rfl
 have h1 := (RH.out.below hb1 RH.out.lt).cell (o := 1) rfl
 have h2 := (RH.out.below hb1 RH.out.lt).cell (o := 2) rfl
 have h3 := (RH.out.below hb1 RH.out.lt).cell (o := 3) rfl
 have h4 := (RH.out.below hb1 RH.out.lt).cell (o := 4) rfl
 clear hb1 ht BT B0 RH HC
 go_wp2_with fail
 rw [← hw2]
 clear hw2 h0 h1 h2 h3 h4
 refine (HSZ.out _).mono ?_
 rintro e w3 ⟨rfl, b3⟩
 have B3 := hide (B2.out.trans (b3.mono B2.out.size))
 have RT3 := hide (RT2.out.below b3 RT2.out.lt)
 have RH3 := hide (RH2.out.below b3 RH2.out.lt)
 have TI3 := hide (TI2.out.keep (b3.mono (Nat.le_of_lt RT2.out.lt)))
 have t0 := RT3.out.cell (o := 0) rfl
 have t1 := RT3.out.cell (o := 1) rfl
 have hl3 : w1.heap.size < w3.heap.size := RT3.out.lt
 have hl4 : w.heap.size < w3.heap.size := RH3.out.lt
 clear b3 B2 RT2 RH2 TI2 HSZ
 go_wp2_with fail
 obtain ⟨Z, hZ⟩ : ∃ Z, Z = spaceZ (.slice ra (kinCount gs) rc) (.slice (some ⟨cb, 0, none⟩) (kinCount gs) (kinCount gs)) := ⟨_, rfl⟩
 have hZl : Z.length = 492 := by rw [hZ]; exact spaceZ_len _ _
 have HEND := hide (spaceZ_ends (.slice ra (kinCount gs) rc) (.slice (some ⟨cb, 0, none⟩) (kinCount gs) (kinCount gs)))
 have HSTZ := hide (fun (n : Nat) (hn : n < 160) => spaceZ_starts (.slice ra (kinCount gs) rc) (.slice (some ⟨cb, 0, none⟩) (kinCount gs) (kinCount gs)) hn)
 rw [← hZ] at HEND HSTZ
 rw [spaceCells, ← hZ]
 obtain ⟨W4, hW4⟩ : ∃ W4, W4 = w3.alloc (.cells Z.toArray 106) := ⟨_, rfl⟩
 have BB := two_b w3 (.cells Z.toArray 106)
 have R4 : Hid (Rec W4 w3.heap.size 106 Z) := by show Rec _ _ _ _; rw [hW4]; exact Rec.new _ _ _
 have B4 : Hid (Below w.heap.size w W4) := by show Below _ _ _; rw [hW4]; exact B3.out.trans (BB.mono B3.out.size)
 have BS : Hid (Below w3.heap.size w3 W4) := by show Below _ _ _; rw [hW4]; exact BB
 rw [← hW4]
 clear hW4 BB t0 t1
 have RH4 := hide (RH3.out.below BS.out RH3.out.lt)
 have h0 := RH4.out.cell (o := 0) rfl
 have hs := (sizeF_iff h).1 hsz
 obtain ⟨wb, wo, hwe, _, hwb, hwc⟩ : ∃ wb wo, wa = some ⟨wb, wo, none⟩ ∧ 0 ≤ wb ∧ wb < hi' ∧ ∀ i, i < h.words.length → w.cell? ⟨wb, wo + i, none⟩ = some (.int .i64 (nAt h.words i)) := by
  rcases hW.ws with h0 | h0
  ·have h1 := hs.n1
   have h2 := hs.o1
   rw [h0] at h1
   simp at h1
   omega
  ·exact h0
 subst hwe
 have hn160 : h.words.length ≤ 160 := by have := hs.n1; have := hs.n2; have := hs.o2; omega
 have hsrc : Hid (∀ j v, (numsV h.words)[j]? = some v → W4.drew.cell? ((⟨wb, wo, none⟩ : Addr).add j) = some v) := fun j v hj => by
  have hjl : j < h.words.length := by rw [← numsV_len h.words]; exact (List.getElem?_eq_some_iff.1 hj).1
  have e : v = .int .i64 (nAt h.words j) := by
   unfold numsV at hj
   rw [List.getElem?_map, List.getElem?_eq_getElem hjl] at hj
   have : nAt h.words j = h.words[j] := by show List.getD _ _ _ = _; rw [List.getD_eq_getElem?_getD, List.getElem?_eq_getElem hjl]; rfl
   rw [this]
   exact (Option.some.inj hj).symm
  subst e
  have ea : (⟨wb, wo, none⟩ : Addr).add j = ⟨wb, wo + j, none⟩ := by first | rfl | simp [Addr.add]
  rw [ea]
  exact (B4.out.drew.cell (p := ⟨wb, wo + j, none⟩) (by show wb < w.heap.size; omega)).trans (hwc j hjl)
 have hcsl := numsV_len h.words
 have hone := hide (numsV_one h.words)
 have HNV0 := hide (fun (i : Nat) (hi : i < h.words.length) => (by unfold numsV; rw [List.getElem?_map, List.getElem?_eq_getElem hi]; show some (Value.int .i64 h.words[i]) = some (.int .i64 (h.words.getD i 0)); rw [List.getD_eq_getElem?_getD, List.getElem?_eq_getElem hi]; rfl : (numsV h.words)[i]? = some (.int .i64 (nAt h.words i))))
 generalize numsV h.words = NV at *
 have HNV : Hid (∀ i, i < h.words.length → NV[i]? = some (.int .i64 (nAt h.words i))) := HNV0.out
 have HWB : Hid (∀ i, -9223372036854775808 ≤ nAt h.words i ∧ nAt h.words i ≤ 9223372036854775807) := hW.wb
 clear HNV0
 have R4d := hide (rec_drewS R4.out)
 have hmin : Hid (h.words.length = Nat.min h.words.length 160) := by show _ = _; exact (Nat.min_eq_left hn160).symm
 have hc1 : Hid (NV.length = h.words.length * 1) := by show _ = _; omega
 have hz : Hid (2 + NV.length ≤ Z.length) := by show _ ≤ _; omega
 have hZL := hide hZl
 have HLG : Hid (IntsIn w 0 hi' la h.log) := hW.lg
 have HLL : Hid (h.log.length ≤ 1048576) := hW.ll
 clear hZ hZl hcsl hwc hW
 go_region_law ((refine step_copy_rowk (by rfl) _ _ _ _ (by rfl) 3 1 h.words.length Tryz.underlying23 (by kernel_rfl) w3.heap.size 2 160 160 ⟨wb, wo, none⟩ h.words.length wc (by kernel_rfl) (by kernel_rfl) 106 Z NV R4d.out hmin.out hc1.out hsrc.out hz.out hone.out w.heap.size w B4.out.drew (by omega) ?_; intro w5 h5 k5 B5))
 have hz5 := hz.out
 obtain ⟨Z5, hZ5⟩ : ∃ Z5, Z5 = splice Z 2 NV := ⟨_, rfl⟩
 have hZ5l : Z5.length = 492 := by rw [hZ5, splice_len hz5]; exact hZL.out
 have HO5 : Hid (∀ o, (o < 2 ∨ 2 + NV.length ≤ o) → Z5[o]? = Z[o]?) := fun o ho => by rw [hZ5]; exact splice_out hz5 ho
 have HI5 : Hid (∀ j, j < NV.length → Z5[2 + j]? = NV[j]?) := fun j hj => by rw [hZ5]; exact splice_in hz5 hj
 rw [← hZ5] at h5
 have hNl : NV.length = h.words.length := by have := hc1.out; omega
 have R5 := hide (Hid.out h5)
 have RH5 : Hid (Rec w5 w.heap.size 33 [.slice (some ⟨wb, wo, none⟩) h.words.length wc, .int .i64 h.old, .int .i64 h.oldAt, .int .i64 h.youngAt, .slice la h.log.length lc]) := (Hid.out k5 _ (by omega)).trans RH4.out
 have o0 := RH5.out.cell (o := 0) rfl
 have o1 := RH5.out.cell (o := 1) rfl
 have o2 := RH5.out.cell (o := 2) rfl
 have o3 := RH5.out.cell (o := 3) rfl
 have c0 := R5.out.cell ((HO5.out 162 (by omega)).trans HEND.out.1.2.1)
 have c1 := R5.out.cell ((HO5.out 163 (by omega)).trans HEND.out.1.2.2.1)
 have c2 := R5.out.cell ((HO5.out 164 (by omega)).trans HEND.out.1.2.2.2.1)
 have f0 := R5.out.frozen 162
 have f1 := R5.out.frozen 163
 have f2 := R5.out.frozen 164
 have z0 : 0 ≤ h.old := by have := hs.o1; omega
 have z1 : h.old ≤ 160 := by have := hs.o2; omega
 clear hZ5 h0
 have R5z := R5.out
 obtain ⟨W6, hW6⟩ : ∃ W6, W6 = (((w5.setCell ⟨w3.heap.size, 162, none⟩ (.slice (some ⟨w3.heap.size, 2, none⟩) h.old.toNat 160)).setCell ⟨w3.heap.size, 163, none⟩ (.int .i64 0)).setCell ⟨w3.heap.size, 164, none⟩ (.int .i64 h.oldAt)).drew := ⟨_, rfl⟩
 have R6 : Hid (Rec W6 w3.heap.size 106 (((Z5.set 162 (.slice (some ⟨w3.heap.size, 2, none⟩) h.old.toNat 160)).set 163 (.int .i64 0)).set 164 (.int .i64 h.oldAt))) := by show Rec _ _ _ _; rw [hW6]; exact rec_drewS (((R5z.set 162 _).set 163 _).set 164 _)
 have k6 : Hid (∀ j, j ≠ w3.heap.size → W6.heap[j]? = w5.heap[j]?) := fun j hj => by rw [hW6]; exact (Below.heap_setCell _ _ _ _ hj).trans ((Below.heap_setCell _ _ _ _ hj).trans (Below.heap_setCell _ _ _ _ hj))
 have B6 : Hid (Below w.heap.size w W6) := by show Below _ _ _; rw [hW6]; exact ((((Hid.out B5).setCell (by show w.heap.size ≤ w3.heap.size; omega) _).setCell (by show w.heap.size ≤ w3.heap.size; omega) _).setCell (by show w.heap.size ≤ w3.heap.size; omega) _).drew
 have RH6 : Hid (Rec W6 w.heap.size 33 [.slice (some ⟨wb, wo, none⟩) h.words.length wc, .int .i64 h.old, .int .i64 h.oldAt, .int .i64 h.youngAt, .slice la h.log.length lc]) := (k6.out _ (by omega)).trans RH5.out
 go_wp2_with fail
 refine wp_region_held_drew (S := (fun w' => w'.cell? ⟨w.heap.size, 0, none⟩ = some (.slice (some ⟨wb, wo, none⟩) h.words.length wc) ∧ w'.cell? ⟨w.heap.size, 1, none⟩ = some (.int .i64 h.old) ∧ w'.cell? ⟨w.heap.size, 2, none⟩ = some (.int .i64 h.oldAt) ∧ w'.cell? ⟨w.heap.size, 3, none⟩ = some (.int .i64 h.youngAt))) hmo ⟨o0, o1, o2, o3⟩ (fun hHeld => ?_)
 refine takeL (i := 0) (v := ?va_0) rfl (by kernel_rfl) (by kernel_rfl) (by kernel_rfl) (fun _ _ _ h => h) (by kernel_rfl) (by assumption) ?ya_0 ?ra_0
 case ya_0 => (intro w hSw; (try dsimp only at hSw); go_simp; try with_reducible rfl)
 (try simp only [Act.put, List.setIfInBounds_toArray, List.set_cons_zero, List.set_cons_succ])
 refine takeL (i := 1) (v := ?va_1) rfl (by kernel_rfl) (by kernel_rfl) (by kernel_rfl) (fun _ _ _ h => h) (by kernel_rfl) (by assumption) ?ya_1 ?ra_1
 case ya_1 => (intro w hSw; (try dsimp only at hSw); go_simp; try with_reducible rfl)
 (try simp only [Act.put, List.setIfInBounds_toArray, List.set_cons_zero, List.set_cons_succ])
 refine takeL (i := 2) (v := ?va_2) rfl (by kernel_rfl) (by kernel_rfl) (by kernel_rfl) (fun _ _ _ h => h) (by kernel_rfl) (by assumption) ?ya_2 ?ra_2
 case ya_2 => (intro w hSw; (try dsimp only at hSw); go_simp; try with_reducible rfl)
 (try simp only [Act.put, List.setIfInBounds_toArray, List.set_cons_zero, List.set_cons_succ])
 refine takeL (i := 3) (v := ?va_3) rfl (by kernel_rfl) (by kernel_rfl) (by kernel_rfl) (fun _ _ _ h => h) (by kernel_rfl) (by assumption) ?ya_3 ?ra_3
 case ya_3 => (intro w hSw; (try dsimp only at hSw); go_simp; try with_reducible rfl)
 (try simp only [Act.put, List.setIfInBounds_toArray, List.set_cons_zero, List.set_cons_succ])
 refine takeL (i := 4) (v := ?va_4) rfl (by kernel_rfl) (by kernel_rfl) (by kernel_rfl) (fun _ _ _ h => h) (by kernel_rfl) (by assumption) ?ya_4 ?ra_4
 case ya_4 => (intro w hSw; (try dsimp only at hSw); go_simp; try with_reducible rfl)
 (try simp only [Act.put, List.setIfInBounds_toArray, List.set_cons_zero, List.set_cons_succ])
 refine takeL (i := 5) (v := ?va_5) rfl (by kernel_rfl) (by kernel_rfl) (by kernel_rfl) (fun _ _ _ h => h) (by kernel_rfl) (by assumption) ?ya_5 ?ra_5
 case ya_5 => (intro w hSw; (try dsimp only at hSw); go_simp; try with_reducible rfl)
 (try simp only [Act.put, List.setIfInBounds_toArray, List.set_cons_zero, List.set_cons_succ])
 refine takeL (i := 6) (v := ?va_6) rfl (by kernel_rfl) (by kernel_rfl) (by kernel_rfl) (fun _ _ _ h => h) (by kernel_rfl) (by assumption) ?ya_6 ?ra_6
 case ya_6 => (intro w hSw; (try dsimp only at hSw); go_simp; try with_reducible rfl)
 (try simp only [Act.put, List.setIfInBounds_toArray, List.set_cons_zero, List.set_cons_succ])
 refine takeL (i := 7) (v := ?va_7) rfl (by kernel_rfl) (by kernel_rfl) (by kernel_rfl) (fun _ _ _ h => h) (by kernel_rfl) (by assumption) ?ya_7 ?ra_7
 case ya_7 => (intro w hSw; (try dsimp only at hSw); go_simp; try with_reducible rfl)
 (try simp only [Act.put, List.setIfInBounds_toArray, List.set_cons_zero, List.set_cons_succ])
 refine takeL (i := 8) (v := ?va_8) rfl (by kernel_rfl) (by kernel_rfl) (by kernel_rfl) (fun _ _ _ h => h) (by kernel_rfl) (by assumption) ?ya_8 ?ra_8
 case ya_8 => (intro w hSw; (try dsimp only at hSw); go_simp; try with_reducible rfl)
 (try simp only [Act.put, List.setIfInBounds_toArray, List.set_cons_zero, List.set_cons_succ])
 refine takeL (i := 9) (v := ?va_9) rfl (by kernel_rfl) (by kernel_rfl) (by kernel_rfl) (fun _ _ _ h => h) (by kernel_rfl) (by assumption) ?ya_9 ?ra_9
 case ya_9 => (intro w hSw; (try dsimp only at hSw); go_simp; try with_reducible rfl)
 (try simp only [Act.put, List.setIfInBounds_toArray, List.set_cons_zero, List.set_cons_succ])
 refine takeL (i := 10) (v := ?va_10) rfl (by kernel_rfl) (by kernel_rfl) (by kernel_rfl) (fun _ _ _ h => h) (by kernel_rfl) (by assumption) ?ya_10 ?ra_10
 case ya_10 => (intro w hSw; (try dsimp only at hSw); go_simp; try with_reducible rfl)
 (try simp only [Act.put, List.setIfInBounds_toArray, List.set_cons_zero, List.set_cons_succ])
 refine takeL (i := 11) (v := ?va_11) rfl (by kernel_rfl) (by kernel_rfl) (by kernel_rfl) (fun _ _ _ h => h) (by kernel_rfl) (by assumption) ?ya_11 ?ra_11
 case ya_11 => (intro w hSw; (try dsimp only at hSw); go_simp; try with_reducible rfl)
 (try simp only [Act.put, List.setIfInBounds_toArray, List.set_cons_zero, List.set_cons_succ])
 refine doL (i := 12) rfl (by kernel_rfl) (fun K hK => ?_)
 go_simp
 rw [← hW6]
 clear hW6 o0 o1 o2 o3 c0 c1 c2 f0 f1 f2
 have o0 := RH6.out.cell (o := 0) rfl
 have o1 := RH6.out.cell (o := 1) rfl
 have o2 := RH6.out.cell (o := 2) rfl
 have o3 := RH6.out.cell (o := 3) rfl
 refine hK.out _ _ ⟨o0, o1, o2, o3⟩ (fun hHeld2 => ?_)
 clear hK K hHeld hHeld2
 (try simp only [Act.put, List.setIfInBounds_toArray, List.set_cons_zero, List.set_cons_succ])
 refine wpAnyH_done (by kernel_rfl) ?_ _
 obtain ⟨Z6, hZ6⟩ : ∃ Z6, Z6 = (((Z5.set 162 (.slice (some ⟨w3.heap.size, 2, none⟩) h.old.toNat 160)).set 163 (.int .i64 0)).set 164 (.int .i64 h.oldAt)) := ⟨_, rfl⟩
 rw [← hZ6] at R6
 have HO6 : Hid (∀ o, (o ≠ 162 ∧ o ≠ 163 ∧ o ≠ 164) → Z6[o]? = Z5[o]?) := fun o ho => by
  rw [hZ6, List.getElem?_set_ne (by omega), List.getElem?_set_ne (by omega), List.getElem?_set_ne (by omega)]
 have c0 := R6.out.cell ((HO6.out 165 (by omega)).trans ((HO5.out 165 (by omega)).trans HEND.out.1.2.2.2.2.1))
 have c1 := R6.out.cell ((HO6.out 166 (by omega)).trans ((HO5.out 166 (by omega)).trans HEND.out.1.2.2.2.2.2.1))
 have c2 := R6.out.cell ((HO6.out 167 (by omega)).trans ((HO5.out 167 (by omega)).trans HEND.out.1.2.2.2.2.2.2))
 have f0 := R6.out.frozen 165
 have f1 := R6.out.frozen 166
 have f2 := R6.out.frozen 167
 have z2 : h.old ≤ (h.words.length : Int) := hs.n1
 have z3 : (h.words.length : Int) ≤ 160 := by omega
 have z4 : (0 : Int) ≤ (h.words.length : Int) := by omega
 have z5 : ¬ 160 = h.old.toNat := by have := hs.o2; omega
 have R6z := R6.out
 obtain ⟨W7, hW7⟩ : ∃ W7, W7 = (((W6.setCell ⟨w3.heap.size, 165, none⟩ (.slice (some ⟨w3.heap.size, 2 + h.old.toNat, none⟩) (h.words.length - h.old.toNat) (160 - h.old.toNat))).setCell ⟨w3.heap.size, 166, none⟩ (.int .i64 h.old)).setCell ⟨w3.heap.size, 167, none⟩ (.int .i64 h.youngAt)).drew := ⟨_, rfl⟩
 have R7 : Hid (Rec W7 w3.heap.size 106 (((Z6.set 165 (.slice (some ⟨w3.heap.size, 2 + h.old.toNat, none⟩) (h.words.length - h.old.toNat) (160 - h.old.toNat))).set 166 (.int .i64 h.old)).set 167 (.int .i64 h.youngAt))) := by show Rec _ _ _ _; rw [hW7]; exact rec_drewS (((R6z.set 165 _).set 166 _).set 167 _)
 have k7 : Hid (∀ j, j ≠ w3.heap.size → W7.heap[j]? = W6.heap[j]?) := fun j hj => by rw [hW7]; exact (Below.heap_setCell _ _ _ _ hj).trans ((Below.heap_setCell _ _ _ _ hj).trans (Below.heap_setCell _ _ _ _ hj))
 have B7 : Hid (Below w.heap.size w W7) := by show Below _ _ _; rw [hW7]; exact (((B6.out.setCell (by show w.heap.size ≤ w3.heap.size; omega) _).setCell (by show w.heap.size ≤ w3.heap.size; omega) _).setCell (by show w.heap.size ≤ w3.heap.size; omega) _).drew
 have RH7 : Hid (Rec W7 w.heap.size 33 [.slice (some ⟨wb, wo, none⟩) h.words.length wc, .int .i64 h.old, .int .i64 h.oldAt, .int .i64 h.youngAt, .slice la h.log.length lc]) := (k7.out _ (by omega)).trans RH6.out
 go_wp2_with fail
 refine wp_region_held_drew (S := (fun w' => w'.cell? ⟨w.heap.size, 0, none⟩ = some (.slice (some ⟨wb, wo, none⟩) h.words.length wc) ∧ w'.cell? ⟨w.heap.size, 1, none⟩ = some (.int .i64 h.old) ∧ w'.cell? ⟨w.heap.size, 2, none⟩ = some (.int .i64 h.oldAt) ∧ w'.cell? ⟨w.heap.size, 3, none⟩ = some (.int .i64 h.youngAt))) hmo ⟨o0, o1, o2, o3⟩ (fun hHeld => ?_)
 refine takeL (i := 0) (v := ?vb_0) rfl (by kernel_rfl) (by kernel_rfl) (by kernel_rfl) (fun _ _ _ h => h) (by kernel_rfl) (by assumption) ?yb_0 ?rb_0
 case yb_0 => (intro w hSw; (try dsimp only at hSw); go_simp; try with_reducible rfl)
 (try simp only [Act.put, List.setIfInBounds_toArray, List.set_cons_zero, List.set_cons_succ])
 refine takeL (i := 1) (v := ?vb_1) rfl (by kernel_rfl) (by kernel_rfl) (by kernel_rfl) (fun _ _ _ h => h) (by kernel_rfl) (by assumption) ?yb_1 ?rb_1
 case yb_1 => (intro w hSw; (try dsimp only at hSw); go_simp; try with_reducible rfl)
 (try simp only [Act.put, List.setIfInBounds_toArray, List.set_cons_zero, List.set_cons_succ])
 refine takeL (i := 2) (v := ?vb_2) rfl (by kernel_rfl) (by kernel_rfl) (by kernel_rfl) (fun _ _ _ h => h) (by kernel_rfl) (by assumption) ?yb_2 ?rb_2
 case yb_2 => (intro w hSw; (try dsimp only at hSw); go_simp; try with_reducible rfl)
 (try simp only [Act.put, List.setIfInBounds_toArray, List.set_cons_zero, List.set_cons_succ])
 refine takeL (i := 3) (v := ?vb_3) rfl (by kernel_rfl) (by kernel_rfl) (by kernel_rfl) (fun _ _ _ h => h) (by kernel_rfl) (by assumption) ?yb_3 ?rb_3
 case yb_3 => (intro w hSw; (try dsimp only at hSw); go_simp; try with_reducible rfl)
 (try simp only [Act.put, List.setIfInBounds_toArray, List.set_cons_zero, List.set_cons_succ])
 refine takeL (i := 4) (v := ?vb_4) rfl (by kernel_rfl) (by kernel_rfl) (by kernel_rfl) (fun _ _ _ h => h) (by kernel_rfl) (by assumption) ?yb_4 ?rb_4
 case yb_4 => (intro w hSw; (try dsimp only at hSw); go_simp; try with_reducible rfl)
 (try simp only [Act.put, List.setIfInBounds_toArray, List.set_cons_zero, List.set_cons_succ])
 refine takeL (i := 5) (v := ?vb_5) rfl (by kernel_rfl) (by kernel_rfl) (by kernel_rfl) (fun _ _ _ h => h) (by kernel_rfl) (by assumption) ?yb_5 ?rb_5
 case yb_5 => (intro w hSw; (try dsimp only at hSw); go_simp; try with_reducible rfl)
 (try simp only [Act.put, List.setIfInBounds_toArray, List.set_cons_zero, List.set_cons_succ])
 refine takeL (i := 6) (v := ?vb_6) rfl (by kernel_rfl) (by kernel_rfl) (by kernel_rfl) (fun _ _ _ h => h) (by kernel_rfl) (by assumption) ?yb_6 ?rb_6
 case yb_6 => (intro w hSw; (try dsimp only at hSw); go_simp; try with_reducible rfl)
 (try simp only [Act.put, List.setIfInBounds_toArray, List.set_cons_zero, List.set_cons_succ])
 refine takeL (i := 7) (v := ?vb_7) rfl (by kernel_rfl) (by kernel_rfl) (by kernel_rfl) (fun _ _ _ h => h) (by kernel_rfl) (by assumption) ?yb_7 ?rb_7
 case yb_7 => (intro w hSw; (try dsimp only at hSw); go_simp; try with_reducible rfl)
 (try simp only [Act.put, List.setIfInBounds_toArray, List.set_cons_zero, List.set_cons_succ])
 refine takeL (i := 8) (v := ?vb_8) rfl (by kernel_rfl) (by kernel_rfl) (by kernel_rfl) (fun _ _ _ h => h) (by kernel_rfl) (by assumption) ?yb_8 ?rb_8
 case yb_8 => (intro w hSw; (try dsimp only at hSw); go_simp; try with_reducible rfl)
 (try simp only [Act.put, List.setIfInBounds_toArray, List.set_cons_zero, List.set_cons_succ])
 refine takeL (i := 9) (v := ?vb_9) rfl (by kernel_rfl) (by kernel_rfl) (by kernel_rfl) (fun _ _ _ h => h) (by kernel_rfl) (by assumption) ?yb_9 ?rb_9
 case yb_9 => (intro w hSw; (try dsimp only at hSw); go_simp; try with_reducible rfl)
 (try simp only [Act.put, List.setIfInBounds_toArray, List.set_cons_zero, List.set_cons_succ])
 refine takeL (i := 10) (v := ?vb_10) rfl (by kernel_rfl) (by kernel_rfl) (by kernel_rfl) (fun _ _ _ h => h) (by kernel_rfl) (by assumption) ?yb_10 ?rb_10
 case yb_10 => (intro w hSw; (try dsimp only at hSw); go_simp; try with_reducible rfl)
 (try simp only [Act.put, List.setIfInBounds_toArray, List.set_cons_zero, List.set_cons_succ])
 refine takeL (i := 11) (v := ?vb_11) rfl (by kernel_rfl) (by kernel_rfl) (by kernel_rfl) (fun _ _ _ h => h) (by kernel_rfl) (by assumption) ?yb_11 ?rb_11
 case yb_11 => (intro w hSw; (try dsimp only at hSw); go_simp; try with_reducible rfl)
 (try simp only [Act.put, List.setIfInBounds_toArray, List.set_cons_zero, List.set_cons_succ])
 refine takeL (i := 12) (v := ?vb_12) rfl (by kernel_rfl) (by kernel_rfl) (by kernel_rfl) (fun _ _ _ h => h) (by kernel_rfl) (by assumption) ?yb_12 ?rb_12
 case yb_12 => (intro w hSw; (try dsimp only at hSw); go_simp; try with_reducible rfl)
 (try simp only [Act.put, List.setIfInBounds_toArray, List.set_cons_zero, List.set_cons_succ])
 refine takeL (i := 13) (v := ?vb_13) rfl (by kernel_rfl) (by kernel_rfl) (by kernel_rfl) (fun _ _ _ h => h) (by kernel_rfl) (by assumption) ?yb_13 ?rb_13
 case yb_13 => (intro w hSw; (try dsimp only at hSw); go_simp; try with_reducible rfl)
 (try simp only [Act.put, List.setIfInBounds_toArray, List.set_cons_zero, List.set_cons_succ])
 refine takeL (i := 14) (v := ?vb_14) rfl (by kernel_rfl) (by kernel_rfl) (by kernel_rfl) (fun _ _ _ h => h) (by kernel_rfl) (by assumption) ?yb_14 ?rb_14
 case yb_14 => (intro w hSw; (try dsimp only at hSw); go_simp; try with_reducible rfl)
 (try simp only [Act.put, List.setIfInBounds_toArray, List.set_cons_zero, List.set_cons_succ])
 refine takeL (i := 15) (v := ?vb_15) rfl (by kernel_rfl) (by kernel_rfl) (by kernel_rfl) (fun _ _ _ h => h) (by kernel_rfl) (by assumption) ?yb_15 ?rb_15
 case yb_15 => (intro w hSw; (try dsimp only at hSw); go_simp; try with_reducible rfl)
 (try simp only [Act.put, List.setIfInBounds_toArray, List.set_cons_zero, List.set_cons_succ])
 refine takeL (i := 16) (v := ?vb_16) rfl (by kernel_rfl) (by kernel_rfl) (by kernel_rfl) (fun _ _ _ h => h) (by kernel_rfl) (by assumption) ?yb_16 ?rb_16
 case yb_16 => (intro w hSw; (try dsimp only at hSw); go_simp; try with_reducible rfl)
 (try simp only [Act.put, List.setIfInBounds_toArray, List.set_cons_zero, List.set_cons_succ])
 refine doL (i := 17) rfl (by kernel_rfl) (fun K hK => ?_)
 go_simp
 rw [← hW7]
 clear hW7 o0 o1 o2 o3 c0 c1 c2 f0 f1 f2
 have o0 := RH7.out.cell (o := 0) rfl
 have o1 := RH7.out.cell (o := 1) rfl
 have o2 := RH7.out.cell (o := 2) rfl
 have o3 := RH7.out.cell (o := 3) rfl
 refine hK.out _ _ ⟨o0, o1, o2, o3⟩ (fun hHeld2 => ?_)
 clear hK K hHeld hHeld2
 (try simp only [Act.put, List.setIfInBounds_toArray, List.set_cons_zero, List.set_cons_succ])
 refine wpAnyH_done (by kernel_rfl) ?_ _
 have HH : HOk gs h := ⟨kinOk_parts hk, hs, HWB.out⟩
 have hlZ6 : Z6.length = 492 := by rw [hZ6, List.length_set, List.length_set, List.length_set]; exact hZ5l
 have TB7 : TabIn W7 lo w1.heap.size ra cb 0 gs := tab_blocks TI3.out fun j hj => (k7.out j (by omega)).trans ((k6.out j (by omega)).trans ((Hid.out k5 j (by omega)).trans (BS.out.block j (by omega))))
 have HO7 : ∀ o, (o ≠ 165 ∧ o ≠ 166 ∧ o ≠ 167) → (((Z6.set 165 (.slice (some ⟨w3.heap.size, 2 + h.old.toNat, none⟩) (h.words.length - h.old.toNat) (160 - h.old.toNat))).set 166 (.int .i64 h.old)).set 167 (.int .i64 h.youngAt))[o]? = Z6[o]? := fun o ho => by
  rw [List.getElem?_set_ne (by omega), List.getElem?_set_ne (by omega), List.getElem?_set_ne (by omega)]
 have HZZ : ∀ o, (o < 2 ∨ 168 ≤ o) → (((Z6.set 165 (.slice (some ⟨w3.heap.size, 2 + h.old.toNat, none⟩) (h.words.length - h.old.toNat) (160 - h.old.toNat))).set 166 (.int .i64 h.old)).set 167 (.int .i64 h.youngAt))[o]? = Z[o]? := fun o ho => (HO7 o (by omega)).trans ((HO6.out o (by omega)).trans (HO5.out o (by omega)))
 have q1 : ((h.old.toNat : Nat) : Int) = h.old := by have := hs.o1; omega
 have q2 : ((h.oldAt.toNat : Nat) : Int) = h.oldAt := by have := hs.a1; omega
 have q3 : ((h.youngAt.toNat : Nat) : Int) = h.youngAt := by have := hs.y1; omega
 have G2 := (HO7 162 (by omega)).trans (show Z6[162]? = some (.slice (some ⟨w3.heap.size, 2 + 0, none⟩) h.old.toNat 160) by rw [hZ6, List.getElem?_set_ne (by omega), List.getElem?_set_ne (by omega), List.getElem?_set_self (by omega)])
 have G3 := (HO7 163 (by omega)).trans (show Z6[163]? = some (.int .i64 ((0 : Nat) : Int)) by rw [hZ6, List.getElem?_set_ne (by omega), List.getElem?_set_self (by rw [List.length_set]; omega)]; rfl)
 have G4 := (HO7 164 (by omega)).trans (show Z6[164]? = some (.int .i64 ((h.oldAt.toNat : Nat) : Int)) by rw [hZ6, List.getElem?_set_self (by rw [List.length_set, List.length_set]; omega), q2])
 have G5 : (((Z6.set 165 (.slice (some ⟨w3.heap.size, 2 + h.old.toNat, none⟩) (h.words.length - h.old.toNat) (160 - h.old.toNat))).set 166 (.int .i64 h.old)).set 167 (.int .i64 h.youngAt))[165]? = some (.slice (some ⟨w3.heap.size, 2 + h.old.toNat, none⟩) (h.words.length - h.old.toNat) (160 - h.old.toNat)) := by rw [List.getElem?_set_ne (by omega), List.getElem?_set_ne (by omega), List.getElem?_set_self (by omega)]
 have G6 : (((Z6.set 165 (.slice (some ⟨w3.heap.size, 2 + h.old.toNat, none⟩) (h.words.length - h.old.toNat) (160 - h.old.toNat))).set 166 (.int .i64 h.old)).set 167 (.int .i64 h.youngAt))[166]? = some (.int .i64 ((h.old.toNat : Nat) : Int)) := by rw [List.getElem?_set_ne (by omega), List.getElem?_set_self (by rw [List.length_set]; omega), q1]
 have G7 : (((Z6.set 165 (.slice (some ⟨w3.heap.size, 2 + h.old.toNat, none⟩) (h.words.length - h.old.toNat) (160 - h.old.toNat))).set 166 (.int .i64 h.old)).set 167 (.int .i64 h.youngAt))[167]? = some (.int .i64 ((h.youngAt.toNat : Nat) : Int)) := by rw [List.getElem?_set_self (by rw [List.length_set, List.length_set]; omega), q3]
 have SP7 := hide (spa_mk (lo := lo) (hi := w1.heap.size) (gs := gs) (h := h) (cb := cb) (co := 0) R7.out (by omega) TB7 ((HZZ 0 (by omega)).trans HEND.out.1.1.1) ((HZZ 1 (by omega)).trans HEND.out.1.1.2) (fun i hi => (HO7 _ (by omega)).trans ((HO6.out _ (by omega)).trans ((HI5.out i (by omega)).trans (HNV.out i hi)))) G2 G3 G4 G5 G6 G7)
 have ST7 := hide (stAt_mk R7.out fun n hn => ⟨(HZZ _ (by omega)).trans (HSTZ.out n hn).1, (HZZ _ (by omega)).trans (HSTZ.out n hn).2⟩)
 have SB7 : Hid (SbT W7 w3.heap.size) := ⟨_, R7.out⟩
 have LG7 := hide (logAt_mk (S := W7.heap.size) R7.out ((HZZ 488 (by omega)).trans HEND.out.2.1) ((HZZ 489 (by omega)).trans HEND.out.2.2.1) ((HZZ 490 (by omega)).trans HEND.out.2.2.2.1) ((HZZ 491 (by omega)).trans HEND.out.2.2.2.2))
 have EQ := hide (heapOk_eq hk hs)
 have hsw : w.heap.size ≤ w3.heap.size := by omega
 have HFT := hide (findThings_any lo w1.heap.size w3.heap.size ra rc cb 0 (kinCount gs) gs h HH (fun _ => 0) W7 SP7.out ST7.out SB7.out)
 have hhi7 : w1.heap.size ≤ W7.heap.size := by have := SP7.out.lt; omega
 generalize hR1 : (wholeF gs h && zeroF h) = R1 at HFT EQ
 clear hR1 G2 G3 G4 G5 G6 G7 HZZ HO7 TB7 HO5 HO6 HI5 HEND HSTZ hZ6 R6z z0 z1 z2 z3 z4 z5
 go_wp2_with fail
 cases R1 with
 | false =>
  refine HFT.out.mono ?_
  rintro e w8 ⟨rfl, k8, s8⟩
  have B8 := hide (B7.out.trans (k8.below (by have := SP7.out.lt; omega) hsw))
  clear k8 s8
  go_wp2_with fail
  refine bodyPost_ret (v := .tuple #[.pointer none, .bool false]) (by simp [results, Tryz.results38, go_sem]) rfl ⟨B8.out, .inl ⟨by rw [EQ.out]; simp, rfl⟩⟩
 | true =>
  refine HFT.out.mono ?_
  rintro e w8 ⟨rfl, k8, s8⟩
  have hlen := HH.len
  have hl8 := SP7.out.lt
  have SPS8 := hide (⟨k8.spa SP7.out hlen hhi7, (s8 rfl).things⟩ : SpS w8 lo w1.heap.size w3.heap.size gs h ra rc cb 0 (kinCount gs) (startsF gs h))
  have B8 := hide (B7.out.trans (k8.below (by omega) hsw))
  have F8 : Hid (∀ o, w8.frozen? ⟨w3.heap.size, o, none⟩ = false) := fun o => (k8.fr o).trans (SB7.out.fr o)
  have L8 := hide (LG7.out.baseF (w' := w8) fun o ho => k8.ws o (.inr ho))
  have RH8 : Hid (Rec w8 w.heap.size 33 [.slice (some ⟨wb, wo, none⟩) h.words.length wc, .int .i64 h.old, .int .i64 h.oldAt, .int .i64 h.youngAt, .slice la h.log.length lc]) := (k8.blk _ (by omega) (by omega)).trans RH7.out
  clear k8 s8
  have HVF := hide (spValsFit_any lo w1.heap.size w3.heap.size ra rc cb 0 (kinCount gs) gs h HH w8 SPS8.out)
  generalize allFits gs h (startsF gs h) = R2 at HVF EQ
  go_wp2_with fail
  cases R2 with
  | false =>
   refine HVF.out.mono ?_
   rintro e w9 ⟨rfl, b9⟩
   have B9 := hide (B8.out.trans (b9.mono B8.out.size))
   clear b9
   go_wp2_with fail
   refine bodyPost_ret (v := .tuple #[.pointer none, .bool false]) (by simp [results, Tryz.results38, go_sem]) rfl ⟨B9.out, .inl ⟨by rw [EQ.out]; simp, rfl⟩⟩
  | true =>
   refine HVF.out.mono ?_
   rintro e w9 ⟨rfl, b9⟩
   have hl9 := SPS8.out.lt
   have SPS9 := hide (SPS8.out.keep b9)
   have B9 := hide (B8.out.trans (b9.mono B8.out.size))
   have F9 : Hid (∀ o, w9.frozen? ⟨w3.heap.size, o, none⟩ = false) := fun o => (frozen_block (b9.block _ hl9) o).trans (F8.out o)
   have L9 := hide (L8.out.baseF (w' := w9) fun o _ => b9.cell (p := ⟨w3.heap.size, o, none⟩) hl9)
   have RH9 := hide (RH8.out.below b9 RH8.out.lt)
   have o4 := RH9.out.cell (o := 4) rfl
   clear b9
   have HKL := hide (keepLog_any lo w1.heap.size w3.heap.size ra rc cb 0 (kinCount gs) gs h HH la lc w9 SPS9.out.toSpA F9.out L9.out (intsWide (HLG.out.keep (B9.out.mono hh')) (Nat.le_refl _) (by omega)) HLL.out)
   generalize hR3 : (allTo (logP gs h) h.log.length && yngF gs h) = R3 at HKL EQ
   clear hR3
   go_wp2_with fail
   cases R3 with
   | false =>
    refine HKL.out.mono ?_
    rintro e w10 ⟨rfl, k10, _⟩
    have B10 := hide (B9.out.trans (k10.below B9.out.size hsw))
    clear k10
    go_wp2_with fail
    refine bodyPost_ret (v := .tuple #[.pointer none, .bool false]) (by simp [results, Tryz.results38, go_sem]) rfl ⟨B10.out, .inl ⟨by rw [EQ.out]; simp, rfl⟩⟩
   | true =>
    refine HKL.out.mono ?_
    rintro e w10 ⟨rfl, k10, l10⟩
    have B10 := hide (B9.out.trans (k10.below B9.out.size hsw))
    have S10 := hide (k10.sps SPS9.out hlen (by have := SPS9.out.lt; omega))
    have F10 : Hid (∀ o, w10.frozen? ⟨w3.heap.size, o, none⟩ = false) := fun o => (k10.fr o).trans (F9.out o)
    have L10 := hide (l10 rfl)
    have zS := SPS9.out.lt
    have zT := k10.sz
    clear k10 l10
    go_wp2_with fail
    refine bodyPost_ret (v := .tuple #[.pointer (some ⟨w3.heap.size, 0, none⟩), .bool true]) (by simp [results, Tryz.results38, go_sem]) rfl ⟨B10.out, .inr ⟨by rw [EQ.out]; rfl, w3.heap.size, _, lo, w1.heap.size, ra, rc, cb, kinCount gs, rfl, hsw, S10.out, F10.out, L10.out, zS, zT⟩⟩
end Go.Proofs.YtembifoimiochaaGreatDoor
