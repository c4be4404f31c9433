/- The law FnThingText, walked. -/
import Derived.Test.YthidiabeffgjlaaDoorDrawThing
import Derived.Test.YthidiabeffgjlaaDoorValApp
import Derived.Deep.CutRange
namespace Go.Proofs.YthidiabeffgjlaaDoor
open Go.ChangeShapes Go.WideShapes Go.ChangeAt Go.RowKit Go.Deep
set_option linter.unusedVariables false
set_option linter.unusedSimpArgs false

/-- How many spaces there are. -/
def spc (l : List UInt8) : Nat := l.countP (· == 32)
theorem spc_append (a b : List UInt8) : spc (a ++ b) = spc a + spc b := by simp [spc]
theorem spc_le (l : List UInt8) : spc l ≤ l.length := List.countP_le_length
theorem spc_digit (d : Nat) (h : d < 10) : spc [UInt8.ofNat (48 + d)] = 0 := by
  have : d = 0 ∨ d = 1 ∨ d = 2 ∨ d = 3 ∨ d = 4 ∨ d = 5 ∨ d = 6 ∨ d = 7 ∨ d = 8 ∨ d = 9 := by omega
  rcases this with rfl | rfl | rfl | rfl | rfl | rfl | rfl | rfl | rfl | rfl <;> decide
theorem spc_dec : ∀ n : Nat, spc (Lib.decDigits n) = 0 := by
  intro n
  induction n using Nat.strongRecOn with
  | ind n ih =>
    by_cases h : n < 10
    · rw [Lib.decDigits_one h]
      exact spc_digit n h
    · rw [Lib.decDigits, dif_neg h, spc_append, ih (n / 10) (by omega)]
      rw [Nat.zero_add]
      exact spc_digit (n % 10) (by omega)
theorem spc_itoa (n : Int) : spc (Lib.itoa n) = 0 := by
  unfold Lib.itoa
  split
  · have := spc_dec n.natAbs
    simp [spc] at *
    exact this
  · exact spc_dec _
theorem spc_val (k n : Int) : spc (valTxt k n) = 0 := by
  have := spc_itoa n
  unfold valTxt
  split
  · exact this
  · split
    · simp [spc] at *; exact this
    · split
      · simp [spc] at *; exact this
      · decide
theorem spc_vals (vs : List GVal) : spc (valsTxt vs) = vs.length := by
  induction vs with
  | nil => rfl
  | cons v vs ih =>
    have e : valsTxt (v :: vs) = (32 :: valTxt v.kind v.n) ++ valsTxt vs := by simp [valsTxt]
    rw [e, spc_append, ih]
    have h := spc_val v.kind v.n
    have : spc (32 :: valTxt v.kind v.n) = spc (valTxt v.kind v.n) + 1 := by simp [spc]
    rw [this, h]
    simp
    omega
theorem spc_thing (x : GThing) : spc (thingTxt x) = x.vals.length := by
  rw [thingTxt, spc_append, spc_itoa, spc_vals]; omega
theorem thingTxt_more (t : Int) (vs : List GVal) : thingTxt ⟨t, vs ++ [⟨2, 0⟩]⟩ = thingTxt ⟨t, vs⟩ ++ [32, 45] := by
  simp [thingTxt, valsTxt, valTxt]
theorem thingTxt_len (x : GThing) (h : ThingI x) (hn : x.vals.length ≤ 1048577) : (thingTxt x).length ≤ 100000000 - 100 := by
  have i1 := itoa_len x.typ h.1.1 h.1.2
  have i2 := valsTxt_len x.vals x.vals.length h.2
  rw [List.take_of_length_le (Nat.le_refl _)] at i2
  rw [thingTxt, List.length_append]
  omega
theorem spc_take (s : ByteArray) (k : Nat) (h : k < s.size) : spc (s.data.toList.take (k + 1)) = spc (s.data.toList.take k) + if (s[k].toNat : Int) = 32 then 1 else 0 := by
  have e : s.data.toList.take (k + 1) = s.data.toList.take k ++ [s[k]] := by
    rw [List.take_succ_eq_append_getElem (by simpa using h)]; rfl
  rw [e, spc_append]
  congr 1
  by_cases hs : (s[k].toNat : Int) = 32
  · have : s[k] = 32 := by apply UInt8.toNat_inj.1; show s[k].toNat = 32; omega
    rw [if_pos hs, this]; rfl
  · have : (s[k] == 32) = false := by
      rw [beq_eq_false_iff_ne]
      intro h2
      apply hs
      rw [h2]; rfl
    rw [if_neg hs]
    simp [spc, this]
theorem ThingI.more {t : Int} {vs : List GVal} (h : ThingI ⟨t, vs⟩) : ThingI ⟨t, vs ++ [⟨2, 0⟩]⟩ := h.snoc ⟨by omega, by omega⟩

/-- What is known behind the statement that makes the greater thing. -/
structure ThF (wr W : World) (ub : Nat) (ty : Int) (nb : Option Addr) (nd n : Nat) (xs : List GVal) : Prop where
  u : Rec W ub 25 [.int .i64 ty, .slice nb n nd]
  v : ValsM false W wr.heap.size W.heap.size nb xs
  b : Below wr.heap.size wr W
theorem thF_alloc {wr w7 : World} {nb : Option Addr} {nd : Nat} {xs : List GVal} (hb : Below wr.heap.size wr w7) (hr : ValRow w7 wr.heap.size nb nd xs) (ty : Int) (n : Nat) : ThF wr (w7.alloc (.cells #[.int .i64 ty, .slice nb n nd] 25)) w7.heap.size ty nb nd n xs :=
  ⟨Rec.new _ _ _, (hr.alloc _).vals, hb.alloc hb.size _⟩
theorem thF_set {wr w7 : World} {nb : Option Addr} {nd : Nat} {xs : List GVal} (hb : Below wr.heap.size wr w7) (hr : ValRow w7 wr.heap.size nb nd xs) (ty : Int) (n ub : Nat) (hu : wr.heap.size ≤ ub) (h : Rec w7 ub 25 [.int .i64 0, .slice none 0 0]) : ThF wr ((w7.setCell ⟨ub, 0, none⟩ (.int .i64 ty)).setCell ⟨ub, 1, none⟩ (.slice nb n nd)) ub ty nb nd n xs := by
  have ho : ∀ k, (Value.slice nb xs.length nd).ownBlock = some k → k ≠ ub := by
    intro k hk e
    subst e
    rcases hr.2 with ⟨e1, _⟩ | ⟨g, cap', cur, e1, hS, hg, _⟩
    · rw [e1] at hk; simp [Value.ownBlock] at hk
    · rw [e1] at hk
      simp [Value.ownBlock] at hk
      subst hk
      unfold Rec at h
      rw [hg] at h
      simp at h
  have hr' : ValRow ((w7.setCell ⟨ub, 0, none⟩ (.int .i64 ty)).setCell ⟨ub, 1, none⟩ (.slice nb n nd)) wr.heap.size nb nd xs :=
    owns_of_block hr fun k hk => by rw [Below.heap_setCell _ _ _ _ (ho k hk), Below.heap_setCell _ _ _ _ (ho k hk)]
  exact ⟨(h.set 0 _).set 1 _, hr'.vals, (hb.setCell hu _).setCell hu _⟩

set_option maxHeartbeats 6400000 in
theorem fnThingText_walk (a : Option Addr) (cap n : Nat) (hc : n ≤ cap) (w : World) (hx : BytesIn w w.heap.size a n) (hp : pow10 w) :
    Calls Tryd.prog 3 #[.slice a n cap] w fun e w' => e = .returned (.bool true) ∧ Below w.heap.size w w' := by
  by_cases hbig : 1048576 < n
  · have hb : (1048576 : Int) < (n : Int) := by omega
    go_enter Tryd.func3, Tryd.ntmps3
    go_wp2_with fail
    go_ret
    exact ⟨rfl, Below.refl _ _⟩
  have hb : ¬ ((1048576 : Int) < (n : Int)) := by omega
  obtain ⟨i0, HI0, HZ0, HS0, HB0⟩ := info_parts infoVal
  have HI := hide HI0
  have HZ := hide HZ0
  have HS := hide HS0
  have HB := hide HB0
  have HP := hide hp
  clear HI0 HZ0 HS0 HB0 hp
  go_enter Tryd.func3, Tryd.ntmps3
  go_wp2_with fail
  refine (drawThingText_any a cap n w hc hx).mono ?_
  rintro e w1 ⟨⟨ty, vs⟩, fa, fc, rfl, ti, hl, hv, b1⟩
  have TI := hide ti
  have V1 := hide hv
  have B1 := hide b1
  have hl4 : vs.length ≤ 4 := hl
  clear ti hv b1 hl hx
  simp only
  obtain ⟨tb, htb⟩ : ∃ tb, tb = w1.heap.size := ⟨_, rfl⟩
  have T2 : Hid (Rec (w1.alloc (.cells #[.int .i64 ty, .slice fa vs.length fc] 25)) tb 25 [.int .i64 ty, .slice fa vs.length fc]) := Rec.new' _ _ _ _ htb
  have B2 := hide (below_more B1.out (.cells #[.int .i64 ty, .slice fa vs.length fc] 25))
  have V2 : Hid (ValsM false (w1.alloc (.cells #[.int .i64 ty, .slice fa vs.length fc] 25)) w.heap.size tb fa vs) := by rw [htb]; exact V1.out.keep ((Below.refl _ _).alloc (Nat.le_refl _) _)
  have hs2 : tb ≤ (w1.alloc (.cells #[.int .i64 ty, .slice fa vs.length fc] 25)).heap.size := by simp; omega
  have HTB := hide htb
  have hl5 : vs.length ≤ 1048577 := by omega
  go_wp2_with fail
  rw [← htb]
  refine (implThingText_any fa fc w.heap.size tb ⟨ty, vs⟩ _ hl5 TI.out V2.out hs2 (pow10_keep HP.out B2.out)).mono ?_
  rintro e w3 ⟨rfl, b3⟩
  obtain ⟨s, hs⟩ : ∃ s : ByteArray, s = ⟨(thingTxt ⟨ty, vs⟩).toArray⟩ := ⟨_, rfl⟩
  rw [← hs]
  have HSS := hide hs
  have hsz : s.size ≤ 100000000 - 100 := by rw [hs]; simpa [ByteArray.size] using thingTxt_len ⟨ty, vs⟩ TI.out hl5
  have hsz2 : (s.size : Int) ≤ 100000000 := by omega
  have hcnt : Hid (spc (s.data.toList.take s.size) = vs.length) := by
    show _ = _
    have e : s.data.toList.take s.size = thingTxt ⟨ty, vs⟩ := by rw [hs]; simp [ByteArray.size]
    rw [e, spc_thing]
  have T3 := hide (T2.out.below b3 T2.out.lt)
  have V3 := hide (V2.out.keep (b3.mono hs2))
  have B3 := hide (B2.out.trans (b3.mono B2.out.size))
  have s3 : tb < w3.heap.size := T3.out.lt
  clear b3 hs T2 V2 B2 hs2 htb
  go_wp2_with fail
  go_loopw [5, 6] (fun m i wr => ∃ k : Nat, k ≤ s.size ∧ i = .int .i64 k ∧ m = .int .i64 (spc (s.data.toList.take k) : Nat) ∧ wr = w3) (fun m i wr => s.size - (intOf i).toNat)
  case atStart => exact ⟨0, Nat.zero_le _, rfl, rfl, rfl⟩
  case round =>
    obtain ⟨k, hk, rfl, rfl, hw3⟩ := hrel
    subst hw3
    have hle : spc (s.data.toList.take k) ≤ k := Nat.le_trans (spc_le _) (List.length_take_le _ _)
    by_cases hlt : k < s.size
    · have HK := hide (spc_take s k hlt)
      generalize spc (s.data.toList.take k) = c at *
      by_cases h32 : (s[k].toNat : Int) = 32
      · have g32 : ((s[k].toNat : Int) == 32) = true := by simp [h32]
        have HK2 : Hid (spc (s.data.toList.take (k + 1)) = c + 1) := by show _ = _; rw [HK.out, if_pos h32]
        clear HK h32
        go_wp2_with fail
        exact ⟨⟨k + 1, by omega, by go_num, by rw [HK2.out]; go_num, by trivial⟩, by simp [intOf]; omega⟩
      · have g32 : ((s[k].toNat : Int) == 32) = false := by simp [h32]
        have HK2 : Hid (spc (s.data.toList.take (k + 1)) = c) := by show _ = _; rw [HK.out, if_neg h32]; rfl
        clear HK h32
        go_wp2_with fail
        exact ⟨⟨k + 1, by omega, by go_num, by rw [HK2.out], by trivial⟩, by simp [intOf]; omega⟩
    · have hks : k = s.size := by omega
      subst hks
      have HC : Hid (((spc (s.data.toList.take s.size) : Nat) : Int) = (vs.length : Int)) := by show _ = _; rw [hcnt.out]
      rw [HC.out]
      clear hle hlt hk
      have c0 := T3.out.cell (o := 0) rfl
      have c1 := T3.out.cell (o := 1) rfl
      have s3a : tb < wr.heap.size + 1 := by omega
      have s3b : tb < wr.heap.size + 1 + 1 := by omega
      have s3c : tb < wr.heap.size + 1 + 1 + 1 := by omega
      have s3n : ¬ tb = wr.heap.size := by omega
      have s3m : ¬ tb = wr.heap.size + 1 := by omega
      have s3l : ¬ tb = wr.heap.size + 1 + 1 := by omega
      have s3d : tb < wr.heap.size + 1 + 1 + 1 + 1 := by omega
      have s3e : tb < wr.heap.size + 1 + 1 + 1 + 1 + 1 := by omega
      have a1 : ¬ wr.heap.size + 1 = wr.heap.size := by omega
      have a2 : ¬ wr.heap.size + 1 + 1 = wr.heap.size := by omega
      have a3 : ¬ wr.heap.size + 1 + 1 + 1 = wr.heap.size := by omega
      have b1 : ¬ wr.heap.size = wr.heap.size + 1 := by omega
      have b2 : ¬ wr.heap.size = wr.heap.size + 1 + 1 := by omega
      have b3 : ¬ wr.heap.size = wr.heap.size + 1 + 1 + 1 := by omega
      have n0r := World.new_ne wr _ c0
      have n1r := World.new_ne wr _ c1
      -- REGION
      go_upto_region 11 with fail
      go_cut [7] from 27 to 36 (fun pv wx => ∃ (ub : Nat) (nb : Option Addr) (nd : Nat), pv = .pointer (some ⟨ub, 0, none⟩) ∧ Hid (ThF wr wx ub ty nb nd (vs.length + 1) (vs ++ [⟨2, 0⟩])))
      case first =>
        by_cases hnil : vs = []
        · subst hnil
          have e0 : ([] : List GVal).length = 0 := rfl
          simp only [e0] at *
          clear e0
          go_region_held3 (fun w' => w'.cell? ⟨tb, 0, none⟩ = some (.int .i64 ty) ∧ w'.cell? ⟨tb, 1, none⟩ = some (.slice fa 0 fc)) ((first | (refine ⟨Rec.cell (T := 25) (vs := [.int .i64 ty, .slice fa 0 fc]) (o := 0) ?_ rfl, Rec.cell (T := 25) (vs := [.int .i64 ty, .slice fa 0 fc]) (o := 1) ?_ rfl⟩ <;> (repeat (first | exact T3.out | exact T3.out.below hb7 s3 | refine Rec.alloc ?_ _ | refine Rec.drew ?_ | (refine Rec.other ?_ ?_ _ _; rotate_left; focus (first | omega | (simp; omega)))))) | go_keep)) ((first
            | (refine step_append_nothing _ (by rfl) _ _ (by rfl) _ fa fc (by rfl) (by rfl) ?_)
            | (refine step_append_vals _ (by rfl) _ _ (by rfl) wr.heap.size _ _ [] _ _ _ _ [⟨2, 0⟩] (by rfl) (by rfl) (ValRow.empty _ _ _ (by (repeat (first | (refine blk_new' _ _ _ ?_; focus (first | rfl | omega | (simp; omega) | (simp; done))) | (refine Eq.trans (Below.heap_alloc _ _ _ ?_) ?_; focus (first | rfl | omega | (simp; omega) | (simp; done)))))) (by first | exact Nat.le_refl _ | omega | (simp; omega) | (simp; done))) (one_val (T := 29) _ _ (by (repeat (first | (refine blk_new' _ _ _ ?_; focus (first | rfl | omega | (simp; omega) | (simp; done))) | (refine Eq.trans (Below.heap_alloc _ _ _ ?_) ?_; focus (first | rfl | omega | (simp; omega) | (simp; done))))))) (by simp) (by first | omega | (simp; omega) | (simp; done)) ?_; intro nb nd w7 hrow7 hg7 ho7; (first | (have k70 := grown_cell hg7 (wr.heap.size); simp [Value.ownBlock, a1, a2, a3, b1, b2, b3] at k70) | skip); (first | (have f70 := grown_frozen hg7 (wr.heap.size); simp [Value.ownBlock, a1, a2, a3, b1, b2, b3] at f70) | skip); (first | (have k71 := grown_cell hg7 (wr.heap.size + 1); simp [Value.ownBlock, a1, a2, a3, b1, b2, b3] at k71) | skip); (first | (have f71 := grown_frozen hg7 (wr.heap.size + 1); simp [Value.ownBlock, a1, a2, a3, b1, b2, b3] at f71) | skip); (first | (have k72 := grown_cell hg7 (wr.heap.size + 1 + 1); simp [Value.ownBlock, a1, a2, a3, b1, b2, b3] at k72) | skip); (first | (have f72 := grown_frozen hg7 (wr.heap.size + 1 + 1); simp [Value.ownBlock, a1, a2, a3, b1, b2, b3] at f72) | skip); (first | (have k73 := grown_cell hg7 (wr.heap.size + 1 + 1 + 1); simp [Value.ownBlock, a1, a2, a3, b1, b2, b3] at k73) | skip); (first | (have f73 := grown_frozen hg7 (wr.heap.size + 1 + 1 + 1); simp [Value.ownBlock, a1, a2, a3, b1, b2, b3] at f73) | skip); (first | (have k74 := grown_cell hg7 (wr.heap.size + 1 + 1 + 1 + 1); simp [Value.ownBlock, a1, a2, a3, b1, b2, b3] at k74) | skip); (first | (have f74 := grown_frozen hg7 (wr.heap.size + 1 + 1 + 1 + 1); simp [Value.ownBlock, a1, a2, a3, b1, b2, b3] at f74) | skip);  have hb7 : Below wr.heap.size wr w7 := Below.grown (by (repeat (first | exact Below.refl _ _ | refine Below.alloc ?_ (by first | omega | (simp; omega) | (simp; done)) _ | refine Below.drew ?_))) hg7 (by first | omega | (simp; omega) | (simp; done)) (fun k hk => by simp [Value.ownBlock] at hk; omega); have q7 : tb < w7.heap.size := Nat.lt_of_lt_of_le s3 hb7.size; have c07 := (T3.out.below hb7 s3).cell (o := 0) rfl; have c17 := (T3.out.below hb7 s3).cell (o := 1) rfl; have n07 := World.new_ne w7 _ c07; have n17 := World.new_ne w7 _ c17; have HO7 := hide ho7; have HR7 := hide hrow7; have HG7 := hide hg7; have HB7 := hide hb7; clear ho7 hrow7 hg7)))
          all_goals
            go_wp2_with fail
            go_meet
            first
            | (have F := thF_alloc HB7.out HR7.out ty 1; refine ⟨w7.heap.size, nb, nd, by with_reducible rfl, ?_⟩; with_reducible exact hide F)
            | (have F := thF_set HB7.out HR7.out ty 1 (wr.heap.size) (by omega) (by (repeat (first | (with_reducible refine Rec.grown ?_ HG7.out ?_; rotate_left; focus (first | (simp [Value.ownBlock]; omega) | (simp [Value.ownBlock]; done))) | (with_reducible refine Rec.new' _ _ _ _ ?_; focus (first | omega | (simp; omega) | (simp; done))) | with_reducible refine Rec.alloc ?_ _ | with_reducible refine Rec.drew ?_))); refine ⟨wr.heap.size, nb, nd, rfl, ?_⟩; with_reducible exact hide F)
            | (have F := thF_set HB7.out HR7.out ty 1 (wr.heap.size + 1) (by omega) (by (repeat (first | (with_reducible refine Rec.grown ?_ HG7.out ?_; rotate_left; focus (first | (simp [Value.ownBlock]; omega) | (simp [Value.ownBlock]; done))) | (with_reducible refine Rec.new' _ _ _ _ ?_; focus (first | omega | (simp; omega) | (simp; done))) | with_reducible refine Rec.alloc ?_ _ | with_reducible refine Rec.drew ?_))); refine ⟨wr.heap.size + 1, nb, nd, rfl, ?_⟩; with_reducible exact hide F)
            | (have F := thF_set HB7.out HR7.out ty 1 (wr.heap.size + 1 + 1) (by omega) (by (repeat (first | (with_reducible refine Rec.grown ?_ HG7.out ?_; rotate_left; focus (first | (simp [Value.ownBlock]; omega) | (simp [Value.ownBlock]; done))) | (with_reducible refine Rec.new' _ _ _ _ ?_; focus (first | omega | (simp; omega) | (simp; done))) | with_reducible refine Rec.alloc ?_ _ | with_reducible refine Rec.drew ?_))); refine ⟨wr.heap.size + 1 + 1, nb, nd, rfl, ?_⟩; with_reducible exact hide F)
            | (have F := thF_set HB7.out HR7.out ty 1 (wr.heap.size + 1 + 1 + 1) (by omega) (by (repeat (first | (with_reducible refine Rec.grown ?_ HG7.out ?_; rotate_left; focus (first | (simp [Value.ownBlock]; omega) | (simp [Value.ownBlock]; done))) | (with_reducible refine Rec.new' _ _ _ _ ?_; focus (first | omega | (simp; omega) | (simp; done))) | with_reducible refine Rec.alloc ?_ _ | with_reducible refine Rec.drew ?_))); refine ⟨wr.heap.size + 1 + 1 + 1, nb, nd, rfl, ?_⟩; with_reducible exact hide F)
        · have h0 : Hid (vs ≠ []) := hnil
          clear hnil
          go_region_held3 (fun w' => w'.cell? ⟨tb, 0, none⟩ = some (.int .i64 ty) ∧ w'.cell? ⟨tb, 1, none⟩ = some (.slice fa vs.length fc)) ((first | (refine ⟨Rec.cell (T := 25) (vs := [.int .i64 ty, .slice fa vs.length fc]) (o := 0) ?_ rfl, Rec.cell (T := 25) (vs := [.int .i64 ty, .slice fa vs.length fc]) (o := 1) ?_ rfl⟩ <;> (repeat (first | exact T3.out | exact T3.out.below hb7 s3 | exact T3.out.below hb5 s3 | refine Rec.alloc ?_ _ | refine Rec.drew ?_ | (refine Rec.other ?_ ?_ _ _; rotate_left; focus (first | omega | (simp; omega)))))) | go_keep)) ((first
            | (refine step_append_fresh _ (by rfl) _ _ (by rfl) wr.heap.size _ fa fc w.heap.size tb vs (by rfl) (by rfl) (ValRow.empty _ _ _ (by (repeat (first | (refine blk_new' _ _ _ ?_; focus (first | rfl | omega | (simp; omega) | (simp; done))) | (refine Eq.trans (Below.heap_alloc _ _ _ ?_) ?_; focus (first | rfl | omega | (simp; omega) | (simp; done)))))) (by first | exact Nat.le_refl _ | omega | (simp; omega) | (simp; done))) (V3.out.keep (by (repeat (first | exact Below.refl _ _ | refine Below.alloc ?_ (by first | omega | (simp; omega) | (simp; done)) _ | refine Below.drew ?_)))) h0.out (by omega) (by first | omega | (simp; omega) | (simp; done)) ?_; intro nc w5 hrow5 hs5 hq5; have hrow5u := hrow5; obtain ⟨hc5, hf5⟩ := bcell hq5; (try simp at hrow5); (try simp at hs5); (try simp at hc5); (try simp at hf5); have hb5 : Below wr.heap.size wr w5 := Below.trans (by (repeat (first | exact Below.refl _ _ | refine Below.alloc ?_ (by first | omega | (simp; omega) | (simp; done)) _ | refine Below.drew ?_))) (hq5.mono (by first | omega | (simp; omega) | (simp; done))); have c05 := (T3.out.below hb5 s3).cell (o := 0) rfl; have c15 := (T3.out.below hb5 s3).cell (o := 1) rfl; have n05 := World.new_ne w5 _ c05; have n15 := World.new_ne w5 _ c15)
            | (refine step_append_vals _ (by rfl) _ _ (by rfl) wr.heap.size _ _ vs _ _ _ _ [⟨2, 0⟩] (by rfl) (by rfl) (by (repeat (first | exact hrow5 | exact hrow5u | refine ValRow.alloc ?_ _))) (one_val (T := 29) _ _ (by (repeat (first | (refine blk_new' _ _ _ ?_; focus (first | rfl | omega | (simp; omega) | (simp; done))) | (refine Eq.trans (Below.heap_alloc _ _ _ ?_) ?_; focus (first | rfl | omega | (simp; omega) | (simp; done))) | (refine Eq.trans (hq5.block _ ?_) ?_; focus (first | rfl | omega | (simp; omega) | (simp; done))))))) (by simp; omega) (by have := hb5.size; first | omega | (simp; omega) | (simp; done)) ?_; intro nb nd w7 hrow7 hg7 ho7; (first | (have k70 := grown_cell hg7 (wr.heap.size); simp [Value.ownBlock, hs5, a1, a2, a3, b1, b2, b3] at k70) | skip); (first | (have f70 := grown_frozen hg7 (wr.heap.size); simp [Value.ownBlock, hs5, a1, a2, a3, b1, b2, b3] at f70) | skip); (first | (have k71 := grown_cell hg7 (wr.heap.size + 1); simp [Value.ownBlock, hs5, a1, a2, a3, b1, b2, b3] at k71) | skip); (first | (have f71 := grown_frozen hg7 (wr.heap.size + 1); simp [Value.ownBlock, hs5, a1, a2, a3, b1, b2, b3] at f71) | skip); (first | (have k72 := grown_cell hg7 (wr.heap.size + 1 + 1); simp [Value.ownBlock, hs5, a1, a2, a3, b1, b2, b3] at k72) | skip); (first | (have f72 := grown_frozen hg7 (wr.heap.size + 1 + 1); simp [Value.ownBlock, hs5, a1, a2, a3, b1, b2, b3] at f72) | skip); (first | (have k73 := grown_cell hg7 (wr.heap.size + 1 + 1 + 1); simp [Value.ownBlock, hs5, a1, a2, a3, b1, b2, b3] at k73) | skip); (first | (have f73 := grown_frozen hg7 (wr.heap.size + 1 + 1 + 1); simp [Value.ownBlock, hs5, a1, a2, a3, b1, b2, b3] at f73) | skip); (first | (have k74 := grown_cell hg7 (wr.heap.size + 1 + 1 + 1 + 1); simp [Value.ownBlock, hs5, a1, a2, a3, b1, b2, b3] at k74) | skip); (first | (have f74 := grown_frozen hg7 (wr.heap.size + 1 + 1 + 1 + 1); simp [Value.ownBlock, hs5, a1, a2, a3, b1, b2, b3] at f74) | skip);  have hb7 : Below wr.heap.size wr w7 := Below.grown (by (repeat (first | exact hb5 | refine Below.alloc ?_ (by have := hb5.size; first | omega | (simp; omega) | (simp; done)) _ | refine Below.drew ?_))) hg7 (by have := hb5.size; first | omega | (simp; omega) | (simp; done)) (fun k hk => by have := owns_base hrow5 k (by simpa using hk); exact this); have q7 : tb < w7.heap.size := Nat.lt_of_lt_of_le s3 hb7.size; have c07 := (T3.out.below hb7 s3).cell (o := 0) rfl; have c17 := (T3.out.below hb7 s3).cell (o := 1) rfl; have n07 := World.new_ne w7 _ c07; have n17 := World.new_ne w7 _ c17; have HO7 := hide ho7; have HR7 := hide hrow7; have HG7 := hide hg7; have HB7 := hide hb7; clear ho7 hrow7 hg7)))
          all_goals
            go_wp2_with fail
            go_meet
            first
            | (have F := thF_alloc HB7.out HR7.out ty (vs.length + 1); refine ⟨w7.heap.size, nb, nd, by with_reducible rfl, ?_⟩; with_reducible exact hide F)
            | (have F := thF_set HB7.out HR7.out ty (vs.length + 1) (wr.heap.size) (by omega) (by (repeat (first | (with_reducible refine Rec.grown ?_ HG7.out ?_; rotate_left; focus (first | (simp [Value.ownBlock]; omega) | (simp [Value.ownBlock]; done))) | (with_reducible refine Rec.below ?_ hq5 ?_; rotate_left; focus (first | omega | (simp; omega) | (simp; done))) | (with_reducible refine Rec.new' _ _ _ _ ?_; focus (first | omega | (simp; omega) | (simp; done))) | with_reducible refine Rec.alloc ?_ _ | with_reducible refine Rec.drew ?_))); refine ⟨wr.heap.size, nb, nd, rfl, ?_⟩; with_reducible exact hide F)
            | (have F := thF_set HB7.out HR7.out ty (vs.length + 1) (wr.heap.size + 1) (by omega) (by (repeat (first | (with_reducible refine Rec.grown ?_ HG7.out ?_; rotate_left; focus (first | (simp [Value.ownBlock]; omega) | (simp [Value.ownBlock]; done))) | (with_reducible refine Rec.below ?_ hq5 ?_; rotate_left; focus (first | omega | (simp; omega) | (simp; done))) | (with_reducible refine Rec.new' _ _ _ _ ?_; focus (first | omega | (simp; omega) | (simp; done))) | with_reducible refine Rec.alloc ?_ _ | with_reducible refine Rec.drew ?_))); refine ⟨wr.heap.size + 1, nb, nd, rfl, ?_⟩; with_reducible exact hide F)
            | (have F := thF_set HB7.out HR7.out ty (vs.length + 1) (wr.heap.size + 1 + 1) (by omega) (by (repeat (first | (with_reducible refine Rec.grown ?_ HG7.out ?_; rotate_left; focus (first | (simp [Value.ownBlock]; omega) | (simp [Value.ownBlock]; done))) | (with_reducible refine Rec.below ?_ hq5 ?_; rotate_left; focus (first | omega | (simp; omega) | (simp; done))) | (with_reducible refine Rec.new' _ _ _ _ ?_; focus (first | omega | (simp; omega) | (simp; done))) | with_reducible refine Rec.alloc ?_ _ | with_reducible refine Rec.drew ?_))); refine ⟨wr.heap.size + 1 + 1, nb, nd, rfl, ?_⟩; with_reducible exact hide F)
            | (have F := thF_set HB7.out HR7.out ty (vs.length + 1) (wr.heap.size + 1 + 1 + 1) (by omega) (by (repeat (first | (with_reducible refine Rec.grown ?_ HG7.out ?_; rotate_left; focus (first | (simp [Value.ownBlock]; omega) | (simp [Value.ownBlock]; done))) | (with_reducible refine Rec.below ?_ hq5 ?_; rotate_left; focus (first | omega | (simp; omega) | (simp; done))) | (with_reducible refine Rec.new' _ _ _ _ ?_; focus (first | omega | (simp; omega) | (simp; done))) | with_reducible refine Rec.alloc ?_ _ | with_reducible refine Rec.drew ?_))); refine ⟨wr.heap.size + 1 + 1 + 1, nb, nd, rfl, ?_⟩; with_reducible exact hide F)
      case rest =>
        obtain ⟨ub, nb, nd, rfl, F⟩ := hcut
        clear c0 c1 s3a s3b s3c s3n s3m s3l s3d s3e a1 a2 a3 b1 b2 b3 n0r n1r
        have RT := hide (T3.out.below F.out.b s3)
        have t0 := RT.out.cell (o := 0) rfl
        have t1 := RT.out.cell (o := 1) rfl
        have VT := hide (V3.out.keep (F.out.b.mono (Nat.le_of_lt s3)))
        have zt : tb ≤ wc.heap.size := Nat.le_of_lt RT.out.lt
        have B9 := hide (B3.out.trans (F.out.b.mono B3.out.size))
        go_wp2_with fail
        refine (specThingText_any fa fc w.heap.size tb ⟨ty, vs⟩ wc hl5 TI.out VT.out zt).mono ?_
        rintro e w10 ⟨rfl, b10⟩
        rw [← HSS.out]
        have RT2 := hide (RT.out.below b10 RT.out.lt)
        have t0 := RT2.out.cell (o := 0) rfl
        have t1 := RT2.out.cell (o := 1) rfl
        have RU := hide (F.out.u.below b10 F.out.u.lt)
        have u0 := RU.out.cell (o := 0) rfl
        have u1 := RU.out.cell (o := 1) rfl
        have C := hide (implThingText_any nb nd wr.heap.size wc.heap.size ⟨ty, vs ++ [⟨2, 0⟩]⟩ w10 (by simp; omega) TI.out.more (F.out.v.keep b10) b10.size (pow10_keep HP.out (B9.out.trans (b10.mono B9.out.size))))
        have B10 := hide (B9.out.trans (b10.mono B9.out.size))
        clear b10
        go_wp2_with fail
        have C2 := C.out
        simp only [List.length_append, List.length_singleton] at C2
        refine C2.mono ?_
        rintro e w11 ⟨rfl, b11⟩
        have E : Hid ((⟨(thingTxt ⟨ty, vs ++ [⟨2, 0⟩]⟩).toArray⟩ : ByteArray) = s ++ ⟨#[32, 45]⟩) := by
          show _ = _
          rw [thingTxt_more, HSS.out]
          apply ByteArray.ext
          simp [ByteArray.data_append]
        rw [E.out]
        have B11 := hide (B10.out.trans (b11.mono B10.out.size))
        clear b11 C C2
        go_wp2_with fail
        go_ret
        exact ⟨rfl, B11.out⟩
end Go.Proofs.YthidiabeffgjlaaDoor
