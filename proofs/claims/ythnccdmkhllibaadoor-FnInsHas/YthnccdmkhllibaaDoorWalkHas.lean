/- The law of InsHas on drawn instructions. -/
import Derived.Test.YthnccdmkhllibaaDoorDrawHas
import Derived.Test.YthnccdmkhllibaaDoorHasPlain
import Derived.Test.YthnccdmkhllibaaDoorImplText
namespace Go.Proofs.YthnccdmkhllibaaDoor
open Go.ChangeShapes Go.WideShapes Go.ChangeAt Go.RowKit
set_option linter.unusedVariables false

theorem kept {w w' : World} (hb : Below w.heap.size w w') : ∀ q o v, w.cell? ⟨q, o, none⟩ = some v → w'.cell? ⟨q, o, none⟩ = some v :=
  fun q o v hv => by rw [hb.cell (p := ⟨q, o, none⟩) (cell_lt hv)]; exact hv

theorem specInsOk_keep (op a b : Int) (c : Bool) (h : insOk op a b = c) (w0 w : World) (B0 : Below w0.heap.size w0 w) :
    Calls Tryd.prog 12 #[.agg #[.int .i64 op, .int .i64 a, .int .i64 b]] w fun e w' => e = .returned (.bool c) ∧ (∀ q o v, w.cell? ⟨q, o, none⟩ = some v → w'.cell? ⟨q, o, none⟩ = some v) ∧ Below w0.heap.size w0 w' := by
  refine (specInsOk_at op a b c h w).mono ?_
  rintro e w' ⟨rfl, hb⟩
  exact ⟨rfl, kept hb, B0.trans (hb.mono B0.size)⟩

theorem implInsOk_keep (op a b : Int) (c : Bool) (h : insOk op a b = c) (w0 w : World) (B0 : Below w0.heap.size w0 w) :
    Calls Tryd.prog 11 #[.agg #[.int .i64 op, .int .i64 a, .int .i64 b]] w fun e w' => e = .returned (.bool c) ∧ (∀ q o v, w.cell? ⟨q, o, none⟩ = some v → w'.cell? ⟨q, o, none⟩ = some v) ∧ Below w0.heap.size w0 w' := by
  refine (implInsOk_at op a b c h w).mono ?_
  rintro e w' ⟨rfl, hb⟩
  exact ⟨rfl, kept hb, B0.trans (hb.mono B0.size)⟩

theorem implHas_keep (op : Int) (n : Int) (h : (spanN op : Int) = n) (w0 w : World) (B0 : Below w0.heap.size w0 w) :
    Calls Tryd.prog 17 #[.int .i64 op] w fun e w' => e = .returned (.int .i64 n) ∧ (∀ q o v, w.cell? ⟨q, o, none⟩ = some v → w'.cell? ⟨q, o, none⟩ = some v) ∧ Below w0.heap.size w0 w' := by
  refine (implInsHas_any op w).mono ?_
  rintro e w' ⟨rfl, hb⟩
  exact ⟨by rw [h], kept hb, B0.trans (hb.mono B0.size)⟩

theorem insText_len {o x y : Int} (h : insOk o x y = true) : (insText o x y).length ≤ 1000 := by
  obtain ⟨s1, s2, s3⟩ := insOk_small h
  have a1 := ofTxt_len x s1
  have a2 := ofTxt_len y s2
  have a3 := wordAt_len o.toNat
  unfold insText
  rw [if_pos h]
  split
  · omega
  · split
    · simp; omega
    · simp; omega

theorem three (w : World) (u0 u1 u2 : Array Value) (T : TypeId) :
    (∀ k, (((w.alloc (.cells u0 T)).alloc (.cells u1 T)).alloc (.cells u2 T)).cell? ⟨w.heap.size, k, none⟩ = u0[k]?) ∧
    (∀ k, (((w.alloc (.cells u0 T)).alloc (.cells u1 T)).alloc (.cells u2 T)).cell? ⟨w.heap.size + 1, k, none⟩ = u1[k]?) ∧
    (∀ k, (((w.alloc (.cells u0 T)).alloc (.cells u1 T)).alloc (.cells u2 T)).cell? ⟨w.heap.size + 1 + 1, k, none⟩ = u2[k]?) ∧
    (Below w.heap.size w (((w.alloc (.cells u0 T)).alloc (.cells u1 T)).alloc (.cells u2 T))) := by
  have e1 : (w.alloc (.cells u0 T)).heap.size = w.heap.size + 1 := by simp
  have e2 : ((w.alloc (.cells u0 T)).alloc (.cells u1 T)).heap.size = w.heap.size + 1 + 1 := by simp
  refine ⟨fun k => ?_, fun k => ?_, fun k => ?_, ?_⟩
  · rw [World.cell?_alloc_past _ _ _ (by rw [e2]; show w.heap.size < _; omega), World.cell?_alloc_past _ _ _ (by rw [e1]; show w.heap.size < _; omega)]; simp
  · rw [World.cell?_alloc_past _ _ _ (by rw [e2]; show w.heap.size + 1 < _; omega), ← e1]; simp
  · generalize (w.alloc (.cells u0 T)).alloc (.cells u1 T) = W at e2 ⊢
    rw [← e2]; simp
  · exact (((Below.refl _ _).alloc (Nat.le_refl _) _).alloc (by simp) _).alloc (by simp; omega) _

set_option maxHeartbeats 2000000 in
theorem fnInsHas_walk (a0 : Option Addr) (cap0 n0 : Nat) (hc0 : n0 ≤ cap0) (w : World) (h0 : BytesIn w w.heap.size a0 n0) (ht : pow10 w) (hw : wordsAt w) :
    Calls Tryd.prog 4 #[.slice a0 n0 cap0] w fun e w' => e = .returned (.bool true) ∧ Below w.heap.size w w' := by
  by_cases l0 : 1048576 < n0
  · have k0 : (1048576 : Int) < (n0 : Int) := by omega
    go_enter Tryd.func4, Tryd.ntmps4
    go_wp2_with fail
    go_ret
    exact ⟨rfl, Below.refl _ _⟩
  have k0 : (n0 : Int) ≤ 1048576 := by omega
  go_enter Tryd.func4, Tryd.ntmps4
  go_wp2_with fail
  refine (dDrawInsOk_any a0 cap0 n0 w hc0 h0).mono ?_
  rintro e w1 ⟨o, x, y, rfl, b1⟩
  have z1 := b1.size
  have B1 : Below w.heap.size w (w1.alloc (.cells #[.int .i64 o, .int .i64 x, .int .i64 y] 24)) := b1.alloc z1 _
  go_wp2_with fail
  refine (dDrawInsHas_any a0 cap0 n0 _ hc0 ((h0.keep B1).wider (by simp; omega))).mono ?_
  rintro e w2 ⟨op, rfl, b2⟩
  have B2 := B1.trans (b2.mono (by simp; omega))
  obtain ⟨hc2, hf2⟩ := bcell b2
  have c0 := hc2 w1.heap.size 0 (by simp)
  have c1 := hc2 w1.heap.size 1 (by simp)
  have c2 := hc2 w1.heap.size 2 (by simp)
  simp at c0 c1 c2
  clear hc2 hf2 b2 B1 b1
  generalize w1.heap.size = b at c0 c1 c2 ⊢
  obtain ⟨n, hn⟩ : ∃ n : Int, (spanN op : Int) = n := ⟨_, rfl⟩
  have HN := hide hn
  clear hn
  cases hok : insOk o x y
  · have HK := hide hok
    clear hok
    go_wp2_with fail
    go_region_held3 (fun w' => w'.cell? ⟨b, 0, none⟩ = some (.int .i64 o) ∧ w'.cell? ⟨b, 1, none⟩ = some (.int .i64 x) ∧ w'.cell? ⟨b, 2, none⟩ = some (.int .i64 y) ∧ Below w.heap.size w w')
      (refine ⟨?_, ?_, ?_, ?_⟩ <;> first | assumption | exact Below.drew (by assumption) | go_keep)
      ((first
        | (go_at_call 17; have hS := ‹(World.cell? _ ⟨b, 0, none⟩ = some (.int .i64 o) ∧ _ ∧ _ ∧ Below w.heap.size w _)›; refine (implHas_keep _ _ HN.out w _ hS.2.2.2).mono ?_; rintro e w'' ⟨rfl, kp, bb⟩; have z0 := kp _ _ _ hS.1; have z1 := kp _ _ _ hS.2.1; have z2 := kp _ _ _ hS.2.2.1; clear kp hS)
        | (go_at_call 11; have hS := ‹(World.cell? _ ⟨b, 0, none⟩ = some (.int .i64 o) ∧ _ ∧ _ ∧ Below w.heap.size w _)›; refine (implInsOk_keep _ _ _ _ HK.out w _ hS.2.2.2).mono ?_; rintro e w'' ⟨rfl, kp, bb⟩; have z0 := kp _ _ _ hS.1; have z1 := kp _ _ _ hS.2.1; have z2 := kp _ _ _ hS.2.2.1; clear kp hS)
        | (go_at_call 12; have hS := ‹(World.cell? _ ⟨b, 0, none⟩ = some (.int .i64 o) ∧ _ ∧ _ ∧ Below w.heap.size w _)›; refine (specInsOk_keep _ _ _ _ HK.out w _ hS.2.2.2).mono ?_; rintro e w'' ⟨rfl, kp, bb⟩; have z0 := kp _ _ _ hS.1; have z1 := kp _ _ _ hS.2.1; have z2 := kp _ _ _ hS.2.2.1; clear kp hS)
        | (go_at_call 18; refine (specInsHas_at _ _ HN.out _).mono ?_; rintro e w'' ⟨rfl, rfl⟩)))
    all_goals go_wp2_with fail
    go_region_held3 (fun w' => w'.cell? ⟨b, 0, none⟩ = some (.int .i64 o) ∧ w'.cell? ⟨b, 1, none⟩ = some (.int .i64 x) ∧ w'.cell? ⟨b, 2, none⟩ = some (.int .i64 y) ∧ Below w.heap.size w w')
      (refine ⟨?_, ?_, ?_, ?_⟩ <;> first | assumption | exact Below.drew (by assumption) | go_keep)
      ((first
        | (go_at_call 17; have hS := ‹(World.cell? _ ⟨b, 0, none⟩ = some (.int .i64 o) ∧ _ ∧ _ ∧ Below w.heap.size w _)›; refine (implHas_keep _ _ HN.out w _ hS.2.2.2).mono ?_; rintro e w'' ⟨rfl, kp, bb⟩; have z0 := kp _ _ _ hS.1; have z1 := kp _ _ _ hS.2.1; have z2 := kp _ _ _ hS.2.2.1; clear kp hS)
        | (go_at_call 11; have hS := ‹(World.cell? _ ⟨b, 0, none⟩ = some (.int .i64 o) ∧ _ ∧ _ ∧ Below w.heap.size w _)›; refine (implInsOk_keep _ _ _ _ HK.out w _ hS.2.2.2).mono ?_; rintro e w'' ⟨rfl, kp, bb⟩; have z0 := kp _ _ _ hS.1; have z1 := kp _ _ _ hS.2.1; have z2 := kp _ _ _ hS.2.2.1; clear kp hS)
        | (go_at_call 12; have hS := ‹(World.cell? _ ⟨b, 0, none⟩ = some (.int .i64 o) ∧ _ ∧ _ ∧ Below w.heap.size w _)›; refine (specInsOk_keep _ _ _ _ HK.out w _ hS.2.2.2).mono ?_; rintro e w'' ⟨rfl, kp, bb⟩; have z0 := kp _ _ _ hS.1; have z1 := kp _ _ _ hS.2.1; have z2 := kp _ _ _ hS.2.2.1; clear kp hS)
        | (go_at_call 18; refine (specInsHas_at _ _ HN.out _).mono ?_; rintro e w'' ⟨rfl, rfl⟩)))
    all_goals go_wp2_with fail
    all_goals go_ret
    all_goals exact ⟨rfl, by assumption⟩
  · have HK := hide hok
    obtain ⟨m, hm⟩ : ∃ m : Int, (spanN o : Int) = m := ⟨_, rfl⟩
    have HM := hide hm
    clear hok hm
    go_wp2_with fail
    go_region_held3 (fun w' => w'.cell? ⟨b, 0, none⟩ = some (.int .i64 o) ∧ w'.cell? ⟨b, 1, none⟩ = some (.int .i64 x) ∧ w'.cell? ⟨b, 2, none⟩ = some (.int .i64 y) ∧ Below w.heap.size w w')
      (refine ⟨?_, ?_, ?_, ?_⟩ <;> first | assumption | exact Below.drew (by assumption) | go_keep)
      ((first
        | (go_at_call 17; have hS := ‹(World.cell? _ ⟨b, 0, none⟩ = some (.int .i64 o) ∧ _ ∧ _ ∧ Below w.heap.size w _)›; refine (implHas_keep _ _ HN.out w _ hS.2.2.2).mono ?_; rintro e w'' ⟨rfl, kp, bb⟩; have z0 := kp _ _ _ hS.1; have z1 := kp _ _ _ hS.2.1; have z2 := kp _ _ _ hS.2.2.1; clear kp hS)
        | (go_at_call 11; have hS := ‹(World.cell? _ ⟨b, 0, none⟩ = some (.int .i64 o) ∧ _ ∧ _ ∧ Below w.heap.size w _)›; refine (implInsOk_keep _ _ _ _ HK.out w _ hS.2.2.2).mono ?_; rintro e w'' ⟨rfl, kp, bb⟩; have z0 := kp _ _ _ hS.1; have z1 := kp _ _ _ hS.2.1; have z2 := kp _ _ _ hS.2.2.1; clear kp hS)
        | (go_at_call 12; have hS := ‹(World.cell? _ ⟨b, 0, none⟩ = some (.int .i64 o) ∧ _ ∧ _ ∧ Below w.heap.size w _)›; refine (specInsOk_keep _ _ _ _ HK.out w _ hS.2.2.2).mono ?_; rintro e w'' ⟨rfl, kp, bb⟩; have z0 := kp _ _ _ hS.1; have z1 := kp _ _ _ hS.2.1; have z2 := kp _ _ _ hS.2.2.1; clear kp hS)
        | (go_at_call 18; refine (specInsHas_at _ _ HN.out _).mono ?_; rintro e w'' ⟨rfl, rfl⟩)))
    rename_i hHeld
    clear hHeld c0 c1 c2 B2
    have B3 := bb
    clear bb
    go_wp2_with fail
    refine (implHas_keep _ _ HM.out w _ B3).mono ?_
    rintro e w3 ⟨rfl, kp, B4⟩
    have c0 := kp _ _ _ z0
    have c1 := kp _ _ _ z1
    have c2 := kp _ _ _ z2
    clear kp z0 z1 z2 B3
    have s3 : b < w3.heap.size := cell_lt c0
    have s4 : b < w3.heap.size + 1 := by omega
    have s5 : b < w3.heap.size + 1 + 1 := by omega
    go_wp2_with fail
    obtain ⟨W, hW⟩ : ∃ W, ((w3.alloc (.cells #[.int .i64 o, .int .i64 9973, .int .i64 y] 24)).alloc (.cells #[.int .i64 o, .int .i64 x, .int .i64 4] 24)).alloc (.cells #[.int .i64 o, .int .i64 (-3), .int .i64 y] 24) = W := ⟨_, rfl⟩
    obtain ⟨t0, t1, t2, b5⟩ := three w3 #[.int .i64 o, .int .i64 9973, .int .i64 y] #[.int .i64 o, .int .i64 x, .int .i64 4] #[.int .i64 o, .int .i64 (-3), .int .i64 y] 24
    rw [hW] at t0 t1 t2 b5
    have B5 := B4.trans (b5.mono B4.size)
    have kp := kept b5
    have e0 := kp _ _ _ c0; have e1 := kp _ _ _ c1; have e2 := kp _ _ _ c2
    clear kp b5
    have f0 := t0 0; have f1 := t0 1; have f2 := t0 2
    have f3 := t1 0; have f4 := t1 1; have f5 := t1 2
    have f6 := t2 0; have f7 := t2 1; have f8 := t2 2
    simp at f0 f1 f2 f3 f4 f5 f6 f7 f8
    rw [hW]
    clear hW t0 t1 t2
    refine (implInsText_any o x y W (pow10_keep ht B5) (hw.keep B5)).mono ?_
    rintro e w6 ⟨rfl, b6⟩
    have B6 := B5.trans (b6.mono B5.size)
    have kp := kept b6
    have e0 := kp _ _ _ e0; have e1 := kp _ _ _ e1; have e2 := kp _ _ _ e2
    have f0 := kp _ _ _ f0; have f1 := kp _ _ _ f1; have f2 := kp _ _ _ f2
    have f3 := kp _ _ _ f3; have f4 := kp _ _ _ f4; have f5 := kp _ _ _ f5
    have f6 := kp _ _ _ f6; have f7 := kp _ _ _ f7; have f8 := kp _ _ _ f8
    clear kp c0 c1 c2 s3 s4 s5 B4 B5 b6
    have hlen : (insText o x y).length ≤ 1000 := insText_len HK.out
    have hsp : (spaces (insText o x y) : Int) = m := by rw [spaces_text HK.out]; exact HM.out
    obtain ⟨s, hs⟩ : ∃ s : ByteArray, s = ⟨(insText o x y).toArray⟩ := ⟨_, rfl⟩
    have hsz : s.size ≤ 1000 := by rw [hs]; exact hlen
    have HSP : Hid ((spaces s.data.toList : Int) = m) := by rw [hs]; exact hsp
    rw [← hs]
    clear hs hsp hlen
    go_wp2_with fail
    go_loop [9, 11] (fun n i => ∃ k : Nat, k ≤ s.size ∧ i = .int .i64 k ∧ n = .int .i64 (spaces (s.data.toList.take k) : Int)) (fun _ i => s.size - (intOf i).toNat)
    case atStart => exact ⟨0, Nat.zero_le _, rfl, rfl⟩
    case round =>
      obtain ⟨k, hk, rfl, rfl⟩ := hrel
      have hd := spaces_le (s.data.toList.take k)
      have hl : (s.data.toList.take k).length ≤ k := List.length_take_le _ _
      by_cases hlt : k < s.size
      · have hsn := spaces_snoc (s.data.toList.take k) s[k]
        have hts := take_snoc s k hlt
        have HS : Hid ((spaces (s.data.toList.take (k + 1)) : Int) = spaces (s.data.toList.take k) + if (s[k].toNat : Int) = 32 then 1 else 0) := by rw [hts]; exact hsn
        clear hsn hts
        obtain ⟨j, hj⟩ : ∃ j, spaces (s.data.toList.take k) = j := ⟨_, rfl⟩
        rw [hj] at hd HS ⊢
        have hj2 : j ≤ 1000 := by omega
        clear hj hd hl
        by_cases h32 : (s[k].toNat : Int) = 32
        · have h33 : ((s[k].toNat : Int) == 32) = true := by simp [h32]
          go_wp2_with fail
          go_round
          case rel => exact ⟨k + 1, by omega, by go_num, by rw [HS.out, if_pos h32]⟩
          case measure => simp [intOf]; omega
        · have h33 : ((s[k].toNat : Int) == 32) = false := by simp [h32]
          go_wp2_with fail
          go_round
          case rel => exact ⟨k + 1, by omega, by go_num, by rw [HS.out, if_neg h32]; go_num⟩
          case measure => simp [intOf]; omega
      · have HE : Hid ((spaces (s.data.toList.take k) : Int) = m) := by rw [Hid, List.take_of_length_le (by simp; omega)]; exact HSP.out
        rw [HE.out]
        clear HE HSP hd hl
        obtain ⟨ox, oy⟩ := ok_zero HK.out
        have HM' := HM.out
        rcases spanN_three o with hm | hm | hm
        all_goals
          rw [hm] at HM' ox oy
          subst HM'
        · obtain rfl := ox rfl
          obtain rfl := oy (by omega)
          clear ox oy hm HM HK
          go_wp2_with fail
          refine (implInsOk_keep _ _ _ false (bad_a _ _) w _ B6).mono ?_
          rintro e w7 ⟨rfl, kp, B7⟩
          replace e0 := kp _ _ _ e0; replace e1 := kp _ _ _ e1; replace e2 := kp _ _ _ e2
          replace f0 := kp _ _ _ f0; replace f1 := kp _ _ _ f1; replace f2 := kp _ _ _ f2
          replace f3 := kp _ _ _ f3; replace f4 := kp _ _ _ f4; replace f5 := kp _ _ _ f5
          replace f6 := kp _ _ _ f6; replace f7 := kp _ _ _ f7; replace f8 := kp _ _ _ f8
          clear kp
          go_wp2_with fail
          refine (implInsOk_keep _ _ _ false (bad_b _ _) w _ B7).mono ?_
          rintro e w8 ⟨rfl, kp, B8⟩
          replace e0 := kp _ _ _ e0; replace e1 := kp _ _ _ e1; replace e2 := kp _ _ _ e2
          replace f0 := kp _ _ _ f0; replace f1 := kp _ _ _ f1; replace f2 := kp _ _ _ f2
          replace f3 := kp _ _ _ f3; replace f4 := kp _ _ _ f4; replace f5 := kp _ _ _ f5
          replace f6 := kp _ _ _ f6; replace f7 := kp _ _ _ f7; replace f8 := kp _ _ _ f8
          clear kp
          go_wp2_with fail
          refine (implInsOk_keep _ _ _ false (bad_c _ _) w _ B8).mono ?_
          rintro e w9 ⟨rfl, kp, B9⟩
          replace e0 := kp _ _ _ e0; replace e1 := kp _ _ _ e1; replace e2 := kp _ _ _ e2
          replace f0 := kp _ _ _ f0; replace f1 := kp _ _ _ f1; replace f2 := kp _ _ _ f2
          replace f3 := kp _ _ _ f3; replace f4 := kp _ _ _ f4; replace f5 := kp _ _ _ f5
          replace f6 := kp _ _ _ f6; replace f7 := kp _ _ _ f7; replace f8 := kp _ _ _ f8
          clear kp
          go_wp2_with fail
          go_ret
          exact ⟨rfl, B9⟩
        · obtain rfl := oy (by omega)
          clear ox oy hm HM HK
          go_wp2_with fail
          refine (implInsOk_keep _ _ _ false (bad_a _ _) w _ B6).mono ?_
          rintro e w7 ⟨rfl, kp, B7⟩
          replace e0 := kp _ _ _ e0; replace e1 := kp _ _ _ e1; replace e2 := kp _ _ _ e2
          replace f0 := kp _ _ _ f0; replace f1 := kp _ _ _ f1; replace f2 := kp _ _ _ f2
          replace f3 := kp _ _ _ f3; replace f4 := kp _ _ _ f4; replace f5 := kp _ _ _ f5
          replace f6 := kp _ _ _ f6; replace f7 := kp _ _ _ f7; replace f8 := kp _ _ _ f8
          clear kp
          go_wp2_with fail
          refine (implInsOk_keep _ _ _ false (bad_b _ _) w _ B7).mono ?_
          rintro e w8 ⟨rfl, kp, B8⟩
          replace e0 := kp _ _ _ e0; replace e1 := kp _ _ _ e1; replace e2 := kp _ _ _ e2
          replace f0 := kp _ _ _ f0; replace f1 := kp _ _ _ f1; replace f2 := kp _ _ _ f2
          replace f3 := kp _ _ _ f3; replace f4 := kp _ _ _ f4; replace f5 := kp _ _ _ f5
          replace f6 := kp _ _ _ f6; replace f7 := kp _ _ _ f7; replace f8 := kp _ _ _ f8
          clear kp
          go_wp2_with fail
          refine (implInsOk_keep _ _ _ false (bad_c _ _) w _ B8).mono ?_
          rintro e w9 ⟨rfl, kp, B9⟩
          replace e0 := kp _ _ _ e0; replace e1 := kp _ _ _ e1; replace e2 := kp _ _ _ e2
          replace f0 := kp _ _ _ f0; replace f1 := kp _ _ _ f1; replace f2 := kp _ _ _ f2
          replace f3 := kp _ _ _ f3; replace f4 := kp _ _ _ f4; replace f5 := kp _ _ _ f5
          replace f6 := kp _ _ _ f6; replace f7 := kp _ _ _ f7; replace f8 := kp _ _ _ f8
          clear kp
          go_wp2_with fail
          go_ret
          exact ⟨rfl, B9⟩
        · clear ox oy hm HM HK
          go_wp2_with fail
          refine (implInsOk_keep _ _ _ false (bad_a _ _) w _ B6).mono ?_
          rintro e w7 ⟨rfl, kp, B7⟩
          replace e0 := kp _ _ _ e0; replace e1 := kp _ _ _ e1; replace e2 := kp _ _ _ e2
          replace f0 := kp _ _ _ f0; replace f1 := kp _ _ _ f1; replace f2 := kp _ _ _ f2
          replace f3 := kp _ _ _ f3; replace f4 := kp _ _ _ f4; replace f5 := kp _ _ _ f5
          replace f6 := kp _ _ _ f6; replace f7 := kp _ _ _ f7; replace f8 := kp _ _ _ f8
          clear kp
          go_wp2_with fail
          refine (implInsOk_keep _ _ _ false (bad_b _ _) w _ B7).mono ?_
          rintro e w8 ⟨rfl, kp, B8⟩
          replace e0 := kp _ _ _ e0; replace e1 := kp _ _ _ e1; replace e2 := kp _ _ _ e2
          replace f0 := kp _ _ _ f0; replace f1 := kp _ _ _ f1; replace f2 := kp _ _ _ f2
          replace f3 := kp _ _ _ f3; replace f4 := kp _ _ _ f4; replace f5 := kp _ _ _ f5
          replace f6 := kp _ _ _ f6; replace f7 := kp _ _ _ f7; replace f8 := kp _ _ _ f8
          clear kp
          go_wp2_with fail
          refine (implInsOk_keep _ _ _ false (bad_c _ _) w _ B8).mono ?_
          rintro e w9 ⟨rfl, kp, B9⟩
          replace e0 := kp _ _ _ e0; replace e1 := kp _ _ _ e1; replace e2 := kp _ _ _ e2
          replace f0 := kp _ _ _ f0; replace f1 := kp _ _ _ f1; replace f2 := kp _ _ _ f2
          replace f3 := kp _ _ _ f3; replace f4 := kp _ _ _ f4; replace f5 := kp _ _ _ f5
          replace f6 := kp _ _ _ f6; replace f7 := kp _ _ _ f7; replace f8 := kp _ _ _ f8
          clear kp
          go_wp2_with fail
          go_ret
          exact ⟨rfl, B9⟩
end Go.Proofs.YthnccdmkhllibaaDoor
