/- ThingText of the model and of the program: both write what thingTxt is. -/
import Derived.Test.YthidiabeffgjlaaDoorDeskTxt
import Derived.Test.YthidiabeffgjlaaDoorBld
namespace Go.Proofs.YthidiabeffgjlaaDoor
open Go.ChangeShapes Go.WideShapes Go.ChangeAt Go.RowKit
set_option linter.unusedVariables false

/-- What is written of a thing. -/
def thingTxt (x : GThing) : List UInt8 := Lib.itoa x.typ ++ valsTxt x.vals
/-- Its numbers are numbers of 64 bits. -/
def ThingI (x : GThing) : Prop := I64 x.typ ∧ ∀ i, i < x.vals.length → I64 (valAt' x.vals i).n

theorem valsTxt_snoc (vs : List GVal) (k : Nat) (h : k < vs.length) : valsTxt (vs.take (k + 1)) = valsTxt (vs.take k) ++ (32 :: valTxt (valAt' vs k).kind (valAt' vs k).n) := by
  have e : valAt' vs k = vs[k] := by simp [valAt', h]
  rw [List.take_succ_eq_append_getElem h, e, valsTxt, List.flatMap_append]
  simp [valsTxt]

theorem valsTxt_len (vs : List GVal) (k : Nat) (h : ∀ i, i < vs.length → I64 (valAt' vs i).n) : (valsTxt (vs.take k)).length ≤ 23 * k := by
  induction k with
  | zero => simp [valsTxt]
  | succ k ih =>
    by_cases hk : k < vs.length
    · rw [valsTxt_snoc vs k hk]
      have := valTxt_len (valAt' vs k).kind _ (h k hk)
      simp
      omega
    · have e : vs.take (k + 1) = vs.take k := by rw [List.take_of_length_le (by omega), List.take_of_length_le (by omega)]
      rw [e]
      omega

set_option maxHeartbeats 1600000 in
theorem specThingText_any {md : Bool} (a : Option Addr) (c lo hi : Nat) (x : GThing) (w : World) (hn : x.vals.length ≤ 1048577) (hi64 : ThingI x) (hx : ValsM md w lo hi a x.vals) (hh : hi ≤ w.heap.size) :
    Calls Tryd.prog 7 #[.agg #[.int .i64 x.typ, .slice a x.vals.length c]] w fun e w' => e = .returned (.string ⟨(thingTxt x).toArray⟩) ∧ Below w.heap.size w w' := by
  obtain ⟨ty, vs⟩ := x
  obtain ⟨hty, hvs⟩ := hi64
  have HV := hide hvs
  have HX := hide hx
  clear hvs hx
  simp only at hn
  obtain ⟨n, hnn⟩ : ∃ n, vs.length = n := ⟨_, rfl⟩
  have HN := hide hnn
  simp only [hnn] at hn ⊢
  clear hnn
  have t1 := hty.1
  have t2 := hty.2
  go_enter Tryd.func7, Tryd.ntmps7
  go_wp2_with fail
  refine (decAll_any ty _ t1 t2).mono ?_
  rintro e w1 ⟨rfl, b1⟩
  have B1 : Hid (Below w.heap.size w w1) := ((Below.refl _ _).alloc (Nat.le_refl _) _).trans (b1.mono (by simp))
  have R1 : Hid (Rec w1 w.heap.size 25 [.int .i64 ty, .slice a n c]) := (Rec.new' _ _ _ _ rfl).below b1 (by simp)
  clear b1
  go_wp2_with fail
  go_loopw [3, 4] (fun o i wr => ∃ (k : Nat) (acc : List UInt8), k ≤ n ∧ o = .string ⟨acc.toArray⟩ ∧ i = .int .i64 k ∧ acc = Lib.itoa ty ++ valsTxt (vs.take k) ∧ Rec wr w.heap.size 25 [.int .i64 ty, .slice a n c] ∧ Below w.heap.size w wr) (fun o i wr => n - (intOf i).toNat)
  case atStart => exact ⟨0, _, Nat.zero_le _, rfl, rfl, by simp [valsTxt], R1.out, B1.out⟩
  case round =>
    obtain ⟨k, acc, hk, rfl, rfl, hacc, hr, hb⟩ := hrel
    have HA := hide hacc
    have HB := hide hb
    have HR := hide hr
    have r1 := hr.cell (o := 1) rfl
    have zr := hr.lt
    have hlen : acc.length ≤ 100000000 - 100 := by
      have i1 := itoa_len ty t1 t2
      have i2 := valsTxt_len vs k HV.out
      rw [hacc, List.length_append]
      omega
    clear hacc hb hr
    by_cases hlt : k < n
    · have hk2 : k < vs.length := by rw [HN.out]; exact hlt
      rcases HX.out.keep (HB.out.mono hh) with h0 | ⟨b, off, rfl, h3, h4, h5, h6⟩
      · rw [h0] at hk2; simp at hk2
      obtain ⟨e0, e1⟩ := h6 k hk2
      have hvn := HV.out k hk2
      have HS := hide (valsTxt_snoc vs k hk2)
      have hbl : b < wr.heap.size := by have := HB.out.size; omega
      clear h6 h5
      generalize valAt' vs k = v at e0 e1 hvn HS
      obtain ⟨vk, vn⟩ := v
      simp only at e0 e1 hvn HS
      have hl2 := valTxt_len vk vn hvn
      obtain ⟨t, ht⟩ : ∃ t, t = valTxt vk vn := ⟨_, rfl⟩
      rw [← ht] at hl2
      have HT := hide ht
      clear ht
      have a1 := add_big acc [32] (acc ++ [32]) rfl (by omega) (by simp)
      have a2 := add_big (acc ++ [32]) t (acc ++ [32] ++ t) rfl (by simp; omega) (by omega)
      obtain ⟨acc1, hacc1⟩ : ∃ l, l = acc ++ [32] := ⟨_, rfl⟩
      rw [← hacc1] at a1 a2
      obtain ⟨acc2, hacc2⟩ : ∃ l, l = acc1 ++ t := ⟨_, rfl⟩
      rw [← hacc2] at a2
      have H1 := hide hacc1
      have H2 := hide hacc2
      clear hacc1 hacc2
      go_wp2_with fail
      refine (l13Val_any vk vn _ hvn).mono ?_
      rintro e w2 ⟨rfl, b2⟩
      rw [← HT.out]
      have B2 : Hid (Below w.heap.size w w2) := HB.out.trans (b2.mono HB.out.size)
      have R2 := hide (HR.out.below b2 zr)
      clear b2
      go_wp2_with fail
      refine ⟨⟨k + 1, acc2, by omega, rfl, by go_num, ?_, R2.out, B2.out⟩, by simp [intOf]; omega⟩
      rw [HS.out, H2.out, H1.out, HA.out, HT.out]
      simp
    · have hkn : k = n := by omega
      go_wp2_with fail
      go_ret
      refine ⟨?_, HB.out⟩
      have : acc = thingTxt ⟨ty, vs⟩ := by
        rw [HA.out, hkn, List.take_of_length_le (by rw [HN.out]; exact Nat.le_refl _)]
        rfl
      rw [← this]
      rfl

set_option maxHeartbeats 1600000 in
theorem implThingText_any {md : Bool} (a : Option Addr) (c lo hi : Nat) (x : GThing) (w : World) (hn : x.vals.length ≤ 1048577) (hi64 : ThingI x) (hx : ValsM md w lo hi a x.vals) (hh : hi ≤ w.heap.size) (hp : pow10 w) :
    Calls Tryd.prog 6 #[.agg #[.int .i64 x.typ, .slice a x.vals.length c]] w fun e w' => e = .returned (.string ⟨(thingTxt x).toArray⟩) ∧ Below w.heap.size w w' := by
  obtain ⟨ty, vs⟩ := x
  obtain ⟨hty, hvs⟩ := hi64
  have HV := hide hvs
  have HX := hide hx
  have HP := hide hp
  clear hvs hx hp
  simp only at hn
  obtain ⟨n, hnn⟩ : ∃ n, vs.length = n := ⟨_, rfl⟩
  have HN := hide hnn
  simp only [hnn] at hn ⊢
  clear hnn
  have t1 := hty.1
  have t2 := hty.2
  have hil := itoa_len ty t1 t2
  obtain ⟨l0, hl0⟩ : ∃ l, l = Lib.itoa ty := ⟨_, rfl⟩
  rw [← hl0] at hil
  have HL0 := hide hl0
  clear hl0
  go_enter Tryd.func6, Tryd.ntmps6
  go_wp2_with fail
  have ba : Below w.heap.size w ((w.alloc (.cells #[.int .i64 ty, .slice a n c] 25)).alloc (.cells #[.pointer none, .slice none 0 0] 44)) := ((Below.refl _ _).alloc (Nat.le_refl _) _).alloc (by simp) _
  refine (Tryd.itoa ty t1 t2 _ (pow10_keep HP.out ba)).mono ?_
  rintro e w1 ⟨rfl, q, os, rfl⟩
  have b1 := grown_below ((w.alloc (.cells #[.int .i64 ty, .slice a n c] 25)).alloc (.cells #[.pointer none, .slice none 0 0] 44)) q os
  generalize Sort.grow (((w.alloc (.cells #[.int .i64 ty, .slice a n c] 25)).alloc (.cells #[.pointer none, .slice none 0 0] 44)).drewN q) os = w1 at b1 ⊢
  have D1 : Hid (Bld w.heap.size (w.heap.size + 1) [] w1) := (Bld.new _ _ _ (by omega) (by simp)).below b1
  have R1 : Hid (Rec w1 w.heap.size 25 [.int .i64 ty, .slice a n c]) := ((Rec.new' _ _ _ _ rfl).alloc _).below b1 (by simp; omega)
  have B1 : Hid (Below w.heap.size w w1) := ba.trans (b1.mono (by simp; omega))
  clear b1 ba
  rw [← HL0.out]
  have s1 := B1.out.size
  go_wp2_with fail
  refine (write_any w.heap.size (w.heap.size + 1) [] l0 w1 D1.out (by simp; omega) s1).mono ?_
  rintro e w2 ⟨rfl, d2, b2, k2⟩
  have R2 := hide (R1.out.kept k2 (by omega) (by decide))
  have B2 := hide (B1.out.trans b2)
  have D2 := hide d2
  clear b2 k2 d2
  have r1 := R2.out.cell (o := 1) rfl
  go_wp2_with fail
  go_loopw [13] (fun i wr => ∃ (k : Nat) (acc : List UInt8), k ≤ n ∧ i = .int .i64 k ∧ acc = l0 ++ valsTxt (vs.take k) ∧ Bld w.heap.size (w.heap.size + 1) acc wr ∧ Below w.heap.size w wr) (fun i wr => n - (intOf i).toNat)
  case atStart => exact ⟨0, _, Nat.zero_le _, rfl, by simp [valsTxt], D2.out, B2.out⟩
  case round =>
    obtain ⟨k, acc, hk, rfl, hacc, hd, hb⟩ := hrel
    have HA := hide hacc
    have HB := hide hb
    have HD := hide hd
    have zd := hd.lt
    have hlen : acc.length ≤ 100000000 - 100 := by
      have i2 := valsTxt_len vs k HV.out
      rw [hacc, List.length_append]
      omega
    have sb := hb.size
    clear hacc hb hd
    by_cases hlt : k < n
    · have hk2 : k < vs.length := by rw [HN.out]; exact hlt
      rcases HX.out.keep (HB.out.mono hh) with h0 | ⟨b, off, rfl, h3, h4, h5, h6⟩
      · rw [h0] at hk2; simp at hk2
      obtain ⟨e0, e1⟩ := h6 k hk2
      have hvn := HV.out k hk2
      have HS := hide (valsTxt_snoc vs k hk2)
      have hbl : b < wr.heap.size := by omega
      clear h6 h5
      generalize valAt' vs k = v at e0 e1 hvn HS
      obtain ⟨vk, vn⟩ := v
      simp only at e0 e1 hvn HS
      have hl2 := valTxt_len vk vn hvn
      obtain ⟨t, ht⟩ : ∃ t, t = valTxt vk vn := ⟨_, rfl⟩
      rw [← ht] at hl2
      have HT := hide ht
      clear ht
      have a1 := add_big [32] t (32 :: t) rfl (by simp) (by omega)
      go_wp2_with fail
      have ba := (Below.refl wr.heap.size wr).alloc (Nat.le_refl _) (.cells #[.int .i64 vk, .int .i64 vn] 29)
      refine (deskVal_any vk vn _ hvn (pow10_keep HP.out (HB.out.trans (ba.mono sb)))).mono ?_
      rintro e w3 ⟨rfl, b3⟩
      rw [← HT.out]
      have B3 : Hid (Below w.heap.size w w3) := (HB.out.trans (ba.mono sb)).trans (b3.mono (by simp; omega))
      have D3 : Hid (Bld w.heap.size (w.heap.size + 1) acc w3) := (HD.out.alloc _).below b3
      clear b3 ba
      have s3 := B3.out.size
      go_wp2_with fail
      refine (write_any w.heap.size (w.heap.size + 1) acc (32 :: t) w3 D3.out (by simp; omega) s3).mono ?_
      rintro e w4 ⟨rfl, d4, b4, k4⟩
      go_wp2_with fail
      refine ⟨⟨k + 1, _, by omega, by go_num, ?_, d4, B3.out.trans b4⟩, by simp [intOf]; omega⟩
      rw [HS.out, HA.out, HT.out]
      simp
    · have hkn : k = n := by omega
      go_wp2_with fail
      refine (told_any w.heap.size (w.heap.size + 1) acc _ HD.out sb).mono ?_
      rintro e w3 ⟨rfl, _, b3, _⟩
      go_wp2_with fail
      go_ret
      refine ⟨?_, HB.out.trans b3⟩
      have : acc = thingTxt ⟨ty, vs⟩ := by
        rw [HA.out, hkn, List.take_of_length_le (by rw [HN.out]; exact Nat.le_refl _), HL0.out]
        rfl
      rw [← this]
      rfl
end Go.Proofs.YthidiabeffgjlaaDoor
