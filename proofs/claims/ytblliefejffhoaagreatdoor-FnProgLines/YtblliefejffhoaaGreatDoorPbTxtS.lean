/- PbTxtS: PTxtS, PTxtS2, PTxtS3. -/
import Derived.Test.YtblliefejffhoaaGreatDoorPbTxt
import Derived.Deep.RegionHeld3
/- l3List, l3Type, l3FunText of the model: the lines of a program. -/
namespace Go.Proofs.YtblliefejffhoaaGreatDoor
open Go.ChangeShapes Go.WideShapes Go.ChangeAt Go.RowKit
set_option linter.unusedVariables false

set_option maxHeartbeats 1600000 in
theorem l3List_any (a : Option Addr) (c lo hi : Nat) (fs : List Fd) (w : World) (hn : fs.length ≤ 1048576) (hx : FieldsIn w lo hi a fs) (hh : hi ≤ w.heap.size) :
    Calls Tryz.prog 23 #[.slice a fs.length c] w fun e w' => e = .returned (.string ⟨(fdsTxt fs).toArray⟩) ∧ Below w.heap.size w w' := by
  have HX := hide hx
  clear hx
  obtain ⟨n, hnn⟩ : ∃ n, fs.length = n := ⟨_, rfl⟩
  have HN := hide hnn
  rw [hnn] at hn ⊢
  clear hnn
  go_enter Tryz.func23, Tryz.ntmps23
  go_wp2_with fail
  go_loopw [3, 4] (fun o i wr => ∃ (k : Nat) (acc : List UInt8), k ≤ n ∧ o = .string ⟨acc.toArray⟩ ∧ i = .int .i64 k ∧ acc = fdsTxt (fs.take k) ∧ Below w.heap.size w wr) (fun o i wr => n - (intOf i).toNat)
  case atStart => exact ⟨0, _, Nat.zero_le _, rfl, rfl, by simp [fdsTxt], Below.refl _ _⟩
  case round =>
    obtain ⟨k, acc, hk, rfl, rfl, hacc, hb⟩ := hrel
    have HA := hide hacc
    have HB := hide hb
    have hlen : acc.length ≤ 100000000 - 100 := by
      have i2 := fdsTxt_len (fs.take k)
      have i3 : (fs.take k).length ≤ k := by simp; omega
      rw [hacc]
      omega
    clear hacc hb
    by_cases hlt : k < n
    · have hk2 : k < fs.length := by rw [HN.out]; exact hlt
      rcases HX.out with hnil | ⟨b, off, rfl, g1, g2, g3⟩
      · rw [hnil] at hk2; exact absurd hk2 (Nat.not_lt_zero _)
      obtain ⟨f0, f1, f2⟩ := (g3 k hk2).same (lo := lo) (hi := hi) (.of_below HB.out hh) g1 g2
      have HS := hide (fdsTxt_snoc fs k hk2)
      have hbl : b < wr.heap.size := by have := HB.out.size; omega
      clear g3
      have hl2 := fdTxt_len (fdAt fs k)
      generalize fdAt fs k = f at f0 f1 f2 HS hl2
      obtain ⟨fk, fo, fm⟩ := f
      obtain ⟨t, ht⟩ : ∃ t, t = fdTxt ⟨fk, fo, fm⟩ := ⟨_, rfl⟩
      rw [← ht] at hl2 HS
      have HT : Hid (t = fieldTxt fk fo fm) := ht
      simp only at f0 f1 f2
      clear ht
      have a1 := add_big acc [32] (acc ++ [32]) rfl (by omega) (by simp)
      have a2 := add_big (acc ++ [32]) t (acc ++ [32] ++ t) rfl (by simp; omega) (by omega)
      obtain ⟨acc1, hacc1⟩ : ∃ l, l = acc ++ [32] := ⟨_, rfl⟩
      rw [← hacc1] at a1 a2
      obtain ⟨acc2, hacc2⟩ : ∃ l, l = acc1 ++ t := ⟨_, rfl⟩
      rw [← hacc2] at a2
      have H1 := hide hacc1
      have H2 := hide hacc2
      clear hacc1 hacc2
      go_wp2_with fail
      refine (specFieldText_any fk fo fm _).mono ?_
      rintro e w2 ⟨rfl, b2⟩
      rw [← HT.out]
      have B2 : Hid (Below w.heap.size w w2) := HB.out.trans (b2.mono HB.out.size)
      clear b2
      go_wp2_with fail
      refine ⟨⟨k + 1, acc2, by omega, rfl, by go_num, ?_, B2.out⟩, by simp [intOf]; omega⟩
      rw [HS.out, H2.out, H1.out, HA.out]
      simp
    · have hkn : k = n := by omega
      go_wp2_with fail
      go_ret
      refine ⟨?_, HB.out⟩
      have : acc = fdsTxt fs := by
        rw [HA.out, hkn, List.take_of_length_le (by rw [HN.out]; exact Nat.le_refl _)]
      rw [← this]
      rfl
set_option maxHeartbeats 1600000 in
theorem l3Type_any (fa : Option Addr) (fc lo hi : Nat) (t : Ty) (w : World) (hs : SmallT t) (hx : FieldsIn w lo hi fa t.fields) (hh : hi ≤ w.heap.size) :
    Calls Tryz.prog 22 #[.agg #[.int .i64 t.kind, .int .i64 t.up, .bool t.last, .slice fa t.fields.length fc]] w fun e w' => e = .returned (.string ⟨(tyLine t ++ [10]).toArray⟩) ∧ Below w.heap.size w w' := by
  obtain ⟨tk, tu, tl, fs⟩ := t
  obtain ⟨hs1, hs2⟩ := hs
  have HT : Hid (tyLine ⟨tk, tu, tl, fs⟩ = kindTxt tk ++ (32 :: upTxt tu) ++ fdsTxt fs ++ lastTxt tl) := rfl
  generalize tyLine ⟨tk, tu, tl, fs⟩ = line at HT ⊢
  have hfl := fdsTxt_len fs
  have HX := hide (fun W hW => l3List_any fa fc lo hi fs W (by have : fs.length ≤ 4 := hs1; omega) (hx.same (Same.of_below hW hh) (Nat.le_refl _) (Nat.le_refl _)) (Nat.le_trans hh hW.size))
  simp only at hs1 hs2 HX ⊢
  clear hx
  generalize fdsTxt fs = ft at HT hfl HX
  have hul := upTxt_len tu hs2
  generalize fs.length = n at hs1 hfl HX ⊢
  by_cases hk : tk = 2
  · subst hk
    have HK : Hid (kindTxt 2 = [114, 111, 119]) := rfl
    by_cases hu : tu < 0
    · have HU : Hid (upTxt tu = [45]) := if_pos hu
      have hnn : ¬ 0 ≤ tu := by omega
      clear hul hu
      obtain ⟨u, hue⟩ : ∃ u : List UInt8, u = [32, 45] := ⟨_, rfl⟩
      have hul : u.length ≤ 7 := by rw [hue]; simp
      have HUE : Hid (u = 32 :: upTxt tu) := by show _ = _; rw [HU.out, hue]
      have a2 := add_big [114, 111, 119] u ([114, 111, 119] ++ u) rfl (by simp) (by omega)
      obtain ⟨x1, hx1⟩ : ∃ x : List UInt8, x = [114, 111, 119] ++ u := ⟨_, rfl⟩
      rw [← hx1] at a2
      have l1 : x1.length ≤ 10 := by rw [hx1]; simp; omega
      have H1 := hide hx1
      clear hx1
      have a3 := add_big x1 ft (x1 ++ ft) rfl (by omega) (by omega)
      obtain ⟨x2, hx2⟩ : ∃ x : List UInt8, x = x1 ++ ft := ⟨_, rfl⟩
      rw [← hx2] at a3
      have l2 : x2.length ≤ 60 := by rw [hx2]; simp; omega
      have H2 := hide hx2
      clear hx2
      have a4 := add_big x2 [32, 108, 97, 115, 116] (x2 ++ [32, 108, 97, 115, 116]) rfl (by omega) (by simp)
      obtain ⟨x3, hx3⟩ : ∃ x : List UInt8, x = x2 ++ [32, 108, 97, 115, 116] := ⟨_, rfl⟩
      rw [← hx3] at a4
      have l3 : x3.length ≤ 70 := by rw [hx3]; simp; omega
      have H3 := hide hx3
      clear hx3
      have a5 := add_big x2 [10] (x2 ++ [10]) rfl (by omega) (by simp)
      have a6 := add_big x3 [10] (x3 ++ [10]) rfl (by omega) (by simp)
      obtain ⟨x4, hx4⟩ : ∃ x : List UInt8, x = x2 ++ [10] := ⟨_, rfl⟩
      obtain ⟨x5, hx5⟩ : ∃ x : List UInt8, x = x3 ++ [10] := ⟨_, rfl⟩
      rw [← hx4] at a5
      rw [← hx5] at a6
      have H4 := hide hx4
      have H5 := hide hx5
      clear hx4 hx5
      subst hue
      go_enter Tryz.func22, Tryz.ntmps22
      have B1 : Hid (Below w.heap.size w (w.alloc (.cells #[.int .i64 2, .int .i64 tu, .bool tl, .slice fa n fc] 44))) := (Below.refl _ _).alloc (Nat.le_refl _) _
      have R1 : Hid (Rec (w.alloc (.cells #[.int .i64 2, .int .i64 tu, .bool tl, .slice fa n fc] 44)) w.heap.size 44 [.int .i64 2, .int .i64 tu, .bool tl, .slice fa n fc]) := Rec.new _ _ _
      go_wp2_with fail
      refine (HX.out _ B1.out).mono ?_
      rintro e w2 ⟨rfl, b2⟩
      have B2 := hide (B1.out.trans (b2.mono B1.out.size))
      have R2 := hide (R1.out.below b2 R1.out.lt)
      clear b2
      have r2 := R2.out.cell (o := 2) rfl
      cases tl
      · go_wp2_with fail
        go_ret
        refine ⟨?_, B2.out⟩
        rw [HT.out, H4.out, H2.out, H1.out, HK.out, HU.out]
        simp [lastTxt]
      · go_wp2_with fail
        go_ret
        refine ⟨?_, B2.out⟩
        rw [HT.out, H5.out, H3.out, H2.out, H1.out, HK.out, HU.out]
        simp [lastTxt]
    · have HU : Hid (Lib.decDigits tu.toNat = upTxt tu) := (if_neg hu).symm
      have hnn : 0 ≤ tu := by omega
      clear hu
      generalize upTxt tu = d at HU HT hul
      have a1 := add_big [32] d (32 :: d) rfl (by simp) (by omega)
      obtain ⟨u, hue⟩ : ∃ u : List UInt8, u = 32 :: d := ⟨_, rfl⟩
      rw [← hue] at a1
      have hul2 : u.length ≤ 7 := by rw [hue]; simp; omega
      have HUE : Hid (u = 32 :: d) := hue
      clear hue
      have a2 := add_big [114, 111, 119] u ([114, 111, 119] ++ u) rfl (by simp) (by omega)
      obtain ⟨x1, hx1⟩ : ∃ x : List UInt8, x = [114, 111, 119] ++ u := ⟨_, rfl⟩
      rw [← hx1] at a2
      have l1 : x1.length ≤ 10 := by rw [hx1]; simp; omega
      have H1 := hide hx1
      clear hx1
      have a3 := add_big x1 ft (x1 ++ ft) rfl (by omega) (by omega)
      obtain ⟨x2, hx2⟩ : ∃ x : List UInt8, x = x1 ++ ft := ⟨_, rfl⟩
      rw [← hx2] at a3
      have l2 : x2.length ≤ 60 := by rw [hx2]; simp; omega
      have H2 := hide hx2
      clear hx2
      have a4 := add_big x2 [32, 108, 97, 115, 116] (x2 ++ [32, 108, 97, 115, 116]) rfl (by omega) (by simp)
      obtain ⟨x3, hx3⟩ : ∃ x : List UInt8, x = x2 ++ [32, 108, 97, 115, 116] := ⟨_, rfl⟩
      rw [← hx3] at a4
      have l3 : x3.length ≤ 70 := by rw [hx3]; simp; omega
      have H3 := hide hx3
      clear hx3
      have a5 := add_big x2 [10] (x2 ++ [10]) rfl (by omega) (by simp)
      have a6 := add_big x3 [10] (x3 ++ [10]) rfl (by omega) (by simp)
      obtain ⟨x4, hx4⟩ : ∃ x : List UInt8, x = x2 ++ [10] := ⟨_, rfl⟩
      obtain ⟨x5, hx5⟩ : ∃ x : List UInt8, x = x3 ++ [10] := ⟨_, rfl⟩
      rw [← hx4] at a5
      rw [← hx5] at a6
      have H4 := hide hx4
      have H5 := hide hx5
      clear hx4 hx5
      go_enter Tryz.func22, Tryz.ntmps22
      go_wp2_with fail
      refine (dec_at tu d HU.out _ hnn hs2).mono ?_
      rintro e w1 ⟨rfl, b1⟩
      have B1 : Hid (Below w.heap.size w w1) := ((Below.refl _ _).alloc (Nat.le_refl _) _).trans (b1.mono (by simp))
      have R1 : Hid (Rec w1 w.heap.size 44 [.int .i64 2, .int .i64 tu, .bool tl, .slice fa n fc]) := (Rec.new' _ _ _ _ rfl).below b1 (by simp)
      clear b1
      have r3 := R1.out.cell (o := 3) rfl
      go_wp2_with fail
      refine (HX.out _ B1.out).mono ?_
      rintro e w2 ⟨rfl, b2⟩
      have B2 := hide (B1.out.trans (b2.mono B1.out.size))
      have R2 := hide (R1.out.below b2 R1.out.lt)
      clear b2
      have r2 := R2.out.cell (o := 2) rfl
      cases tl
      · go_wp2_with fail
        go_ret
        refine ⟨?_, B2.out⟩
        rw [HT.out, H4.out, H2.out, H1.out, HK.out, HUE.out]
        simp [lastTxt]
      · go_wp2_with fail
        go_ret
        refine ⟨?_, B2.out⟩
        rw [HT.out, H5.out, H3.out, H2.out, H1.out, HK.out, HUE.out]
        simp [lastTxt]
  · have hkk : (tk == 2) = false := beq_eq_false_iff_ne.2 hk
    have HK : Hid (kindTxt tk = [98, 111, 120]) := if_neg hk
    clear hk
    by_cases hu : tu < 0
    · have HU : Hid (upTxt tu = [45]) := if_pos hu
      have hnn : ¬ 0 ≤ tu := by omega
      clear hul hu
      obtain ⟨u, hue⟩ : ∃ u : List UInt8, u = [32, 45] := ⟨_, rfl⟩
      have hul : u.length ≤ 7 := by rw [hue]; simp
      have HUE : Hid (u = 32 :: upTxt tu) := by show _ = _; rw [HU.out, hue]
      have a2 := add_big [98, 111, 120] u ([98, 111, 120] ++ u) rfl (by simp) (by omega)
      obtain ⟨x1, hx1⟩ : ∃ x : List UInt8, x = [98, 111, 120] ++ u := ⟨_, rfl⟩
      rw [← hx1] at a2
      have l1 : x1.length ≤ 10 := by rw [hx1]; simp; omega
      have H1 := hide hx1
      clear hx1
      have a3 := add_big x1 ft (x1 ++ ft) rfl (by omega) (by omega)
      obtain ⟨x2, hx2⟩ : ∃ x : List UInt8, x = x1 ++ ft := ⟨_, rfl⟩
      rw [← hx2] at a3
      have l2 : x2.length ≤ 60 := by rw [hx2]; simp; omega
      have H2 := hide hx2
      clear hx2
      have a4 := add_big x2 [32, 108, 97, 115, 116] (x2 ++ [32, 108, 97, 115, 116]) rfl (by omega) (by simp)
      obtain ⟨x3, hx3⟩ : ∃ x : List UInt8, x = x2 ++ [32, 108, 97, 115, 116] := ⟨_, rfl⟩
      rw [← hx3] at a4
      have l3 : x3.length ≤ 70 := by rw [hx3]; simp; omega
      have H3 := hide hx3
      clear hx3
      have a5 := add_big x2 [10] (x2 ++ [10]) rfl (by omega) (by simp)
      have a6 := add_big x3 [10] (x3 ++ [10]) rfl (by omega) (by simp)
      obtain ⟨x4, hx4⟩ : ∃ x : List UInt8, x = x2 ++ [10] := ⟨_, rfl⟩
      obtain ⟨x5, hx5⟩ : ∃ x : List UInt8, x = x3 ++ [10] := ⟨_, rfl⟩
      rw [← hx4] at a5
      rw [← hx5] at a6
      have H4 := hide hx4
      have H5 := hide hx5
      clear hx4 hx5
      subst hue
      go_enter Tryz.func22, Tryz.ntmps22
      have B1 : Hid (Below w.heap.size w (w.alloc (.cells #[.int .i64 tk, .int .i64 tu, .bool tl, .slice fa n fc] 44))) := (Below.refl _ _).alloc (Nat.le_refl _) _
      have R1 : Hid (Rec (w.alloc (.cells #[.int .i64 tk, .int .i64 tu, .bool tl, .slice fa n fc] 44)) w.heap.size 44 [.int .i64 tk, .int .i64 tu, .bool tl, .slice fa n fc]) := Rec.new _ _ _
      go_wp2_with fail
      refine (HX.out _ B1.out).mono ?_
      rintro e w2 ⟨rfl, b2⟩
      have B2 := hide (B1.out.trans (b2.mono B1.out.size))
      have R2 := hide (R1.out.below b2 R1.out.lt)
      clear b2
      have r2 := R2.out.cell (o := 2) rfl
      cases tl
      · go_wp2_with fail
        go_ret
        refine ⟨?_, B2.out⟩
        rw [HT.out, H4.out, H2.out, H1.out, HK.out, HU.out]
        simp [lastTxt]
      · go_wp2_with fail
        go_ret
        refine ⟨?_, B2.out⟩
        rw [HT.out, H5.out, H3.out, H2.out, H1.out, HK.out, HU.out]
        simp [lastTxt]
    · have HU : Hid (Lib.decDigits tu.toNat = upTxt tu) := (if_neg hu).symm
      have hnn : 0 ≤ tu := by omega
      clear hu
      generalize upTxt tu = d at HU HT hul
      have a1 := add_big [32] d (32 :: d) rfl (by simp) (by omega)
      obtain ⟨u, hue⟩ : ∃ u : List UInt8, u = 32 :: d := ⟨_, rfl⟩
      rw [← hue] at a1
      have hul2 : u.length ≤ 7 := by rw [hue]; simp; omega
      have HUE : Hid (u = 32 :: d) := hue
      clear hue
      have a2 := add_big [98, 111, 120] u ([98, 111, 120] ++ u) rfl (by simp) (by omega)
      obtain ⟨x1, hx1⟩ : ∃ x : List UInt8, x = [98, 111, 120] ++ u := ⟨_, rfl⟩
      rw [← hx1] at a2
      have l1 : x1.length ≤ 10 := by rw [hx1]; simp; omega
      have H1 := hide hx1
      clear hx1
      have a3 := add_big x1 ft (x1 ++ ft) rfl (by omega) (by omega)
      obtain ⟨x2, hx2⟩ : ∃ x : List UInt8, x = x1 ++ ft := ⟨_, rfl⟩
      rw [← hx2] at a3
      have l2 : x2.length ≤ 60 := by rw [hx2]; simp; omega
      have H2 := hide hx2
      clear hx2
      have a4 := add_big x2 [32, 108, 97, 115, 116] (x2 ++ [32, 108, 97, 115, 116]) rfl (by omega) (by simp)
      obtain ⟨x3, hx3⟩ : ∃ x : List UInt8, x = x2 ++ [32, 108, 97, 115, 116] := ⟨_, rfl⟩
      rw [← hx3] at a4
      have l3 : x3.length ≤ 70 := by rw [hx3]; simp; omega
      have H3 := hide hx3
      clear hx3
      have a5 := add_big x2 [10] (x2 ++ [10]) rfl (by omega) (by simp)
      have a6 := add_big x3 [10] (x3 ++ [10]) rfl (by omega) (by simp)
      obtain ⟨x4, hx4⟩ : ∃ x : List UInt8, x = x2 ++ [10] := ⟨_, rfl⟩
      obtain ⟨x5, hx5⟩ : ∃ x : List UInt8, x = x3 ++ [10] := ⟨_, rfl⟩
      rw [← hx4] at a5
      rw [← hx5] at a6
      have H4 := hide hx4
      have H5 := hide hx5
      clear hx4 hx5
      go_enter Tryz.func22, Tryz.ntmps22
      go_wp2_with fail
      refine (dec_at tu d HU.out _ hnn hs2).mono ?_
      rintro e w1 ⟨rfl, b1⟩
      have B1 : Hid (Below w.heap.size w w1) := ((Below.refl _ _).alloc (Nat.le_refl _) _).trans (b1.mono (by simp))
      have R1 : Hid (Rec w1 w.heap.size 44 [.int .i64 tk, .int .i64 tu, .bool tl, .slice fa n fc]) := (Rec.new' _ _ _ _ rfl).below b1 (by simp)
      clear b1
      have r3 := R1.out.cell (o := 3) rfl
      go_wp2_with fail
      refine (HX.out _ B1.out).mono ?_
      rintro e w2 ⟨rfl, b2⟩
      have B2 := hide (B1.out.trans (b2.mono B1.out.size))
      have R2 := hide (R1.out.below b2 R1.out.lt)
      clear b2
      have r2 := R2.out.cell (o := 2) rfl
      cases tl
      · go_wp2_with fail
        go_ret
        refine ⟨?_, B2.out⟩
        rw [HT.out, H4.out, H2.out, H1.out, HK.out, HUE.out]
        simp [lastTxt]
      · go_wp2_with fail
        go_ret
        refine ⟨?_, B2.out⟩
        rw [HT.out, H5.out, H3.out, H2.out, H1.out, HK.out, HUE.out]
        simp [lastTxt]
end Go.Proofs.YtblliefejffhoaaGreatDoor

/- l3FunText of the model: the lines of a function. -/
namespace Go.Proofs.YtblliefejffhoaaGreatDoor
open Go.ChangeShapes Go.WideShapes Go.ChangeAt Go.RowKit
set_option linter.unusedVariables false

set_option maxHeartbeats 1600000 in
theorem l3FunText_any {md : Bool} (a0 a4 a5 : Option Addr) (c0 c4 c5 lo hi : Nat) (f : GFun) (w : World) (hs : SmallF f) (h0 : FieldsM md w lo hi a0 f.takes) (h4 : FieldsM md w lo hi a4 f.own) (h5 : InssM md w lo hi a5 f.body) (hh : hi ≤ w.heap.size) :
    Calls Tryz.prog 24 #[.agg #[.slice a0 f.takes.length c0, .int .i64 f.gives.kind, .int .i64 f.gives.of, .bool f.gives.mt, .slice a4 f.own.length c4, .slice a5 f.body.length c5]] w fun e w' => e = .returned (.string ⟨(unl (funLs f)).toArray⟩) ∧ Below w.heap.size w w' := by
  have HLB := hide (fun k hk => lb_unl (funTo_lb hs k hk))
  have HSN := hide (funTo_snoc f)
  have HH : Hid (unl (funTo f 0) = (funW ++ fdTxt f.gives ++ fdsTxt f.takes) ++ [10] ++ unl (ownLs f)) := by
    show _ = _
    simp [funTo, funHead, unl]
  have HW0 : Hid (f.own.length = 0 → unl (ownLs f) = []) := fun h => by
    unfold ownLs
    rw [if_pos h]; rfl
  have HW : Hid (¬ f.own.length = 0 → unl (ownLs f) = ownW ++ fdsTxt f.own ++ [10]) := fun h => by
    unfold ownLs
    rw [if_neg h, unl_one]
  have HL : Hid (unl (funLs f) = unl (funTo f f.body.length)) := rfl
  have HC1 := hide (fun W (hb : Below w.heap.size w W) => l3List_any a0 c0 lo hi f.takes W (by have := hs.1; omega) (h0.1.keep (hb.mono hh)) (Nat.le_trans hh hb.size))
  have HC2 := hide (fun W (hb : Below w.heap.size w W) => l3List_any a4 c4 lo hi f.own W (by have := hs.2.1; omega) (h4.1.keep (hb.mono hh)) (Nat.le_trans hh hb.size))
  have HC3 : Hid (∀ W, Calls Tryz.prog 58 #[.agg #[.int .i64 f.gives.kind, .int .i64 f.gives.of, .bool f.gives.mt]] W fun e w' => e = .returned (.string ⟨(fdTxt f.gives).toArray⟩) ∧ Below W.heap.size W w') := fun W => specFieldText_any _ _ _ W
  have H5 := hide h5
  have lg := fdTxt_len f.gives
  have lt := fdsTxt_len f.takes
  have lw := fdsTxt_len f.own
  obtain ⟨hs1, hs2, hs3⟩ := hs
  generalize fdTxt f.gives = g at HH HC3 lg
  generalize fdsTxt f.takes = tk at HH HC1 lt
  generalize fdsTxt f.own = ow at HW HC2 lw
  generalize unl (funLs f) = goalT at HL ⊢
  clear h0 h4 h5
  obtain ⟨ts, ⟨gk, go, gm⟩, os, bs⟩ := f
  simp only at HLB HSN HH HW0 HW HL HC1 HC2 HC3 H5 lt lw hs1 hs2 hs3 ⊢
  obtain ⟨F, hF⟩ : ∃ F : GFun, F = ⟨ts, ⟨gk, go, gm⟩, os, bs⟩ := ⟨_, rfl⟩
  rw [← hF] at HLB HSN HH HW0 HW HL
  have HF := hide hF
  clear hF
  have r0 : Rec (w.alloc (.cells #[.slice a0 ts.length c0, .int .i64 gk, .int .i64 go, .bool gm, .slice a4 os.length c4, .slice a5 bs.length c5] 36)) w.heap.size 36 [.slice a0 ts.length c0, .int .i64 gk, .int .i64 go, .bool gm, .slice a4 os.length c4, .slice a5 bs.length c5] := Rec.new _ _ _
  have b0 : Below w.heap.size w (w.alloc (.cells #[.slice a0 ts.length c0, .int .i64 gk, .int .i64 go, .bool gm, .slice a4 os.length c4, .slice a5 bs.length c5] 36)) := (Below.refl _ _).alloc (Nat.le_refl _) _
  have R0 := hide r0
  have B0 := hide b0
  clear r0 b0
  have add0 := add_big [102, 117, 110, 32] g ([102, 117, 110, 32] ++ g) rfl (by first | omega | simp) (by first | omega | simp)
  obtain ⟨x1, hadd0⟩ : ∃ l : List UInt8, l = [102, 117, 110, 32] ++ g := ⟨_, rfl⟩
  rw [← hadd0] at add0
  have len_x1 : x1.length ≤ 20 := by rw [hadd0]; simp; omega
  have H_x1 := hide hadd0
  clear hadd0
  have add1 := add_big x1 tk (x1 ++ tk) rfl (by first | omega | simp) (by first | omega | simp)
  obtain ⟨x2, hadd1⟩ : ∃ l : List UInt8, l = x1 ++ tk := ⟨_, rfl⟩
  rw [← hadd1] at add1
  have len_x2 : x2.length ≤ 60 := by rw [hadd1]; simp; omega
  have H_x2 := hide hadd1
  clear hadd1
  have add2 := add_big x2 [10] (x2 ++ [10]) rfl (by first | omega | simp) (by first | omega | simp)
  obtain ⟨x3, hadd2⟩ : ∃ l : List UInt8, l = x2 ++ [10] := ⟨_, rfl⟩
  rw [← hadd2] at add2
  have len_x3 : x3.length ≤ 61 := by rw [hadd2]; simp; omega
  have H_x3 := hide hadd2
  clear hadd2
  have E3 : Hid (unl (funTo F 0) = x3 ++ unl (ownLs F)) := by
    show _ = _
    rw [HH.out, H_x3.out, H_x2.out, H_x1.out]
    rfl
  clear HH H_x1 H_x2 H_x3
  go_enter Tryz.func24, Tryz.ntmps24
  go_wp2_with fail
  go_region_held3 (fun w' => w'.cell? ⟨w.heap.size, 0, none⟩ = some (.slice a0 ts.length c0) ∧ w'.cell? ⟨w.heap.size, 1, none⟩ = some (.int .i64 gk) ∧ w'.cell? ⟨w.heap.size, 2, none⟩ = some (.int .i64 go) ∧ w'.cell? ⟨w.heap.size, 3, none⟩ = some (.bool gm))
    (go_keep)
    ((first
      | (go_at_call 58; refine (HC3.out _).mono ?_; rintro e w1 ⟨rfl, b1⟩; have B1 := hide (B0.out.drew.trans (b1.mono B0.out.size)); have R1 : Hid (Rec w1 w.heap.size 36 [.slice a0 ts.length c0, .int .i64 gk, .int .i64 go, .bool gm, .slice a4 os.length c4, .slice a5 bs.length c5]) := Rec.below (w := (w.alloc (.cells #[.slice a0 ts.length c0, .int .i64 gk, .int .i64 go, .bool gm, .slice a4 os.length c4, .slice a5 bs.length c5] 36)).drew) R0.out b1 R0.out.lt; clear b1; have p0 := R1.out.cell (o := 0) rfl; have p1 := R1.out.cell (o := 1) rfl; have p2 := R1.out.cell (o := 2) rfl; have p3 := R1.out.cell (o := 3) rfl)
      | (go_at_call 23; refine (HC1.out _ B1.out).mono ?_; rintro e w2 ⟨rfl, b2⟩; have B2 := hide (B1.out.trans (b2.mono B1.out.size)); have R2 := hide (R1.out.below b2 R1.out.lt); clear b2 p0 p1 p2 p3; have p0 := R2.out.cell (o := 0) rfl; have p1 := R2.out.cell (o := 1) rfl; have p2 := R2.out.cell (o := 2) rfl; have p3 := R2.out.cell (o := 3) rfl)))
  have q2 := R2.out.cell (o := 4) rfl
  have q3 := R2.out.cell (o := 5) rfl
  by_cases ho : os.length = 0
  · have E4 : Hid (x3 = unl (funTo F 0)) := by
      show _ = _
      rw [E3.out, HW0.out ho]
      simp
    have hz : ¬ (0 : Int) < (os.length : Int) := by omega
    clear E3 HW HW0
    go_wp2_with fail
    go_loopw [3, 4] (fun o i wr => ∃ (k : Nat) (acc : List UInt8), k ≤ bs.length ∧ o = .string ⟨acc.toArray⟩ ∧ i = .int .i64 k ∧ acc = unl (funTo F k) ∧ Rec wr w.heap.size 36 [.slice a0 ts.length c0, .int .i64 gk, .int .i64 go, .bool gm, .slice a4 os.length c4, .slice a5 bs.length c5] ∧ Below w.heap.size w wr) (fun o i wr => bs.length - (intOf i).toNat)
    case atStart => exact ⟨0, _, Nat.zero_le _, rfl, rfl, E4.out, R2.out, B2.out⟩
    case round =>
      obtain ⟨k, acc, hk, rfl, rfl, hacc, hr, hb⟩ := hrel
      have HA := hide hacc
      have HB := hide hb
      have HR := hide hr
      have s1 := hb.size
      have r5 := hr.cell (o := 5) rfl
      have hlen : acc.length ≤ 3232 := by
        rw [hacc]
        exact HLB.out k hk
      clear hacc hb hr
      by_cases hlt : k < bs.length
      · rcases H5.out with hnil | ⟨b, off, rfl, g1, g2, _, g3⟩
        · rw [hnil] at hlt; exact absurd hlt (Nat.not_lt_zero _)
        obtain ⟨i0, i1, i2⟩ := (g3 k hlt).same (lo' := lo) (hi' := hi) (.of_below HB.out hh) (Nat.le_refl _) (Nat.le_refl _) g1 g2
        have HS : Hid (funTo F (k + 1) = funTo F k ++ [insLine (insAt' bs k)]) := HSN.out k hlt
        have hbl : b < wr.heap.size := by omega
        clear g3
        have hl2 := insLine_len (insAt' bs k)
        generalize insAt' bs k = i at i0 i1 i2 HS hl2
        obtain ⟨io, ia, ib⟩ := i
        obtain ⟨t, ht⟩ : ∃ t, t = insLine ⟨io, ia, ib⟩ := ⟨_, rfl⟩
        rw [← ht] at hl2 HS
        have HT : Hid (t = insText io ia ib) := ht
        simp only at i0 i1 i2
        clear ht
        have add0 := add_big acc t (acc ++ t) rfl (by first | omega | simp) (by first | omega | simp)
        obtain ⟨y1, hadd0⟩ : ∃ l : List UInt8, l = acc ++ t := ⟨_, rfl⟩
        rw [← hadd0] at add0
        have len_y1 : y1.length ≤ 4000 := by rw [hadd0]; simp; omega
        have H_y1 := hide hadd0
        clear hadd0
        have add1 := add_big y1 [10] (y1 ++ [10]) rfl (by first | omega | simp) (by first | omega | simp)
        obtain ⟨y2, hadd1⟩ : ∃ l : List UInt8, l = y1 ++ [10] := ⟨_, rfl⟩
        rw [← hadd1] at add1
        have len_y2 : y2.length ≤ 4001 := by rw [hadd1]; simp; omega
        have H_y2 := hide hadd1
        clear hadd1
        have j1 : (0 : Int) ≤ (k : Int) := by omega
        have j2 : (k : Int) < (bs.length : Int) := by omega
        go_wp2_with fail
        refine (specInsText_any io ia ib _).mono ?_
        rintro e w5 ⟨rfl, b5⟩
        rw [← HT.out]
        have B5 : Hid (Below w.heap.size w w5) := HB.out.trans (b5.mono s1)
        have R5 := hide (HR.out.below b5 HR.out.lt)
        clear b5
        go_wp2_with fail
        refine ⟨⟨k + 1, y2, by omega, rfl, by go_num, ?_, R5.out, B5.out⟩, by simp [intOf]; omega⟩
        rw [HS.out, unl_append, unl_one, H_y2.out, H_y1.out, HA.out]
        simp
      · have hkn : k = bs.length := by omega
        go_wp2_with fail
        go_ret
        refine ⟨?_, HB.out⟩
        have : acc = goalT := by
          rw [HA.out, hkn, HL.out]
        rw [← this]
        rfl
  · have hz : (0 : Int) < (os.length : Int) := by omega
    have add0 := add_big x3 [111, 119, 110] (x3 ++ [111, 119, 110]) rfl (by first | omega | simp) (by first | omega | simp)
    obtain ⟨x4, hadd0⟩ : ∃ l : List UInt8, l = x3 ++ [111, 119, 110] := ⟨_, rfl⟩
    rw [← hadd0] at add0
    have len_x4 : x4.length ≤ 64 := by rw [hadd0]; simp; omega
    have H_x4 := hide hadd0
    clear hadd0
    have add1 := add_big x4 ow (x4 ++ ow) rfl (by first | omega | simp) (by first | omega | simp)
    obtain ⟨x5, hadd1⟩ : ∃ l : List UInt8, l = x4 ++ ow := ⟨_, rfl⟩
    rw [← hadd1] at add1
    have len_x5 : x5.length ≤ 100 := by rw [hadd1]; simp; omega
    have H_x5 := hide hadd1
    clear hadd1
    have add2 := add_big x5 [10] (x5 ++ [10]) rfl (by first | omega | simp) (by first | omega | simp)
    obtain ⟨x6, hadd2⟩ : ∃ l : List UInt8, l = x5 ++ [10] := ⟨_, rfl⟩
    rw [← hadd2] at add2
    have len_x6 : x6.length ≤ 101 := by rw [hadd2]; simp; omega
    have H_x6 := hide hadd2
    clear hadd2
    have E4 : Hid (x6 = unl (funTo F 0)) := by
      show _ = _
      have hw := HW.out ho
      rw [E3.out, hw, H_x6.out, H_x5.out, H_x4.out]
      simp [ownW]
    clear E3 HW HW0 H_x4 H_x5 H_x6
    go_wp2_with fail
    refine (HC2.out _ B2.out).mono ?_
    rintro e w4 ⟨rfl, b4⟩
    have B4 := hide (B2.out.trans (b4.mono B2.out.size))
    have R4 := hide (R2.out.below b4 R2.out.lt)
    clear b4
    go_wp2_with fail
    go_loopw [3, 4] (fun o i wr => ∃ (k : Nat) (acc : List UInt8), k ≤ bs.length ∧ o = .string ⟨acc.toArray⟩ ∧ i = .int .i64 k ∧ acc = unl (funTo F k) ∧ Rec wr w.heap.size 36 [.slice a0 ts.length c0, .int .i64 gk, .int .i64 go, .bool gm, .slice a4 os.length c4, .slice a5 bs.length c5] ∧ Below w.heap.size w wr) (fun o i wr => bs.length - (intOf i).toNat)
    case atStart => exact ⟨0, _, Nat.zero_le _, rfl, rfl, E4.out, R4.out, B4.out⟩
    case round =>
      obtain ⟨k, acc, hk, rfl, rfl, hacc, hr, hb⟩ := hrel
      have HA := hide hacc
      have HB := hide hb
      have HR := hide hr
      have s1 := hb.size
      have r5 := hr.cell (o := 5) rfl
      have hlen : acc.length ≤ 3232 := by
        rw [hacc]
        exact HLB.out k hk
      clear hacc hb hr
      by_cases hlt : k < bs.length
      · rcases H5.out with hnil | ⟨b, off, rfl, g1, g2, _, g3⟩
        · rw [hnil] at hlt; exact absurd hlt (Nat.not_lt_zero _)
        obtain ⟨i0, i1, i2⟩ := (g3 k hlt).same (lo' := lo) (hi' := hi) (.of_below HB.out hh) (Nat.le_refl _) (Nat.le_refl _) g1 g2
        have HS : Hid (funTo F (k + 1) = funTo F k ++ [insLine (insAt' bs k)]) := HSN.out k hlt
        have hbl : b < wr.heap.size := by omega
        clear g3
        have hl2 := insLine_len (insAt' bs k)
        generalize insAt' bs k = i at i0 i1 i2 HS hl2
        obtain ⟨io, ia, ib⟩ := i
        obtain ⟨t, ht⟩ : ∃ t, t = insLine ⟨io, ia, ib⟩ := ⟨_, rfl⟩
        rw [← ht] at hl2 HS
        have HT : Hid (t = insText io ia ib) := ht
        simp only at i0 i1 i2
        clear ht
        have add0 := add_big acc t (acc ++ t) rfl (by first | omega | simp) (by first | omega | simp)
        obtain ⟨y1, hadd0⟩ : ∃ l : List UInt8, l = acc ++ t := ⟨_, rfl⟩
        rw [← hadd0] at add0
        have len_y1 : y1.length ≤ 4000 := by rw [hadd0]; simp; omega
        have H_y1 := hide hadd0
        clear hadd0
        have add1 := add_big y1 [10] (y1 ++ [10]) rfl (by first | omega | simp) (by first | omega | simp)
        obtain ⟨y2, hadd1⟩ : ∃ l : List UInt8, l = y1 ++ [10] := ⟨_, rfl⟩
        rw [← hadd1] at add1
        have len_y2 : y2.length ≤ 4001 := by rw [hadd1]; simp; omega
        have H_y2 := hide hadd1
        clear hadd1
        have j1 : (0 : Int) ≤ (k : Int) := by omega
        have j2 : (k : Int) < (bs.length : Int) := by omega
        go_wp2_with fail
        refine (specInsText_any io ia ib _).mono ?_
        rintro e w5 ⟨rfl, b5⟩
        rw [← HT.out]
        have B5 : Hid (Below w.heap.size w w5) := HB.out.trans (b5.mono s1)
        have R5 := hide (HR.out.below b5 HR.out.lt)
        clear b5
        go_wp2_with fail
        refine ⟨⟨k + 1, y2, by omega, rfl, by go_num, ?_, R5.out, B5.out⟩, by simp [intOf]; omega⟩
        rw [HS.out, unl_append, unl_one, H_y2.out, H_y1.out, HA.out]
        simp
      · have hkn : k = bs.length := by omega
        go_wp2_with fail
        go_ret
        refine ⟨?_, HB.out⟩
        have : acc = goalT := by
          rw [HA.out, hkn, HL.out]
        rw [← this]
        rfl
end Go.Proofs.YtblliefejffhoaaGreatDoor

/- ProgText of the model. -/
namespace Go.Proofs.YtblliefejffhoaaGreatDoor
open Go.ChangeShapes Go.WideShapes Go.ChangeAt Go.RowKit
set_option linter.unusedVariables false

set_option maxHeartbeats 3200000 in
set_option maxRecDepth 100000 in
theorem specProgText_any {md : Bool} (a0 a1 a2 : Option Addr) (c0 c1 c2 lo hi : Nat) (p : GProg) (w : World) (hB : ProgB 1048576 p) (hx : PM md w lo hi a0 a1 a2 p) (hc : p.types.length ≤ c0) (hl : lo ≤ hi) (hh : hi ≤ w.heap.size) :
    Calls Tryz.prog 8 #[.agg #[.slice a0 p.types.length c0, .slice a1 p.glob.length c1, .slice a2 p.funs.length c2]] w fun e w' => e = .returned (.string ⟨(progTxt p).toArray⟩) ∧ Below w.heap.size w w' := by
  have HOk := hide (fun W (hb : Below w.heap.size w W) => specProgOk_any a0 a1 a2 c0 c1 c2 lo hi p W hB (hx.keep (hb.mono hh)) hc hl (Nat.le_trans hh hb.size))
  have HT0 : Hid (progOkF p = false → progTxt p = []) := fun h => by unfold progTxt; rw [h]; rfl
  have HT1 : Hid (progOkF p = true → progTxt p = unl (progLs p)) := fun h => by unfold progTxt; rw [h]; rfl
  have HSM : Hid (progOkF p = true → SmallP p) := smallP_of
  have HG : Hid (GroupsIn w lo hi a0 p.types) := hx.1.1
  have HFun : Hid (FunsM md w lo hi a2 p.funs) := hx.2.2
  have HC2 := hide (fun W (hb : Below w.heap.size w W) => l3List_any a1 c1 lo hi p.glob W hB.2.1 (hx.2.1.1.keep (hb.mono hh)) (Nat.le_trans hh hb.size))
  have HL : Hid (unl (progLs p) = unl (typesTo p.types p.types.length ++ globLs p.glob ++ funsLs p.funs p.funs.length)) := rfl
  generalize progTxt p = T at HT0 HT1 ⊢
  clear hx hB
  generalize progOkF p = R at HOk HT0 HT1 HSM
  obtain ⟨gs, gl, fs⟩ := p
  simp only at HOk HT0 HT1 HSM HG HFun HC2 HL ⊢
  have r0 : Rec (w.alloc (.cells #[.slice a0 gs.length c0, .slice a1 gl.length c1, .slice a2 fs.length c2] 27)) w.heap.size 27 [.slice a0 gs.length c0, .slice a1 gl.length c1, .slice a2 fs.length c2] := Rec.new _ _ _
  have b0 : Below w.heap.size w (w.alloc (.cells #[.slice a0 gs.length c0, .slice a1 gl.length c1, .slice a2 fs.length c2] 27)) := (Below.refl _ _).alloc (Nat.le_refl _) _
  have R0 := hide r0
  have B0 := hide b0
  clear r0 b0
  go_enter Tryz.func8, Tryz.ntmps8
  go_wp2_with fail
  refine (HOk.out _ B0.out).mono ?_
  rintro e w1 ⟨rfl, b1⟩
  have B1 := hide (B0.out.trans (b1.mono B0.out.size))
  have R1 := hide (R0.out.below b1 R0.out.lt)
  clear b1 R0 B0 HOk
  cases R with
  | false =>
    have hT := HT0.out rfl
    have HT := hide hT
    clear hT HT0 HT1 HSM
    go_wp2_with fail
    go_ret
    exact ⟨by rw [HT.out]; rfl, B1.out⟩
  | true =>
  have hT := (HT1.out rfl).trans HL.out
  have HSP := hide (HSM.out rfl)
  clear HL
  have HL := hide hT
  clear hT HT0 HT1 HSM
  have lw := fdsTxt_len gl
  have hgl3 : gl.length ≤ 3 := HSP.out.2.2.1
  have hgs4 : gs.length ≤ 4 := HSP.out.1
  have hfs5 : fs.length ≤ 5 := HSP.out.2.2.2.2.1
  obtain ⟨ow, how⟩ : ∃ o, o = fdsTxt gl := ⟨_, rfl⟩
  have HOW := hide how
  rw [← how] at HC2 lw
  clear how
  go_wp2_with fail
  go_loopw [3, 4] (fun o i wr => ∃ (k : Nat) (acc : List UInt8), k ≤ gs.length ∧ o = .string ⟨acc.toArray⟩ ∧ i = .int .i64 k ∧ acc = unl (typesTo gs k) ∧ Rec wr w.heap.size 27 [.slice a0 gs.length c0, .slice a1 gl.length c1, .slice a2 fs.length c2] ∧ Below w.heap.size w wr) (fun o i wr => gs.length - (intOf i).toNat)
  case atStart => exact ⟨0, _, Nat.zero_le _, rfl, rfl, rfl, R1.out, B1.out⟩
  case round =>
    clear R1 B1
    obtain ⟨wo, hwo⟩ : ∃ x, x = wr := ⟨wr, rfl⟩
    subst hwo
    obtain ⟨k, acc, hk, rfl, rfl, hacc, hr, hb⟩ := hrel
    have HA := hide hacc
    have HB := hide hb
    have HR := hide hr
    have s1 := hb.size
    have r0 := hr.cell (o := 0) rfl
    have r1 := hr.cell (o := 1) rfl
    have hlen : acc.length ≤ 3636 := by
      rw [hacc]
      exact lb_unl (typesTo_lb HSP.out.1 HSP.out.2.1 k hk)
    clear hacc hb hr
    by_cases hlt : k < gs.length
    · rcases HG.out with hnil | ⟨b, off, rfl, g1, g2, g3⟩
      · rw [hnil] at hlt; exact absurd hlt (Nat.not_lt_zero _)
      obtain ⟨ta, tc, e0, hT⟩ := g3 k hlt
      have HTy := hide hT
      have HE0 := hide e0
      have hSG := HSP.out.2.1 k hlt
      have HSG := hide hSG
      have hg8 : (grAt gs k).length ≤ 8 := hSG.1
      have HSS : Hid (unl (typesTo gs (k + 1)) = unl (typesTo gs k ++ grTo (grAt gs k) (grAt gs k).length)) := by
        show _ = _
        rw [typesTo_snoc gs k hlt]
      have HLB : Hid (∀ m, m ≤ (grAt gs k).length → (unl (typesTo gs k ++ grTo (grAt gs k) m)).length ≤ 4545) := fun m hm => lb_unl ((typesTo_lb HSP.out.1 HSP.out.2.1 k hk).append (grTo_lb HSG.out m hm))
      have HSN := hide (grTo_snoc (grAt gs k))
      clear g3 hT e0 hSG
      generalize grAt gs k = g at HTy HE0 HSG hg8 HSS HLB HSN
      have j1 : (0 : Int) ≤ (k : Int) := by omega
      have j2 : (k : Int) < (gs.length : Int) := by omega
      have hbw : b < wo.heap.size := by omega
      have add0 := add_big acc [103, 114, 111, 117, 112, 10] (acc ++ [103, 114, 111, 117, 112, 10]) rfl (by first | omega | simp) (by first | omega | simp)
      obtain ⟨z1, hadd0⟩ : ∃ l : List UInt8, l = acc ++ [103, 114, 111, 117, 112, 10] := ⟨_, rfl⟩
      rw [← hadd0] at add0
      have len_z1 : z1.length ≤ 4000 := by rw [hadd0]; simp; omega
      have H_z1 := hide hadd0
      clear hadd0
      have E1 : Hid (z1 = unl (typesTo gs k ++ grTo g 0)) := by
        show _ = _
        rw [unl_append, H_z1.out, HA.out]
        rfl
      clear H_z1
      go_wp2_with fail
      go_loopw [3, 5] (fun o j wr => ∃ (m : Nat) (ac2 : List UInt8), m ≤ g.length ∧ o = .string ⟨ac2.toArray⟩ ∧ j = .int .i64 m ∧ ac2 = unl (typesTo gs k ++ grTo g m) ∧ Rec wr w.heap.size 27 [.slice (some ⟨b, off, none⟩) gs.length c0, .slice a1 gl.length c1, .slice a2 fs.length c2] ∧ Below w.heap.size w wr) (fun o j wr => g.length - (intOf j).toNat)
      case atStart => exact ⟨0, _, Nat.zero_le _, rfl, rfl, E1.out, HR.out, HB.out⟩
      case round =>
        clear E1 HR HB s1 r0 r1 hlen add0 len_z1 hbw
        obtain ⟨m, ac2, hm, rfl, rfl, hac, hr, hb⟩ := hrel
        have HA2 := hide hac
        have HB := hide hb
        have HR := hide hr
        have s1 := hb.size
        have r0 := hr.cell (o := 0) rfl
        have hbw : b < wr.heap.size := by omega
        have e0 : wr.cell? ⟨b, off + k, none⟩ = some (.slice ta g.length tc) := by rw [hb.cell (p := ⟨b, off + k, none⟩) (by show b < _; omega)]; exact HE0.out
        have hlen2 : ac2.length ≤ 4545 := by
          rw [hac]
          exact HLB.out m hm
        clear hac hb hr
        by_cases hml : m < g.length
        · rcases HTy.out with hnil | ⟨tb, toff, rfl, t1, t2, t3⟩
          · rw [hnil] at hml; exact absurd hml (Nat.not_lt_zero _)
          obtain ⟨x0, x1, x2, fa, fc, x3, hF⟩ := (t3 m hml).same (lo' := lo) (hi' := hi) (.of_below HB.out hh) (Nat.le_refl _) (Nat.le_refl _) t1 t2
          have HC := hide (l3Type_any fa fc lo hi (tyAt g m) wr (HSG.out.2 m hml) hF (Nat.le_trans hh s1))
          have hl2 := tyLine_len (HSG.out.2 m hml)
          have HS : Hid (unl (typesTo gs k ++ grTo g (m + 1)) = unl (typesTo gs k ++ grTo g m) ++ (tyLine (tyAt g m) ++ [10])) := by
            show _ = _
            rw [HSN.out m hml, ← List.append_assoc, unl_append _ [tyLine (tyAt g m)], unl_one]
          have hl3 : (tyLine (tyAt g m) ++ [10]).length ≤ 61 := by simp; omega
          have htb : tb < wr.heap.size := by omega
          clear t3 hF hl2
          generalize tyLine (tyAt g m) ++ [10] = t at HC HS hl3
          generalize tyAt g m = ty at x0 x1 x2 x3 HC
          obtain ⟨yk, yu, yl, yf⟩ := ty
          simp only at x0 x1 x2 x3 HC
          have add0 := add_big ac2 t (ac2 ++ t) rfl (by first | omega | simp) (by first | omega | simp)
          obtain ⟨u1, hadd0⟩ : ∃ l : List UInt8, l = ac2 ++ t := ⟨_, rfl⟩
          rw [← hadd0] at add0
          have len_u1 : u1.length ≤ 5000 := by rw [hadd0]; simp; omega
          have H_u1 := hide hadd0
          clear hadd0
          have m1 : (0 : Int) ≤ (m : Int) := by omega
          have m2 : (m : Int) < (g.length : Int) := by omega
          go_wp2_with fail
          refine HC.out.mono ?_
          rintro e w5 ⟨rfl, b5⟩
          have B5 : Hid (Below w.heap.size w w5) := HB.out.trans (b5.mono s1)
          have R5 := hide (HR.out.below b5 HR.out.lt)
          clear b5
          go_wp2_with fail
          refine ⟨⟨m + 1, u1, by omega, rfl, by go_num, ?_, R5.out, B5.out⟩, by simp [intOf]; omega⟩
          rw [HS.out, H_u1.out, HA2.out]
        · have hmn : m = g.length := by omega
          have EE : Hid (ac2 = unl (typesTo gs (k + 1))) := by
            show _ = _
            rw [HSS.out, HA2.out, hmn]
          clear hmn
          go_wp2_with fail
          exact ⟨⟨k + 1, ac2, by omega, rfl, by go_num, EE.out, HR.out, HB.out⟩, by simp [intOf]; omega⟩
    · have hkn : k = gs.length := by omega
      have E0 : Hid (acc = unl (typesTo gs gs.length)) := by
        show _ = _
        rw [HA.out, hkn]
      clear hkn HA
      have r2 := HR.out.cell (o := 2) rfl
      by_cases ho : gl.length = 0
      · have E4 : Hid (acc = unl (typesTo gs gs.length ++ globLs gl ++ funsLs fs 0)) := by
          show _ = _
          rw [E0.out, globLs, if_pos ho]
          simp [funsLs]
        have hz : ¬ (0 : Int) < (gl.length : Int) := by omega
        clear E0
        go_wp2_with fail
        go_loopw [3, 6] (fun o i wr => ∃ (k : Nat) (acc : List UInt8), k ≤ fs.length ∧ o = .string ⟨acc.toArray⟩ ∧ i = .int .i64 k ∧ acc = unl (typesTo gs gs.length ++ globLs gl ++ funsLs fs k) ∧ Rec wr w.heap.size 27 [.slice a0 gs.length c0, .slice a1 gl.length c1, .slice a2 fs.length c2] ∧ Below w.heap.size w wr) (fun o i wr => fs.length - (intOf i).toNat)
        case atStart => exact ⟨0, _, Nat.zero_le _, rfl, rfl, E4.out, HR.out, HB.out⟩
        case round =>
          clear E4 HR HB s1 r0 r1 r2 hlen
          obtain ⟨k, acc, hk, rfl, rfl, hacc, hr, hb⟩ := hrel
          have HA := hide hacc
          have HB := hide hb
          have HR := hide hr
          have s1 := hb.size
          have r2 := hr.cell (o := 2) rfl
          have hlen : acc.length ≤ 20000 := by
            rw [hacc]
            exact Nat.le_trans (lb_unl (((typesTo_lb HSP.out.1 HSP.out.2.1 _ (Nat.le_refl _)).append (globLs_lb HSP.out.2.2.1)).append (funsLs_lb HSP.out.2.2.2.2.1 HSP.out.2.2.2.2.2 k hk))) (by omega)
          clear hacc hb hr
          by_cases hlt : k < fs.length
          · rcases HFun.out with hnil | ⟨b, off, rfl, g1, g2, _, g3⟩
            · rw [hnil] at hlt; exact absurd hlt (Nat.not_lt_zero _)
            obtain ⟨p0, q0, p4, q4, p5, q5, y0, y1, y2, y3, y4, y5, z0, z4, z5⟩ := (g3 k hlt).same (lo' := lo) (hi' := hi) (.of_below HB.out hh) (Nat.le_refl _) (Nat.le_refl _) g1 g2
            have hSF := HSP.out.2.2.2.2.2 k hlt
            have HC := hide (l3FunText_any p0 p4 p5 q0 q4 q5 lo hi (funAt' fs k) wr hSF z0 z4 z5 (Nat.le_trans hh s1))
            have hl2 := lb_unl (funTo_lb hSF _ (Nat.le_refl _))
            have HS : Hid (unl (typesTo gs gs.length ++ globLs gl ++ funsLs fs (k + 1)) = unl (typesTo gs gs.length ++ globLs gl ++ funsLs fs k) ++ unl (funLs (funAt' fs k))) := by
              show _ = _
              rw [funsLs_snoc fs k hlt, ← List.append_assoc, unl_append _ (funLs (funAt' fs k))]
            have hl3 : (unl (funLs (funAt' fs k))).length ≤ 3232 := hl2
            clear hl2 g3 hSF z0 z4 z5
            generalize unl (funLs (funAt' fs k)) = t at HC HS hl3
            generalize funAt' fs k = f at y0 y1 y2 y3 y4 y5 HC
            obtain ⟨fts, ⟨gk, go, gm⟩, fos, fbs⟩ := f
            simp only at y0 y1 y2 y3 y4 y5 HC
            have add0 := add_big acc t (acc ++ t) rfl (by first | omega | simp) (by first | omega | simp)
            obtain ⟨v1, hadd0⟩ : ∃ l : List UInt8, l = acc ++ t := ⟨_, rfl⟩
            rw [← hadd0] at add0
            have len_v1 : v1.length ≤ 30000 := by rw [hadd0]; simp; omega
            have H_v1 := hide hadd0
            clear hadd0
            have j1 : (0 : Int) ≤ (k : Int) := by omega
            have j2 : (k : Int) < (fs.length : Int) := by omega
            go_wp2_with fail
            refine HC.out.mono ?_
            rintro e w5 ⟨rfl, b5⟩
            have B5 : Hid (Below w.heap.size w w5) := HB.out.trans (b5.mono s1)
            have R5 := hide (HR.out.below b5 HR.out.lt)
            clear b5
            go_wp2_with fail
            refine ⟨⟨k + 1, v1, by omega, rfl, by go_num, ?_, R5.out, B5.out⟩, by simp [intOf]; omega⟩
            rw [HS.out, H_v1.out, HA.out]
          · have hkn : k = fs.length := by omega
            go_wp2_with fail
            go_ret
            refine ⟨?_, HB.out⟩
            have : acc = T := by
              rw [HA.out, hkn, HL.out]
            rw [← this]
            rfl
      · have hz : (0 : Int) < (gl.length : Int) := by omega
        have add0 := add_big acc [103, 108, 111, 98] (acc ++ [103, 108, 111, 98]) rfl (by first | omega | simp) (by first | omega | simp)
        obtain ⟨x4, hadd0⟩ : ∃ l : List UInt8, l = acc ++ [103, 108, 111, 98] := ⟨_, rfl⟩
        rw [← hadd0] at add0
        have len_x4 : x4.length ≤ 3700 := by rw [hadd0]; simp; omega
        have H_x4 := hide hadd0
        clear hadd0
        have add1 := add_big x4 ow (x4 ++ ow) rfl (by first | omega | simp) (by first | omega | simp)
        obtain ⟨x5, hadd1⟩ : ∃ l : List UInt8, l = x4 ++ ow := ⟨_, rfl⟩
        rw [← hadd1] at add1
        have len_x5 : x5.length ≤ 3800 := by rw [hadd1]; simp; omega
        have H_x5 := hide hadd1
        clear hadd1
        have add2 := add_big x5 [10] (x5 ++ [10]) rfl (by first | omega | simp) (by first | omega | simp)
        obtain ⟨x6, hadd2⟩ : ∃ l : List UInt8, l = x5 ++ [10] := ⟨_, rfl⟩
        rw [← hadd2] at add2
        have len_x6 : x6.length ≤ 3801 := by rw [hadd2]; simp; omega
        have H_x6 := hide hadd2
        clear hadd2
        have E4 : Hid (x6 = unl (typesTo gs gs.length ++ globLs gl ++ funsLs fs 0)) := by
          show _ = _
          rw [globLs, if_neg ho, H_x6.out, H_x5.out, H_x4.out, E0.out, HOW.out]
          simp [funsLs, unl, globW]
        clear E0 H_x4 H_x5 H_x6
        go_wp2_with fail
        refine (HC2.out _ HB.out).mono ?_
        rintro e w4 ⟨rfl, b4⟩
        have B4 := hide (HB.out.trans (b4.mono HB.out.size))
        have R4 := hide (HR.out.below b4 HR.out.lt)
        have r2 := R4.out.cell (o := 2) rfl
        clear b4
        go_wp2_with fail
        go_loopw [3, 6] (fun o i wr => ∃ (k : Nat) (acc : List UInt8), k ≤ fs.length ∧ o = .string ⟨acc.toArray⟩ ∧ i = .int .i64 k ∧ acc = unl (typesTo gs gs.length ++ globLs gl ++ funsLs fs k) ∧ Rec wr w.heap.size 27 [.slice a0 gs.length c0, .slice a1 gl.length c1, .slice a2 fs.length c2] ∧ Below w.heap.size w wr) (fun o i wr => fs.length - (intOf i).toNat)
        case atStart => exact ⟨0, _, Nat.zero_le _, rfl, rfl, E4.out, R4.out, B4.out⟩
        case round =>
          clear E4 HR HB R4 B4 s1 r0 r1 r2 hlen
          obtain ⟨k, acc, hk, rfl, rfl, hacc, hr, hb⟩ := hrel
          have HA := hide hacc
          have HB := hide hb
          have HR := hide hr
          have s1 := hb.size
          have r2 := hr.cell (o := 2) rfl
          have hlen : acc.length ≤ 20000 := by
            rw [hacc]
            exact Nat.le_trans (lb_unl (((typesTo_lb HSP.out.1 HSP.out.2.1 _ (Nat.le_refl _)).append (globLs_lb HSP.out.2.2.1)).append (funsLs_lb HSP.out.2.2.2.2.1 HSP.out.2.2.2.2.2 k hk))) (by omega)
          clear hacc hb hr
          by_cases hlt : k < fs.length
          · rcases HFun.out with hnil | ⟨b, off, rfl, g1, g2, _, g3⟩
            · rw [hnil] at hlt; exact absurd hlt (Nat.not_lt_zero _)
            obtain ⟨p0, q0, p4, q4, p5, q5, y0, y1, y2, y3, y4, y5, z0, z4, z5⟩ := (g3 k hlt).same (lo' := lo) (hi' := hi) (.of_below HB.out hh) (Nat.le_refl _) (Nat.le_refl _) g1 g2
            have hSF := HSP.out.2.2.2.2.2 k hlt
            have HC := hide (l3FunText_any p0 p4 p5 q0 q4 q5 lo hi (funAt' fs k) wr hSF z0 z4 z5 (Nat.le_trans hh s1))
            have hl2 := lb_unl (funTo_lb hSF _ (Nat.le_refl _))
            have HS : Hid (unl (typesTo gs gs.length ++ globLs gl ++ funsLs fs (k + 1)) = unl (typesTo gs gs.length ++ globLs gl ++ funsLs fs k) ++ unl (funLs (funAt' fs k))) := by
              show _ = _
              rw [funsLs_snoc fs k hlt, ← List.append_assoc, unl_append _ (funLs (funAt' fs k))]
            have hl3 : (unl (funLs (funAt' fs k))).length ≤ 3232 := hl2
            clear hl2 g3 hSF z0 z4 z5
            generalize unl (funLs (funAt' fs k)) = t at HC HS hl3
            generalize funAt' fs k = f at y0 y1 y2 y3 y4 y5 HC
            obtain ⟨fts, ⟨gk, go, gm⟩, fos, fbs⟩ := f
            simp only at y0 y1 y2 y3 y4 y5 HC
            have add0 := add_big acc t (acc ++ t) rfl (by first | omega | simp) (by first | omega | simp)
            obtain ⟨v1, hadd0⟩ : ∃ l : List UInt8, l = acc ++ t := ⟨_, rfl⟩
            rw [← hadd0] at add0
            have len_v1 : v1.length ≤ 30000 := by rw [hadd0]; simp; omega
            have H_v1 := hide hadd0
            clear hadd0
            have j1 : (0 : Int) ≤ (k : Int) := by omega
            have j2 : (k : Int) < (fs.length : Int) := by omega
            go_wp2_with fail
            refine HC.out.mono ?_
            rintro e w5 ⟨rfl, b5⟩
            have B5 : Hid (Below w.heap.size w w5) := HB.out.trans (b5.mono s1)
            have R5 := hide (HR.out.below b5 HR.out.lt)
            clear b5
            go_wp2_with fail
            refine ⟨⟨k + 1, v1, by omega, rfl, by go_num, ?_, R5.out, B5.out⟩, by simp [intOf]; omega⟩
            rw [HS.out, H_v1.out, HA.out]
          · have hkn : k = fs.length := by omega
            go_wp2_with fail
            go_ret
            refine ⟨?_, HB.out⟩
            have : acc = T := by
              rw [HA.out, hkn, HL.out]
            rw [← this]
            rfl
end Go.Proofs.YtblliefejffhoaaGreatDoor
