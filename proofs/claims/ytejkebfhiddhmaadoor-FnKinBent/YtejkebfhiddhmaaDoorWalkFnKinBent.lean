/- The law of groups that are not right. -/
import Derived.Test.YtejkebfhiddhmaaDoorKinBentG
import Derived.Test.YtejkebfhiddhmaaDoorKinBentM
import Derived.Test.YtejkebfhiddhmaaDoorHeldL
import Derived.Deep.CutRange
namespace Go.Proofs.YtejkebfhiddhmaaDoor
open Go.ChangeShapes Go.WideShapes Go.ChangeAt Go.RowKit Go.Deep
set_option linter.unusedVariables false
set_option linter.unusedSimpArgs false

theorem step_gapp1 {ops : Array Oper} {o : Oper} {a : Act} {Q : Exit → Act → World → Prop} {K : Act → World → Prop} {w : World} {E : Prop} (s x : Operand) (hw : o.guard = none) (ho : o.op = .call { callee := .builtin .append, args := #[s, x], argTypes := #[23, 23] })
    (S B : Nat) (hs : a.eval s = .slice (some ⟨B, 0, none⟩) 0 0) (hB : w.heap[B]? = some (.cells #[] 41 (0, 0))) (hS : S ≤ B)
    (ga n gc : Nat) (xs : List Value) (hx : a.eval x = .slice (some ⟨ga, 0, none⟩) n gc) (hl : xs.length = n) (hc : ∀ j u, xs[j]? = some u → w.cell? ⟨ga, j, none⟩ = some u) (h1 : ∀ u ∈ xs, u.oneCell' = true) (hn : n ≤ 1048576)
    (h : ∀ a5 c5 wA, w.heap[B]? = some (.cells #[] 41 (0, 0)) → wA.ownsRow S 41 1 (.slice a5 n c5) n xs → w.grownBy wA (some B) → Below S w wA → K (a.put o.dst (.slice a5 n c5)) wA) : if Region.wanted o (yielded ops a.tmps) = true then o.wp Tryd.prog a w K Q else E := by
  have hw : Region.wanted o (yielded ops a.tmps) = true := by simp [Region.wanted, hw]
  rw [if_pos hw]
  exact wp_gapp1 s x ho S B hs hB hS ga n gc xs hx hl hc h1 hn fun a5 c5 wA => h a5 c5 wA hB
theorem step_gapp2 {ops : Array Oper} {o : Oper} {a : Act} {Q : Exit → Act → World → Prop} {K : Act → World → Prop} {w : World} {E : Prop} (s x : Operand) (hw : o.guard = none) (ho : o.op = .call { callee := .builtin .append, args := #[s, x], argTypes := #[23, 23] })
    (S : Nat) (a5 : Option Addr) (n c5 : Nat) (xs : List Value) (hs : a.eval s = .slice a5 n c5) (hown : w.ownsRow S 41 1 (.slice a5 n c5) n xs)
    (hb : Nat) (ta : Option Addr) (m tc : Nat) (hx : a.eval x = .slice (some ⟨hb, 0, none⟩) 1 1) (hblk : w.heap[hb]? = some (.cells #[.slice ta m tc] 41 (0, 0))) (hn : n ≤ 1048576) (hS : S ≤ w.heap.size)
    (h : ∀ g6 c6 w6, w.ownsRow S 41 1 (.slice a5 n c5) n xs → w6.ownsRow S 41 1 (.slice (some ⟨g6, 0, none⟩) (n + 1) c6) (n + 1) (xs ++ [.slice ta m tc]) → w.grownBy w6 (Value.slice a5 n c5).ownBlock → g6 < w6.heap.size → K (a.put o.dst (.slice (some ⟨g6, 0, none⟩) (n + 1) c6)) w6) : if Region.wanted o (yielded ops a.tmps) = true then o.wp Tryd.prog a w K Q else E := by
  have hw : Region.wanted o (yielded ops a.tmps) = true := by simp [Region.wanted, hw]
  rw [if_pos hw]
  exact wp_gapp2 s x ho S a5 n c5 xs hs hown hb ta m tc hx hblk hn hS fun g6 c6 w6 => h g6 c6 w6 hown
theorem drew_blk {w : World} {k : Nat} {o : Obj} (h : w.heap[k]? = some o) : w.drew.heap[k]? = some o := h
theorem rec_drew {w : World} {b : Nat} {T : TypeId} {vs : List Value} (h : Rec w b T vs) : Rec w.drew b T vs := h
theorem owns_drew {w : World} {S n : Nat} {v : Value} {xs : List Value} (h : w.ownsRow S 41 1 v n xs) : w.drew.ownsRow S 41 1 v n xs := h
theorem GS.bentC {w0 w w6 : World} {ga gc hi g6 cap6 d c : Nat} {gs : List (List Ty)} {xs : List Value} (h : GS w0 w ga gc gs) (hh : w0.heap.size ≤ hi ∧ hi ≤ w.heap.size) (hl : xs.length = gs.length)
    (hg : ∀ i, i < gs.length → ∃ ta tc, xs[i]? = some (.slice ta (grAt gs i).length tc) ∧ TypesIn w w0.heap.size hi ta (grAt gs i)) (hb : Below w.heap.size w w6)
    (ho : w6.ownsRow w.heap.size 41 1 (.slice (some ⟨g6, 0, none⟩) (gs.length + 1) cap6) (gs.length + 1) (xs ++ [.slice (some ⟨d, 0, none⟩) 1 1]))
    (hd : w6.heap[d]? = some (.cells #[.int .i64 2, .int .i64 (-1), .bool false, .slice (some ⟨c, 0, none⟩) 2 2] 28 (0, 0))) (hc : w6.heap[c]? = some (.cells #[.int .i64 1, .int .i64 0, .bool false, .int .i64 1, .int .i64 0, .bool false] 35 (0, 0)))
    (h1 : w.heap.size ≤ d) (h2 : w.heap.size ≤ c) (f1 : gs.length ≤ 1048575) : GS w0 w6 g6 cap6 (gs ++ [Go.Proofs.YtejkebfhiddhmaaDoor.bentC]) :=
  have z := h.bel.size
  have l1 : d < w6.heap.size := (Array.getElem?_eq_some_iff.1 hd).1
  have l2 : c < w6.heap.size := (Array.getElem?_eq_some_iff.1 hc).1
  h.snoc hh hl hg hb z ho rfl (types_one (t := ⟨2, -1, false, [⟨1, 0, false⟩, ⟨1, 0, false⟩]⟩) hd (by omega) l1 (fields_two (f := ⟨1, 0, false⟩) (g := ⟨1, 0, false⟩) hc (by omega) l2)) f1 (by simp [Go.Proofs.YtejkebfhiddhmaaDoor.bentC]) (fun j hj => by (obtain rfl : j = 0 := by simp [Go.Proofs.YtejkebfhiddhmaaDoor.bentC] at hj; omega); simp [Go.Proofs.YtejkebfhiddhmaaDoor.bentC, tyAt])

set_option maxHeartbeats 8000000 in
set_option maxRecDepth 100000 in
theorem fnKinBent_walk (a0 : Option Addr) (cap0 n0 : Nat) (hc0 : n0 ≤ cap0) (w : World) (h0 : BytesIn w w.heap.size a0 n0) (ht : pow10 w) :
    Calls Tryd.prog 11 #[.slice a0 n0 cap0] w fun e w' => e = .returned (.bool true) ∧ Below w.heap.size w w' := by
  by_cases l0 : 1048576 < n0
  · have k0 : (1048576 : Int) < (n0 : Int) := by omega
    go_enter Tryd.func11, Tryd.ntmps11
    go_wp2_with fail
    go_ret
    exact ⟨rfl, Below.refl _ _⟩
  have k0 : (n0 : Int) ≤ 1048576 := by omega
  go_enter Tryd.func11, Tryd.ntmps11
  go_wp2_with fail
  refine (drawKinOk_any a0 cap0 n0 w hc0 h0 ht).mono ?_
  rintro e w1 ⟨gs, ga, gc, rfl, G1⟩
  have n2 := G1.count
  have gl : gs.length ≤ 1048576 := G1.few.1
  cases hk : kinOkF gs
  · have HK := hide hk
    clear hk
    go_wp2_with fail
    refine (G1.implOk HK.out).mono ?_
    rintro e w2 ⟨rfl, _, G2⟩
    clear G1
    go_wp2_with fail
    refine (G2.specOk HK.out).mono ?_
    rintro e w3 ⟨rfl, _, G3⟩
    clear G2
    go_wp2_with fail
    refine (G3.specOk HK.out).mono ?_
    rintro e w4 ⟨rfl, _, G4⟩
    clear G3
    go_wp2_with fail
    refine (G4.implOk HK.out).mono ?_
    rintro e w5 ⟨rfl, _, G5⟩
    clear G4
    go_wp2_with fail
    refine (G5.specOk HK.out).mono ?_
    rintro e w6 ⟨rfl, _, G6⟩
    clear G5
    go_wp2_with fail
    go_ret
    exact ⟨rfl, G6.bel⟩
  have HK := hide hk
  have l4 : gs.length ≤ 4 := (kinOk_parts hk).1
  have c8 : kinCount gs ≤ 8 := (kinOk_parts hk).2.1
  have l4i : (gs.length : Int) ≤ 4 := by omega
  clear hk
  go_wp2_with fail
  refine (G1.implOk HK.out).mono ?_
  rintro e w2 ⟨rfl, _, G2⟩
  clear G1
  go_wp2_with fail
  refine (G2.specOk HK.out).mono ?_
  rintro e w3 ⟨rfl, _, G3⟩
  clear G2
  go_wp2_with fail
  refine (G3.specOk HK.out).mono ?_
  rintro e w4 ⟨rfl, _, G4⟩
  clear G3
  go_upto_region 7 with (fail)
  have GN : GS w (w4.alloc (.cells #[.int .i64 1, .int .i64 0, .bool false] 35)) ga gc gs := G4.alloc _
  have RN : Rec (w4.alloc (.cells #[.int .i64 1, .int .i64 0, .bool false] 35)) w4.heap.size 35 [.int .i64 1, .int .i64 0, .bool false] := Rec.new _ _ _
  clear G4
  generalize w4.alloc (.cells #[.int .i64 1, .int .i64 0, .bool false] 35) = wN at *
  generalize w4.heap.size = nb at *
  go_wp2_with fail
  refine GN.implCount.mono ?_
  rintro e w5 ⟨rfl, rfl⟩
  obtain ⟨xs, hi, hhi, hxl, hx1, hxc, hxg⟩ := GN.heads2
  have HX1C := hide hx1
  have HXC := hide hxc
  have HXG := hide hxg
  clear hxc hx1 hxg
  go_wp2_with (at_builtin; refine wpList_gapp1 _ _ (by rfl) (by rfl) w5.heap.size _ (by rfl) (blk_at _ _ _ (by first | rfl | simp)) (by first | exact Nat.le_refl _ | simp) ga gs.length _ xs (by rfl) hxl (HXC.out _ (by (repeat (first | exact Below.refl _ _ | refine Below.alloc ?_ (by first | omega | (simp; omega) | (simp; done)) _ | refine Below.drew ?_)))) HX1C.out gl ?_; intro a5 c5 wA hown5 hgr5 hb5; have HO5 := hide hown5; have B5 : Hid (Below w5.heap.size w5 wA) := ((Below.refl _ _).alloc (Nat.le_refl _) _).trans hb5; have z5 : w5.heap.size ≤ wA.heap.size := B5.out.size; clear hown5 hgr5 hb5)
  have GN5 := hide GN
  clear GN
  go_loopw [6] (fun v wr => ∃ (a : Option Addr) (c k : Nat), v = .slice a (gs.length + k) c ∧ gs.length + k ≤ 5 ∧ Hid (BoxRow w5 wr a c gs.length k xs) ∧ Hid (Below w5.heap.size w5 wr)) (fun v wr => 5 - slen v)
  case atStart => exact ⟨a5, c5, 0, rfl, by omega, ⟨[], by rw [List.append_nil]; exact HO5.out, rfl, fun i hi => absurd hi (Nat.not_lt_zero _)⟩, B5⟩
  case round =>
    obtain ⟨a7, c7, k, rfl, hk5, HR, HB⟩ := hrel
    by_cases hlt : (gs.length : Int) + (k : Int) ≤ 4
    · obtain ⟨ys, hro, hyl, hyy⟩ := HR.out
      have HRO := hide hro
      have HY := hide hyy
      have zr : w5.heap.size ≤ wr.heap.size := HB.out.size
      clear hro hyy
      go_wp2_with (at_builtin; refine wpList_gapp2 _ _ (by rfl) (by rfl) w5.heap.size a7 (gs.length + k) c7 (xs ++ ys) (by rfl) ((HRO.out.alloc _).alloc _) _ _ 1 1 (by rfl) (blk_at _ _ _ (by first | rfl | simp)) (by omega) (by simp; omega) ?_; intro g6 c6 w6 hown6 hgr6 hlt6)
      have BR : Below w5.heap.size w5 w6 := ((HB.out.alloc zr _).alloc (by simp; omega) _).grown hgr6 (by simp; omega) (owns_base HRO.out)
      exact ⟨⟨_, _, k + 1, rfl, by omega, BoxRow.step HRO.out hyl HY.out zr hown6 hgr6, BR⟩, by simp only [slen]; omega⟩
    · have hke : Hid (gs.length + k = 5) := by show _ = _; omega
      obtain ⟨g7, rfl, G7⟩ := HR.out.gs (T := boxN) rfl GN5.out hhi hxl HXG.out HB.out (by have := hke.out; omega) hk5
      have C7 := G7.implOk (not_ok_long (by have := hke.out; simp; omega))
      have el : (gs ++ List.replicate k [boxN]).length = gs.length + k := by simp
      rw [el] at C7
      have C8 := hide C7
      have zr : w5.heap.size ≤ wr.heap.size := HB.out.size
      have RN7 : Rec wr nb 35 [.int .i64 1, .int .i64 0, .bool false] := RN.below HB.out RN.lt
      have G8 := GN5.out.keep HB.out
      have hk4 : 4 < (gs.length : Int) + (k : Int) := by omega
      clear hlt hk5 C7 el G7 HR HO5 B5 z5 HX1C HXC HXG hhi hxl RN GN5
      go_wp2_with fail
      refine C8.out.mono ?_
      rintro e w8 ⟨rfl, bb, _⟩
      replace G8 := G8.keep bb
      replace RN7 := RN7.below bb RN7.lt
      clear C8 bb HB zr
      obtain ⟨xs, hi, hhi, hxl, hx1, hxc, hxg⟩ := G8.heads2
      have HX1C := hide hx1
      have HXC := hide hxc
      have HXG := hide hxg
      clear hxc hx1 hxg
      go_wp2_with (first | (at_builtin; refine wpList_gapp2 _ _ (by rfl) (by rfl) w8.heap.size a5 gs.length c5 xs (by rfl) ((HO5.out.alloc _).alloc _) _ _ 0 0 (by rfl) (blk_at _ _ _ (by first | rfl | simp)) gl (by simp; omega) ?_; intro g6 c6 w6 hown6 hgr6 hlt6) | (at_builtin; refine wpList_gapp1 _ _ (by rfl) (by rfl) w8.heap.size _ (by rfl) (blk_at _ _ _ (by first | rfl | simp)) (by first | exact Nat.le_refl _ | simp) ga gs.length _ xs (by rfl) hxl (HXC.out _ (by (repeat (first | exact Below.refl _ _ | refine Below.alloc ?_ (by first | omega | (simp; omega) | (simp; done)) _ | refine Below.drew ?_)))) HX1C.out gl ?_; intro a5 c5 wA hown5 hgr5 hb5; have HO5 := hide hown5; have B5 : Hid (Below w8.heap.size w8 wA) := ((Below.refl _ _).alloc (Nat.le_refl _) _).trans hb5; have z5 : w8.heap.size ≤ wA.heap.size := B5.out.size; clear hown5 hgr5 hb5))
      obtain ⟨GX, BX⟩ := GS.twice (t := ([] : List Ty)) G8 hhi hxl HXG.out B5.out [.cells #[] 28, .cells #[.slice (some ⟨wA.heap.size, 0, none⟩) 0 0] 41] HO5.out hgr6 hown6 rfl (by
          intro W hq hz h0
          exact .inl rfl
          ) (by omega) (by simp) (fun j hj => by simp at hj)
      clear hown6 hgr6 hlt6 HO5 B5 z5 HX1C HXC HXG hhi hxl
      have C9 := GX.implOk not_ok_none
      rw [show (gs ++ [([] : List Ty)]).length = gs.length + 1 by simp] at C9
      replace G8 := G8.keep BX
      replace RN7 := RN7.below BX RN7.lt
      refine C9.mono ?_
      rintro e w9 ⟨rfl, bb, _⟩
      replace G8 := G8.keep bb
      replace RN7 := RN7.below bb RN7.lt
      clear C9 bb BX GX
      by_cases h4 : gs.length = 4
      · have h4b : ((gs.length : Int) == 4) = true := by simp; omega
        clear h4
        go_wp2_with fail
        go_ret
        exact ⟨rfl, G8.bel⟩
      have h4b : ((gs.length : Int) == 4) = false := by simp; omega
      by_cases h8 : 8 < (kinCount gs : Int) + 2
      · go_wp2_with fail
        go_ret
        exact ⟨rfl, G8.bel⟩
      have h8b : (kinCount gs : Int) + 2 ≤ 8 := by omega
      have HA : Hid (kinOkF (gs ++ [bentA (kinCount gs : Nat)]) = false) := bentA_no
      have HB : Hid (kinOkF (gs ++ [bentB (kinCount gs : Nat)]) = false) := bentB_no
      have HC : Hid (kinOkF (gs ++ [bentC]) = false) := bentC_no
      have HD : Hid (kinOkF (gs ++ [bentD (kinCount gs : Nat)]) = false) := bentD_no
      have HE : Hid (kinOkF (gs ++ [bentE (kinCount gs : Nat)]) = true) := bentE_ok HK.out (by omega) (by omega)
      generalize kinCount gs = n at *
      clear h4
      go_upto_region 15 with (fail)
      obtain ⟨xs, hi, hhi, hxl, hx1, hxc, hxg⟩ := G8.heads2
      have HX1C := hide hx1
      have HXC := hide hxc
      have HXG := hide hxg
      clear hxc hx1 hxg
      go_upto_region 16 with (first | (at_builtin; refine wpList_gapp2 _ _ (by rfl) (by rfl) w9.heap.size a5 gs.length c5 xs (by rfl) ((HO5.out.alloc _).alloc _) _ _ 1 1 (by rfl) (blk_at _ _ _ (by first | rfl | simp)) gl (by simp; omega) ?_; intro gGA cGA wGA hown6 hgr6 hlt6) | (at_builtin; refine wpList_gapp1 _ _ (by rfl) (by rfl) w9.heap.size _ (by rfl) (blk_at _ _ _ (by first | rfl | simp)) (by first | exact Nat.le_refl _ | simp) ga gs.length _ xs (by rfl) hxl (HXC.out _ (by (repeat (first | exact Below.refl _ _ | refine Below.alloc ?_ (by first | omega | (simp; omega) | (simp; done)) _ | refine Below.drew ?_)))) HX1C.out gl ?_; intro a5 c5 wA hown5 hgr5 hb5; have HO5 := hide hown5; have B5 : Hid (Below w9.heap.size w9 wA) := ((Below.refl _ _).alloc (Nat.le_refl _) _).trans hb5; have z5 : w9.heap.size ≤ wA.heap.size := B5.out.size; clear hown5 hgr5 hb5))
      obtain ⟨GX, BX⟩ := GS.twice (t := (bentA n)) G8 hhi hxl HXG.out B5.out [.cells #[.int .i64 1, .int .i64 n, .bool false, .slice none 0 0] 28, .cells #[.slice (some ⟨wA.heap.size, 0, none⟩) 1 1] 41] HO5.out hgr6 hown6 rfl (by
          intro W hq hz h0
          exact types_one (t := ⟨1, n, false, []⟩) (hq 0 _ rfl) (by omega) (by simp at hz; omega) (.inl rfl)
          ) (by omega) (by simp [bentA]) (fun j hj => by (obtain rfl : j = 0 := by simp [bentA] at hj; omega); simp [bentA, tyAt])
      clear hown6 hgr6 hlt6 HO5 B5 z5 HX1C HXC HXG hhi hxl
      replace G8 := G8.keep BX
      replace RN7 := RN7.below BX RN7.lt
      have GA := GX
      clear GX BX
      obtain ⟨xs, hi, hhi, hxl, hx1, hxc, hxg⟩ := G8.heads2
      have HX1C := hide hx1
      have HXC := hide hxc
      have HXG := hide hxg
      clear hxc hx1 hxg
      go_upto_region 17 with (first | (at_builtin; refine wpList_gapp2 _ _ (by rfl) (by rfl) wGA.heap.size a5 gs.length c5 xs (by rfl) ((HO5.out.alloc _).alloc _) _ _ 2 2 (by rfl) (blk_at _ _ _ (by first | rfl | simp)) gl (by simp; omega) ?_; intro gGB cGB wGB hown6 hgr6 hlt6) | (at_builtin; refine wpList_gapp1 _ _ (by rfl) (by rfl) wGA.heap.size _ (by rfl) (blk_at _ _ _ (by first | rfl | simp)) (by first | exact Nat.le_refl _ | simp) ga gs.length _ xs (by rfl) hxl (HXC.out _ (by (repeat (first | exact Below.refl _ _ | refine Below.alloc ?_ (by first | omega | (simp; omega) | (simp; done)) _ | refine Below.drew ?_)))) HX1C.out gl ?_; intro a5 c5 wA hown5 hgr5 hb5; have HO5 := hide hown5; have B5 : Hid (Below wGA.heap.size wGA wA) := ((Below.refl _ _).alloc (Nat.le_refl _) _).trans hb5; have z5 : wGA.heap.size ≤ wA.heap.size := B5.out.size; clear hown5 hgr5 hb5))
      obtain ⟨GX, BX⟩ := GS.twice (t := (bentB n)) G8 hhi hxl HXG.out B5.out [.cells #[.int .i64 1, .int .i64 (-1), .bool true, .slice none 0 0, .int .i64 1, .int .i64 n, .bool false, .slice none 0 0] 28, .cells #[.slice (some ⟨wA.heap.size, 0, none⟩) 2 2] 41] HO5.out hgr6 hown6 rfl (by
          intro W hq hz h0
          exact types_two (t := ⟨1, -1, true, []⟩) (u := ⟨1, n, false, []⟩) (hq 0 _ rfl) (by omega) (by simp at hz; omega) (.inl rfl) (.inl rfl)
          ) (by omega) (by simp [bentB]) (fun j hj => by (have hj2 : j < 2 := by simpa [bentB] using hj); (rcases (by omega : j = 0 ∨ j = 1) with rfl | rfl <;> simp [bentB, tyAt]))
      clear hown6 hgr6 hlt6 HO5 B5 z5 HX1C HXC HXG hhi hxl
      replace G8 := G8.keep BX
      replace GA := GA.keep BX
      replace RN7 := RN7.below BX RN7.lt
      have GB := GX
      clear GX BX
      obtain ⟨xs, hi, hhi, hxl, hx1, hxc, hxg⟩ := G8.heads2
      have HX1C := hide hx1
      have HXC := hide hxc
      have HXG := hide hxg
      clear hxc hx1 hxg
      have j0 := RN7.cell (o := 0) rfl
      have j1 := RN7.cell (o := 1) rfl
      have j2 := RN7.cell (o := 2) rfl
      have jl := RN7.lt
      go_cut [9] from 82 to 91 (fun v wx => ∃ (g c : Nat), v = .slice (some ⟨g, 0, none⟩) (gs.length + 1) c ∧ Hid (GS w wx g c (gs ++ [bentC])) ∧ Hid (Below wGB.heap.size wGB wx))
      case first =>
        have jn := World.new_ne wGB _ j0
        have jA : nb < wGB.heap.size + 1 := by omega
        have jB : nb < wGB.heap.size + 1 + 1 := by omega
        have jC : nb < wGB.heap.size + 1 + 1 + 1 := by omega
        go_region_held3 (fun w' => w'.cell? ⟨nb, 0, none⟩ = some (.int .i64 1) ∧ w'.cell? ⟨nb, 1, none⟩ = some (.int .i64 0) ∧ w'.cell? ⟨nb, 2, none⟩ = some (.bool false)) ((first | (refine ⟨Rec.cell (T := 35) (vs := [.int .i64 1, .int .i64 0, .bool false]) (o := 0) ?_ rfl, Rec.cell (T := 35) (vs := [.int .i64 1, .int .i64 0, .bool false]) (o := 1) ?_ rfl, Rec.cell (T := 35) (vs := [.int .i64 1, .int .i64 0, .bool false]) (o := 2) ?_ rfl⟩ <;> (repeat (first | with_reducible exact RN7 | with_reducible exact RN7.below B6.out jl | with_reducible exact RN7.below B5.out jl | with_reducible refine Rec.alloc ?_ _ | with_reducible refine rec_drew ?_))) | go_keep)) ((first | (refine step_gapp1 _ _ (by rfl) (by rfl) wGB.heap.size _ (by rfl) (by (repeat (first | (with_reducible refine blk_at _ _ _ ?_; focus (first | omega | (simp; omega) | (simp; done))) | (with_reducible refine blk_past _ _ _ _ ?_ ?_; focus (first | omega | (simp; omega) | (simp; done))) | with_reducible refine drew_blk ?_))) (by first | omega | (simp; omega) | (simp; done)) ga gs.length _ xs (by rfl) hxl (HXC.out _ (by (repeat (first | exact Below.refl _ _ | refine Below.alloc ?_ (by first | omega | (simp; omega) | (simp; done)) _ | refine Below.drew ?_)))) HX1C.out gl ?_; intro a5 c5 wA hB5 hown5 hgr5 hb5; have B5 : Hid (Below wGB.heap.size wGB wA) := hide (Below.trans (by (repeat (first | exact Below.refl _ _ | refine Below.alloc ?_ (by first | omega | (simp; omega) | (simp; done)) _ | refine Below.drew ?_))) (hb5.mono (by first | exact Nat.le_refl _ | omega | simp))); have HO5 := hide hown5; have HGR5 := hide hgr5; have HB5 := hide hB5; have z5 : wGB.heap.size ≤ wA.heap.size := B5.out.size; have s5 : _ ≤ wA.heap.size := hb5.size; (try simp at s5); have RA := RN7.below B5.out jl; have j0 := RA.cell (o := 0) rfl; have j1 := RA.cell (o := 1) rfl; have j2 := RA.cell (o := 2) rfl; clear hown5 hgr5 hb5 hB5) | (refine step_gapp2 _ _ (by rfl) (by rfl) wGB.heap.size a5 gs.length c5 xs (by rfl) (by (repeat (first | exact HO5.out | refine World.ownsRow.alloc ?_ _ | refine owns_drew ?_))) _ _ 1 1 (by rfl) (by (repeat (first | (with_reducible refine blk_at _ _ _ ?_; focus (first | omega | (simp; omega) | (simp; done))) | (with_reducible refine blk_past _ _ _ _ ?_ ?_; focus (first | omega | (simp; omega) | (simp; done))) | (with_reducible refine grown_at HGR5.out ?_ ?_; rotate_left; focus (first | (simp; omega) | (simp; done))) | with_reducible refine drew_blk ?_))) gl (by first | omega | (simp; omega)) ?_; intro g6 c6 w6 how6 hown6 hgr6 hlt6; have B6 : Hid (Below wGB.heap.size wGB w6) := hide (Below.grown (by (repeat (first | exact B5.out | refine Below.alloc ?_ (by first | omega | (simp; omega) | (simp; done)) _ | refine Below.drew ?_))) hgr6 (by first | omega | (simp; omega)) (owns_base HO5.out)); have HO6 := hide hown6; have HGR6 := hide hgr6; have HOW := hide how6; have RA := RN7.below B6.out jl; have j0 := RA.cell (o := 0) rfl; have j1 := RA.cell (o := 1) rfl; have j2 := RA.cell (o := 2) rfl; clear hown6 hgr6 how6)))
        all_goals
          go_wp2_with fail
          go_meet
          exact ⟨g6, c6, rfl, hide (G8.bentC hhi hxl HXG.out B6.out HO6.out (by (repeat (first | with_reducible refine grown_other HOW.out HGR6.out ?_ (by decide) | with_reducible refine grown_otherB HB5.out HGR5.out ?_ (by decide) | (with_reducible refine blk_at _ _ _ ?_; focus (first | omega | (simp; omega) | (simp; done))) | (with_reducible refine blk_past _ _ _ _ ?_ ?_; focus (first | omega | (simp; omega) | (simp; done))) | with_reducible refine drew_blk ?_))) (by (repeat (first | with_reducible refine grown_other HOW.out HGR6.out ?_ (by decide) | with_reducible refine grown_otherB HB5.out HGR5.out ?_ (by decide) | (with_reducible refine blk_at _ _ _ ?_; focus (first | omega | (simp; omega) | (simp; done))) | (with_reducible refine blk_past _ _ _ _ ?_ ?_; focus (first | omega | (simp; omega) | (simp; done))) | with_reducible refine drew_blk ?_))) (by first | omega | (simp; omega) | (simp; done)) (by first | omega | (simp; omega) | (simp; done)) (by omega)), B6⟩
      case rest =>
        obtain ⟨gGC, cGC, rfl, HGC, HBC⟩ := hcut
        have GC := HGC.out
        replace G8 := G8.keep HBC.out
        replace GA := GA.keep HBC.out
        replace GB := GB.keep HBC.out
        replace RN7 := RN7.below HBC.out RN7.lt
        clear HGC HBC j0 j1 j2 jl HX1C HXC HXG hhi hxl
        obtain ⟨xs, hi, hhi, hxl, hx1, hxc, hxg⟩ := G8.heads2
        have HX1C := hide hx1
        have HXC := hide hxc
        have HXG := hide hxg
        clear hxc hx1 hxg
        go_upto_region 19 with (first | (at_builtin; refine wpList_gapp2 _ _ (by rfl) (by rfl) wc.heap.size a5 gs.length c5 xs (by rfl) (((HO5.out.alloc _).alloc _).alloc _) _ _ 1 1 (by rfl) (blk_at _ _ _ (by first | rfl | simp)) gl (by simp; omega) ?_; intro gGD cGD wGD hown6 hgr6 hlt6) | (at_builtin; refine wpList_gapp1 _ _ (by rfl) (by rfl) wc.heap.size _ (by rfl) (blk_at _ _ _ (by first | rfl | simp)) (by first | exact Nat.le_refl _ | simp) ga gs.length _ xs (by rfl) hxl (HXC.out _ (by (repeat (first | exact Below.refl _ _ | refine Below.alloc ?_ (by first | omega | (simp; omega) | (simp; done)) _ | refine Below.drew ?_)))) HX1C.out gl ?_; intro a5 c5 wA hown5 hgr5 hb5; have HO5 := hide hown5; have B5 : Hid (Below wc.heap.size wc wA) := ((Below.refl _ _).alloc (Nat.le_refl _) _).trans hb5; have z5 : wc.heap.size ≤ wA.heap.size := B5.out.size; clear hown5 hgr5 hb5))
        obtain ⟨GX, BX⟩ := GS.twice (t := (bentD n)) G8 hhi hxl HXG.out B5.out [.cells #[.int .i64 2, .int .i64 (n + 1), .bool false] 35, .cells #[.int .i64 1, .int .i64 (-1), .bool false, .slice (some ⟨wA.heap.size, 0, none⟩) 1 1] 28, .cells #[.slice (some ⟨wA.heap.size + 1, 0, none⟩) 1 1] 41] HO5.out hgr6 hown6 rfl (by
            intro W hq hz h0
            exact types_one (t := ⟨1, -1, false, [⟨2, n + 1, false⟩]⟩) (hq 1 _ rfl) (by omega) (by simp at hz; omega) (fields_one (f := ⟨2, n + 1, false⟩) (hq 0 _ rfl) (by omega) (by simp at hz; omega))
            ) (by omega) (by simp [bentD]) (fun j hj => by (obtain rfl : j = 0 := by simp [bentD] at hj; omega); simp [bentD, tyAt])
        clear hown6 hgr6 hlt6 HO5 B5 z5 HX1C HXC HXG hhi hxl
        replace G8 := G8.keep BX
        replace GA := GA.keep BX
        replace GB := GB.keep BX
        replace GC := GC.keep BX
        replace RN7 := RN7.below BX RN7.lt
        have GD := GX
        clear GX BX
        obtain ⟨xs, hi, hhi, hxl, hx1, hxc, hxg⟩ := G8.heads2
        have HX1C := hide hx1
        have HXC := hide hxc
        have HXG := hide hxg
        clear hxc hx1 hxg
        go_upto_region 20 with (first | (at_builtin; refine wpList_gapp2 _ _ (by rfl) (by rfl) wGD.heap.size a5 gs.length c5 xs (by rfl) ((((HO5.out.alloc _).alloc _).alloc _).alloc _) _ _ 2 2 (by rfl) (blk_at _ _ _ (by first | rfl | simp)) gl (by simp; omega) ?_; intro gGE cGE wGE hown6 hgr6 hlt6) | (at_builtin; refine wpList_gapp1 _ _ (by rfl) (by rfl) wGD.heap.size _ (by rfl) (blk_at _ _ _ (by first | rfl | simp)) (by first | exact Nat.le_refl _ | simp) ga gs.length _ xs (by rfl) hxl (HXC.out _ (by (repeat (first | exact Below.refl _ _ | refine Below.alloc ?_ (by first | omega | (simp; omega) | (simp; done)) _ | refine Below.drew ?_)))) HX1C.out gl ?_; intro a5 c5 wA hown5 hgr5 hb5; have HO5 := hide hown5; have B5 : Hid (Below wGD.heap.size wGD wA) := ((Below.refl _ _).alloc (Nat.le_refl _) _).trans hb5; have z5 : wGD.heap.size ≤ wA.heap.size := B5.out.size; clear hown5 hgr5 hb5))
        obtain ⟨GX, BX⟩ := GS.twice (t := (bentE n)) G8 hhi hxl HXG.out B5.out [.cells #[.int .i64 2, .int .i64 (n + 1), .bool false] 35, .cells #[.int .i64 3, .int .i64 (n + 1), .bool false] 35, .cells #[.int .i64 1, .int .i64 (-1), .bool false, .slice (some ⟨wA.heap.size, 0, none⟩) 1 1, .int .i64 1, .int .i64 n, .bool false, .slice (some ⟨wA.heap.size + 1, 0, none⟩) 1 1] 28, .cells #[.slice (some ⟨wA.heap.size + 1 + 1, 0, none⟩) 2 2] 41] HO5.out hgr6 hown6 rfl (by
            intro W hq hz h0
            exact types_two (t := ⟨1, -1, false, [⟨2, n + 1, false⟩]⟩) (u := ⟨1, n, false, [⟨3, n + 1, false⟩]⟩) (hq 2 _ rfl) (by omega) (by simp at hz; omega) (fields_one (f := ⟨2, n + 1, false⟩) (hq 0 _ rfl) (by omega) (by simp at hz; omega)) (fields_one (f := ⟨3, n + 1, false⟩) (hq 1 _ rfl) (by omega) (by simp at hz; omega))
            ) (by omega) (by simp [bentE]) (fun j hj => by (have hj2 : j < 2 := by simpa [bentE] using hj); (rcases (by omega : j = 0 ∨ j = 1) with rfl | rfl <;> simp [bentE, tyAt]))
        clear hown6 hgr6 hlt6 HO5 B5 z5 HX1C HXC HXG hhi hxl
        replace G8 := G8.keep BX
        replace GA := GA.keep BX
        replace GB := GB.keep BX
        replace GC := GC.keep BX
        replace GD := GD.keep BX
        replace RN7 := RN7.below BX RN7.lt
        have GE := GX
        clear GX BX
        have CA := GA.implOk HA.out
        rw [show (gs ++ [bentA n]).length = gs.length + 1 by simp] at CA
        go_wp2_with fail
        refine CA.mono ?_
        rintro e wA2 ⟨rfl, bb, _⟩
        replace G8 := G8.keep bb
        replace GA := GA.keep bb
        replace GB := GB.keep bb
        replace GC := GC.keep bb
        replace GD := GD.keep bb
        replace GE := GE.keep bb
        clear CA bb
        have CB := GB.implOk HB.out
        rw [show (gs ++ [bentB n]).length = gs.length + 1 by simp] at CB
        go_wp2_with fail
        refine CB.mono ?_
        rintro e wB2 ⟨rfl, bb, _⟩
        replace G8 := G8.keep bb
        replace GA := GA.keep bb
        replace GB := GB.keep bb
        replace GC := GC.keep bb
        replace GD := GD.keep bb
        replace GE := GE.keep bb
        clear CB bb
        have CC := GC.implOk HC.out
        rw [show (gs ++ [bentC]).length = gs.length + 1 by simp] at CC
        go_wp2_with fail
        refine CC.mono ?_
        rintro e wC2 ⟨rfl, bb, _⟩
        replace G8 := G8.keep bb
        replace GA := GA.keep bb
        replace GB := GB.keep bb
        replace GC := GC.keep bb
        replace GD := GD.keep bb
        replace GE := GE.keep bb
        clear CC bb
        have CD := GD.implOk HD.out
        rw [show (gs ++ [bentD n]).length = gs.length + 1 by simp] at CD
        go_wp2_with fail
        refine CD.mono ?_
        rintro e wD2 ⟨rfl, bb, _⟩
        replace G8 := G8.keep bb
        replace GA := GA.keep bb
        replace GB := GB.keep bb
        replace GC := GC.keep bb
        replace GD := GD.keep bb
        replace GE := GE.keep bb
        clear CD bb
        have CE := GE.implOk HE.out
        rw [show (gs ++ [bentE n]).length = gs.length + 1 by simp] at CE
        go_wp2_with fail
        refine CE.mono ?_
        rintro e wE2 ⟨rfl, bb, _⟩
        replace G8 := G8.keep bb
        replace GA := GA.keep bb
        replace GB := GB.keep bb
        replace GC := GC.keep bb
        replace GD := GD.keep bb
        replace GE := GE.keep bb
        clear CE bb
        go_wp2_with fail
        go_ret
        exact ⟨rfl, G8.bel⟩
end Go.Proofs.YtejkebfhiddhmaaDoor
