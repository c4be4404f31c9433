/- heapSpaceOf, all ways; impl.HeapOk. -/
import Derived.Test.YtembifoimiochaaGreatDoorHpV11
namespace Go.Proofs.YtembifoimiochaaGreatDoor
open Go.ChangeShapes Go.WideShapes Go.ChangeAt Go.RowKit Go.Shelf Go.Deep
set_option linter.unusedVariables false
set_option linter.unusedSimpArgs false

set_option maxRecDepth 100000 in
set_option maxHeartbeats 8000000 in
theorem heapSpaceOf_any (ga : Option Addr) (gc lo hi : Nat) (gs : List (List Ty)) (h : GHeap) (wa la : Option Addr) (wc lc hi' : Nat) (w : World) (hN : Few gs) (hl : lo ≤ hi) (hh : hi ≤ w.heap.size) (hx : GroupsIn w lo hi ga gs) (hp : pow10 w) (hW : HIn w 0 hi' h wa la wc lc) (hh' : hi' ≤ w.heap.size) :
 Calls Tryz.prog 38 #[.slice ga gs.length gc, heapV h wa la wc lc] w fun e w' => SpOut gs h w e w' := by
 have B0 := hide (two_b w (.cells #[.slice wa h.words.length wc, .int .i64 h.old, .int .i64 h.oldAt, .int .i64 h.youngAt, .slice la h.log.length lc] 33))
 have RH := hide (Rec.new w 33 [.slice wa h.words.length wc, .int .i64 h.old, .int .i64 h.oldAt, .int .i64 h.youngAt, .slice la h.log.length lc])
 cases hk : kinOkF gs with
 | false =>
  have HC := hide (kinTableOf_no ga gc lo hi gs _ hN hl (Nat.le_trans hh B0.out.size) (hx.keep (B0.out.mono hh)) (pow10_keep hp B0.out) hk)
  have EQ : Hid (heapOkF gs h = false) := by show _ = _; unfold heapOkF; rw [hk]; rfl
  unfold heapV
  clear hx hp hN hk hW
  go_enter Tryz.func38, Tryz.ntmps38
  go_wp2_with fail
  refine HC.out.mono ?_
  rintro e w1 ⟨rfl, hb1⟩
  have B1 := hide (B0.out.trans (hb1.mono B0.out.size))
  have BT := hide (B1.out.alloc B1.out.size (.cells #[.slice none 0 0, .slice none 0 0] 93))
  clear hb1
  go_wp2_with fail
  refine bodyPost_ret (v := .tuple #[.pointer none, .bool false]) (by simp [results, Tryz.results38, go_sem]) rfl ⟨BT.out, .inl ⟨EQ.out, rfl⟩⟩
 | true =>
  cases hsz : sizeF h with
  | true => exact spaceMade_any ga gc lo hi gs h wa la wc lc hi' w hN hl hh hx hp hW hh' hW.wl hW.ob hW.ab hW.yb hk hsz
  | false =>
   have HC := hide (kinTableOf_ok ga gc lo hi gs _ hN hl (Nat.le_trans hh B0.out.size) (hx.keep (B0.out.mono hh)) (pow10_keep hp B0.out) hk)
   have HSZ := hide (fun (W : World) => implHeapSizesOk_any h wa la wc lc 0 0 W hW.wl hW.ob hW.ab hW.yb)
   rw [hsz] at HSZ
   have EQ : Hid (heapOkF gs h = false) := by show _ = _; unfold heapOkF; rw [hsz]; simp
   unfold heapV
   clear hx hp hN hk hW hsz
   go_enter Tryz.func38, Tryz.ntmps38
   go_wp2_with fail
   refine HC.out.mono ?_
   rintro e w1 ⟨ra, rc, cb, rfl, ht, hb1⟩
   have B1 := hide (B0.out.trans (hb1.mono B0.out.size))
   have BT := hide (B1.out.alloc B1.out.size (.cells #[.slice ra (kinCount gs) rc, .slice (some ⟨cb, 0, none⟩) (kinCount gs) (kinCount gs)] 93))
   have RH1 := hide (RH.out.below hb1 RH.out.lt)
   have hl1 : w.heap.size < w1.heap.size := RH1.out.lt
   have h0 := RH1.out.cell (o := 0) rfl
   have h1 := RH1.out.cell (o := 1) rfl
   have h2 := RH1.out.cell (o := 2) rfl
   have h3 := RH1.out.cell (o := 3) rfl
   have h4 := RH1.out.cell (o := 4) rfl
   clear hb1 ht
   go_wp2_with fail
   refine (HSZ.out _).mono ?_
   rintro e w3 ⟨rfl, b3⟩
   have B3 := hide (BT.out.trans (b3.mono BT.out.size))
   clear b3 h0 h1 h2 h3 h4
   go_wp2_with fail
   refine bodyPost_ret (v := .tuple #[.pointer none, .bool false]) (by simp [results, Tryz.results38, go_sem]) rfl ⟨B3.out, .inl ⟨EQ.out, rfl⟩⟩

end Go.Proofs.YtembifoimiochaaGreatDoor
