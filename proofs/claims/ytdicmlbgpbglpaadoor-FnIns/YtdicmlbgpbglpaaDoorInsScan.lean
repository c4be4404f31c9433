/- insScan of the program: a text's words. -/
import Derived.Test.YtdicmlbgpbglpaaDoorCuts14
import Derived.Lib.OthersKept
import Derived.WalkMore
namespace Go.Proofs.YtdicmlbgpbglpaaDoor
open Go.ChangeShapes Go.WideShapes Go.ChangeAt Go.RowKit Go.Joins
set_option linter.unusedVariables false

theorem iterPos_of {w : World} {k : Nat} {s : ByteArray} {p : Nat} (h : w.heap[k]? = some (.stringIter s p)) : w.iterPos k = p := by simp [World.iterPos, h]

/-- A list of strings of its own, or none yet. -/
def StrList (w : World) (base : Nat) (v : Value) (xs : List (List UInt8)) : Prop := w.ownsRow base 9 1 v xs.length (strs xs)

theorem StrList.iterAt {w : World} {base : Nat} {v : Value} {xs : List (List UInt8)} (h : StrList w base v xs) {k : Nat} (hk : k < base) (s : ByteArray) (p : Nat) : StrList (w.iterAt k s p) base v xs := by
  obtain ⟨h1, h2⟩ := h
  refine ⟨h1, ?_⟩
  rcases h2 with h2 | ⟨g, cap, cur, a, b, c, d⟩
  · exact .inl h2
  · exact .inr ⟨g, cap, cur, a, b, by rw [Lib.iterAt_other _ _ _ _ _ (by omega)]; exact c, d⟩

/-- The answer of insScan. -/
inductive ScanAns (l : List UInt8) (w' : World) (base : Nat) : Ending → Prop
  | yes {g cap : Nat} : ScanOk l → StrRow w' base g cap (cuts 32 l) → ScanAns l w' base (.returned (.tuple #[.slice (some ⟨g, 0, none⟩) (cuts 32 l).length cap, .bool true]))
  | no : ¬ ScanOk l → ScanAns l w' base (.returned (.tuple #[.slice none 0 0, .bool false]))

set_option maxHeartbeats 3200000 in
set_option maxRecDepth 100000 in
theorem insScan_any (s : ByteArray) (w : World) (hs : s.size ≤ 1048576) :
    Calls Tryd.prog 39 #[.string s] w fun e w' => ScanAns s.data.toList w' w.heap.size e ∧ Below w.heap.size w w' := by
  obtain ⟨i0, hi0, hzz⟩ := Option.map_eq_some_iff.1 Tryd.infoString
  simp only [Prod.mk.injEq] at hzz
  obtain ⟨hz0, hs0, hb0⟩ := hzz
  have HZ := hide hz0
  have HS := hide hs0
  have HB := hide hb0
  have HI := hide hi0
  clear hz0 hs0 hb0 hi0
  have SZ := hide (size_list s)
  go_enter Tryd.func39, Tryd.ntmps39
  go_wp2_with fail
  go_step3
  go_wp2_with fail
  go_step3
  go_wp2_with fail
  go_loopw [4, 5, 6] (fun v f r wr => ∃ (pos f0 : Nat) (ws : List (List UInt8)), f = .int .i64 f0 ∧ r = .bool true ∧ (∃ ra rc, v = .slice ra ws.length rc) ∧ wr.heap[w.heap.size]? = some (.stringIter s pos) ∧ Hid (StrList wr (w.heap.size + 1) v ws) ∧ Hid (ScanAt s.data.toList pos f0 ws) ∧ Below w.heap.size w wr) (fun v f r wr => s.size - wr.iterPos w.heap.size)
  case atStart =>
    exact ⟨0, 0, [], rfl, rfl, ⟨none, 0, rfl⟩, World.iter_heap w s 0, World.ownsRow_nil _ _ _ _, ScanAt.start _, (Below.refl _ _).alloc (Nat.le_refl _) _⟩
  case round =>
    obtain ⟨pos, f0, ws, rfl, rfl, ⟨ra, rc, rfl⟩, hit, HR, HC, hb⟩ := hrel
    have hfew := HC.out.few
    have hle := HC.out.le
    have hpl := HC.out.lt
    rw [← SZ.out] at hpl
    have hsz := hb.size
    have hblt := lt_of_block hit
    have hpos0 := hide (iterPos_of hit)
    by_cases hp : pos < s.size
    · obtain ⟨d, hd⟩ : ∃ d, s[pos] = d := ⟨_, rfl⟩
      have HD : Hid (s.data.toList[pos]? = some d) := by show _ = _; rw [← hd]; exact byte_at s pos hp
      obtain ⟨r, wd, hdec⟩ : ∃ r wd, Utf8.decode s pos = (r, wd) := ⟨_, _, rfl⟩
      have hr : (d.toNat < 128 → r = d.toNat ∧ wd = 1) ∧ (128 ≤ d.toNat → 128 ≤ r) := by
        refine ⟨fun h => ?_, fun h => ?_⟩
        · rw [decode_ascii s pos hp (by rw [hd]; exact h), hd] at hdec
          injection hdec with a b
          exact ⟨a.symm, b.symm⟩
        · have := (decode_high s pos hp (by rw [hd]; exact h)).1
          rw [hdec] at this; exact this
      have hnx : ∀ ty, (Instr.next (.pointer (some ⟨w.heap.size, 0, none⟩)) true ty).run Tryd.prog wr = .ok (.tuple #[.bool true, .int .i64 pos, .int .i32 r]) (wr.iterAt w.heap.size s (pos + wd)) := fun ty => by
        rw [Lib.run_next_any_at wr w.heap.size s pos ty hit hp, hdec]
      have hit2 := hide (Lib.iterAt_heap wr w.heap.size s pos (pos + wd) hit)
      have hb2 := Lib.below_iterAt hb (k := w.heap.size) (Nat.le_refl _) s (pos + wd)
      have HR2 := hide (HR.out.iterAt (k := w.heap.size) (by omega) s (pos + wd))
      have hsz2 : w.heap.size < (wr.iterAt w.heap.size s (pos + wd)).heap.size := lt_of_block hit2.out
      generalize wr.iterAt w.heap.size s (pos + wd) = W1 at hnx hit2 hb2 HR2 hsz2
      clear hit HR hb hdec hd
      by_cases hw : wordByte d = true
      · have hw' : (97 ≤ d.toNat ∧ d.toNat ≤ 122) ∨ (48 ≤ d.toNat ∧ d.toNat ≤ 57) := by simpa [wordByte] using hw
        have HN : Hid (ScanAt s.data.toList (pos + 1) f0 ws) := HC.out.pass HD.out hw
        obtain ⟨hr1, hr2⟩ := hr.1 (by omega)
        have HW := hide hr2
        clear hr hw
        rcases hw' with ⟨g1, g2⟩ | ⟨g1, g2⟩
        · have e1 : (97 : Int) ≤ (r : Int) := by omega
          have e2 : (r : Int) ≤ 122 := by omega
          clear hr1 g1 g2 hr2
          go_wp2_with fail
          go_roundw
          case rel => rw [HW.out] at hit2; exact ⟨pos + 1, f0, ws, rfl, rfl, ⟨ra, rc, rfl⟩, hit2.out, HR2, HN, hb2⟩
          case measure => rw [HW.out] at hit2; rw [iterPos_of hit2.out, hpos0.out]; omega
        · have e1 : ¬ (97 : Int) ≤ (r : Int) := by omega
          have e2 : (48 : Int) ≤ (r : Int) := by omega
          have e3 : (r : Int) ≤ 57 := by omega
          clear hr1 g1 g2 hr2
          go_wp2_with fail
          go_roundw
          case rel => rw [HW.out] at hit2; exact ⟨pos + 1, f0, ws, rfl, rfl, ⟨ra, rc, rfl⟩, hit2.out, HR2, HN, hb2⟩
          case measure => rw [HW.out] at hit2; rw [iterPos_of hit2.out, hpos0.out]; omega
      · have hw0 : wordByte d = false := by simpa using hw
        by_cases hsp : d = 32 ∧ f0 < pos ∧ ws.length + 1 < 3
        · obtain ⟨rfl, k1, k2⟩ := hsp
          have HN : Hid (ScanAt s.data.toList (pos + 1) (pos + 1) (ws ++ [(s.data.toList.drop f0).take (pos - f0)])) := HC.out.space HD.out k1 k2
          obtain ⟨hr1, hr2⟩ := hr.1 (by decide)
          have HW := hide hr2
          have hr3 : r = 32 := hr1
          clear hr hw hw0 hr1 hr2
          subst hr3
          have k3 : (f0 : Int) < (pos : Int) := by omega
          have k4 : (ws.length : Int) + 1 < 3 := by omega
          have HE := hide (ext_str s f0 pos)
          go_wp2_with (first | (at_builtin; refine wpList_append_lies _ rfl _ _ 56 rfl (w.heap.size + 1) 9 i0 _ 1 16 Tryd.underlying56 HI.out HZ.out HS.out HB.out rfl (by decide) _ ws.length (strs ws) rfl (HR2.out.alloc _) ⟨W1.heap.size, 0, none⟩ 1 1 [.string (s.extract f0 pos)] rfl rfl ?c1 ?c2 (by decide) ?c3 ?c4 ?c5 _ rfl ?_))
          case c1 => exact World.news_of_block (Deep.blk_alloc_new _ _)
          case c2 => intro u hu; simp at hu; subst hu; rfl
          case c3 => unfold maxLen; omega
          case c4 => omega
          case c5 => simp; omega
          intro g1 cap1 w3 hown1 hgr hat hlt1
          have hit3 : Hid (w3.heap[w.heap.size]? = some (.stringIter s (pos + 1))) := by
            show _ = _
            rw [hgr.block w.heap.size (by simp; omega) (fun h => by have := (HR2.out.lt _ h.symm).1; omega), Below.heap_alloc _ _ _ hsz2]
            rw [← HW.out]; exact hit2.out
          have hb3 : Below w.heap.size w w3 := (hb2.alloc (by omega) _).grown hgr (by simp; omega) (fun j hj => by have := (HR2.out.lt _ hj).1; omega)
          have HR3 : Hid (StrList w3 (w.heap.size + 1) (.slice (some ⟨g1, 0, none⟩) (ws.length + 1) cap1) (ws ++ [(s.data.toList.drop f0).take (pos - f0)])) := by
            show StrList _ _ _ _
            unfold StrList
            rw [← strs_snoc, ← HE.out]
            simpa using hown1
          clear hgr hat hown1
          go_wp2_with fail
          go_roundw
          case rel => exact ⟨pos + 1, pos + 1, _, by go_num, rfl, ⟨some ⟨g1, 0, none⟩, cap1, by simp⟩, hit3.out, HR3, HN, hb3⟩
          case measure => rw [iterPos_of hit3.out, hpos0.out]; omega
        · have NO : Hid (¬ ScanOk s.data.toList) := HC.out.stop HD.out hw0 hsp
          have hcases : (r < 48 ∧ r ≠ 32) ∨ (57 < r ∧ r < 97) ∨ 122 < r ∨ (r = 32 ∧ ¬ f0 < pos) ∨ (r = 32 ∧ f0 < pos ∧ ¬ ws.length + 1 < 3) := by
            by_cases h128 : d.toNat < 128
            · have e := (hr.1 h128).1
              have q : ¬ ((97 ≤ d.toNat ∧ d.toNat ≤ 122) ∨ (48 ≤ d.toNat ∧ d.toNat ≤ 57)) := by simpa [wordByte] using hw0
              by_cases e32 : d.toNat = 32
              · have : d = 32 := UInt8.toNat_inj.1 e32
                by_cases hf : f0 < pos
                · by_cases hl : ws.length + 1 < 3
                  · exact absurd ⟨this, hf, hl⟩ hsp
                  · exact .inr (.inr (.inr (.inr ⟨by omega, hf, hl⟩)))
                · exact .inr (.inr (.inr (.inl ⟨by omega, hf⟩)))
              · omega
            · have := hr.2 (by omega); omega
          clear hr hw hw0 hsp
          rcases hcases with ⟨q1, q2⟩ | ⟨q1, q2⟩ | q1 | ⟨q1, q2⟩ | ⟨q1, q2, q3⟩
          · have e1 : ¬ (97 : Int) ≤ (r : Int) := by omega
            have e2 : ¬ (48 : Int) ≤ (r : Int) := by omega
            have e3 : ((r : Int) == 32) = false := by simp; omega
            clear q1 q2
            go_wp2_with fail
            try rw [Exit.noGoto_ret]
            refine bodyPost_ret (v := .tuple #[.slice none 0 0, .bool false]) (by simp [results, Tryd.results39, go_sem]) rfl ?_
            exact ⟨.no NO.out, hb2⟩
          · have e1 : ¬ (97 : Int) ≤ (r : Int) := by omega
            have e2 : (48 : Int) ≤ (r : Int) := by omega
            have e4 : ¬ (r : Int) ≤ 57 := by omega
            have e3 : ((r : Int) == 32) = false := by simp; omega
            clear q1 q2
            go_wp2_with fail
            try rw [Exit.noGoto_ret]
            refine bodyPost_ret (v := .tuple #[.slice none 0 0, .bool false]) (by simp [results, Tryd.results39, go_sem]) rfl ?_
            exact ⟨.no NO.out, hb2⟩
          · have e1 : (97 : Int) ≤ (r : Int) := by omega
            have e5 : ¬ (r : Int) ≤ 122 := by omega
            have e2 : (48 : Int) ≤ (r : Int) := by omega
            have e4 : ¬ (r : Int) ≤ 57 := by omega
            have e3 : ((r : Int) == 32) = false := by simp; omega
            clear q1
            go_wp2_with fail
            try rw [Exit.noGoto_ret]
            refine bodyPost_ret (v := .tuple #[.slice none 0 0, .bool false]) (by simp [results, Tryd.results39, go_sem]) rfl ?_
            exact ⟨.no NO.out, hb2⟩
          · subst q1
            have e1 : ¬ (f0 : Int) < (pos : Int) := by omega
            go_wp2_with fail
            try rw [Exit.noGoto_ret]
            refine bodyPost_ret (v := .tuple #[.slice none 0 0, .bool false]) (by simp [results, Tryd.results39, go_sem]) rfl ?_
            exact ⟨.no NO.out, hb2⟩
          · subst q1
            have e1 : (f0 : Int) < (pos : Int) := by omega
            have e2 : ¬ (ws.length : Int) + 1 < 3 := by omega
            go_wp2_with fail
            try rw [Exit.noGoto_ret]
            refine bodyPost_ret (v := .tuple #[.slice none 0 0, .bool false]) (by simp [results, Tryd.results39, go_sem]) rfl ?_
            exact ⟨.no NO.out, hb2⟩
    · have hnx : ∀ ty, (Instr.next (.pointer (some ⟨w.heap.size, 0, none⟩)) true ty).run Tryd.prog wr = _ := fun ty => Lib.run_next_end_at wr w.heap.size s pos ty hit hp
      obtain ⟨hc1, hc2, hc3, hc4⟩ := HC.out.ends (by rw [← SZ.out]; exact hp)
      rw [← SZ.out] at hc2 hc3 hc4
      have HC1 := hide hc1
      have HC2 := hide hc2
      have HC3 := hide hc3
      clear hc1 hc2 hc3 hit
      by_cases hf : f0 = s.size
      · have NO := hide (HC3.out hf)
        subst hf
        go_wp2_with fail
        try rw [Exit.noGoto_ret]
        refine bodyPost_ret (v := .tuple #[.slice none 0 0, .bool false]) (by simp [results, Tryd.results39, go_sem]) rfl ?_
        exact ⟨.no NO.out, hb⟩
      · have YES := hide (HC2.out (by omega))
        have HE := hide (ext_str s f0 s.size)
        have e1 : ((f0 : Int) == (s.size : Int)) = false := by simp; omega
        go_wp2_with (first | (at_builtin; refine wpList_append_lies _ rfl _ _ 56 rfl (w.heap.size + 1) 9 i0 _ 1 16 Tryd.underlying56 HI.out HZ.out HS.out HB.out rfl (by decide) _ ws.length (strs ws) rfl (HR.out.alloc _) ⟨wr.heap.size, 0, none⟩ 1 1 [.string (s.extract f0 s.size)] rfl rfl ?c1 ?c2 (by decide) ?c3 ?c4 ?c5 _ rfl ?_))
        case c1 => exact World.news_of_block (Deep.blk_alloc_new _ _)
        case c2 => intro u hu; simp at hu; subst hu; rfl
        case c3 => unfold maxLen; omega
        case c4 => omega
        case c5 => simp; omega
        intro g1 cap1 w3 hown1 hgr hat hlt1
        have hb3 : Below w.heap.size w w3 := (hb.alloc (by omega) _).grown hgr (by simp; omega) (fun j hj => by have := (HR.out.lt _ hj).1; omega)
        have HR3 : Hid (StrRow w3 w.heap.size g1 cap1 (cuts 32 s.data.toList)) := by
          show StrRow _ _ _ _ _
          unfold StrRow
          have hq : (s.data.toList.drop f0).take (s.size - f0) = s.data.toList.drop f0 := by
            rw [List.take_of_length_le]; rw [SZ.out]; simp
          rw [HC1.out, ← strs_snoc, ← hq, ← HE.out]
          have h1 := hown1
          refine ⟨by simpa using h1.1, ?_⟩
          rcases h1.2 with ⟨h', _⟩ | ⟨g', cap', cur, h', q, rr⟩
          · cases h'
          · exact .inr ⟨g', cap', cur, by simpa using h', by omega, by simpa using rr⟩
        have hlen : (cuts 32 s.data.toList).length = ws.length + 1 := by rw [HC1.out]; simp
        have HL := hide hlen
        clear hgr hat hown1 hlen
        go_wp2_with fail
        try rw [Exit.noGoto_ret]
        refine bodyPost_ret (v := .tuple #[.slice (some ⟨g1, 0, none⟩) (ws.length + 1) cap1, .bool true]) (by simp [results, Tryd.results39, go_sem]) rfl ?_
        rw [← HL.out]
        exact ⟨.yes YES.out HR3.out, hb3⟩
end Go.Proofs.YtdicmlbgpbglpaaDoor
