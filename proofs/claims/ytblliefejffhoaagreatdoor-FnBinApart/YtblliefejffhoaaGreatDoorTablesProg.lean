/- What the row's list gives: the tables of words and of letters, and the powers of ten. -/
import Derived.Test.YtblliefejffhoaaGreatDoorPbTxtI
import Derived.Test.YtblliefejffhoaaGreatDoorCards
import Derived.Test.YtblliefejffhoaaGreatDoorTie
import Derived.Deep.DeepHandedRow
import Derived.Lib.LaidTab
import Derived.Stop.LaidErr
namespace Go.Proofs.YtblliefejffhoaaGreatDoor
open Go.ChangeShapes Go.WideShapes Go.ChangeAt Go.RowKit
set_option linter.unusedVariables false

/-- An array of strings that reads as these texts holds them, cell for cell. -/
theorem cells_of_texts {H : Type} {enc : TypeId × Value → H} {P : Program} {w : World} {base : Nat} {sp : Nat → Bool} {held : Bool} {fuel : Nat} {t e : TypeId} {n : Nat} {cs : List Value} {zs : List (List UInt8)} {p : List MemPlace}
    (ht : P.underlying t = some (.array n e)) (he : P.underlying e = some .string) (hce : P.cellsOf e = 1) (hct : P.cellsOf t = n)
    (h : DataW.trod enc P w base sp held fuel t cs = some (.agg (zs.map fun z => .lit (.string z)), p)) : cs = zs.map fun z => Value.string ⟨z.toArray⟩ := by
  cases fuel with
  | zero => simp [DataW.trod] at h
  | succ fuel =>
    simp only [DataW.trod, ht, hce, hct, Nat.mul_one] at h
    split at h
    · rename_i hl
      obtain ⟨xs, hm, hx⟩ := Option.map_eq_some_iff.1 h
      have hxs : xs.map (·.1) = zs.map fun z => (DataW.lit (.string z) : DataW H) := by
        have := congrArg Prod.fst hx
        simpa using this
      have hxl : xs.length = n := by simpa using Lib.mapM_length hm
      have hzl : zs.length = n := by
        have := congrArg List.length hxs
        simp at this
        omega
      apply List.ext_getElem?
      intro i
      by_cases hi : i < n
      · obtain ⟨b, hb, hf⟩ := Lib.mapM_at hm i i (by simp [hi])
        obtain ⟨s, hc, rfl, _⟩ := DataW.trod_string he hf
        have h1 : cs[i]? = some (.string s) := by
          have := congrArg (·[0]?) hc
          simpa [List.getElem?_take, List.getElem?_drop] using this
        have h2 : (xs.map (·.1))[i]? = some (DataW.lit (.string s.data.toList) : DataW H) := by simp [hb]
        rw [hxs] at h2
        simp only [List.getElem?_map, Option.map_eq_some_iff, DataW.lit.injEq, Lit.string.injEq] at h2
        obtain ⟨z', hz', rfl⟩ := h2
        simp [h1, hz']
      · rw [List.getElem?_eq_none (by omega), List.getElem?_eq_none (by simp; omega)]
    · cases h

theorem gWordsType : (Tryz.prog.globals[1]?).map (·.type) = some 108 := by kernel_rfl
theorem gPowType : (Tryz.prog.globals[3]?).map (·.type) = some 156 := by kernel_rfl
theorem cellsWords : Tryz.prog.cellsOf 108 = 34 := by kernel_rfl
theorem cellsString : Tryz.prog.cellsOf 9 = 1 := by kernel_rfl
theorem cellsPow : Tryz.prog.cellsOf 156 = 20 := by kernel_rfl
theorem cellsU64 : Tryz.prog.cellsOf 147 = 1 := by kernel_rfl

/-- The table of words stands first on the list. -/
theorem words_of_head {W : World} {rest : List (String × DataW Unit)} (h : laidMet Tryz.prog (("loop.example/lairage/impl.insWords", Rows.laid_loop_example_lairage_impl_insWords) :: rest) W) : wordsAt W := by
  obtain ⟨ps, ⟨g', t', cs, fuel, p, q, hg', ht', hvar, hd, _, _⟩, _⟩ := h
  obtain rfl := Option.some.inj (gWords.symm.trans hg')
  obtain rfl := Option.some.inj (gWordsType.symm.trans ht')
  have hcs : cs.toList = words.map fun z => Value.string ⟨z.toArray⟩ := cells_of_texts Tryz.underlying108 Tryz.underlying9 cellsString cellsWords hd
  have hc : ∀ i, i < 34 → W.cell? ⟨1, i, none⟩ = some (.string ⟨(wordAt i).toArray⟩) := by
    intro i hi
    have h1 := World.var?_cell gWords hvar i
    rw [h1, ← Array.getElem?_toList, hcs]
    have hi2 : i < words.length := hi
    simp [wordAt, hi2]
  exact ⟨cell_lt (hc 0 (by omega)), hc⟩

theorem pow_of_head {W : World} {rest : List (String × DataW Unit)} (h : laidMet Tryz.prog (("internal/strconv.uint64pow10", Rows.laid_internal_strconv_uint64pow10) :: rest) W) : pow10 W :=
  Lib.tabIs_of_head gPow gPowType Tryz.underlying156 Tryz.underlying147 cellsU64 cellsPow h

theorem gLettersType : (Tryz.prog.globals[0]?).map (·.type) = some 107 := by kernel_rfl
theorem cellsLetters : Tryz.prog.cellsOf 107 = 4 := by kernel_rfl
/-- The table of letters stands first on the list. -/
theorem letters_of_head {W : World} {rest : List (String × DataW Unit)} (h : laidMet Tryz.prog (("loop.example/lairage/impl.fieldLetters", Rows.laid_loop_example_lairage_impl_fieldLetters) :: rest) W) : lettersAt W := by
  obtain ⟨ps, ⟨g', t', cs, fuel, p, q, hg', ht', hvar, hd, _, _⟩, _⟩ := h
  obtain rfl := Option.some.inj (gLetters.symm.trans hg')
  obtain rfl := Option.some.inj (gLettersType.symm.trans ht')
  have hcs : cs.toList = letters.map fun z => Value.string ⟨z.toArray⟩ := cells_of_texts Tryz.underlying107 Tryz.underlying9 cellsString cellsLetters hd
  have hc : ∀ i, i < 4 → W.cell? ⟨0, i, none⟩ = some (.string ⟨(letterAt i).toArray⟩) := by
    intro i hi
    have h1 := World.var?_cell gLetters hvar i
    rw [h1, ← Array.getElem?_toList, hcs]
    have hi2 : i < letters.length := hi
    simp [letterAt, hi2]
  exact ⟨cell_lt (hc 0 (by omega)), hc⟩

/-- A world for the witness: the settled one, the four tables holding what their initialisers lay. -/
def lay1 (h : Array Obj) (g : Nat) (cs : Array Value) : Array Obj := h.modify g fun
  | .cells _ t frozen => .cells cs t frozen
  | o => o

noncomputable def laidWorld (os : Os) : World :=
  { World.holding Tryz.prog os ⟨#[], #[], []⟩ with heap := (lay1 (lay1 (lay1 (lay1 (lay1 (World.holding Tryz.prog os ⟨#[], #[], []⟩).heap
      0 (letters.map fun z => Value.string ⟨z.toArray⟩).toArray)
      1 (words.map fun z => Value.string ⟨z.toArray⟩).toArray)
      3 #[.int .u64 1, .int .u64 10, .int .u64 100, .int .u64 1000, .int .u64 10000, .int .u64 100000, .int .u64 1000000, .int .u64 10000000, .int .u64 100000000, .int .u64 1000000000, .int .u64 10000000000, .int .u64 100000000000, .int .u64 1000000000000, .int .u64 10000000000000, .int .u64 100000000000000, .int .u64 1000000000000000, .int .u64 10000000000000000, .int .u64 100000000000000000, .int .u64 1000000000000000000, .int .u64 10000000000000000000])
      4 #[.int .u8 0, .int .u8 1, .int .u8 28, .int .u8 2, .int .u8 29, .int .u8 14, .int .u8 24, .int .u8 3, .int .u8 30, .int .u8 22, .int .u8 20, .int .u8 15, .int .u8 25, .int .u8 17, .int .u8 4, .int .u8 8, .int .u8 31, .int .u8 27, .int .u8 13, .int .u8 23, .int .u8 21, .int .u8 19, .int .u8 16, .int .u8 7, .int .u8 26, .int .u8 12, .int .u8 18, .int .u8 6, .int .u8 11, .int .u8 5, .int .u8 10, .int .u8 9])
      5 #[.int .u8 0, .int .u8 1, .int .u8 56, .int .u8 2, .int .u8 57, .int .u8 49, .int .u8 28, .int .u8 3, .int .u8 61, .int .u8 58, .int .u8 42, .int .u8 50, .int .u8 38, .int .u8 29, .int .u8 17, .int .u8 4, .int .u8 62, .int .u8 47, .int .u8 59, .int .u8 36, .int .u8 45, .int .u8 43, .int .u8 51, .int .u8 22, .int .u8 53, .int .u8 39, .int .u8 33, .int .u8 30, .int .u8 24, .int .u8 18, .int .u8 12, .int .u8 5, .int .u8 63, .int .u8 55, .int .u8 48, .int .u8 27, .int .u8 60, .int .u8 41, .int .u8 37, .int .u8 16, .int .u8 46, .int .u8 35, .int .u8 44, .int .u8 21, .int .u8 52, .int .u8 32, .int .u8 23, .int .u8 11, .int .u8 54, .int .u8 26, .int .u8 40, .int .u8 15, .int .u8 34, .int .u8 20, .int .u8 31, .int .u8 10, .int .u8 25, .int .u8 14, .int .u8 19, .int .u8 9, .int .u8 13, .int .u8 8, .int .u8 7, .int .u8 6]) }
end Go.Proofs.YtblliefejffhoaaGreatDoor
