/- Blanks, remarks and empty lines say nothing: LexBlanks returns true for every input. Conditions: the tables math/bits.deBruijn32tab, math/bits.deBruijn64tab and internal/strconv.uint64pow10 hold what the program's text lays them to (tied). -/
import Derived.Test.YtjopejiooipmkaaDoorLka10
import Derived.Test.YtjopejiooipmkaaDoorCards
import Derived.Test.YtjopejiooipmkaaDoorTie
namespace Go.Proofs.YtjopejiooipmkaaDoor
open Go.ChangeShapes Go.WideShapes Go.ChangeAt Go.RowKit
open Go.ChangeMaps (open_string shut_string)

set_option maxRecDepth 100000 in
theorem lexBlanksR_tabs {W : World} (h : laidMet Tryd.prog Rows.lexBlanksRow.laid W) : Abs.Laid powG W :=
  Abs.laid_put (Abs.laid_ints h (i := 2) (n := "internal/strconv.uint64pow10") (g := 0) (t := 80) (e := 69) (len := 20) (k := .u64) (zs := [1, 10, 100, 1000, 10000, 100000, 1000000, 10000000, 100000000, 1000000000, 10000000000, 100000000000, 1000000000000, 10000000000000, 100000000000000, 1000000000000000, 10000000000000000, 100000000000000000, 1000000000000000000, 10000000000000000000]) (by kernel_rfl) (by kernel_rfl) (by kernel_rfl) (by kernel_rfl) (by kernel_rfl) (by kernel_rfl) (by decide)) (Abs.laid_nil W)
set_option maxRecDepth 100000 in
theorem lexBlanksR_met (os : Os) : laidMet Tryd.prog Rows.lexBlanksRow.laid ((heldWorld os [(1, litCells Rows.laid_math_bits_deBruijn32tab), (2, litCells Rows.laid_math_bits_deBruijn64tab), (0, litCells Rows.laid_internal_strconv_uint64pow10)]).forCall (fun _ _ => 0) ⟨#[], #[.string .empty, .slice none 0 0], []⟩).memory :=
  laidMet_of_run' 8 (by kernel_rfl) (by kernel_rfl)
set_option maxRecDepth 100000 in
theorem lexBlanksR_lifted (os : Os) (started : os.Started) (H : Type) (enc : TypeId × Value → H) :
    ReturnsInHanded {} Tryd.checked os 4 .any (fun w args => (Rows.lexBlanksSpec.pre enc Tryd.prog Tryd.f4 [] false w args ∧ laidMet Tryd.prog Rows.lexBlanksRow.laid w) ∧ sizedMet enc Tryd.prog Tryd.f4 (OpenSpec.ofChange Rows.lexBlanksSpec) false w args) (Rows.lexBlanksSpec.post enc Tryd.prog Tryd.f4 false true false false) := by
  refine lifted_laid Rows.lexBlanksRow.laid Tryd.func4 (by kernel_rfl) rfl rfl (by kernel_rfl) ?_ rfl os started
    (ChangeSpec.witness_at (enc := enc) (C := Tryd.checked) (os := os) (X := fun w _ => laidMet Tryd.prog Rows.lexBlanksRow.laid w) false (heldWorld os [(1, litCells Rows.laid_math_bits_deBruijn32tab), (2, litCells Rows.laid_math_bits_deBruijn64tab), (0, litCells Rows.laid_internal_strconv_uint64pow10)]) #[.string .empty, .slice none 0 0] 8 rfl (by kernel_rfl) (by kernel_rfl) (by kernel_rfl) (by kernel_rfl) (by kernel_rfl) (lexBlanksR_met os)) ?_
  · intro args ds W p hA
    rw [Tryd.params4] at hA
    obtain ⟨v0, vs0, d0, ds0, p0, q0, _, rfl, _, _, r0⟩ := trodAll_cons hA
    obtain ⟨v1, vs1, d1, ds1, p1, q1, _, rfl, _, _, r1⟩ := trodAll_cons r0
    obtain ⟨_, rfl, _⟩ := trodAll_nil r1
    exact ⟨rfl, rfl, rfl⟩
  · intro W args ds p hL hval hA hlt hsz
    obtain ⟨m, h, xs, F, hX, hT, hr, hP⟩ := Abs.open_allG (n := 12) powG (0 + 1) [52] (lexBlanksR_tabs hL) (by kernel_rfl) hA hlt hsz (by kernel_rfl) (fun i t v h1 h2 => hval i t v (by simpa using h1) (by simpa using h2))
    rw [Tryd.params4] at hP
    obtain ⟨h2, hs⟩ := lexBlanks_says h hX (pow_of (Nat.lt_succ_self _) hT) xs hP
    exact Abs.says_in hs F hr

theorem lexBlanksR_over : Rows.lexBlanksRow.holds Tryd.pinned (OpenSpec.ofChange Rows.lexBlanksSpec) :=
  OpenClaim.holds_of_wide 4 Tryd.f4 rfl rfl rfl rfl rfl rfl rfl ⟨rfl, rfl, rfl, rfl, rfl⟩ rfl rfl rfl rfl rfl (by kernel_rfl) Tryd.func4 (by kernel_rfl)
    (of_decide_eq_true (by kernel_rfl)) (by unfold Func.isWrapper; first | (rw [if_pos (by decide +kernel)]; kernel_rfl) | (rw [if_neg (by decide +kernel)]; exact ⟨rfl, rfl⟩))
    (fun os started H enc _ => lexBlanksR_lifted os started H enc)

theorem lexBlanks_proved : Rows.LexBlanksCardSaid :=
  Claim7.holds_tied_plain_at .later [] [.data, .data, .data] true (true, "de60393d64c098759791b6e81004d839e8905978ebb85473933445d232429e9c") true lexBlanksR_over (fun _ h => by cases h) (by kernel_rfl) (fun _ h => by cases h) lexBlanks_row_tie rfl ⟨rfl, rfl⟩ (by kernel_rfl) rfl
    (fun f fn hf hfn => by
      obtain rfl : f = 4 := Option.some.inj ((show Tryd.prog.funcNamed "dragoman/dragomanlaw12.LexBlanks" = some 4 by kernel_rfl).symm.trans hf) |>.symm
      obtain rfl : fn = Tryd.f4 := (Option.some.inj (Tryd.func4.symm.trans hfn)).symm
      exact ⟨by kernel_rfl, no_standins (by kernel_rfl)⟩)
    (by kernel_rfl)
#print axioms lexBlanks_proved
end Go.Proofs.YtjopejiooipmkaaDoor
