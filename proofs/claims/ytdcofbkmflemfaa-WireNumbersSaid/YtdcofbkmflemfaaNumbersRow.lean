/- Any numbers and texts have the bytes that the document says, as the reference reckons them: WireNumbers returns true for every input. Conditions: none. -/
import Derived.Test.YtdcofbkmflemfaaNumbers
import Derived.Test.YtdcofbkmflemfaaOpen
namespace Go.Proofs.Ytdcofbkmflemfaa
open Go.ChangeShapes Go.WideShapes Go.ChangeAt Go.RowKit
open Go.ChangeMaps (open_string shut_string)

set_option maxRecDepth 100000 in
theorem numbers_lifted (os : Os) (started : os.Started) (H : Type) (enc : TypeId × Value → H) :
    ReturnsInHanded {} Try.checked os 4 .any (Rows.wireNumbersSpec.pre6 enc Try.prog Try.f4 [] false) (Rows.wireNumbersSpec.post enc Try.prog Try.f4 false true false false) := by
  refine lifted_of Try.func4 (by kernel_rfl) rfl rfl (by kernel_rfl) ?_ rfl os started
    (ChangeSpec.witness6 (enc := enc) (C := Try.checked) false ⟨#[], #[.int .u8 0, .int .u32 0, .int .u64 0, .string ⟨#[]⟩, .slice none 0 0], []⟩ 8 (by kernel_rfl) (by kernel_rfl) (by kernel_rfl) (by kernel_rfl)) ?_
  · intro args ds W p hA
    rw [Try.params4] at hA
    obtain ⟨v0, vs0, d0, ds0, p0, q0, _, rfl, _, _, r0⟩ := trodAll_cons hA
    obtain ⟨v1, vs1, d1, ds1, p1, q1, _, rfl, _, _, r1⟩ := trodAll_cons r0
    obtain ⟨v2, vs2, d2, ds2, p2, q2, _, rfl, _, _, r2⟩ := trodAll_cons r1
    obtain ⟨v3, vs3, d3, ds3, p3, q3, _, rfl, _, _, r3⟩ := trodAll_cons r2
    obtain ⟨v4, vs4, d4, ds4, p4, q4, _, rfl, _, _, r4⟩ := trodAll_cons r3
    obtain ⟨_, rfl, _⟩ := trodAll_nil r4
    exact ⟨rfl, rfl, rfl⟩
  · intro W args ds p hval hA hlt hsz
    rw [Try.params4] at hA hval hsz
    obtain ⟨v0, vs0, d0, ds0, p0, q0, hargs, rfl, rfl, h0, r0⟩ := trodAll_cons hA
    obtain ⟨v1, vs1, d1, ds1, p1, q1, rfl, rfl, rfl, h1, r1⟩ := trodAll_cons r0
    obtain ⟨v2, vs2, d2, ds2, p2, q2, rfl, rfl, rfl, h2, r2⟩ := trodAll_cons r1
    obtain ⟨v3, vs3, d3, ds3, p3, q3, rfl, rfl, rfl, h3, r3⟩ := trodAll_cons r2
    obtain ⟨v4, vs4, d4, ds4, p4, q4, rfl, rfl, rfl, h4, r4⟩ := trodAll_cons r3
    obtain ⟨rfl, rfl, rfl⟩ := trodAll_nil r4
    obtain rfl : args = #[v0, v1, v2, v3, v4] := by cases args; simp_all
    obtain ⟨x4, g4⟩ := open_strs (hval 4 38 v4 rfl rfl) h4 (fun x hx => hlt x (by simp [hx])) (fun n hn => by
      have := List.all_eq_true.1 hsz n (DataW.weights_mem_each (j := 4) rfl rfl n hn)
      simpa using this)
    obtain ⟨b0, hv0⟩ := hval 0 5 v0 rfl rfl
    obtain ⟨z0, rfl, rfl, rfl, w0⟩ := open_int Try.underlying5 hv0 h0
    obtain ⟨b1, hv1⟩ := hval 1 42 v1 rfl rfl
    obtain ⟨z1, rfl, rfl, rfl, w1⟩ := open_int Try.underlying42 hv1 h1
    obtain ⟨b2, hv2⟩ := hval 2 28 v2 rfl rfl
    obtain ⟨z2, rfl, rfl, rfl, w2⟩ := open_int Try.underlying28 hv2 h2
    obtain ⟨b3, hv3⟩ := hval 3 9 v3 rfl rfl
    obtain ⟨x3, rfl, rfl, rfl, hs3⟩ := open_string Try.underlying9 hv3 h3
    obtain ⟨x0, rfl, e0⟩ := nat_of_u8 w0
    obtain ⟨x1, rfl, e1⟩ := nat_of_u32 w1
    obtain ⟨x2, rfl, e2⟩ := nat_of_u64 w2
    have g3 := sized_str hsz (j := 3) rfl rfl
    exact numbers_any x0 x1 x2 x3 v4 x4 W g4 e0 e1 (by unfold U64; omega) g3

theorem numbers_over : Rows.wireNumbersRow.holds Try.pinned (OpenSpec.ofChange Rows.wireNumbersSpec) :=
  OpenClaim.holds_of_wide 4 Try.f4 rfl rfl rfl rfl rfl rfl rfl ⟨rfl, rfl, rfl, rfl, rfl⟩ rfl rfl rfl rfl rfl (by kernel_rfl) Try.func4 (by kernel_rfl)
    (of_decide_eq_true (by kernel_rfl)) (by unfold Func.isWrapper; first | (rw [if_pos (by decide +kernel)]; kernel_rfl) | (rw [if_neg (by decide +kernel)]; exact ⟨rfl, rfl⟩))
    (fun os started H enc _ => numbers_lifted os started H enc)

theorem wireNumbers_proved : Rows.WireNumbersSaid := numbers_over
#print axioms wireNumbers_proved
end Go.Proofs.Ytdcofbkmflemfaa
