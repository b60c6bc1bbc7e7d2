/- A frame of which a byte is another one is no frame of that length: FrameSpoilt returns true for every input. Conditions: none. -/
import Derived.Test.YthnoebdfofbpoaaFrame
import Derived.Test.YthnoebdfofbpoaaFrLaws
namespace Go.Proofs.Ythnoebdfofbpoaa
open Go.ChangeShapes Go.WideShapes Go.ChangeAt Go.RowKit
open Go.ChangeMaps (open_string shut_string)

set_option maxRecDepth 100000 in
theorem frameSpoiltR_lifted (os : Os) (started : os.Started) (H : Type) (enc : TypeId × Value → H) :
    ReturnsInHanded {} Try.checked os 7 .any (Rows.frameSpoiltSpec.pre6 enc Try.prog Try.f7 [] false) (Rows.frameSpoiltSpec.post enc Try.prog Try.f7 false true false false) := by
  refine lifted_of Try.func7 (by kernel_rfl) rfl rfl (by kernel_rfl) ?_ rfl os started
    (ChangeSpec.witness6 (enc := enc) (C := Try.checked) false ⟨#[], #[.string ⟨#[]⟩, .int .i64 0, .int .u8 0], []⟩ 8 (by kernel_rfl) (by kernel_rfl) (by kernel_rfl) (by kernel_rfl)) ?_
  · intro args ds W p hA
    rw [Try.params7] at hA
    obtain ⟨v0, vs0, d0, ds0, p0, q0, _, rfl, _, _, r0⟩ := trodAll_cons hA
    obtain ⟨v1, vs1, d1, ds1, p1, q1, _, rfl, _, _, r1⟩ := trodAll_cons r0
    obtain ⟨v2, vs2, d2, ds2, p2, q2, _, rfl, _, _, r2⟩ := trodAll_cons r1
    obtain ⟨_, rfl, _⟩ := trodAll_nil r2
    exact ⟨rfl, rfl, rfl⟩
  · intro W args ds p hval hA hlt hsz
    rw [Try.params7] at hA hval hsz
    obtain ⟨v0, vs0, d0, ds0, p0, q0, hargs, rfl, rfl, h0, r0⟩ := trodAll_cons hA
    obtain ⟨v1, vs1, d1, ds1, p1, q1, rfl, rfl, rfl, h1, r1⟩ := trodAll_cons r0
    obtain ⟨v2, vs2, d2, ds2, p2, q2, rfl, rfl, rfl, h2, r2⟩ := trodAll_cons r1
    obtain ⟨rfl, rfl, rfl⟩ := trodAll_nil r2
    obtain rfl : args = #[v0, v1, v2] := by cases args; simp_all
    obtain ⟨b0, hv0⟩ := hval 0 9 v0 rfl rfl
    obtain ⟨x0, rfl, rfl, rfl, hs0⟩ := open_string Try.underlying9 hv0 h0
    obtain ⟨b1, hv1⟩ := hval 1 3 v1 rfl rfl
    obtain ⟨z1, rfl, rfl, rfl, w1⟩ := open_int Try.underlying3 hv1 h1
    obtain ⟨b2, hv2⟩ := hval 2 5 v2 rfl rfl
    obtain ⟨z2, rfl, rfl, rfl, w2⟩ := open_int Try.underlying5 hv2 h2
    have e1 := bounds_i64 w1
    obtain ⟨x2, rfl, e2⟩ := nat_of_u8 w2
    have g0 := sized_str hsz (j := 0) rfl rfl
    exact (by have h := frameSpoilt_any x0 z1 (UInt8.ofNat x2) g0 W; rw [show (UInt8.ofNat x2).toNat = x2 from by rw [UInt8.toNat_ofNat']; exact Nat.mod_eq_of_lt e2] at h; exact h)

theorem frameSpoiltR_over : Rows.frameSpoiltRow.holds Try.pinned (OpenSpec.ofChange Rows.frameSpoiltSpec) :=
  OpenClaim.holds_of_wide 7 Try.f7 rfl rfl rfl rfl rfl rfl rfl ⟨rfl, rfl, rfl, rfl, rfl⟩ rfl rfl rfl rfl rfl (by kernel_rfl) Try.func7 (by kernel_rfl)
    (of_decide_eq_true (by kernel_rfl)) (by unfold Func.isWrapper; first | (rw [if_pos (by decide +kernel)]; kernel_rfl) | (rw [if_neg (by decide +kernel)]; exact ⟨rfl, rfl⟩))
    (fun os started H enc _ => frameSpoiltR_lifted os started H enc)

theorem frameSpoilt_proved : Rows.FrameSpoiltSaid := frameSpoiltR_over
#print axioms frameSpoilt_proved
end Go.Proofs.Ythnoebdfofbpoaa
