/- What was written by package wire is read as it was, in its order, whatever stands behind it: WireBack returns true for every input. Conditions: none. -/
import Derived.Test.YtdcofbkmflemfaaBack2
import Derived.Test.YtdcofbkmflemfaaOpen
namespace Go.Proofs.Ytdcofbkmflemfaa
open Go.ChangeShapes Go.WideShapes Go.ChangeAt Go.RowKit
open Go.ChangeMaps (open_string shut_string)

theorem back_any (a b c : Nat) (s rest : ByteArray) (v : Value) (l : List ByteArray) (W : World) (h : Held W v l) (ha : a < 256) (hb : b < 4294967296) (hc : U64' c) (hs : s.size ≤ 140737488351232) :
    Calls Try.prog 6 #[.int .u8 a, .int .u32 b, .int .u64 c, .string s, v, .string rest] W fun e w' => e = .returned (.bool true) ∧ Below W.heap.size W w' := by
  by_cases hl : 1024 < l.length
  · exact back_long a b c s rest v l W h hl
  · by_cases hbig : 65536 < s.size + total l ∨ 65536 < rest.size
    · exact back_big a b c s rest v l W h (by omega) hs hbig
    · exact back_main a b c s rest v l W h (by omega) ha hb hc (by omega) (by omega)

set_option maxRecDepth 100000 in
theorem back_lifted (os : Os) (started : os.Started) (H : Type) (enc : TypeId × Value → H) :
    ReturnsInHanded {} Try.checked os 6 .any (Rows.wireBackSpec.pre6 enc Try.prog Try.f6 [] false) (Rows.wireBackSpec.post enc Try.prog Try.f6 false true false false) := by
  refine lifted_of Try.func6 (by kernel_rfl) rfl rfl (by kernel_rfl) ?_ rfl os started
    (ChangeSpec.witness6 (enc := enc) (C := Try.checked) false ⟨#[], #[.int .u8 0, .int .u32 0, .int .u64 0, .string ⟨#[]⟩, .slice none 0 0, .string ⟨#[]⟩], []⟩ 8 (by kernel_rfl) (by kernel_rfl) (by kernel_rfl) (by kernel_rfl)) ?_
  · intro args ds W p hA
    rw [Try.params6] at hA
    obtain ⟨v0, vs0, d0, ds0, p0, q0, _, rfl, _, _, r0⟩ := trodAll_cons hA
    obtain ⟨v1, vs1, d1, ds1, p1, q1, _, rfl, _, _, r1⟩ := trodAll_cons r0
    obtain ⟨v2, vs2, d2, ds2, p2, q2, _, rfl, _, _, r2⟩ := trodAll_cons r1
    obtain ⟨v3, vs3, d3, ds3, p3, q3, _, rfl, _, _, r3⟩ := trodAll_cons r2
    obtain ⟨v4, vs4, d4, ds4, p4, q4, _, rfl, _, _, r4⟩ := trodAll_cons r3
    obtain ⟨v5, vs5, d5, ds5, p5, q5, _, rfl, _, _, r5⟩ := trodAll_cons r4
    obtain ⟨_, rfl, _⟩ := trodAll_nil r5
    exact ⟨rfl, rfl, rfl⟩
  · intro W args ds p hval hA hlt hsz
    rw [Try.params6] at hA hval hsz
    obtain ⟨v0, vs0, d0, ds0, p0, q0, hargs, rfl, rfl, h0, r0⟩ := trodAll_cons hA
    obtain ⟨v1, vs1, d1, ds1, p1, q1, rfl, rfl, rfl, h1, r1⟩ := trodAll_cons r0
    obtain ⟨v2, vs2, d2, ds2, p2, q2, rfl, rfl, rfl, h2, r2⟩ := trodAll_cons r1
    obtain ⟨v3, vs3, d3, ds3, p3, q3, rfl, rfl, rfl, h3, r3⟩ := trodAll_cons r2
    obtain ⟨v4, vs4, d4, ds4, p4, q4, rfl, rfl, rfl, h4, r4⟩ := trodAll_cons r3
    obtain ⟨v5, vs5, d5, ds5, p5, q5, rfl, rfl, rfl, h5, r5⟩ := trodAll_cons r4
    obtain ⟨rfl, rfl, rfl⟩ := trodAll_nil r5
    obtain rfl : args = #[v0, v1, v2, v3, v4, v5] := by cases args; simp_all
    obtain ⟨b0, hv0⟩ := hval 0 5 v0 rfl rfl
    obtain ⟨b1, hv1⟩ := hval 1 42 v1 rfl rfl
    obtain ⟨b2, hv2⟩ := hval 2 28 v2 rfl rfl
    obtain ⟨b3, hv3⟩ := hval 3 9 v3 rfl rfl
    obtain ⟨b5, hv5⟩ := hval 5 9 v5 rfl rfl
    obtain ⟨l, hl⟩ := open_strs (hval 4 38 v4 rfl rfl) h4 (fun x hx => hlt x (by simp [hx])) (fun n hn => by
      have := List.all_eq_true.1 hsz n (DataW.weights_mem_each (j := 4) rfl rfl n hn)
      simpa using this)
    obtain ⟨x0, rfl, rfl, rfl, w0⟩ := open_int Try.underlying5 hv0 h0
    obtain ⟨x1, rfl, rfl, rfl, w1⟩ := open_int Try.underlying42 hv1 h1
    obtain ⟨x2, rfl, rfl, rfl, w2⟩ := open_int Try.underlying28 hv2 h2
    obtain ⟨s3, rfl, rfl, rfl, hs3⟩ := open_string Try.underlying9 hv3 h3
    obtain ⟨s5, rfl, rfl, rfl, hs5⟩ := open_string Try.underlying9 hv5 h5
    obtain ⟨a, rfl, ha⟩ := nat_of_u8 w0
    obtain ⟨b, rfl, hb⟩ := nat_of_u32 w1
    obtain ⟨c, rfl, hc⟩ := nat_of_u64 w2
    exact back_any a b c s3 s5 v4 l W hl ha hb (by unfold U64'; omega) (sized_str hsz (j := 3) rfl rfl)

theorem back_over : Rows.wireBackRow.holds Try.pinned (OpenSpec.ofChange Rows.wireBackSpec) :=
  OpenClaim.holds_of_wide 6 Try.f6 rfl rfl rfl rfl rfl rfl rfl ⟨rfl, rfl, rfl, rfl, rfl⟩ rfl rfl rfl rfl rfl (by kernel_rfl) Try.func6 (by kernel_rfl)
    (of_decide_eq_true (by kernel_rfl)) (by unfold Func.isWrapper; first | (rw [if_pos (by decide +kernel)]; kernel_rfl) | (rw [if_neg (by decide +kernel)]; exact ⟨rfl, rfl⟩))
    (fun os started H enc _ => back_lifted os started H enc)

theorem wireBack_proved : Rows.WireBackSaid := back_over
#print axioms wireBack_proved
end Go.Proofs.Ytdcofbkmflemfaa
