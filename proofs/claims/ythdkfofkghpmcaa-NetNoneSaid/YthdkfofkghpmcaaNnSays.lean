/- A network that is none takes nothing: NetNone, of any call. -/
import Derived.Test.YthdkfofkghpmcaaNn
import Derived.Test.YthdkfofkghpmcaaAbs33
namespace Go.Proofs.Ythdkfofkghpmcaa
open Go.RowKit Abs

theorem nn_end {W : World} {S : Abs.MS} {l : List Abs.MI} (h : nnEnd S l = true) : Abs.RunsM Try.prog W (Abs.R1 W) S := by
  unfold nnEnd at h
  split at h
  · rename_i S' hr
    exact Abs.runM_ok (by kernel_rfl) (nn_both W) l S S' hr (Abs.lastM_ok (by kernel_rfl) h)
  · cases h
set_option maxRecDepth 100000 in
theorem nn_e1 (k a b : Int) (n v : Nat) : Abs.runM Try.prog nnB nnF nnScr (nnS0 k a b n v) = some (nnS1 k a b n v) := by kernel_rfl
set_option maxRecDepth 100000 in
theorem nn_e4 (k a b : Int) (n v : Nat) : Abs.runM Try.prog nnB nnF [.ops 3] (nnP (nnS1 k a b n v) 29 false 3) = some (nnS2 (nnP (nnS1 k a b n v) 29 false 3)) := by kernel_rfl
section
attribute [local irreducible] nnS0 nnS1 nnS2 nnP nnB nnScr nnF
theorem nn_out {k : Int} (a b : Int) (n v : Nat) (hk : k < 1 ∨ k > 6) (W : World) : Abs.RunsM Try.prog W (Abs.R1 W) (nnS0 k a b n v) := by
  refine Abs.runM_ok (by kernel_rfl) (nn_both W) nnScr _ _ (nn_e1 k a b n v) ?_
  refine Abs.stepX_ok (by kernel_rfl) (nn_both W) (nn_h2 k a b n v) ?_
  by_cases h : k < 1
  · rw [decide_eq_true h]
    exact nn_end (nn_h3 k a b n v)
  · rw [decide_eq_false h]
    refine Abs.runM_ok (by kernel_rfl) (nn_both W) [.ops 3] _ _ (nn_e4 k a b n v) ?_
    refine Abs.stepX_ok (by kernel_rfl) (nn_both W) (nn_h5 k a b n v) ?_
    rw [decide_eq_true (show k > 6 by omega)]
    exact nn_end (nn_h6 k a b n v)
end
theorem netNone_says (h : AHeap) (_ : h.ex = []) (xs : List AV) (hP : ArgsP Try.prog h.next h 12 [39] xs) : ∃ h', Says Try.prog 7 xs h (.ret (.bool true)) h' := by
  obtain ⟨x, _, rfl, hp, hP⟩ := args_cons hP
  obtain rfl := args0 hP
  obtain ⟨l, hx, hq⟩ := ArgP.agg (t := 39) (by kernel_rfl) hp
  subst hx
  obtain ⟨l0, l1, l2, l3, rfl, h0, h1, h2, h3⟩ := Plain.struct4 Try.underlying39 hq
  obtain ⟨k, rfl, _⟩ := h0.int Try.underlying3
  obtain ⟨a, rfl, _⟩ := h1.int Try.underlying3
  obtain ⟨b, rfl, _⟩ := h2.int Try.underlying3
  obtain ⟨s, rfl, _⟩ := h3.str Try.underlying9
  refine ⟨h, ?_⟩
  have hs : AV.scalL (nnA k a b s.length (enc s)) = true := rfl
  have e : ([AV.agg ([AV.int .i64 k] ++ ([AV.int .i64 a] ++ ([AV.int .i64 b] ++ [strA s])))] : List AV) = nnA k a b s.length (enc s) := rfl
  rw [e]
  by_cases hk : k < 1 ∨ k > 6
  · exact says_of_R1 (fun W args' hra => runsM_args (fn := Try.f7) Try.func7 (by kernel_rfl) (by rw [show (nnA k a b s.length (enc s)).length = 1 from rfl]; decide) hra (nn_out a b _ _ hk W)) hs h
  · have hk6 : k = 1 ∨ k = 2 ∨ k = 3 ∨ k = 4 ∨ k = 5 ∨ k = 6 := by omega
    have hsp : ∀ w0, SpecOK Try.prog w0 (Abs.delSpec Try.prog 38 32) := fun w0 => Abs.delSpec_ok delOK w0
    rcases hk6 with rfl | rfl | rfl | rfl | rfl | rfl
    · exact says_both (by kernel_rfl) hsp (nn1 a b _ _) rfl h
    · exact says_both (by kernel_rfl) hsp (nn2 a b _ _) rfl h
    · exact says_both (by kernel_rfl) hsp (nn3 a b _ _) rfl h
    · exact says_both (by kernel_rfl) hsp (nn4 a b _ _) rfl h
    · exact says_both (by kernel_rfl) hsp (nn5 a b _ _) rfl h
    · exact says_both (by kernel_rfl) hsp (nn6 a b _ _) rfl h
end Go.Proofs.Ythdkfofkghpmcaa
