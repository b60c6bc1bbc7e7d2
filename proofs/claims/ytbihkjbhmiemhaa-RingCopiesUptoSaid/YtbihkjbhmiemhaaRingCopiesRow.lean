/- A copy of a ring goes on by itself: RingCopies returns true for every input of bulk at most 1048576. Conditions: none beside the bulk. -/
import Derived.Test.YtbihkjbhmiemhaaRingBulk
import Derived.JoinedCond
namespace Go.Proofs.Ytbihkjbhmiemhaa
open Go.ChangeShapes Go.WideShapes Go.ChangeAt Go.RowKit
open Go.ChangeMaps (open_string shut_string)

theorem relL_cons {m : Abs.Map} {xs : List Abs.AV} {v : Value} {vs : List Value} (h : Abs.RelL m xs (v :: vs)) : ∃ x xs', xs = x :: xs' ∧ Abs.Rel m x v ∧ Abs.RelL m xs' vs := by
  cases h with | cons a b => exact ⟨_, _, rfl, a, b⟩
theorem bytes9 : Try.prog.bytesOf 9 ≤ 4096 := by decide +kernel

set_option maxRecDepth 100000 in
theorem ringCopiesU_contract (H : Type) (enc : TypeId × Value → H) (W : World) (base : Nat) (args : Array Value) (ds gs : List (DataW H)) (before : List MemPlace)
    (hval : ∀ (j : Nat) t v, Try.f6.params[j]? = some t → args[j]? = some v → Value.okWide Try.prog W .any base t v)
    (hW : DataW.Whole enc Try.prog Try.f6.params.toList Rows.ringCopiesSpec.vars false W args.toList ds gs before) (hk : Rows.uptoSmall H (ds ++ gs) = true) :
    Calls Try.prog 6 args W fun e W' => ∃ v, e = .returned v ∧ Rows.ringCopiesSpec.post enc Try.prog Try.f6 false true false false W args v W' := by
  have hW' := hW
  obtain ⟨p, q, hA0, hV, rfl, _, _⟩ := hW
  have hA : DataW.TrodAll enc Try.prog W 0 (fun _ => true) true Try.f6.params.toList args.toList ds p := hA0
  obtain ⟨rfl, rfl⟩ := trodVars_none hV
  simp only [List.append_nil] at hW' hk
  have hlt : ∀ x ∈ p, x.block < W.heap.size := fun x hx => by simpa using hW'.lt x hx
  have hB : Rows.uptoBulkAll ds ≤ 1048576 := of_decide_eq_true hk
  have hA1 := hA
  rw [Try.params6] at hA1
  obtain ⟨v0, vs0, d0, ds0, p0, q0, e0, rfl, rfl, t0, r0⟩ := trodAll_cons hA1
  obtain ⟨v1, vs1, d1, ds1, p1, q1, rfl, rfl, rfl, t1, r1⟩ := trodAll_cons r0
  obtain ⟨v2, vs2, d2, ds2, p2, q2, rfl, rfl, rfl, t2, r2⟩ := trodAll_cons r1
  obtain ⟨v3, vs3, d3, ds3, p3, q3, rfl, rfl, rfl, t3, r3⟩ := trodAll_cons r2
  obtain ⟨rfl, rfl, rfl⟩ := trodAll_nil r3
  simp only [bulk_cons] at hB
  obtain ⟨f0, t0⟩ := t0
  obtain ⟨f1, t1⟩ := t1
  obtain ⟨f2, t2⟩ := t2
  obtain ⟨f3, t3⟩ := t3
  have w1 := strs_weights Try.underlying22 Try.underlying9 (by kernel_rfl) bytes9 t1 (by omega)
  have w2 := strs_weights Try.underlying22 Try.underlying9 (by kernel_rfl) bytes9 t2 (by omega)
  have w3 := strs_weights Try.underlying22 Try.underlying9 (by kernel_rfl) bytes9 t3 (by omega)
  have hsz : (DataW.weightsEach Try.prog Try.f6.params.toList [d0, d1, d2, d3]).all (· ≤ reachBytes) = true := by
    obtain ⟨z, _, hx, _⟩ := DataW.trod_int Try.underlying3 t0
    simp only [Prod.mk.injEq] at hx
    obtain ⟨rfl, _⟩ := hx
    rw [Try.params6]
    refine List.all_eq_true.2 fun k hk => decide_eq_true ?_
    simp only [DataW.weightsEach, List.append_nil] at hk
    rcases List.mem_append.1 hk with hk | hk
    · simp [DataW.weights] at hk
    · rcases List.mem_append.1 hk with hk | hk
      · exact w1 k hk
      · rcases List.mem_append.1 hk with hk | hk
        · exact w2 k hk
        · exact w3 k hk
  obtain ⟨m, h, xs, F, hX, hr, hP⟩ := Abs.open_all (n := 12) [47] hA hlt hsz (by kernel_rfl) (fun i t v h1 h2 => ⟨base, hval i t v (by simpa using h1) (by simpa using h2)⟩)
  rw [Try.params6] at hP
  have hr2 := hr
  rw [e0] at hr2
  obtain ⟨x0, xs0, rfl, a0, b0⟩ := relL_cons hr2
  obtain ⟨x1, xs1, rfl, a1, b1⟩ := relL_cons b0
  obtain ⟨h2, hs⟩ := ringCopies_says h hX _ hP (fun y s hy hsl => by
    simp only [List.getElem?_cons_succ, List.getElem?_cons_zero, Option.some.injEq] at hy
    subst hy
    have := strs_bulk F a1 hsl Try.underlying22 Try.underlying9 (by kernel_rfl) t1
    omega)
  refine (Abs.says_in hs F hr).mono fun e W' ⟨he, hb⟩ => ?_
  subst he
  refine ⟨_, rfl, [d0, d1, d2, d3], [], p0 ++ (p1 ++ (p2 ++ (p3 ++ []))), [], p0 ++ (p1 ++ (p2 ++ (p3 ++ []))), [], hW', ?_, ?_, ?_, hb.frame _, fun h => by cases h⟩
  · exact trodAll_mk1 (shut_bool Try.underlying4 _)
  · exact stays Try.laidOut hb _ _ _ _ hA (readable_of (by kernel_rfl)) hlt
  · rw [show Rows.ringCopiesSpec.vars = [] from rfl, show (Rows.ringCopiesSpec.fn H ([d0, d1, d2, d3] ++ [])).vars = [] from rfl]; trivial

set_option maxRecDepth 100000 in
theorem ringCopiesU_lifted (os : Os) (started : os.Started) (H : Type) (enc : TypeId × Value → H) (F : Stop.Interp) :
    ReturnsInHanded {} Try.checked os 6 .any ((Rows.OpenSpec.upto Rows.ringCopiesSpec).pre6 enc Try.prog Try.f6 Rows.ringCopiesUptoRow.domain false) (((Rows.OpenSpec.upto Rows.ringCopiesSpec).at F).post enc Try.prog Try.f6 false true false false) := by
  refine returnsInHanded_of_cond (C := Try.checked) (s := Rows.OpenSpec.upto Rows.ringCopiesSpec) (k := Rows.uptoSmall) rfl Try.own started (by kernel_rfl) Try.func6
    (OpenSpec.witness (enc := enc) (C := Try.checked) (s := Rows.OpenSpec.upto Rows.ringCopiesSpec) (k := Rows.uptoSmall) rfl false ⟨#[], #[.int .i64 0, .slice none 0 0, .slice none 0 0, .slice none 0 0], []⟩ 8 (by kernel_rfl) (by kernel_rfl) (by kernel_rfl)
      (x := ([.lit (.int .i64 0), .nil, .nil, .nil], [], [])) (by kernel_rfl) rfl (by kernel_rfl)) ?_
  intro W base args ds gs before hval hW _ hk _
  exact ringCopiesU_contract H enc W base args ds gs before hval hW hk

theorem ringCopiesUpto_proved : Rows.RingCopiesUptoSaid :=
  OpenClaim.holds_of_cond 6 Try.f6 rfl rfl rfl rfl rfl rfl rfl ⟨rfl, rfl, rfl, rfl, rfl⟩ rfl rfl rfl rfl rfl (by kernel_rfl) Try.func6 (by kernel_rfl)
    (of_decide_eq_true (by kernel_rfl)) (by unfold Func.isWrapper; first | (rw [if_pos (by decide +kernel)]; kernel_rfl) | (rw [if_neg (by decide +kernel)]; exact ⟨rfl, rfl⟩))
    (fun os started H enc _ F => ringCopiesU_lifted os started H enc F)
#print axioms ringCopiesUpto_proved
end Go.Proofs.Ytbihkjbhmiemhaa
