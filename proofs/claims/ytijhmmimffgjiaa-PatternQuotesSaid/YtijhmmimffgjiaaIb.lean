/- The place of a digit among the digits. -/
import Derived.Test.YtijhmmimffgjiaaDigits
namespace Go.Proofs.Ytijhmmimffgjiaa
open Go.RowKit Abs
noncomputable def ibArgs (k : Nat) : List AV := [strA digitsB, .int .u8 ((digU k).toNat : Int)]
noncomputable def ibGo (k : Nat) : Bool := came (.ret (.int .i64 (k : Int))) (callA Try.prog (Memo.spec Try.prog 5000 []) 5000 30 87 (ibArgs k) ⟨0, [], .e⟩)
set_option maxRecDepth 100000 in
theorem ib_all : ([0, 1, 2, 3, 4, 5, 6, 7, 8, 9, 10, 11, 12, 13, 14, 15] : List Nat).all ibGo = true := by kernel_rfl
theorem ib_one (k : Nat) (hk : k < 16) : ibGo k = true := by
  refine List.all_eq_true.1 ib_all k ?_
  have : ∀ j : Fin 16, j.val ∈ ([0, 1, 2, 3, 4, 5, 6, 7, 8, 9, 10, 11, 12, 13, 14, 15] : List Nat) := by decide
  exact this ⟨k, hk⟩
noncomputable def ibF : FnT := fun args h => @dite _ (∃ k : Nat, k < 16 ∧ args = ibArgs k) (Classical.propDecidable _) (fun e => some (.ret (.int .i64 ((Classical.choose e : Nat) : Int)), h)) (fun _ => none)
theorem ibF_holds : Holds Try.prog 87 ibF := by
  intro args h r h' e
  unfold ibF at e
  split at e
  · rename_i hk
    have hc := Classical.choose_spec hk
    generalize Classical.choose hk = j at hc e
    simp only [Option.some.injEq, Prod.mk.injEq] at e
    obtain ⟨rfl, rfl⟩ := e
    obtain ⟨hj, rfl⟩ := hc
    exact Memo.says (by kernel_rfl) Memo.ok_nil rfl rfl (ib_one j hj) h
  · cases e
theorem digU_inj : ∀ a b : Fin 16, (digU a.val).toNat = (digU b.val).toNat → a = b := by decide +kernel
theorem ibF_eq (k : Nat) (hk : k < 16) (h : AHeap) : ibF [strA digitsB, .int .u8 ((digU k).toNat : Int)] h = some (.ret (.int .i64 (k : Int)), h) := by
  have hex : ∃ j : Nat, j < 16 ∧ ([strA digitsB, .int .u8 ((digU k).toNat : Int)] : List AV) = ibArgs j := ⟨k, hk, rfl⟩
  unfold ibF
  rw [dif_pos hex]
  have hc := Classical.choose_spec hex
  generalize Classical.choose hex = j at hc ⊢
  obtain ⟨hj, hc⟩ := hc
  unfold ibArgs at hc
  simp only [List.cons.injEq, AV.int.injEq, true_and, and_true, Int.ofNat_inj] at hc
  have := digU_inj ⟨k, hk⟩ ⟨j, hj⟩ hc
  simp only [Fin.mk.injEq] at this
  rw [this]
end Go.Proofs.Ytijhmmimffgjiaa
