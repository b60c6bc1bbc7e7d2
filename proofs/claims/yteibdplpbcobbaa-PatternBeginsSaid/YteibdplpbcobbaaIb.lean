/- The place of a byte among the digits. -/
import Derived.Test.YteibdplpbcobbaaQs
import Derived.Test.YteibdplpbcobbaaFrame
namespace Go.Proofs.Yteibdplpbcobbaa
open Go.RowKit Abs
abbrev digitsB : Bytes := [48, 49, 50, 51, 52, 53, 54, 55, 56, 57, 97, 98, 99, 100, 101, 102]
def ibV (k : Nat) : Int := match hexV k with
  | some v => (v : Int)
  | none => -1
noncomputable def ibArgs (k : Nat) : List AV := [strA digitsB, .int .u8 (k : Int)]
noncomputable def ibGo (k : Nat) : Bool := came (.ret (.int .i64 (ibV k))) (callA Try.prog (Memo.spec Try.prog 5000 []) 5000 30 87 (ibArgs k) ⟨0, [], .e⟩)
set_option maxRecDepth 100000 in
theorem ib_all : (List.range 256).all ibGo = true := by kernel_rfl
theorem ib_one {k : Nat} (hk : k < 256) : ibGo k = true := List.all_eq_true.1 ib_all k (List.mem_range.2 hk)
noncomputable def ibF : FnT := fun args h => match args with
  | [d, .int .u8 z] => @ite _ (d = strA digitsB ∧ 0 ≤ z ∧ z < 256) (Classical.propDecidable _) (some (.ret (.int .i64 (ibV z.toNat)), h)) none
  | _ => none
theorem ibF_holds : Holds Try.prog 87 ibF := by
  intro args h r h' e
  unfold ibF at e
  split at e
  · rename_i d z
    split at e
    · rename_i hk
      obtain ⟨rfl, h1, h2⟩ := hk
      obtain ⟨k, rfl⟩ := Int.eq_ofNat_of_zero_le h1
      simp only [Option.some.injEq, Prod.mk.injEq] at e
      obtain ⟨rfl, rfl⟩ := e
      exact Memo.says (by kernel_rfl) Memo.ok_nil rfl rfl (ib_one (k := k) (by omega)) h
    · cases e
  · cases e
theorem ibF_eq {k : Nat} (hk : k < 256) (h : AHeap) : ibF [strA digitsB, .int .u8 (k : Int)] h = some (.ret (.int .i64 (ibV k)), h) := by
  have : ibF [strA digitsB, .int .u8 (k : Int)] h = @ite _ (strA digitsB = strA digitsB ∧ 0 ≤ (k : Int) ∧ (k : Int) < 256) (Classical.propDecidable _) (some (.ret (.int .i64 (ibV (k : Int).toNat)), h)) none := rfl
  rw [this, if_pos ⟨rfl, by omega, by omega⟩]
  rfl
noncomputable def signGo (k : Nat) : Bool := came (.ret (strA (signB k))) (callA Try.prog (Memo.spec Try.prog 5000 []) 5000 30 32 [.int .u8 (k : Int)] ⟨0, [], .e⟩)
set_option maxRecDepth 100000 in
theorem sign_all : (List.range 256).all signGo = true := by kernel_rfl
theorem sign_one {k : Nat} (hk : k < 256) : signGo k = true := List.all_eq_true.1 sign_all k (List.mem_range.2 hk)
noncomputable def signF : FnT := fun args h => match args with
  | [.int .u8 z] => @ite _ (0 ≤ z ∧ z < 256) (Classical.propDecidable _) (some (.ret (strA (signB z.toNat)), h)) none
  | _ => none
theorem signF_holds : Holds Try.prog 32 signF := by
  intro args h r h' e
  unfold signF at e
  split at e
  · rename_i z
    split at e
    · rename_i hk
      obtain ⟨h1, h2⟩ := hk
      obtain ⟨k, rfl⟩ := Int.eq_ofNat_of_zero_le h1
      simp only [Option.some.injEq, Prod.mk.injEq] at e
      obtain ⟨rfl, rfl⟩ := e
      exact Memo.says (by kernel_rfl) Memo.ok_nil rfl rfl (sign_one (k := k) (by omega)) h
    · cases e
  · cases e
theorem signF_eq {k : Nat} (hk : k < 256) (h : AHeap) : signF [.int .u8 (k : Int)] h = some (.ret (strA (signB k)), h) := by
  have : signF [.int .u8 (k : Int)] h = @ite _ (0 ≤ (k : Int) ∧ (k : Int) < 256) (Classical.propDecidable _) (some (.ret (strA (signB (k : Int).toNat)), h)) none := rfl
  rw [this, if_pos ⟨by omega, by omega⟩]
  rfl
end Go.Proofs.Yteibdplpbcobbaa
