/- slices.Delete as a step of its own: the row is written in its place. -/
import Derived.Test.YthdkfofkghpmcaaAbs42
namespace Go.Proofs.Ythdkfofkghpmcaa.Abs
noncomputable section
open Go.RowKit

def delCells {α : Type} (sz i j : Nat) (cs z : List α) : List α := cs.drop (j * sz) ++ (List.replicate (j - i) z).flatten
/-- what slices.Delete comes to, where it takes something away -/
def delS (P : Program) (e : TypeId) : List AV → AHeap → Option (ARes × AHeap)
  | [.sl b o n sz, .int .i64 (.ofNat i), .int .i64 (.ofNat j)], h => match Nat.blt i j && Nat.ble j n && Nat.beq sz (P.cellsOf e) with
    | true => match rowGet h b o (n * sz), zeroA P e with
      | some cs, some z => match rowPut h b (o + i * sz) (delCells sz i j cs z.cells) with
        | some h' => some (.ret (.sl b o (n - (j - i)) sz), h')
        | none => none
      | _, _ => none
    | false => none
  | _, _ => none
def delSpec (P : Program) (F : FuncId) (e : TypeId) : SpecT := fun f => match Nat.beq f F with
  | true => some fun _ args h => delS P e args h
  | false => none
/-- what is asked of the function -/
def DelOK (P : Program) (F : FuncId) (e : TypeId) : Prop := ∀ (w : World) (g off n cap i j : Nat) (cs : List Value) (zv : Value) (info : TypeInfo), P.info? e = some info → info.zero = some zv → zv.cells.size = info.size → i < j → j ≤ n → n ≤ cap → cs.length = n * info.size → w.rangeAt g off cs → w.there g (off + i * info.size) ((n - i) * info.size) →
  (∀ v ∈ cs, v.oneCell' = true) → (∀ v ∈ zv.cells.toList, v.oneCell' = true) →
  Calls P F #[.slice (some ⟨g, off, none⟩) n cap, .int .i64 i, .int .i64 j] w fun e' w' => e' = .returned (.slice (some ⟨g, off, none⟩) (n - (j - i)) cap) ∧ ∃ k, w' = ({ w with drawn := w.drawn + k } : World).setCells g (off + i * info.size) (delCells info.size i j cs zv.cells.toList)
theorem Fits.ahead {w0 : Base} {m : Map} {H : AHeap} {w : World} (F : Fits w0 m H w) : ∀ k, Fits w0 m H { w with drawn := w.drawn + k }
  | 0 => F
  | k + 1 => (F.ahead k).drew
theorem delSpec_ok {P : Program} {F : FuncId} {e : TypeId} (hD : DelOK P F e) (w0 : Base) : SpecOK P w0 (delSpec P F e) := by
  intro f s hs call _ g args h r h' hcall m w args' ha Fw
  unfold delSpec at hs
  split at hs
  · rename_i hf
    have hf := Nat.eq_of_beq_eq_true hf
    simp only [Option.some.injEq] at hs
    subst hs
    simp only at hcall
    split at hcall
    · rename_i hg
      subst hg
      subst hf
      unfold delS at hcall
      split at hcall
      · rename_i b o n sz i j
        split at hcall
        · rename_i hc
          simp only [Bool.and_eq_true] at hc
          obtain ⟨⟨hij, hjn⟩, hsz⟩ := hc
          have hij : i < j := Nat.le_of_ble_eq_true hij
          have hjn := Nat.le_of_ble_eq_true hjn
          have hsz := Nat.eq_of_beq_eq_true hsz
          split at hcall
          · rename_i cs z hcs hz
            split at hcall
            · rename_i h1 hput
              simp only [Option.some.injEq, Prod.mk.injEq] at hcall
              obtain ⟨rfl, rfl⟩ := hcall
              obtain ⟨info, zv, hi, hzv, hrz, hlz, hlz'⟩ := zero_ok m hz
              have hci := cells_info hi
              rw [hci] at hsz
              subst hsz
              cases ha with | cons ha1 ha => cases ha with | cons ha2 ha => cases ha with | cons ha3 ha =>
              cases ha
              have e2 := rel_int ha2
              have e3 := rel_int ha3
              subst e2 e3
              cases ha1 with | @sl _ _ _ _ cap g0 s0 z0 hm hcap hzz =>
              obtain ⟨cs', r1, r2, r3, r4⟩ := rowGet_ok Fw hm hcs
              have hrel : RelL m (delCells info.size i j cs z.cells) (delCells info.size i j cs' zv.cells.toList) := (r1.drop _).append (hrz.cells.reps _)
              have hlen : (delCells info.size i j cs' zv.cells.toList).length = (n - i) * info.size := by
                have h2 : j * info.size ≤ n * info.size := Nat.mul_le_mul_right _ hjn
                have h3 : i * info.size ≤ j * info.size := Nat.mul_le_mul_right _ (by omega)
                simp [delCells, r2, hlz', Nat.sub_mul]
                omega
              obtain ⟨_, hth, hone⟩ := rowPut_ok Fw hm hrel hput
              rw [hlen, ← Nat.add_assoc] at hth
              have hzo : ∀ v ∈ zv.cells.toList, v.oneCell' = true := fun v hv => hone v (by
                simp only [delCells, List.mem_append]
                refine .inr ?_
                rw [List.mem_flatten]
                exact ⟨_, List.mem_replicate.2 ⟨by omega, rfl⟩, hv⟩)
              refine (hD w g0 (s0 + o) n cap i j cs' zv info hi hzv hlz' hij hjn hcap r2 r3 hth r4 hzo).mono ?_
              rintro e' w' ⟨rfl, k, rfl⟩
              obtain ⟨F2, _, _⟩ := rowPut_ok (Fw.ahead k) hm hrel hput
              rw [← Nat.add_assoc] at F2
              refine ⟨m, Ext.refl m, F2, _, rfl, .sl hm (by omega) hzz⟩
            · cases hcall
          · cases hcall
        · cases hcall
      · cases hcall
    · cases hcall
  · cases hs
theorem run_clear_cells {P : Program} {t e : TypeId} {info : TypeInfo} {zv : Value} (w : World) (ts : Array TypeId) (ty : TypeId) (h0 : ts[0]? = some t) (hu : P.underlying t = some (.slice e)) (hi : P.info? e = some info) (hz : info.zero = some zv) (hzs : zv.cells.size = info.size) (g o n cap : Nat)
    (hth : w.there g o (n * info.size)) (hone : ∀ v ∈ zv.cells.toList, v.oneCell' = true) :
    (Builtin.clear_ ts ty #[.slice (some ⟨g, o, none⟩) n cap]).run P w = .ok (.tuple #[]) (w.setCells g o (List.replicate n zv.cells.toList).flatten) := by
  have hlen : (List.replicate n zv.cells.toList).flatten.length = n * info.size := by simp [hzs]
  have hst := run_storeCells_cells (P := P) g o (List.replicate n zv.cells.toList).flatten 0 w (fun j hj => by simpa using (hth j (by rw [← hlen]; exact hj)).1) (fun j hj => by simpa using (hth j (by rw [← hlen]; exact hj)).2) (fun v hv => by
    obtain ⟨l, hl, hv⟩ := List.mem_flatten.1 hv
    rw [(List.mem_replicate.1 hl).2] at hv
    exact hone v hv)
  simp only [Nat.add_zero] at hst
  have hzc : (zeroValue e).run P w = .ok zv w := by simp [zeroValue, typeInfo, hi, hz]
  cases n with
  | zero => simp [Builtin.clear_, h0, run_underlying hu, World.setCells]
  | succ n =>
    have hcells : (Builtin.zeroCells zv.cells (n + 1)).toList = (List.replicate (n + 1) zv.cells.toList).flatten := by
      by_cases hz0 : zv.cells.size = 0
      · have e0 : zv.cells.toList = [] := List.eq_nil_of_length_eq_zero (by simpa using hz0)
        rw [e0]
        have : (Builtin.zeroCells zv.cells (n + 1)).size = 0 := by rw [size_zeroCells, hz0]; simp
        have e1 : (Builtin.zeroCells zv.cells (n + 1)).toList = [] := List.eq_nil_of_length_eq_zero (by simpa using this)
        rw [e1]
        simp
      · have e1 := range_zero zv.cells.toList (n + 1) (by simp; omega)
        have e2 : zv.cells.toList.toArray = zv.cells := by simp
        rw [e2] at e1
        rw [← e1]
        simp [Builtin.zeroCells]
    simp [Builtin.clear_, h0, run_underlying hu, hzc, hcells, hst]
/-- cells written one row behind the other -/
theorem setCells_two (w : World) (g o : Nat) (l l2 : List Value) : (w.setCells g o l).setCells g (o + l.length) l2 = w.setCells g o (l ++ l2) := by
  induction l generalizing w o with
  | nil => simp [World.setCells]
  | cons v l ih =>
    simp only [World.setCells, List.cons_append, List.length_cons]
    rw [← ih, show o + 1 + l.length = o + (l.length + 1) by omega]
end
end Go.Proofs.Ythdkfofkghpmcaa.Abs
