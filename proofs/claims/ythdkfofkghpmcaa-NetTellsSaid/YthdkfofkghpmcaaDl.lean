/- slices.Delete of a net's letters: the row is written in its place. -/
import Derived.Test.YthdkfofkghpmcaaFrame
import Derived.Test.YthdkfofkghpmcaaAbs43
import Derived.Deep.RegionLaw
import Derived.Deep.LoopGhost
import Derived.Lib.Hide
namespace Go.Proofs.Ythdkfofkghpmcaa
open Go.RowKit Go.Lib

set_option maxHeartbeats 4000000 in
set_option maxRecDepth 100000 in
theorem delOK : Abs.DelOK Try.prog 38 32 := by
  intro w g off n cap i j cs zv info hi hz hzs hij hjn hcap hlen hr hth hone hzone
  have hsz : info.size = 4 := by
    have h : (Try.prog.info? 32).map (·.size) = some 4 := by kernel_rfl
    rw [hi] at h
    simpa using h
  have ht : Try.prog.underlying 27 = some (.slice 32) := by kernel_rfl
  have hzl0 : ∀ zl : List Value, zl = zv.cells.toList → (Abs.delCells info.size i j cs zv.cells.toList) = Abs.delCells info.size i j cs zl := fun zl h => by rw [h]
  obtain ⟨zl, hzl⟩ : ∃ zl, zl = zv.cells.toList := ⟨_, rfl⟩
  rw [hzl0 zl hzl]
  clear hzl0
  obtain ⟨news, hnews⟩ : ∃ news, news = cs.drop (j * info.size) := ⟨_, rfl⟩
  have hnl : news.length = (n - j) * info.size := by
    rw [hnews, List.length_drop, hlen, Nat.sub_mul]
  have hnget : ∀ t u, news[t]? = some u → w.cell? ⟨g, off + j * info.size + t, none⟩ = some u := by
    intro t u hu
    rw [hnews, List.getElem?_drop] at hu
    rw [Nat.add_assoc]
    exact hr _ _ hu
  obtain ⟨A, hA, hsrc⟩ : ∃ A : Addr, (if cap = j then some (⟨g, off, none⟩ : Addr) else some ⟨g, off + j * 4, none⟩) = some A ∧ Hid (∀ t u, news[t]? = some u → w.drew.cell? (A.add t) = some u) := by
    by_cases h : cap = j
    · refine ⟨⟨g, off, none⟩, by simp [h], fun t u hu => ?_⟩
      have h0 : news.length = 0 := by rw [hnl, show n - j = 0 by omega]; simp
      rw [List.length_eq_zero_iff.1 h0] at hu
      simp at hu
    · refine ⟨⟨g, off + j * 4, none⟩, by simp [h], fun t u hu => ?_⟩
      rw [Addr.add_lit, ← hsz]
      exact hnget t u hu
  have hone1 : Hid (∀ u ∈ news, u.oneCell' = true) := fun u hu => hone u (by rw [hnews] at hu; exact List.mem_of_mem_drop hu)
  have h42 : (n - j) * info.size ≤ (n - i) * info.size := Nat.mul_le_mul_right _ (by omega)
  have s3 : Hid (∀ t, t < news.length → (w.drew.cell? ⟨g, off + i * 4 + t, none⟩).isSome = true ∧ w.drew.frozen? ⟨g, off + i * 4 + t, none⟩ = false) := by
    intro t hlt
    rw [hnl] at hlt
    have := hth t (by omega)
    rw [hsz] at this
    exact this
  have s1 : Hid (news.length = (n - j) * 4) := by rw [hnl, hsz]; rfl
  -- the world behind the append
  obtain ⟨W1, hW1⟩ : ∃ W1, W1 = w.drew.setCells g (off + i * 4) news := ⟨_, rfl⟩
  have hth1 : W1.there g (off + (i + (n - j)) * 4) ((n - (i + (n - j))) * info.size) := by
    rw [hW1]
    refine World.there_setCells (fun q hq => ?_) _ _ _
    have h43 : (n - (i + (n - j))) * info.size = (n - i) * info.size - (n - j) * info.size := by rw [← Nat.sub_mul]; congr 1; omega
    have := hth ((n - j) * 4 + q) (by rw [h43] at hq; rw [hsz] at hq ⊢; omega)
    rw [hsz, show off + i * 4 + ((n - j) * 4 + q) = off + (i + (n - j)) * 4 + q by omega] at this
    exact this
  have hcl : ∀ ty, (Builtin.clear_ #[27] ty #[.slice (some ⟨g, off + (i + (n - j)) * 4, none⟩) (n - (i + (n - j))) (cap - (i + (n - j)))]).run Try.prog W1 = .ok (.tuple #[]) (W1.setCells g (off + (i + (n - j)) * 4) (List.replicate (n - (i + (n - j))) zl).flatten) :=
    fun ty => by rw [hzl]; exact Abs.run_clear_cells W1 _ ty rfl ht hi hz hzs g _ _ _ hth1 hzone
  have hW : Hid (W1 = w.drew.setCells g (off + i * 4) news) := hW1
  have hic : i ≤ cap := by omega
  have hjc : j ≤ cap := by omega
  have hne : (((i : Nat) : Int) == ((j : Nat) : Int)) = false := by simp; omega
  have N1 : Aside (news = cs.drop (j * info.size)) := hnews
  clear hnews hnget hr hth hth1 hone hzone hW1 h42 hzl
  go_enter Try.func38, Try.ntmps38
  go_wp2_with fail
  go_region_law (refine step_append_room rfl (.tmp 22) (.tmp 25) 27 rfl 32 info 4 ht hi hsz g off i cap (by simp [Act.eval, Act.put]) A (n - j) (cap - j) news (by simp [Act.eval, Act.put]) s1.out hsrc.out hone1.out (by omega) s3.out ?_; rw [← hW.out])
  go_wp2
  go_ret
  refine ⟨by rw [show i + (n - j) = n - (j - i) by omega]; rfl, 1, ?_⟩
  rw [hW.out, hsz]
  have e2 := Abs.setCells_two w.drew g (off + i * 4) news (List.replicate (n - (i + (n - j))) zl).flatten
  rw [s1.out, show off + i * 4 + (n - j) * 4 = off + (i + (n - j)) * 4 by omega] at e2
  rw [e2]
  have e3 : news = List.drop (j * info.size) cs := N1
  rw [e3, hsz, show n - (i + (n - j)) = j - i by omega]
  rfl
end Go.Proofs.Ythdkfofkghpmcaa
