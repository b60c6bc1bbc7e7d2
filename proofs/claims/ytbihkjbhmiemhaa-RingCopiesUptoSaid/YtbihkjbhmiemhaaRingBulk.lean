/- How much comes in, and what the rows hold of it: lists of texts. -/
import Derived.Test.YtbihkjbhmiemhaaFrame
import Derived.Test.YtbihkjbhmiemhaaRingCopies
namespace Go.Proofs.Ytbihkjbhmiemhaa
open Go.RowKit Go.WideShapes Go.ChangeShapes Abs

section
variable {H : Type} {enc : TypeId × Value → H} {P : Program} {W : World}
/-- texts, as they are read -/
def litsD (H : Type) (ss : List Bytes) : List (DataW H) := ss.map fun s => .lit (.string s)
theorem bulk_lits (ss : List Bytes) : Rows.uptoBulkAll (litsD H ss) = ss.flatten.length + ss.length := by
  induction ss with
  | nil => rfl
  | cons s ss ih =>
    have h1 : Rows.uptoBulkAll (litsD H (s :: ss)) = (s.length + 1) + Rows.uptoBulkAll (litsD H ss) := by
      simp only [litsD, List.map_cons, Rows.uptoBulkAll, Rows.uptoBulk]
    rw [h1, ih, List.flatten_cons, List.length_append, List.length_cons]
    omega
theorem weights_lits (e : TypeId) (ss : List Bytes) : ∀ k ∈ DataW.weightsAll P e (litsD H ss), k ≤ ss.flatten.length := by
  induction ss with
  | nil => intro k hk; simp [litsD, DataW.weightsAll] at hk
  | cons s ss ih =>
    intro k hk
    have h1 : DataW.weightsAll P e (litsD H (s :: ss)) = s.length :: DataW.weightsAll P e (litsD H ss) := by
      simp only [litsD, List.map_cons, DataW.weightsAll, DataW.weights, List.singleton_append]
    rw [h1] at hk
    rw [List.flatten_cons, List.length_append]
    rcases List.mem_cons.1 hk with rfl | hk
    · omega
    · have := ih k hk
      omega
/-- what is read of a list of texts -/
theorem strs_trod {t e : TypeId} {fuel : Nat} {cs : List Value} {d : DataW H} {p : List MemPlace} (hu : P.underlying t = some (.slice e)) (hue : P.underlying e = some .string) (hc : P.cellsOf e = 1) (htr : DataW.trod enc P W 0 (fun _ => true) true fuel t cs = some (d, p)) :
    (d = .nil ∧ cs = [.slice none 0 0]) ∨ ∃ (a : Addr) (cap : Nat) (ss rr : List Bytes), cs = [.slice (some a) ss.length cap] ∧ d = .slice (litsD H ss) (litsD H rr) ∧
      ∀ (i : Nat) (hi : i < ss.length), ∃ s : ByteArray, W.cell? (a.add i) = some (.string s) ∧ s.data.toList = ss[i] := by
  rcases DataW.trod_slice hu htr with ⟨rfl, hx⟩ | ⟨a, len, cap, elems, rest, fn, _, rfl, hx, _, hlc, hcm, hel, hee, hrr, _⟩
  · simp only [Prod.mk.injEq] at hx
    exact .inl ⟨hx.1, rfl⟩
  · simp only [Prod.mk.injEq] at hx
    obtain ⟨rfl, _⟩ := hx
    obtain ⟨hrl, hrr⟩ := hrr rfl
    have one : ∀ (o : Nat) (y : DataW H × List MemPlace), (W.cells? 0 (a.add o) (P.cellsOf e)).bind (DataW.trod enc P W 0 (fun _ => true) true fn e) = some y → ∃ s : ByteArray, y.1 = .lit (.string s.data.toList) ∧ W.cell? ((a.add o).add 0) = some (.string s) := by
      intro o y hy
      obtain ⟨c, hc1, hc2⟩ := Option.bind_eq_some_iff.1 hy
      obtain ⟨s, rfl, hs, _⟩ := DataW.trod_string hue hc2
      obtain ⟨_, _, h3⟩ := World.cells?_some hc1
      refine ⟨s, by rw [hs], ?_⟩
      rw [h3 0 (by omega)]
      rfl
    have hE : ∀ (i : Nat) (hi : i < elems.length), ∃ s : ByteArray, (elems[i]).1 = .lit (.string s.data.toList) ∧ W.cell? ((a.add i).add 0) = some (.string s) := by
      intro i hi
      have := hee i (by omega)
      rw [hc, Nat.mul_one, List.getElem?_eq_getElem hi] at this
      rw [hc] at one
      exact one i _ this
    have hR : ∀ (i : Nat) (hi : i < rest.length), ∃ s : ByteArray, (rest[i]).1 = .lit (.string s.data.toList) := by
      intro i hi
      have := hrr i (by omega)
      rw [List.getElem?_eq_getElem hi] at this
      obtain ⟨s, h1, _⟩ := one _ _ this
      exact ⟨s, h1⟩
    obtain ⟨ss, hss, _⟩ := map_of (f := fun s : Bytes => DataW.lit (H := H) (.string s)) (Q := fun _ => True) (elems.map (·.1)) (fun l hl => by
      obtain ⟨x, hx, rfl⟩ := List.mem_map.1 hl
      obtain ⟨i, hi, rfl⟩ := List.getElem_of_mem hx
      obtain ⟨s, h1, _⟩ := hE i hi
      exact ⟨_, h1, trivial⟩)
    obtain ⟨rr, hrs, _⟩ := map_of (f := fun s : Bytes => DataW.lit (H := H) (.string s)) (Q := fun _ => True) (rest.map (·.1)) (fun l hl => by
      obtain ⟨x, hx, rfl⟩ := List.mem_map.1 hl
      obtain ⟨i, hi, rfl⟩ := List.getElem_of_mem hx
      obtain ⟨s, h1⟩ := hR i hi
      exact ⟨_, h1, trivial⟩)
    have hlen : elems.length = ss.length := by
      have := congrArg List.length hss
      simpa using this
    refine .inr ⟨a, cap, ss, rr, by rw [← hel, hlen], by rw [hss, hrs]; rfl, fun i hi => ?_⟩
    obtain ⟨s, h1, h2⟩ := hE i (by omega)
    have h3 : (elems.map (·.1))[i]? = (ss.map fun s : Bytes => DataW.lit (H := H) (.string s))[i]? := by rw [hss]
    rw [List.getElem?_map, List.getElem?_map, List.getElem?_eq_getElem (by omega), List.getElem?_eq_getElem hi] at h3
    simp only [Option.map_some, Option.some.injEq] at h3
    rw [h1] at h3
    have h4 : s.data.toList = ss[i] := by injection h3 with h3; injection h3
    refine ⟨s, ?_, h4⟩
    have h5 : (a.add i).add 0 = a.add i := by
      obtain ⟨g, off, spot⟩ := a
      unfold Addr.add
      cases spot <;> simp_all
    rw [h5] at h2
    exact h2
/-- as many as the reading counts -/
theorem strs_bulk {m : Map} {h : AHeap} {N t e fuel : Nat} {v : Value} {x : AV} {ss : List Bytes} {d : DataW H} {p : List MemPlace} (F : Fits W m h W) (hr : Rel m x v) (hs : Slc N h 1 x (strsL ss))
    (hu : P.underlying t = some (.slice e)) (hue : P.underlying e = some .string) (hc : P.cellsOf e = 1) (htr : DataW.trod enc P W 0 (fun _ => true) true fuel t v.cells.toList = some (d, p)) :
    ss.length ≤ Rows.uptoBulk d ∧ ss.flatten.length ≤ Rows.uptoBulk d := by
  rcases hs.2 with ⟨h0, _⟩ | ⟨b, hne, hb, rfl, hrow⟩
  · have : ss = [] := by simpa [strsL] using h0
    subst this
    simp
  · have hll : (strsL ss).length = ss.length := by simp [strsL]
    cases hr with | @sl _ _ _ _ cap g s z hm hn hz =>
    rcases strs_trod hu hue hc htr with ⟨_, hcs⟩ | ⟨a, cap', s', rr, hcs, hd, hq⟩
    · simp [Value.cells] at hcs
    · simp only [Value.cells, List.cons.injEq, and_true, Value.slice.injEq, Option.some.injEq] at hcs
      obtain ⟨ha, hl, _⟩ := hcs
      subst ha
      rw [hll] at hl
      have same : ss = s' := by
        refine List.ext_getElem hl fun i h1 h2 => ?_
        have hflat : (strsL ss).flatten = ss.map strA := flat_one strA ss
        rw [hflat] at hrow
        have c1 := hrow.cell (o := i) (by simpa using h1)
        rw [List.getElem_map] at c1
        obtain ⟨y, hy, hry⟩ := cellGet_ok F hm (show cellGet h b i = _ from c1)
        obtain ⟨w, hw, hws⟩ := hq i h2
        rw [add_plain, Nat.add_zero, hy] at hw
        cases hw
        unfold strA at hry
        cases hry with | str _ e1 e2 =>
        rw [← hws]
        exact (enc_inj _ _ e1 e2).symm
      subst same
      subst hd
      have := bulk_lits (H := H) ss
      simp only [Rows.uptoBulk]
      omega
theorem strs_weights {t e fuel : Nat} {cs : List Value} {d : DataW H} {p : List MemPlace} (hu : P.underlying t = some (.slice e)) (hue : P.underlying e = some .string) (hc : P.cellsOf e = 1) (hb : P.bytesOf e ≤ 4096)
    (htr : DataW.trod enc P W 0 (fun _ => true) true fuel t cs = some (d, p)) (hk : Rows.uptoBulk d ≤ 1048576) : ∀ k ∈ d.weights P t, k ≤ reachBytes := by
  rcases strs_trod hu hue hc htr with ⟨rfl, _⟩ | ⟨a, cap', ss, rr, _, rfl, _⟩
  · intro k hk; simp [DataW.weights] at hk
  · have b1 := bulk_lits (H := H) ss
    have b2 := bulk_lits (H := H) rr
    simp only [Rows.uptoBulk] at hk
    intro k hkk
    simp only [DataW.weights, hu] at hkk
    unfold reachBytes
    rcases List.mem_cons.1 hkk with rfl | hkk
    · have l1 : (litsD H ss).length = ss.length := by simp [litsD]
      have l2 : (litsD H rr).length = rr.length := by simp [litsD]
      rw [l1, l2]
      have := Nat.mul_le_mul (show ss.length + rr.length ≤ 1048576 by omega) hb
      omega
    · rcases List.mem_append.1 hkk with hkk | hkk
      · have := weights_lits (P := P) e ss k hkk; omega
      · have := weights_lits (P := P) e rr k hkk; omega
theorem bulk_cons (d : DataW H) (r : List (DataW H)) : Rows.uptoBulkAll (d :: r) = Rows.uptoBulk d + Rows.uptoBulkAll r := by
  simp only [Rows.uptoBulkAll]
end
end Go.Proofs.Ytbihkjbhmiemhaa
