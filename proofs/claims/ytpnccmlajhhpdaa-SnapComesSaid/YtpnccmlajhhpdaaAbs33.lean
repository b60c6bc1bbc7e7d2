/- What comes in, type by type. -/
import Derived.Test.YtpnccmlajhhpdaaAbs32
namespace Go.Proofs.Ytpnccmlajhhpdaa.Abs
noncomputable section
open Go.RowKit

section
variable {P : Program} {N : Nat} {h : AHeap} {n : Nat} {t e : TypeId} {a : AV} {l : List AV} {k : IntKind}
theorem Plain.int (hu : P.underlying t = some (.int k)) (hp : Plain P N h (n + 1) t l) : ∃ z, l = [.int k z] ∧ (Lit.int k z).wf = true := by
  simp only [Plain, hu] at hp; exact hp
theorem Plain.bool (hu : P.underlying t = some .bool) (hp : Plain P N h (n + 1) t l) : ∃ b, l = [.bool b] := by
  simp only [Plain, hu] at hp; exact hp
theorem Plain.str (hu : P.underlying t = some .string) (hp : Plain P N h (n + 1) t l) : ∃ s : Bytes, l = [strA s] ∧ s.length ≤ reachBytes := by
  simp only [Plain, hu] at hp; exact hp
theorem Plain.slice (hu : P.underlying t = some (.slice e)) (hp : Plain P N h (n + 1) t l) : ∃ (x : AV) (ls : List (List AV)), l = [x] ∧ Slc N h (P.cellsOf e) x ls ∧ ls.length * P.bytesOf e ≤ reachBytes ∧ ∀ li ∈ ls, Plain P N h n e li := by
  simp only [Plain, hu] at hp; exact hp
theorem Plain.struct {fs : Array Field} (hu : P.underlying t = some (.struct fs)) (hp : Plain P N h (n + 1) t l) : ∃ ls : List (List AV), l = ls.flatten ∧ ls.length = fs.size ∧ ∀ (i : Nat) f li, fs[i]? = some f → ls[i]? = some li → Plain P N h n f.type li := by
  simp only [Plain, hu] at hp; exact hp
theorem Plain.array {m : Nat} (hu : P.underlying t = some (.array m e)) (hp : Plain P N h (n + 1) t l) : ∃ ls : List (List AV), l = ls.flatten ∧ ls.length = m ∧ ∀ li ∈ ls, Plain P N h n e li := by
  simp only [Plain, hu] at hp; exact hp
theorem Plain.struct1 {f0 : Field} (hu : P.underlying t = some (.struct #[f0])) (hp : Plain P N h (n + 1) t l) : Plain P N h n f0.type l := by
  obtain ⟨ls, rfl, h1, h2⟩ := hp.struct hu
  match ls, h1 with
  | [l0], _ => simpa using h2 0 f0 l0 rfl rfl
theorem Plain.struct2 {f0 f1 : Field} (hu : P.underlying t = some (.struct #[f0, f1])) (hp : Plain P N h (n + 1) t l) : ∃ l0 l1, l = l0 ++ l1 ∧ Plain P N h n f0.type l0 ∧ Plain P N h n f1.type l1 := by
  obtain ⟨ls, rfl, h1, h2⟩ := hp.struct hu
  match ls, h1 with
  | [l0, l1], _ => exact ⟨l0, l1, by simp, h2 0 f0 l0 rfl rfl, h2 1 f1 l1 rfl rfl⟩
theorem Plain.struct3 {f0 f1 f2 : Field} (hu : P.underlying t = some (.struct #[f0, f1, f2])) (hp : Plain P N h (n + 1) t l) : ∃ l0 l1 l2, l = l0 ++ (l1 ++ l2) ∧ Plain P N h n f0.type l0 ∧ Plain P N h n f1.type l1 ∧ Plain P N h n f2.type l2 := by
  obtain ⟨ls, rfl, h1, h2⟩ := hp.struct hu
  match ls, h1 with
  | [l0, l1, l2], _ => exact ⟨l0, l1, l2, by simp, h2 0 f0 l0 rfl rfl, h2 1 f1 l1 rfl rfl, h2 2 f2 l2 rfl rfl⟩
theorem Plain.struct4 {f0 f1 f2 f3 : Field} (hu : P.underlying t = some (.struct #[f0, f1, f2, f3])) (hp : Plain P N h (n + 1) t l) : ∃ l0 l1 l2 l3, l = l0 ++ (l1 ++ (l2 ++ l3)) ∧ Plain P N h n f0.type l0 ∧ Plain P N h n f1.type l1 ∧ Plain P N h n f2.type l2 ∧ Plain P N h n f3.type l3 := by
  obtain ⟨ls, rfl, h1, h2⟩ := hp.struct hu
  match ls, h1 with
  | [l0, l1, l2, l3], _ => exact ⟨l0, l1, l2, l3, by simp, h2 0 f0 l0 rfl rfl, h2 1 f1 l1 rfl rfl, h2 2 f2 l2 rfl rfl, h2 3 f3 l3 rfl rfl⟩
theorem Plain.structEach {fs : Array Field} (hu : P.underlying t = some (.struct fs)) (hp : Plain P N h (n + 1) t l) : ∃ ls : List (List AV), l = ls.flatten ∧ ls.length = fs.toList.length ∧ ∀ (i : Nat) f li, fs.toList[i]? = some f → ls[i]? = some li → Plain P N h n f.type li := by
  obtain ⟨ls, h0, h1, h2⟩ := hp.struct hu
  exact ⟨ls, h0, by simpa using h1, fun i f li a b => h2 i f li (by simpa using a) b⟩
theorem ints_of (hu : P.underlying e = some (.int k)) {ls : List (List AV)} (hp : ∀ li ∈ ls, Plain P N h (n + 1) e li) : ∃ zs : List Int, ls = zs.map (fun z => [.int k z]) ∧ ∀ z ∈ zs, (Lit.int k z).wf = true :=
  map_of ls fun l hl => (hp l hl).int hu
theorem strs_of (hu : P.underlying e = some .string) {ls : List (List AV)} (hp : ∀ li ∈ ls, Plain P N h (n + 1) e li) : ∃ ss : List Bytes, ls = ss.map (fun s => [strA s]) ∧ ∀ s ∈ ss, s.length ≤ reachBytes :=
  map_of ls fun l hl => (hp l hl).str hu
theorem bools_of (hu : P.underlying e = some .bool) {ls : List (List AV)} (hp : ∀ li ∈ ls, Plain P N h (n + 1) e li) : ∃ bs : List Bool, ls = bs.map (fun b => [.bool b]) := by
  obtain ⟨bs, h1, _⟩ := map_of (f := fun b => [AV.bool b]) (Q := fun _ => True) ls fun l hl => by
    obtain ⟨b, hb⟩ := (hp l hl).bool hu
    exact ⟨b, hb, trivial⟩
  exact ⟨bs, h1⟩
theorem ArgP.plain (ha : aggO P t = some false) (hp : ArgP P N h n t a) : Plain P N h n t [a] := by
  unfold ArgP at hp; rw [ha] at hp; exact hp
theorem ArgP.agg (ha : aggO P t = some true) (hp : ArgP P N h n t a) : ∃ l, a = .agg l ∧ Plain P N h n t l := by
  unfold ArgP at hp; rw [ha] at hp; exact hp
theorem ArgP.int (hu : P.underlying t = some (.int k)) (hp : ArgP P N h (n + 1) t a) : ∃ z, a = .int k z ∧ (Lit.int k z).wf = true := by
  obtain ⟨z, h1, h2⟩ := (hp.plain (by simp [aggO, hu, isRowD])).int hu
  simp only [List.cons.injEq, and_true] at h1
  exact ⟨z, h1, h2⟩
theorem ArgP.bool (hu : P.underlying t = some .bool) (hp : ArgP P N h (n + 1) t a) : ∃ b, a = .bool b := by
  obtain ⟨z, h1⟩ := (hp.plain (by simp [aggO, hu, isRowD])).bool hu
  simp only [List.cons.injEq, and_true] at h1
  exact ⟨z, h1⟩
theorem ArgP.str (hu : P.underlying t = some .string) (hp : ArgP P N h (n + 1) t a) : ∃ s : Bytes, a = strA s ∧ s.length ≤ reachBytes := by
  obtain ⟨z, h1, h2⟩ := (hp.plain (by simp [aggO, hu, isRowD])).str hu
  simp only [List.cons.injEq, and_true] at h1
  exact ⟨z, h1, h2⟩
theorem ArgP.slice (hu : P.underlying t = some (.slice e)) (hp : ArgP P N h (n + 1) t a) : ∃ ls : List (List AV), Slc N h (P.cellsOf e) a ls ∧ ls.length * P.bytesOf e ≤ reachBytes ∧ ∀ li ∈ ls, Plain P N h n e li := by
  obtain ⟨x, ls, h1, h2⟩ := (hp.plain (by simp [aggO, hu, isRowD])).slice hu
  simp only [List.cons.injEq, and_true] at h1
  subst h1
  exact ⟨ls, h2⟩
theorem ArgP.ints (hu : P.underlying t = some (.slice e)) (hue : P.underlying e = some (.int k)) (hc : P.cellsOf e = 1) (hp : ArgP P N h (n + 2) t a) : ∃ zs : List Int, Slc N h 1 a (zs.map fun z => [.int k z]) ∧ zs.length * P.bytesOf e ≤ reachBytes ∧ ∀ z ∈ zs, (Lit.int k z).wf = true := by
  obtain ⟨ls, h1, h2, h3⟩ := hp.slice hu
  obtain ⟨zs, rfl, h4⟩ := ints_of hue h3
  rw [hc] at h1
  exact ⟨zs, h1, by simpa using h2, h4⟩
theorem ArgP.strs (hu : P.underlying t = some (.slice e)) (hue : P.underlying e = some .string) (hc : P.cellsOf e = 1) (hp : ArgP P N h (n + 2) t a) : ∃ ss : List Bytes, Slc N h 1 a (ss.map fun s => [strA s]) ∧ ss.length * P.bytesOf e ≤ reachBytes ∧ ∀ s ∈ ss, s.length ≤ reachBytes := by
  obtain ⟨ls, h1, h2, h3⟩ := hp.slice hu
  obtain ⟨zs, rfl, h4⟩ := strs_of hue h3
  rw [hc] at h1
  exact ⟨zs, h1, by simpa using h2, h4⟩
theorem args0 {as : List AV} (hp : ArgsP P N h n [] as) : as = [] := by
  cases as with
  | nil => rfl
  | cons => cases hp
theorem args_cons {ts : List TypeId} {as : List AV} (hp : ArgsP P N h n (t :: ts) as) : ∃ a as', as = a :: as' ∧ ArgP P N h n t a ∧ ArgsP P N h n ts as' := by
  cases as with
  | nil => cases hp
  | cons a as => exact ⟨a, as, rfl, hp.1, hp.2⟩
/-- an int's bounds -/
theorem wf_i64 {z : Int} (hz : (Lit.int .i64 z).wf = true) : -9223372036854775808 ≤ z ∧ z < 9223372036854775808 := by
  have := bounds_i64 hz
  omega
theorem wf_u8 {z : Int} (hz : (Lit.int .u8 z).wf = true) : 0 ≤ z ∧ z < 256 := by
  simp [Lit.wf, IntKind.min, IntKind.max, IntKind.signed, IntKind.bits] at hz
  omega
end

mutual
theorem AV.same_self : ∀ x : AV, AV.same x x = true
  | .bool b => by simp [AV.same]
  | .int k n => by simp [AV.same]
  | .str n v => by simp [AV.same]
  | .ptr b o => by simp [AV.same]
  | .nilp => by simp [AV.same]
  | .sl b o n sz => by simp [AV.same]
  | .nsl => by simp [AV.same]
  | .esl => by simp [AV.same]
  | .mp b => by simp [AV.same]
  | .nmp => by simp [AV.same]
  | .fn f a b => by simp [AV.same, AV.sameL_self a, AV.sameL_self b]
  | .nfn => by simp [AV.same]
  | .ifc t v => by simp [AV.same, AV.same_self v]
  | .nifc => by simp [AV.same]
  | .agg l => by simp [AV.same, AV.sameL_self l]
  | .tup l => by simp [AV.same, AV.sameL_self l]
  | .yld b => by simp [AV.same]
  | .mrk b => by simp [AV.same]
  | .gptr g o => by simp [AV.same]
theorem AV.sameL_self : ∀ l : List AV, AV.sameL l l = true
  | [] => by simp [AV.sameL]
  | x :: l => by simp [AV.sameL, AV.same_self x, AV.sameL_self l]
end
theorem sameO_self (x : AV) : sameO (some x) (some x) = true := by simp [sameO, AV.same_self]
theorem reLoad_c {P : Program} {h : AHeap} {ty : TypeId} {x v : AV} (ha : aggO P ty = some false) (e : ldCell h x = some v) : reLoad P h ty x v = true := reLoad_cell ha e (sameO_self v)
theorem reLoad_r {P : Program} {h : AHeap} {ty : TypeId} {n : Nat} {x : AV} {l : List AV} (ha : aggO P ty = some true) (hn : P.cellsOf ty = n) (e : ldRow h n x = some l) : reLoad P h ty x (.agg l) = true := by
  unfold reLoad
  rw [load_row ha hn e]
  exact sameO_self _
theorem gc_ex {h : AHeap} {X : R} {r : ARes} (hx : ∃ h2, X = some (r, h2)) : ∃ h', gcR h X = some (r, h') := by
  obtain ⟨h2, rfl⟩ := hx
  simp only [gcR]
  split
  · exact ⟨_, rfl⟩
  · exact ⟨_, rfl⟩
theorem box_agg {h : AHeap} {e : TypeId} {l : List AV} (hl : l.all AV.one = true) : opBox h e (some (.agg l)) = some (.val (newP h), newH h e l) := by
  show outNew h e l = _
  unfold outNew
  rw [if_pos hl]
  rfl
theorem fld_newP (h : AHeap) (o : Nat) : fldP o (newP h) = some (.ptr h.next (0 + o)) := rfl
theorem row_newP {h : AHeap} {e : TypeId} {l : List AV} {n : Nat} (hl : l.length = n) : ldRow (newH h e l) n (newP h) = some l := by
  subst hl
  exact rowGet_newH_all
theorem row_newH {h : AHeap} {e : TypeId} {l : List AV} {n o : Nat} (hl : o + n ≤ l.length) : ldRow (newH h e l) n (.ptr h.next o) = some ((l.drop o).take n) := rowGet_newH hl
abbrev I64 (z : Int) : Prop := -9223372036854775808 ≤ z ∧ z < 9223372036854775808
end
end Go.Proofs.Ytpnccmlajhhpdaa.Abs
