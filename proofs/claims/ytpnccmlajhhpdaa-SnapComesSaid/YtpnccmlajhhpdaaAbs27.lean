/- Slices that grow; strings that are built. -/
import Derived.Test.YtpnccmlajhhpdaaAbs26
namespace Go.Proofs.Ytpnccmlajhhpdaa.Abs
noncomputable section
open Go.RowKit

section
variable {P : Program} {h : AHeap} {t u e : TypeId} {sz : Nat}
theorem take_rowOf (l : List AV) : ∀ (n o : Nat), o + n ≤ l.length → (T.put .e 0 l).take o n = some ((l.drop o).take n)
  | 0, o, _ => by simp [T.take]
  | n + 1, o, ho => by
    have h1 : (T.put .e 0 l).get o = some (l[o]'(by omega)) := by
      rw [rowOf_get]; exact List.getElem?_eq_getElem (by omega)
    simp only [T.take, h1, take_rowOf l n (o + 1) (by omega)]
    rw [List.drop_eq_getElem_cons (by omega : o < l.length), List.take_succ_cons]
theorem rowGet_newH {l : List AV} {o n : Nat} (ho : o + n ≤ l.length) : rowGet (newH h e l) h.next o n = some ((l.drop o).take n) := by
  unfold rowGet
  rw [get_newH]
  exact take_rowOf l n o ho
theorem rowGet_newH_all {l : List AV} : rowGet (newH h e l) h.next 0 l.length = some l := by
  rw [rowGet_newH (by omega)]
  simp
theorem rowType_newH {l : List AV} : rowType (newH h e l) h.next = some e := by
  unfold rowType
  rw [get_newH]
  rfl
def notInt (P : Program) (u : TypeId) : Bool := match P.underlying u with
  | some (.int _) => false
  | some _ => true
  | none => false
def fitB (P : Program) (e B : Nat) : Bool := match P.info? e with
  | some i => Nat.beq i.bytes B && Nat.ble 1 i.size && i.zero.any (fun z => z.cells.size == i.size)
  | none => false
theorem bytesFit_of {B k : Nat} (hf : fitB P e B = true) (h1 : k * B ≤ 1000000000) (h2 : k ≤ 1000000000) : bytesFit P e k = true := by
  unfold fitB at hf
  unfold bytesFit
  split at hf
  · rename_i i hi
    simp only [Bool.and_eq_true] at hf
    have hb := Nat.eq_of_beq_eq_true hf.1.1
    simp only [hi, Bool.and_eq_true]
    exact ⟨⟨⟨Nat.ble_eq_true_of_le (by rw [hb]; exact h1), Nat.ble_eq_true_of_le h2⟩, hf.1.2⟩, hf.2⟩
  · cases hf
theorem append_new {x : AV} {n : Nat} {news : List AV} (he : elemOf P t = some e) (hu : notInt P u = true) (hsz : P.cellsOf e = sz) (hx : lenA x = some (n + 1)) (hf : firstA h sz (n + 1) x = some news) (hfit : bytesFit P e (n + 1) = true) (h1 : news.all AV.one = true) (hex : memB e h.ex = false) :
    opAppend P h t u .nsl x = some (.val (.sl h.next 0 (n + 1) sz), newH h e news) := by
  unfold notInt at hu
  unfold opAppend
  have hl : lenA .nsl = some 0 := rfl
  split at hu
  · cases hu
  · rename_i ud hni heq
    simp only [he, hl, hx, heq, hsz, hf, Nat.zero_add, hfit, h1, hex, and_self, if_true]
    rfl
  · cases hu
theorem append_more {b o m : Nat} {x : AV} {n : Nat} {cs news : List AV} (he : elemOf P t = some e) (hu : notInt P u = true) (hsz : P.cellsOf e = sz) (hx : lenA x = some (n + 1)) (hf : firstA h sz (n + 1) x = some news) (hfit : bytesFit P e (m + (n + 1)) = true) (h1 : news.all AV.one = true) (hex : memB e h.ex = false)
    (hcs : rowGet h b o (m * sz) = some cs) (hty : rowType h b = some e) :
    opAppend P h t u (.sl b o m sz) x = some (.val (.sl h.next 0 (m + (n + 1)) sz), (h.put b .dead).new (rowOf (cs ++ news) e)) := by
  unfold notInt at hu
  unfold opAppend
  have hl : lenA (.sl b o m sz) = some m := rfl
  split at hu
  · cases hu
  · rename_i ud hni heq
    simp only [he, hl, hx, heq, hsz, hf, hfit, h1, hex, and_self, if_true]
    simp only [appendA, if_true, appendRow, hcs, hty, Nat.beq_refl]
  · cases hu
end

/-! ### builders -/
def bytesC (l : Bytes) : List AV := l.map fun x => AV.int .u8 (x.toNat : Int)
theorem bytesC_length (l : Bytes) : (bytesC l).length = l.length := List.length_map ..
theorem bytesC_append (a b : Bytes) : bytesC (a ++ b) = bytesC a ++ bytesC b := List.map_append ..
theorem bytesC_one (l : Bytes) : (bytesC l).all AV.one = true := by
  rw [List.all_eq_true]
  intro x hx
  obtain ⟨y, _, rfl⟩ := List.mem_map.1 hx
  rfl
/-- nothing below lo has turned -/
structure Ab (lo : Nat) (h h' : AHeap) : Prop where
  next : h.next ≤ h'.next
  ex : h'.ex = h.ex
  get : ∀ b, b < lo → h'.get b = h.get b
theorem Ab.refl (lo : Nat) (h : AHeap) : Ab lo h h := ⟨Nat.le_refl _, rfl, fun _ _ => rfl⟩
theorem Ab.trans {lo : Nat} {a b c : AHeap} (h : Ab lo a b) (k : Ab lo b c) : Ab lo a c := ⟨Nat.le_trans h.next k.next, k.ex.trans h.ex, fun i hi => (k.get i hi).trans (h.get i hi)⟩
theorem Ab.put {lo : Nat} {a h : AHeap} (k : Ab lo a h) {b : Nat} (hb : lo ≤ b) (o : AObj) : Ab lo a (h.put b o) := ⟨k.next, k.ex, fun i hi => (get_put_other o (by omega)).trans (k.get i hi)⟩
theorem Ab.new {lo : Nat} {a h : AHeap} (k : Ab lo a h) (hb : lo ≤ h.next) (o : AObj) : Ab lo a (h.new o) := ⟨Nat.le_succ_of_le k.next, k.ex, fun i hi => (get_new_other o (by omega)).trans (k.get i hi)⟩
theorem Ab.above {h h' : AHeap} (k : Ab h.next h h') : Above h h' := ⟨k.next, k.ex, k.get⟩
theorem Above.ab {h h' : AHeap} (k : Above h h') {lo : Nat} (hl : lo ≤ h.next) : Ab lo h h' := ⟨k.next, k.ex, fun b hb => k.get b (by omega)⟩

theorem ldCell_row {h : AHeap} {b n o : Nat} {t : T AV} {e : TypeId} (hb : h.get b = some (.row n t e)) : ldCell h (.ptr b o) = t.get o := by
  simp only [ldCell, cellGet, hb]
theorem stRow_one {h : AHeap} {b n o : Nat} {t : T AV} {e : TypeId} {v : AV} (hb : h.get b = some (.row n t e)) (ho : o < n) (hv : v.one = true) : stRow h 1 [v] (.ptr b o) = some (h.put b (.row n (t.set o v) e)) := by
  have h1 : Nat.ble (o + 1) n = true := Nat.ble_eq_true_of_le (by omega)
  have h2 : [v].all AV.one = true := by simp [hv]
  simp only [stRow, List.length_cons, List.length_nil, Nat.zero_add, Nat.beq_refl, rowPut, hb, h1, h2, and_self, if_true, T.put]
/-- a builder at a block, with what was written -/
def Bld (TB U8 lo : Nat) (h : AHeap) (b : Nat) (l : Bytes) : Prop :=
  ∃ t a buf, h.get b = some (.row 2 t TB) ∧ t.get 0 = some a ∧ t.get 1 = some buf ∧ (a = .nilp ∨ a = .ptr b 0) ∧ lo ≤ b ∧ b < h.next ∧
    ((buf = .nsl ∧ l = []) ∨ ∃ c, buf = .sl c 0 l.length 1 ∧ l ≠ [] ∧ lo ≤ c ∧ c ≠ b ∧ c < h.next ∧ rowGet h c 0 l.length = some (bytesC l) ∧ rowType h c = some U8)
theorem rowGet_put_other {h : AHeap} {b c o n : Nat} {x : AObj} (hne : b ≠ c) : rowGet (h.put b x) c o n = rowGet h c o n := by
  unfold rowGet
  rw [get_put_other x hne]
theorem rowType_put_other {h : AHeap} {b c : Nat} {x : AObj} (hne : b ≠ c) : rowType (h.put b x) c = rowType h c := by
  unfold rowType
  rw [get_put_other x hne]
theorem bld_new {TB U8 : Nat} (h : AHeap) : Bld TB U8 h.next (newH h TB [.nilp, .nsl]) h.next [] :=
  ⟨_, .nilp, .nsl, get_newH h TB _, rowOf_get _ 0, rowOf_get _ 1, .inl rfl, Nat.le_refl _, Nat.lt_succ_self _, .inl ⟨rfl, rfl⟩⟩
end
end Go.Proofs.Ytpnccmlajhhpdaa.Abs
