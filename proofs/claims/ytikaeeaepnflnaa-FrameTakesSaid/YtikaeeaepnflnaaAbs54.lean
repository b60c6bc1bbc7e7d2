/- Short rules, each for one step of a plain function and of the program at once. -/
import Derived.Test.YtikaeeaepnflnaaAbs50
namespace Go.Proofs.Ytikaeeaepnflnaa.Abs
noncomputable section
open Go.RowKit
section
variable {P : Program} {w0 : Base} {m0 : Map} {N : Nat} {l l' : Fr} {ds : DefT} {h : AHeap} {Q : Exit → Act → World → Prop} {K : Act → World → Prop} {Y : OutT} {ops : Array Oper} {i : Nat} {r : ARes × AHeap} {call : CallF}
/-- values -/
theorem oB (d : Nat) {x : Bool} {k : Bool → R} (z : lett x k = some r) (hk : ∀ t, k t = some r → WL P w0 m0 N ops (i + 1) Q (l.put (some d) (.bool t)) ds h) (h1 : dstN N ops i = some (some d) := by kernel_rfl) (h2 : wantAt ops l.get i = some true := by kernel_rfl) (h3 : opAt P l.eval ops i h = some (.val (.bool x), h) := by kernel_rfl) : WL P w0 m0 N ops i Q l ds h := WL.val h1 h2 h3 (hk x z)
theorem oI (d : Nat) (c : IntKind) {x : Int} {k : Int → R} (z : lett x k = some r) (hk : ∀ t, k t = some r → WL P w0 m0 N ops (i + 1) Q (l.put (some d) (.int c t)) ds h) (h1 : dstN N ops i = some (some d) := by kernel_rfl) (h2 : wantAt ops l.get i = some true := by kernel_rfl) (h3 : opAt P l.eval ops i h = some (.val (.int c x), h) := by kernel_rfl) : WL P w0 m0 N ops i Q l ds h := WL.val h1 h2 h3 (hk x z)
theorem oN (d : Nat) {x : AHeap} {k : AHeap → R} (z : lett x k = some r) (hk : ∀ h', k h' = some r → WL P w0 m0 N ops (i + 1) Q (l.put (some d) (newP h)) ds h') (h1 : dstN N ops i = some (some d) := by kernel_rfl) (h2 : wantAt ops l.get i = some true := by kernel_rfl) (h3 : opAt P l.eval ops i h = some (.val (newP h), x) := by kernel_rfl) : WL P w0 m0 N ops i Q l ds h := WL.val h1 h2 h3 (hk x z)
theorem oA (d : Nat) (v : AV) (hk : WL P w0 m0 N ops (i + 1) Q (l.put (some d) v) ds h) (h1 : dstN N ops i = some (some d) := by kernel_rfl) (h2 : wantAt ops l.get i = some true := by kernel_rfl) (h3 : opAt P l.eval ops i h = some (.val v, h) := by kernel_rfl) : WL P w0 m0 N ops i Q l ds h := WL.val h1 h2 h3 hk
/-- stores -/
theorem oW (t : TypeId) (v : AV) {n : Nat} {cs : List AV} {p : AV} {k : AHeap → R} (z : obind (stRow h n cs p) k = some r) (hk : ∀ h', k h' = some r → WL P w0 m0 N ops (i + 1) Q l ds h') (a0 : cs = v.cells := by kernel_rfl) (a1 : (P.info? t).isSome = true := by kernel_rfl) (a2 : P.cellsOf t = n := by kernel_rfl) (h1 : dstN N ops i = some none := by kernel_rfl) (h2 : wantAt ops l.get i = some true := by kernel_rfl) (h3 : opAt P l.eval ops i h = opStore P h t (some p) (some v) := by kernel_rfl) : WL P w0 m0 N ops i Q l ds h := by
  obtain ⟨h', e, z1⟩ := obind_some z
  subst a0
  exact WL.eff h1 h2 (h3.trans (store_row a1 a2 e)) (hk h' z1)
/-- loads -/
theorem oL (d t : Nat) {x : AV} {k : AV → R} (z : obind (ldCell h x) k = some r) (hk : ∀ v, k v = some r → WL P w0 m0 N ops (i + 1) Q (l.put (some d) v) ds h) (a1 : aggO P t = some false := by kernel_rfl) (h1 : dstN N ops i = some (some d) := by kernel_rfl) (h2 : wantAt ops l.get i = some true := by kernel_rfl) (h3 : opAt P l.eval ops i h = opLoad P h t (some x) := by kernel_rfl) : WL P w0 m0 N ops i Q l ds h := by
  obtain ⟨v, e, z1⟩ := obind_some z
  exact WL.val h1 h2 (h3.trans (load_cell a1 e)) (hk v z1)
theorem oLi (d t : Nat) {c : IntKind} {x : AV} {k : Int → R} (z : (obind (ldCell h x) fun v => obind (avInt c v) k) = some r) (hk : ∀ v, k v = some r → WL P w0 m0 N ops (i + 1) Q (l.put (some d) (.int c v)) ds h) (a1 : aggO P t = some false := by kernel_rfl) (h1 : dstN N ops i = some (some d) := by kernel_rfl) (h2 : wantAt ops l.get i = some true := by kernel_rfl) (h3 : opAt P l.eval ops i h = opLoad P h t (some x) := by kernel_rfl) : WL P w0 m0 N ops i Q l ds h := by
  obtain ⟨v, e, z1⟩ := obind_some z
  obtain ⟨n, c1, z2⟩ := obind_some z1
  have c2 := avInt_some c1
  subst c2
  exact WL.val h1 h2 (h3.trans (load_cell a1 e)) (hk n z2)
theorem oLb (d t : Nat) {x : AV} {k : Bool → R} (z : (obind (ldCell h x) fun v => obind (avBool v) k) = some r) (hk : ∀ v, k v = some r → WL P w0 m0 N ops (i + 1) Q (l.put (some d) (.bool v)) ds h) (a1 : aggO P t = some false := by kernel_rfl) (h1 : dstN N ops i = some (some d) := by kernel_rfl) (h2 : wantAt ops l.get i = some true := by kernel_rfl) (h3 : opAt P l.eval ops i h = opLoad P h t (some x) := by kernel_rfl) : WL P w0 m0 N ops i Q l ds h := by
  obtain ⟨v, e, z1⟩ := obind_some z
  obtain ⟨n, c1, z2⟩ := obind_some z1
  have c2 := avBool_some c1
  subst c2
  exact WL.val h1 h2 (h3.trans (load_cell a1 e)) (hk n z2)
theorem oLs (d t : Nat) {x : AV} {k : Bytes → R} (z : (obind (ldCell h x) fun v => obind (avStr v) k) = some r) (hk : ∀ v, k v = some r → WL P w0 m0 N ops (i + 1) Q (l.put (some d) (strA v)) ds h) (a1 : aggO P t = some false := by kernel_rfl) (h1 : dstN N ops i = some (some d) := by kernel_rfl) (h2 : wantAt ops l.get i = some true := by kernel_rfl) (h3 : opAt P l.eval ops i h = opLoad P h t (some x) := by kernel_rfl) : WL P w0 m0 N ops i Q l ds h := by
  obtain ⟨v, e, z1⟩ := obind_some z
  obtain ⟨n, c1, z2⟩ := obind_some z1
  have c2 := avStr_some c1
  subst c2
  exact WL.val h1 h2 (h3.trans (load_cell a1 e)) (hk n z2)
theorem oR (d t : Nat) {n : Nat} {x : AV} {k : List AV → R} (z : obind (ldRow h n x) k = some r) (hk : ∀ v, k v = some r → WL P w0 m0 N ops (i + 1) Q (l.put (some d) (.agg v)) ds h) (a1 : aggO P t = some true := by kernel_rfl) (a2 : P.cellsOf t = n := by kernel_rfl) (h1 : dstN N ops i = some (some d) := by kernel_rfl) (h2 : wantAt ops l.get i = some true := by kernel_rfl) (h3 : opAt P l.eval ops i h = opLoad P h t (some x) := by kernel_rfl) : WL P w0 m0 N ops i Q l ds h := by
  obtain ⟨v, e, z1⟩ := obind_some z
  exact WL.val h1 h2 (h3.trans (load_row a1 a2 e)) (hk v z1)
theorem oF (d s f : Nat) {off : Nat} {x : AV} {k : AV → R} (z : obind (fldP off x) k = some r) (hk : ∀ v, k v = some r → WL P w0 m0 N ops (i + 1) Q (l.put (some d) v) ds h) (a1 : (match P.underlying s with
    | some (.struct fs) => match fs[f]? with
      | some g => Nat.blt 0 (P.cellsOf g.type) && Nat.beq g.offset off
      | none => false
    | _ => false) = true := by kernel_rfl) (h1 : dstN N ops i = some (some d) := by kernel_rfl) (h2 : wantAt ops l.get i = some true := by kernel_rfl) (h3 : opAt P l.eval ops i h = opFieldAddr P h s f (some x) := by kernel_rfl) : WL P w0 m0 N ops i Q l ds h := by
  obtain ⟨v, e, z1⟩ := obind_some z
  exact WL.val h1 h2 (h3.trans (field_ptr a1 e)) (hk v z1)
theorem oX (d t : Nat) (c : IntKind) {s : Bytes} {j : Int} {k : Int → R} (z : obind (idxS s j) k = some r) (hk : ∀ v, k v = some r → WL P w0 m0 N ops (i + 1) Q (l.put (some d) (.int .u8 v)) ds h) (a1 : P.underlying t = some .string := by kernel_rfl) (h1 : dstN N ops i = some (some d) := by kernel_rfl) (h2 : wantAt ops l.get i = some true := by kernel_rfl) (h3 : opAt P l.eval ops i h = opIndex P h t (some (strA s)) (some (.int c j)) := by kernel_rfl) : WL P w0 m0 N ops i Q l ds h := by
  obtain ⟨v, e, z1⟩ := obind_some z
  exact WL.val h1 h2 (h3.trans (index_str a1 e)) (hk v z1)
theorem oP (d t e' : Nat) (c : IntKind) {sz : Nat} {x : AV} {j : Int} {k : AV → R} (z : obind (idxP sz x j) k = some r) (hk : ∀ v, k v = some r → WL P w0 m0 N ops (i + 1) Q (l.put (some d) v) ds h) (a1 : elemOf P t = some e' := by kernel_rfl) (a2 : (P.info? e').isSome = true := by kernel_rfl) (a3 : P.cellsOf e' = sz := by kernel_rfl) (h1 : dstN N ops i = some (some d) := by kernel_rfl) (h2 : wantAt ops l.get i = some true := by kernel_rfl) (h3 : opAt P l.eval ops i h = opIndexAddr P h t (some x) (some (.int c j)) := by kernel_rfl) : WL P w0 m0 N ops i Q l ds h := by
  obtain ⟨v, e, z1⟩ := obind_some z
  exact WL.val h1 h2 (h3.trans (index_row a1 a2 a3 e)) (hk v z1)
theorem oQ (d t e' : Nat) (c : IntKind) {n sz : Nat} {x : AV} {j : Int} {k : AV → R} (z : obind (idxA n sz x j) k = some r) (hk : ∀ v, k v = some r → WL P w0 m0 N ops (i + 1) Q (l.put (some d) v) ds h) (a1 : P.underlying t = some (.array n e') := by kernel_rfl) (a2 : (P.info? e').isSome = true := by kernel_rfl) (a3 : P.cellsOf e' = sz := by kernel_rfl) (h1 : dstN N ops i = some (some d) := by kernel_rfl) (h2 : wantAt ops l.get i = some true := by kernel_rfl) (h3 : opAt P l.eval ops i h = opIndexAddr P h t (some x) (some (.int c j)) := by kernel_rfl) : WL P w0 m0 N ops i Q l ds h := by
  obtain ⟨v, e, z1⟩ := obind_some z
  exact WL.val h1 h2 (h3.trans (index_arr a1 a2 a3 e)) (hk v z1)
theorem oC0 (d : Nat) {x : AV} {k : AV → R} (z : obind (nilC x) k = some r) (hk : ∀ v, k v = some r → WL P w0 m0 N ops (i + 1) Q (l.put (some d) v) ds h) (h1 : dstN N ops i = some (some d) := by kernel_rfl) (h2 : wantAt ops l.get i = some true := by kernel_rfl) (h3 : opAt P l.eval ops i h = opNil h (some x) := by kernel_rfl) : WL P w0 m0 N ops i Q l ds h := by
  obtain ⟨v, e, z1⟩ := obind_some z
  exact WL.val h1 h2 (h3.trans (nil_chk e)) (hk v z1)
theorem oM (d t e' : Nat) {x : AV} {k : Int → R} (z : obind (lenL x) k = some r) (hk : ∀ v, k v = some r → WL P w0 m0 N ops (i + 1) Q (l.put (some d) (.int .i64 v)) ds h) (a1 : P.underlying t = some (.slice e') := by kernel_rfl) (h1 : dstN N ops i = some (some d) := by kernel_rfl) (h2 : wantAt ops l.get i = some true := by kernel_rfl) (h3 : opAt P l.eval ops i h = opLen P h t x := by kernel_rfl) : WL P w0 m0 N ops i Q l ds h := by
  obtain ⟨v, e, z1⟩ := obind_some z
  exact WL.val h1 h2 (h3.trans (len_row a1 e)) (hk v z1)
/-- parts of what a call handed back -/
theorem oE (d : Nat) {j : Nat} {x : AV} {k : AV → R} (z : obind (extT j x) k = some r) (hk : ∀ v, k v = some r → WL P w0 m0 N ops (i + 1) Q (l.put (some d) v) ds h) (h1 : dstN N ops i = some (some d) := by kernel_rfl) (h2 : wantAt ops l.get i = some true := by kernel_rfl) (h3 : opAt P l.eval ops i h = opExtract h j (some x) := by kernel_rfl) : WL P w0 m0 N ops i Q l ds h := by
  obtain ⟨v, e, z1⟩ := obind_some z
  exact WL.val h1 h2 (h3.trans (extract_tup e)) (hk v z1)
theorem oEi (d : Nat) {c : IntKind} {j : Nat} {x : AV} {k : Int → R} (z : (obind (extT j x) fun v => obind (avInt c v) k) = some r) (hk : ∀ v, k v = some r → WL P w0 m0 N ops (i + 1) Q (l.put (some d) (.int c v)) ds h) (h1 : dstN N ops i = some (some d) := by kernel_rfl) (h2 : wantAt ops l.get i = some true := by kernel_rfl) (h3 : opAt P l.eval ops i h = opExtract h j (some x) := by kernel_rfl) : WL P w0 m0 N ops i Q l ds h := by
  obtain ⟨v, e, z1⟩ := obind_some z
  obtain ⟨n, c1, z2⟩ := obind_some z1
  have c2 := avInt_some c1
  subst c2
  exact WL.val h1 h2 (h3.trans (extract_tup e)) (hk n z2)
theorem oEb (d : Nat) {j : Nat} {x : AV} {k : Bool → R} (z : (obind (extT j x) fun v => obind (avBool v) k) = some r) (hk : ∀ v, k v = some r → WL P w0 m0 N ops (i + 1) Q (l.put (some d) (.bool v)) ds h) (h1 : dstN N ops i = some (some d) := by kernel_rfl) (h2 : wantAt ops l.get i = some true := by kernel_rfl) (h3 : opAt P l.eval ops i h = opExtract h j (some x) := by kernel_rfl) : WL P w0 m0 N ops i Q l ds h := by
  obtain ⟨v, e, z1⟩ := obind_some z
  obtain ⟨n, c1, z2⟩ := obind_some z1
  have c2 := avBool_some c1
  subst c2
  exact WL.val h1 h2 (h3.trans (extract_tup e)) (hk n z2)
theorem oEs (d : Nat) {j : Nat} {x : AV} {k : Bytes → R} (z : (obind (extT j x) fun v => obind (avStr v) k) = some r) (hk : ∀ v, k v = some r → WL P w0 m0 N ops (i + 1) Q (l.put (some d) (strA v)) ds h) (h1 : dstN N ops i = some (some d) := by kernel_rfl) (h2 : wantAt ops l.get i = some true := by kernel_rfl) (h3 : opAt P l.eval ops i h = opExtract h j (some x) := by kernel_rfl) : WL P w0 m0 N ops i Q l ds h := by
  obtain ⟨v, e, z1⟩ := obind_some z
  obtain ⟨n, c1, z2⟩ := obind_some z1
  have c2 := avStr_some c1
  subst c2
  exact WL.val h1 h2 (h3.trans (extract_tup e)) (hk n z2)
theorem oEa (d : Nat) {j : Nat} {x : AV} {k : List AV → R} (z : (obind (extT j x) fun v => obind (avAgg v) k) = some r) (hk : ∀ v, k v = some r → WL P w0 m0 N ops (i + 1) Q (l.put (some d) (.agg v)) ds h) (h1 : dstN N ops i = some (some d) := by kernel_rfl) (h2 : wantAt ops l.get i = some true := by kernel_rfl) (h3 : opAt P l.eval ops i h = opExtract h j (some x) := by kernel_rfl) : WL P w0 m0 N ops i Q l ds h := by
  obtain ⟨v, e, z1⟩ := obind_some z
  obtain ⟨n, c1, z2⟩ := obind_some z1
  have c2 := avAgg_some c1
  subst c2
  exact WL.val h1 h2 (h3.trans (extract_tup e)) (hk n z2)
/-- calls that return -/
theorem oC (hc : SaysAll P call) (d : Option Nat) {f : FuncId} {args : List AV} {h1 : AHeap} {k : AV → AHeap → R} (z : callN (call f args h1) k = some r) (hk : ∀ v h', k v h' = some r → WL P w0 m0 N ops (i + 1) Q (l.put d v) ds h') (b1 : dstN N ops i = some d := by kernel_rfl) (b2 : wantAt ops l.get i = some true := by kernel_rfl) (b3 : opAt P l.eval ops i h = some (.call f args, h1) := by kernel_rfl) : WL P w0 m0 N ops i Q l ds h := by
  obtain ⟨v, h', e, z1⟩ := callN_some z
  exact WL.call (hc.ok w0) b1 b2 b3 e (hk v h' z1)
theorem oCi (hc : SaysAll P call) (d : Nat) {c : IntKind} {f : FuncId} {args : List AV} {h1 : AHeap} {k : Int → AHeap → R} (z : (callN (call f args h1) fun v h' => obind (avInt c v) fun n => k n h') = some r) (hk : ∀ v h', k v h' = some r → WL P w0 m0 N ops (i + 1) Q (l.put (some d) (.int c v)) ds h') (b1 : dstN N ops i = some (some d) := by kernel_rfl) (b2 : wantAt ops l.get i = some true := by kernel_rfl) (b3 : opAt P l.eval ops i h = some (.call f args, h1) := by kernel_rfl) : WL P w0 m0 N ops i Q l ds h := by
  obtain ⟨v, h', e, z1⟩ := callN_some z
  obtain ⟨n, c1, z2⟩ := obind_some z1
  have c2 := avInt_some c1
  subst c2
  exact WL.call (hc.ok w0) b1 b2 b3 e (hk n h' z2)
theorem oCb (hc : SaysAll P call) (d : Nat) {f : FuncId} {args : List AV} {h1 : AHeap} {k : Bool → AHeap → R} (z : (callN (call f args h1) fun v h' => obind (avBool v) fun n => k n h') = some r) (hk : ∀ v h', k v h' = some r → WL P w0 m0 N ops (i + 1) Q (l.put (some d) (.bool v)) ds h') (b1 : dstN N ops i = some (some d) := by kernel_rfl) (b2 : wantAt ops l.get i = some true := by kernel_rfl) (b3 : opAt P l.eval ops i h = some (.call f args, h1) := by kernel_rfl) : WL P w0 m0 N ops i Q l ds h := by
  obtain ⟨v, h', e, z1⟩ := callN_some z
  obtain ⟨n, c1, z2⟩ := obind_some z1
  have c2 := avBool_some c1
  subst c2
  exact WL.call (hc.ok w0) b1 b2 b3 e (hk n h' z2)
theorem oCs (hc : SaysAll P call) (d : Nat) {f : FuncId} {args : List AV} {h1 : AHeap} {k : Bytes → AHeap → R} (z : (callN (call f args h1) fun v h' => obind (avStr v) fun n => k n h') = some r) (hk : ∀ v h', k v h' = some r → WL P w0 m0 N ops (i + 1) Q (l.put (some d) (strA v)) ds h') (b1 : dstN N ops i = some (some d) := by kernel_rfl) (b2 : wantAt ops l.get i = some true := by kernel_rfl) (b3 : opAt P l.eval ops i h = some (.call f args, h1) := by kernel_rfl) : WL P w0 m0 N ops i Q l ds h := by
  obtain ⟨v, h', e, z1⟩ := callN_some z
  obtain ⟨n, c1, z2⟩ := obind_some z1
  have c2 := avStr_some c1
  subst c2
  exact WL.call (hc.ok w0) b1 b2 b3 e (hk n h' z2)
theorem oCa (hc : SaysAll P call) (d : Nat) {f : FuncId} {args : List AV} {h1 : AHeap} {k : List AV → AHeap → R} (z : (callN (call f args h1) fun v h' => obind (avAgg v) fun n => k n h') = some r) (hk : ∀ v h', k v h' = some r → WL P w0 m0 N ops (i + 1) Q (l.put (some d) (.agg v)) ds h') (b1 : dstN N ops i = some (some d) := by kernel_rfl) (b2 : wantAt ops l.get i = some true := by kernel_rfl) (b3 : opAt P l.eval ops i h = some (.call f args, h1) := by kernel_rfl) : WL P w0 m0 N ops i Q l ds h := by
  obtain ⟨v, h', e, z1⟩ := callN_some z
  obtain ⟨n, c1, z2⟩ := obind_some z1
  have c2 := avAgg_some c1
  subst c2
  exact WL.call (hc.ok w0) b1 b2 b3 e (hk n h' z2)
/-- a step of the machine as it is -/
theorem oK (d : Nat) {x : OutT} {k : AV → AHeap → R} (z : outK x k = some r) (hk : ∀ v h', k v h' = some r → WL P w0 m0 N ops (i + 1) Q (l.put (some d) v) ds h') (b1 : dstN N ops i = some (some d) := by kernel_rfl) (b2 : wantAt ops l.get i = some true := by kernel_rfl) (b3 : opAt P l.eval ops i h = x := by kernel_rfl) : WL P w0 m0 N ops i Q l ds h := by
  obtain ⟨v, h', e, z1⟩ := outK_some z
  exact WL.val b1 b2 (b3.trans e) (hk v h' z1)
/-- code -/
theorem oT {c : Code} {a b : R} (z : ifB true a b = some r) (hk : a = some r → W P w0 m0 N (Code.p1 c) Q l ds h) (hc : Code.kind c = 2 := by kernel_rfl) (hv : l.eval (Code.opd c) = some (.bool true) := by kernel_rfl) : W P w0 m0 N c Q l ds h := W.cond_true hc hv (hk z)
theorem oU {c : Code} {a b : R} (z : ifB false a b = some r) (hk : b = some r → W P w0 m0 N (Code.p2 c) Q l ds h) (hc : Code.kind c = 2 := by kernel_rfl) (hv : l.eval (Code.opd c) = some (.bool false) := by kernel_rfl) : W P w0 m0 N c Q l ds h := W.cond_false hc hv (hk z)
theorem oG {c : Code} (hk : ∀ {K : Exit → Act → World → Prop}, (∀ {ds : DefT} {l : Fr} {h : AHeap}, W P w0 m0 N (Code.p2 c) Q l ds h → Go w0 m0 N (K .normal) l ds h) → W P w0 m0 N (Code.p1 c) K l ds h) (hc : Code.kind c = 1 := by kernel_rfl) : W P w0 m0 N c Q l ds h := W.seqK hc fun _ n _ _ _ => hk n
theorem oH {c : Code} (hk : ∀ {K : Exit → Act → World → Prop}, (∀ {ds : DefT} {l : Fr} {h : AHeap}, W P w0 m0 N (Code.p2 c) Q l ds h → Go w0 m0 N (K .normal) l ds h) → (∀ {ds : DefT} {l : Fr} {h : AHeap}, Go w0 m0 N (Q .ret) l ds h → Go w0 m0 N (K .ret) l ds h) → W P w0 m0 N (Code.p1 c) K l ds h) (hc : Code.kind c = 1 := by kernel_rfl) : W P w0 m0 N c Q l ds h := W.seqK hc fun _ n _ q _ => hk n q
theorem oJ {c : Code} (hk : ∀ {K : Exit → Act → World → Prop}, (∀ {ds : DefT} {l : Fr} {h : AHeap}, W P w0 m0 N (Code.p2 c) Q l ds h → Go w0 m0 N (K .normal) l ds h) → (∀ {ds : DefT} {l : Fr} {v : AV} {h : AHeap}, Pan w0 m0 N Q l ds v h → Pan w0 m0 N K l ds v h) → W P w0 m0 N (Code.p1 c) K l ds h) (hc : Code.kind c = 1 := by kernel_rfl) : W P w0 m0 N c Q l ds h := W.seqK hc fun _ n _ _ p => hk n p
theorem oY {c : Code} (hk : Go w0 m0 N (Q .ret) l ds h) (hc : Code.kind c = 6 := by kernel_rfl) : W P w0 m0 N c Q l ds h := W.ret hc hk
theorem oZ {c : Code} (hk : Go w0 m0 N (Q .normal) l ds h) (hc : Code.kind c = 0 := by kernel_rfl) : W P w0 m0 N c Q l ds h := W.skip hc hk
/-- the end -/
theorem rT {g : Nat → Option AV} {t : Nat} {v : AV} {rs : List ResultVar} {vs : List AV} (k : resGs P g h rs = some vs) (e : g t = some v := by kernel_rfl) : resGs P g h (.tmp t :: rs) = some (v :: vs) := res_tmp e k
theorem rY {g : Nat → Option AV} {t ty n : Nat} {p : AV} {v : List AV} {rs : List ResultVar} {vs : List AV} (e2 : ldRow h n p = some v) (k : resGs P g h rs = some vs) (e : g t = some p := by kernel_rfl) (ha : aggO P ty = some true := by kernel_rfl) (hn : P.cellsOf ty = n := by kernel_rfl) : resGs P g h (.cell t ty :: rs) = some (.agg v :: vs) := res_cell e (load_row ha hn e2) k
theorem rC {g : Nat → Option AV} {t ty : Nat} {p v : AV} {rs : List ResultVar} {vs : List AV} (e2 : ldCell h p = some v) (k : resGs P g h rs = some vs) (e : g t = some p := by kernel_rfl) (ha : aggO P ty = some false := by kernel_rfl) : resGs P g h (.cell t ty :: rs) = some (v :: vs) := res_cell e (load_cell ha e2) k
theorem lZ {fn : Func} {v : AV} {rR : ARes} {hR : AHeap} (z : some (ARes.ret v, h) = some (rR, hR)) (rs : List ResultVar) (vs : List AV) (hv : resGs P l.get h rs = some vs) (hrs : fn.results.toList = rs := by kernel_rfl) (hr : retA h (some vs) = some (.ret v, h) := by kernel_rfl) : Go w0 m0 N (Fin P fn w0 m0 rR hR .ret) l [] h := by
  obtain ⟨e1, e2⟩ := ret_inj z
  subst e1
  subst e2
  exact leave_of hrs hv hr
theorem lY {fn : Func} {v : AV} {rR : ARes} {hR : AHeap} (z : some (ARes.ret v, h) = some (rR, hR)) (rs : List ResultVar) (vs : List AV) (hv : resGs P l.get h rs = some vs) (hrs : fn.results.toList = rs := by kernel_rfl) (hr : retA h (some vs) = some (.ret v, h) := by kernel_rfl) : Go w0 m0 N (Fin P fn w0 m0 rR hR .normal) l [] h := by
  obtain ⟨e1, e2⟩ := ret_inj z
  subst e1
  subst e2
  exact leaveN_of hrs hv hr
theorem oD {plan : List Nat} {rs : List Rec} (k : Nat) (d : Option Nat) (hk : WD P w0 m0 N call ops plan rs K (l.put d (.tup [])) ds h) (h1 : dstN N ops i = some d := by kernel_rfl) (h2 : wantAt ops l.get i = some false := by kernel_rfl) (h4 : kindD P ops i = k := by kernel_rfl) (h5 : Nat.beq k 2 = false := by kernel_rfl) (h6 : Nat.beq k 9 = false := by kernel_rfl) : WD P w0 m0 N call ops (i :: plan) rs K l ds h := WD.not h1 h2 h4 (fun e => by subst e; cases h5) (fun e => by subst e; cases h6) hk
/-- frames -/
theorem sub_of {l : Fr} : ∀ {l' : Fr}, l'.map (fun p => l.get p.1) = l'.map (fun p => some p.2) → l.sub l'
  | [], _ => Fr.sub_nil _
  | (t, v) :: l', h => by
    simp only [List.map_cons, List.cons.injEq] at h
    exact Fr.sub_cons h.1 (sub_of h.2)
theorem oV (l' : Fr) (hk : Go w0 m0 N (Q .normal) l' ds h) (hs : l'.map (fun p => l.get p.1) = l'.map (fun p => some p.2) := by kernel_rfl) (hi : Nat.beq ops.size i = true := by kernel_rfl) : WL P w0 m0 N ops i Q l ds h := WL.nil hi (Go.weaken (sub_of hs) hk)
theorem gW (l' : Fr) (hk : Go w0 m0 N K l' ds h) (hs : l'.map (fun p => l.get p.1) = l'.map (fun p => some p.2) := by kernel_rfl) : Go w0 m0 N K l ds h := Go.weaken (sub_of hs) hk
theorem wW {c : Code} (l' : Fr) (hk : W P w0 m0 N c Q l' ds h) (hs : l'.map (fun p => l.get p.1) = l'.map (fun p => some p.2) := by kernel_rfl) : W P w0 m0 N c Q l ds h := W.weaken (sub_of hs) hk
theorem lW (l' : Fr) (hk : WL P w0 m0 N ops i Q l' ds h) (hs : l'.map (fun p => l.get p.1) = l'.map (fun p => some p.2) := by kernel_rfl) : WL P w0 m0 N ops i Q l ds h := WL.weaken (sub_of hs) hk
/-- a call that returns or panics -/
theorem Pf {v : AV} {h' : AHeap} {fn : Func} {rR : ARes} {hR : AHeap} (q : (rR, hR) = (ARes.panic v, h')) : Pan w0 m0 N (Fin P fn w0 m0 rR hR) l [] v h' := by
  cases q
  exact Pan.fin
theorem oCK (hc : SaysAll P call) (d : Option Nat) {f : FuncId} {args : List AV} {h1 : AHeap} {k : AV → AHeap → R} (z : callK (call f args h1) k = some r) (hp : ∀ {v : AV} {h' : AHeap}, r = (.panic v, h') → Pan w0 m0 N Q l ds v h') (hk : ∀ v h', k v h' = some r → WL P w0 m0 N ops (i + 1) Q (l.put d v) ds h') (b1 : dstN N ops i = some d := by kernel_rfl) (b2 : wantAt ops l.get i = some true := by kernel_rfl) (b3 : opAt P l.eval ops i h = some (.call f args, h1) := by kernel_rfl) : WL P w0 m0 N ops i Q l ds h := by
  rcases callK_some z with ⟨v, h', e, z1⟩ | ⟨v, h', e, q⟩
  · exact WL.call (hc.ok w0) b1 b2 b3 e (hk v h' z1)
  · exact WL.callPanic (hc.ok w0) b1 b2 b3 e (hp q)
theorem sO {f : FuncId} {fn : Func} {args : List AV} {rR : ARes} {hR : AHeap} (hf : P.funcs[f]? = some fn) (hw : ∀ w0 m0, W P w0 m0 fn.ntmps (codeOf fn) (Fin P fn w0 m0 rR hR) (argsFr 0 args) [] h) (hb : fn.body = some (codeOf fn) := by kernel_rfl) (hlen : Nat.ble args.length fn.ntmps = true := by kernel_rfl) : Says P f args h rR hR := says_of hf hb hlen hw
end
/-! functions of plain arguments -/
structure Dec (α : Type) where
  dec : AV → Option α
  enc : α → AV
  ok : ∀ {x : AV} {a : α}, dec x = some a → x = enc a
  eq : ∀ a : α, dec (enc a) = some a
def Di (k : IntKind) : Dec Int := ⟨avInt k, .int k, avInt_some, avInt_int k⟩
def Db : Dec Bool := ⟨avBool, .bool, avBool_some, avBool_bool⟩
def Ds : Dec Bytes := ⟨avStr, strA, avStr_some, avStr_str⟩
def Da : Dec (List AV) := ⟨avAgg, .agg, avAgg_some, avAgg_agg⟩
def Dv : Dec AV := ⟨some, fun x => x, fun h => by cases h; rfl, fun _ => rfl⟩
section
variable {α β γ δ ε ζ : Type} {P : Program} {id : FuncId} {h : AHeap}
def fn0 (F : AHeap → R) : FnT := fun args h => match args with
  | [] => F h
  | _ => none
theorem fn0_eq (F : AHeap → R) (h : AHeap) : fn0 F [] h = F h := rfl
theorem fn0_holds {F : AHeap → R} (k : ∀ {h r h'}, F h = some (r, h') → Says P id [] h r h') : Holds P id (fn0 F) := by
  intro args h r h2 e
  unfold fn0 at e
  split at e
  · exact k e
  · cases e
def fn1 (d0 : Dec α) (F : α → AHeap → R) : FnT := fun args h => match args with
  | [x0] => obind (d0.dec x0) fun a0 => F a0 h
  | _ => none
theorem fn1_eq (d0 : Dec α) (F : α → AHeap → R) (a0 : α) (h : AHeap) : fn1 d0 F [d0.enc a0] h = F a0 h := by
  unfold fn1
  dsimp only
  rw [d0.eq, obind_val]
theorem fn1_holds (d0 : Dec α) {F : α → AHeap → R} (k : ∀ {a0} {h r h'}, F a0 h = some (r, h') → Says P id [d0.enc a0] h r h') : Holds P id (fn1 d0 F) := by
  intro args h r h2 e
  unfold fn1 at e
  split at e
  · replace e := obind_some e; obtain ⟨a0, c0, e⟩ := e; have c0 := d0.ok c0; subst c0
    exact k e
  · cases e
def fn2 (d0 : Dec α) (d1 : Dec β) (F : α → β → AHeap → R) : FnT := fun args h => match args with
  | [x0, x1] => obind (d0.dec x0) fun a0 => obind (d1.dec x1) fun a1 => F a0 a1 h
  | _ => none
theorem fn2_eq (d0 : Dec α) (d1 : Dec β) (F : α → β → AHeap → R) (a0 : α) (a1 : β) (h : AHeap) : fn2 d0 d1 F [d0.enc a0, d1.enc a1] h = F a0 a1 h := by
  unfold fn2
  dsimp only
  rw [d0.eq, obind_val, d1.eq, obind_val]
theorem fn2_holds (d0 : Dec α) (d1 : Dec β) {F : α → β → AHeap → R} (k : ∀ {a0 a1} {h r h'}, F a0 a1 h = some (r, h') → Says P id [d0.enc a0, d1.enc a1] h r h') : Holds P id (fn2 d0 d1 F) := by
  intro args h r h2 e
  unfold fn2 at e
  split at e
  · replace e := obind_some e; obtain ⟨a0, c0, e⟩ := e; have c0 := d0.ok c0; subst c0
    replace e := obind_some e; obtain ⟨a1, c1, e⟩ := e; have c1 := d1.ok c1; subst c1
    exact k e
  · cases e
def fn3 (d0 : Dec α) (d1 : Dec β) (d2 : Dec γ) (F : α → β → γ → AHeap → R) : FnT := fun args h => match args with
  | [x0, x1, x2] => obind (d0.dec x0) fun a0 => obind (d1.dec x1) fun a1 => obind (d2.dec x2) fun a2 => F a0 a1 a2 h
  | _ => none
theorem fn3_eq (d0 : Dec α) (d1 : Dec β) (d2 : Dec γ) (F : α → β → γ → AHeap → R) (a0 : α) (a1 : β) (a2 : γ) (h : AHeap) : fn3 d0 d1 d2 F [d0.enc a0, d1.enc a1, d2.enc a2] h = F a0 a1 a2 h := by
  unfold fn3
  dsimp only
  rw [d0.eq, obind_val, d1.eq, obind_val, d2.eq, obind_val]
theorem fn3_holds (d0 : Dec α) (d1 : Dec β) (d2 : Dec γ) {F : α → β → γ → AHeap → R} (k : ∀ {a0 a1 a2} {h r h'}, F a0 a1 a2 h = some (r, h') → Says P id [d0.enc a0, d1.enc a1, d2.enc a2] h r h') : Holds P id (fn3 d0 d1 d2 F) := by
  intro args h r h2 e
  unfold fn3 at e
  split at e
  · replace e := obind_some e; obtain ⟨a0, c0, e⟩ := e; have c0 := d0.ok c0; subst c0
    replace e := obind_some e; obtain ⟨a1, c1, e⟩ := e; have c1 := d1.ok c1; subst c1
    replace e := obind_some e; obtain ⟨a2, c2, e⟩ := e; have c2 := d2.ok c2; subst c2
    exact k e
  · cases e
def fn4 (d0 : Dec α) (d1 : Dec β) (d2 : Dec γ) (d3 : Dec δ) (F : α → β → γ → δ → AHeap → R) : FnT := fun args h => match args with
  | [x0, x1, x2, x3] => obind (d0.dec x0) fun a0 => obind (d1.dec x1) fun a1 => obind (d2.dec x2) fun a2 => obind (d3.dec x3) fun a3 => F a0 a1 a2 a3 h
  | _ => none
theorem fn4_eq (d0 : Dec α) (d1 : Dec β) (d2 : Dec γ) (d3 : Dec δ) (F : α → β → γ → δ → AHeap → R) (a0 : α) (a1 : β) (a2 : γ) (a3 : δ) (h : AHeap) : fn4 d0 d1 d2 d3 F [d0.enc a0, d1.enc a1, d2.enc a2, d3.enc a3] h = F a0 a1 a2 a3 h := by
  unfold fn4
  dsimp only
  rw [d0.eq, obind_val, d1.eq, obind_val, d2.eq, obind_val, d3.eq, obind_val]
theorem fn4_holds (d0 : Dec α) (d1 : Dec β) (d2 : Dec γ) (d3 : Dec δ) {F : α → β → γ → δ → AHeap → R} (k : ∀ {a0 a1 a2 a3} {h r h'}, F a0 a1 a2 a3 h = some (r, h') → Says P id [d0.enc a0, d1.enc a1, d2.enc a2, d3.enc a3] h r h') : Holds P id (fn4 d0 d1 d2 d3 F) := by
  intro args h r h2 e
  unfold fn4 at e
  split at e
  · replace e := obind_some e; obtain ⟨a0, c0, e⟩ := e; have c0 := d0.ok c0; subst c0
    replace e := obind_some e; obtain ⟨a1, c1, e⟩ := e; have c1 := d1.ok c1; subst c1
    replace e := obind_some e; obtain ⟨a2, c2, e⟩ := e; have c2 := d2.ok c2; subst c2
    replace e := obind_some e; obtain ⟨a3, c3, e⟩ := e; have c3 := d3.ok c3; subst c3
    exact k e
  · cases e
def fn5 (d0 : Dec α) (d1 : Dec β) (d2 : Dec γ) (d3 : Dec δ) (d4 : Dec ε) (F : α → β → γ → δ → ε → AHeap → R) : FnT := fun args h => match args with
  | [x0, x1, x2, x3, x4] => obind (d0.dec x0) fun a0 => obind (d1.dec x1) fun a1 => obind (d2.dec x2) fun a2 => obind (d3.dec x3) fun a3 => obind (d4.dec x4) fun a4 => F a0 a1 a2 a3 a4 h
  | _ => none
theorem fn5_eq (d0 : Dec α) (d1 : Dec β) (d2 : Dec γ) (d3 : Dec δ) (d4 : Dec ε) (F : α → β → γ → δ → ε → AHeap → R) (a0 : α) (a1 : β) (a2 : γ) (a3 : δ) (a4 : ε) (h : AHeap) : fn5 d0 d1 d2 d3 d4 F [d0.enc a0, d1.enc a1, d2.enc a2, d3.enc a3, d4.enc a4] h = F a0 a1 a2 a3 a4 h := by
  unfold fn5
  dsimp only
  rw [d0.eq, obind_val, d1.eq, obind_val, d2.eq, obind_val, d3.eq, obind_val, d4.eq, obind_val]
theorem fn5_holds (d0 : Dec α) (d1 : Dec β) (d2 : Dec γ) (d3 : Dec δ) (d4 : Dec ε) {F : α → β → γ → δ → ε → AHeap → R} (k : ∀ {a0 a1 a2 a3 a4} {h r h'}, F a0 a1 a2 a3 a4 h = some (r, h') → Says P id [d0.enc a0, d1.enc a1, d2.enc a2, d3.enc a3, d4.enc a4] h r h') : Holds P id (fn5 d0 d1 d2 d3 d4 F) := by
  intro args h r h2 e
  unfold fn5 at e
  split at e
  · replace e := obind_some e; obtain ⟨a0, c0, e⟩ := e; have c0 := d0.ok c0; subst c0
    replace e := obind_some e; obtain ⟨a1, c1, e⟩ := e; have c1 := d1.ok c1; subst c1
    replace e := obind_some e; obtain ⟨a2, c2, e⟩ := e; have c2 := d2.ok c2; subst c2
    replace e := obind_some e; obtain ⟨a3, c3, e⟩ := e; have c3 := d3.ok c3; subst c3
    replace e := obind_some e; obtain ⟨a4, c4, e⟩ := e; have c4 := d4.ok c4; subst c4
    exact k e
  · cases e
def fn6 (d0 : Dec α) (d1 : Dec β) (d2 : Dec γ) (d3 : Dec δ) (d4 : Dec ε) (d5 : Dec ζ) (F : α → β → γ → δ → ε → ζ → AHeap → R) : FnT := fun args h => match args with
  | [x0, x1, x2, x3, x4, x5] => obind (d0.dec x0) fun a0 => obind (d1.dec x1) fun a1 => obind (d2.dec x2) fun a2 => obind (d3.dec x3) fun a3 => obind (d4.dec x4) fun a4 => obind (d5.dec x5) fun a5 => F a0 a1 a2 a3 a4 a5 h
  | _ => none
theorem fn6_eq (d0 : Dec α) (d1 : Dec β) (d2 : Dec γ) (d3 : Dec δ) (d4 : Dec ε) (d5 : Dec ζ) (F : α → β → γ → δ → ε → ζ → AHeap → R) (a0 : α) (a1 : β) (a2 : γ) (a3 : δ) (a4 : ε) (a5 : ζ) (h : AHeap) : fn6 d0 d1 d2 d3 d4 d5 F [d0.enc a0, d1.enc a1, d2.enc a2, d3.enc a3, d4.enc a4, d5.enc a5] h = F a0 a1 a2 a3 a4 a5 h := by
  unfold fn6
  dsimp only
  rw [d0.eq, obind_val, d1.eq, obind_val, d2.eq, obind_val, d3.eq, obind_val, d4.eq, obind_val, d5.eq, obind_val]
theorem fn6_holds (d0 : Dec α) (d1 : Dec β) (d2 : Dec γ) (d3 : Dec δ) (d4 : Dec ε) (d5 : Dec ζ) {F : α → β → γ → δ → ε → ζ → AHeap → R} (k : ∀ {a0 a1 a2 a3 a4 a5} {h r h'}, F a0 a1 a2 a3 a4 a5 h = some (r, h') → Says P id [d0.enc a0, d1.enc a1, d2.enc a2, d3.enc a3, d4.enc a4, d5.enc a5] h r h') : Holds P id (fn6 d0 d1 d2 d3 d4 d5 F) := by
  intro args h r h2 e
  unfold fn6 at e
  split at e
  · replace e := obind_some e; obtain ⟨a0, c0, e⟩ := e; have c0 := d0.ok c0; subst c0
    replace e := obind_some e; obtain ⟨a1, c1, e⟩ := e; have c1 := d1.ok c1; subst c1
    replace e := obind_some e; obtain ⟨a2, c2, e⟩ := e; have c2 := d2.ok c2; subst c2
    replace e := obind_some e; obtain ⟨a3, c3, e⟩ := e; have c3 := d3.ok c3; subst c3
    replace e := obind_some e; obtain ⟨a4, c4, e⟩ := e; have c4 := d4.ok c4; subst c4
    replace e := obind_some e; obtain ⟨a5, c5, e⟩ := e; have c5 := d5.ok c5; subst c5
    exact k e
  · cases e
end
end
end Go.Proofs.Ytikaeeaepnflnaa.Abs
