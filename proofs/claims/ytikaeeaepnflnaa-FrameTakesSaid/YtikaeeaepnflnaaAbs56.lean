/- The short rules once more, for code that may be walked in a round (written by mk56.py). -/
import Derived.Test.YtikaeeaepnflnaaAbs54
import Derived.Test.YtikaeeaepnflnaaAbs55
namespace Go.Proofs.Ytikaeeaepnflnaa.Abs
noncomputable section
open Go.RowKit
section
variable {P : Program} {w0 : Base} {m0 : Map} {N : Nat} {rd : Option Nat} {nR : Nat} {l l' : Fr} {ds : DefT} {h h' : AHeap} {Q : Exit → Act → World → Prop} {K : Act → World → Prop} {Y : OutT} {ops : Array Oper} {i : Nat}
theorem Go.tNR {y : Code} (hk : WR P w0 m0 N rd nR y Q l ds h) : Go w0 m0 N (Exit.then (y.wpIn (FW rd) nR P Q) Q .normal) l ds h := hk
theorem WR.seqK {c : Code} (hc : Code.kind c = 1) (hk : ∀ K : Exit → Act → World → Prop, (∀ {ds : DefT} {l : Fr} {h : AHeap}, WR P w0 m0 N rd nR (Code.p2 c) Q l ds h → Go w0 m0 N (K .normal) l ds h) →
    (∀ {id : Nat} {ds : DefT} {l : Fr} {h : AHeap}, Go w0 m0 N (Q (.exit id)) l ds h → Go w0 m0 N (K (.exit id)) l ds h) → (∀ {ds : DefT} {l : Fr} {h : AHeap}, Go w0 m0 N (Q .ret) l ds h → Go w0 m0 N (K .ret) l ds h) →
    (∀ {ds : DefT} {l : Fr} {v : AV} {h : AHeap}, Pan w0 m0 N Q l ds v h → Pan w0 m0 N K l ds v h) → WR P w0 m0 N rd nR (Code.p1 c) K l ds h) : WR P w0 m0 N rd nR c Q l ds h :=
  WR.seq hc (hk _ (fun h => h) (fun h => h) (fun h => h) (fun h => h))
theorem WR.blockK {c : Code} (hc : Code.kind c = 3) (hk : ∀ K : Exit → Act → World → Prop, (∀ {ds : DefT} {l : Fr} {h : AHeap}, Go w0 m0 N (Q .normal) l ds h → Go w0 m0 N (K .normal) l ds h) →
    (∀ {id : Nat} {ds : DefT} {l : Fr} {h : AHeap}, Nat.beq id (Code.num c) = true → Go w0 m0 N (Q .normal) l ds h → Go w0 m0 N (K (.exit id)) l ds h) →
    (∀ {id : Nat} {ds : DefT} {l : Fr} {h : AHeap}, Nat.beq id (Code.num c) = false → Go w0 m0 N (Q (.exit id)) l ds h → Go w0 m0 N (K (.exit id)) l ds h) → (∀ {ds : DefT} {l : Fr} {h : AHeap}, Go w0 m0 N (Q .ret) l ds h → Go w0 m0 N (K .ret) l ds h) →
    (∀ {ds : DefT} {l : Fr} {v : AV} {h : AHeap}, Pan w0 m0 N Q l ds v h → Pan w0 m0 N K l ds v h) → WR P w0 m0 N rd nR (Code.p1 c) K l ds h) : WR P w0 m0 N rd nR c Q l ds h :=
  WR.block hc (hk _ (fun h => h) (fun e h => Go.bS e h) (fun e h => Go.bO e h) (fun h => h) (fun h => h))
theorem WR.loopK {c : Code} (hc : Code.kind c = 4) (hk : ∀ (I : Act → World → Prop) (K : Exit → Act → World → Prop), (∀ {ds : DefT} {l : Fr} {h : AHeap}, WR P w0 m0 N rd nR (Code.p1 c) K l ds h → Go w0 m0 N I l ds h) →
    (∀ {ds : DefT} {l : Fr} {h : AHeap}, Go w0 m0 N I l ds h → Go w0 m0 N (K .normal) l ds h) → (∀ {id : Nat} {ds : DefT} {l : Fr} {h : AHeap}, Go w0 m0 N (Q (.exit id)) l ds h → Go w0 m0 N (K (.exit id)) l ds h) →
    (∀ {ds : DefT} {l : Fr} {h : AHeap}, Go w0 m0 N (Q .ret) l ds h → Go w0 m0 N (K .ret) l ds h) → (∀ {ds : DefT} {l : Fr} {v : AV} {h : AHeap}, Pan w0 m0 N Q l ds v h → Pan w0 m0 N K l ds v h) →
    Go w0 m0 N I l ds h) : WR P w0 m0 N rd nR c Q l ds h :=
  WR.loop hc (hk _ _ (fun h => Go.roundR h) (fun h => h) (fun h => h) (fun h => h) (fun h => h))
end
section
variable {P : Program} {w0 : Base} {m0 : Map} {N : Nat} {rd : Option Nat} {nR : Nat} {l l' : Fr} {ds : DefT} {h : AHeap} {Q : Exit → Act → World → Prop} {K : Act → World → Prop} {Y : OutT} {ops : Array Oper} {i : Nat}
theorem WLR.a (d : Option Nat) (v : AV) (h' : AHeap) (hk : WLR P w0 m0 N rd nR ops (i + 1) Q (l.put d v) ds h') (h1 : dstR N ops i = some d := by kernel_rfl) (h2 : wantAt ops l.get i = some true := by kernel_rfl) (h3 : opAt P l.eval ops i h = some (.val v, h') := by kernel_rfl) : WLR P w0 m0 N rd nR ops i Q l ds h := WLR.val h1 h2 h3 hk
theorem WLR.b (d : Option Nat) (v : AV) (h' : AHeap) (x : Y = some (.val v, h')) (hk : WLR P w0 m0 N rd nR ops (i + 1) Q (l.put d v) ds h') (h1 : dstR N ops i = some d := by kernel_rfl) (h2 : wantAt ops l.get i = some true := by kernel_rfl) (h3 : opAt P l.eval ops i h = Y := by kernel_rfl) : WLR P w0 m0 N rd nR ops i Q l ds h := WLR.val h1 h2 (h3.trans x) hk
theorem WLR.e (h' : AHeap) (x : Y = some (.skip, h')) (hk : WLR P w0 m0 N rd nR ops (i + 1) Q l ds h') (h1 : dstR N ops i = some none := by kernel_rfl) (h2 : wantAt ops l.get i = some true := by kernel_rfl) (h3 : opAt P l.eval ops i h = Y := by kernel_rfl) : WLR P w0 m0 N rd nR ops i Q l ds h := WLR.eff h1 h2 (h3.trans x) hk
theorem WLR.o (d : Option Nat) (hk : WLR P w0 m0 N rd nR ops (i + 1) Q (l.put d (.tup [])) ds h) (h1 : dstR N ops i = some d := by kernel_rfl) (h2 : wantAt ops l.get i = some false := by kernel_rfl) : WLR P w0 m0 N rd nR ops i Q l ds h := WLR.not h1 h2 hk
theorem WLR.c {call : CallF} (hc : CallOK P w0 call) (d : Option Nat) {f : FuncId} {args : List AV} {v : AV} {h1 h' : AHeap} (hcall : call f args h1 = some (.ret v, h')) (hk : WLR P w0 m0 N rd nR ops (i + 1) Q (l.put d v) ds h') (h2 : dstR N ops i = some d := by kernel_rfl) (h3 : wantAt ops l.get i = some true := by kernel_rfl) (h4 : opAt P l.eval ops i h = some (.call f args, h1) := by kernel_rfl) : WLR P w0 m0 N rd nR ops i Q l ds h := WLR.call hc h2 h3 h4 hcall hk
theorem WLR.n (hk : Go w0 m0 N (Q .normal) l ds h) (hi : Nat.beq ops.size i = true := by kernel_rfl) : WLR P w0 m0 N rd nR ops i Q l ds h := WLR.nil hi hk
theorem WR.r {c : Code} (hk : WLR P w0 m0 N rd nR (Code.ops c) 0 Q l ds h) (hc : Code.kind c = 7 := by kernel_rfl) : WR P w0 m0 N rd nR c Q l ds h := WR.region hc hk
theorem WR.s {c : Code} (hk : ∀ K : Exit → Act → World → Prop, (∀ {ds : DefT} {l : Fr} {h : AHeap}, WR P w0 m0 N rd nR (Code.p2 c) Q l ds h → Go w0 m0 N (K .normal) l ds h) →
    (∀ {id : Nat} {ds : DefT} {l : Fr} {h : AHeap}, Go w0 m0 N (Q (.exit id)) l ds h → Go w0 m0 N (K (.exit id)) l ds h) → (∀ {ds : DefT} {l : Fr} {h : AHeap}, Go w0 m0 N (Q .ret) l ds h → Go w0 m0 N (K .ret) l ds h) →
    (∀ {ds : DefT} {l : Fr} {v : AV} {h : AHeap}, Pan w0 m0 N Q l ds v h → Pan w0 m0 N K l ds v h) → WR P w0 m0 N rd nR (Code.p1 c) K l ds h) (hc : Code.kind c = 1 := by kernel_rfl) : WR P w0 m0 N rd nR c Q l ds h := WR.seqK hc hk
theorem WR.t {c : Code} (hk : WR P w0 m0 N rd nR (Code.p1 c) Q l ds h) (hc : Code.kind c = 2 := by kernel_rfl) (hv : l.eval (Code.opd c) = some (.bool true) := by kernel_rfl) : WR P w0 m0 N rd nR c Q l ds h := WR.cond_true hc hv hk
theorem WR.f {c : Code} (hk : WR P w0 m0 N rd nR (Code.p2 c) Q l ds h) (hc : Code.kind c = 2 := by kernel_rfl) (hv : l.eval (Code.opd c) = some (.bool false) := by kernel_rfl) : WR P w0 m0 N rd nR c Q l ds h := WR.cond_false hc hv hk
end
section
variable {P : Program} {w0 : Base} {m0 : Map} {N : Nat} {rd : Option Nat} {nR : Nat} {l l' : Fr} {ds : DefT} {h : AHeap} {Q : Exit → Act → World → Prop} {K : Act → World → Prop} {Y : OutT} {ops : Array Oper} {i : Nat} {r : ARes × AHeap} {call : CallF}
theorem roB (d : Nat) {x : Bool} {k : Bool → R} (z : lett x k = some r) (hk : ∀ t, k t = some r → WLR P w0 m0 N rd nR ops (i + 1) Q (l.put (some d) (.bool t)) ds h) (h1 : dstR N ops i = some (some d) := by kernel_rfl) (h2 : wantAt ops l.get i = some true := by kernel_rfl) (h3 : opAt P l.eval ops i h = some (.val (.bool x), h) := by kernel_rfl) : WLR P w0 m0 N rd nR ops i Q l ds h := WLR.val h1 h2 h3 (hk x z)
theorem roI (d : Nat) (c : IntKind) {x : Int} {k : Int → R} (z : lett x k = some r) (hk : ∀ t, k t = some r → WLR P w0 m0 N rd nR ops (i + 1) Q (l.put (some d) (.int c t)) ds h) (h1 : dstR N ops i = some (some d) := by kernel_rfl) (h2 : wantAt ops l.get i = some true := by kernel_rfl) (h3 : opAt P l.eval ops i h = some (.val (.int c x), h) := by kernel_rfl) : WLR P w0 m0 N rd nR ops i Q l ds h := WLR.val h1 h2 h3 (hk x z)
theorem roN (d : Nat) {x : AHeap} {k : AHeap → R} (z : lett x k = some r) (hk : ∀ h', k h' = some r → WLR P w0 m0 N rd nR ops (i + 1) Q (l.put (some d) (newP h)) ds h') (h1 : dstR N ops i = some (some d) := by kernel_rfl) (h2 : wantAt ops l.get i = some true := by kernel_rfl) (h3 : opAt P l.eval ops i h = some (.val (newP h), x) := by kernel_rfl) : WLR P w0 m0 N rd nR ops i Q l ds h := WLR.val h1 h2 h3 (hk x z)
theorem roA (d : Nat) (v : AV) (hk : WLR P w0 m0 N rd nR ops (i + 1) Q (l.put (some d) v) ds h) (h1 : dstR N ops i = some (some d) := by kernel_rfl) (h2 : wantAt ops l.get i = some true := by kernel_rfl) (h3 : opAt P l.eval ops i h = some (.val v, h) := by kernel_rfl) : WLR P w0 m0 N rd nR ops i Q l ds h := WLR.val h1 h2 h3 hk
theorem roW (t : TypeId) (v : AV) {n : Nat} {cs : List AV} {p : AV} {k : AHeap → R} (z : obind (stRow h n cs p) k = some r) (hk : ∀ h', k h' = some r → WLR P w0 m0 N rd nR ops (i + 1) Q l ds h') (a0 : cs = v.cells := by kernel_rfl) (a1 : (P.info? t).isSome = true := by kernel_rfl) (a2 : P.cellsOf t = n := by kernel_rfl) (h1 : dstR N ops i = some none := by kernel_rfl) (h2 : wantAt ops l.get i = some true := by kernel_rfl) (h3 : opAt P l.eval ops i h = opStore P h t (some p) (some v) := by kernel_rfl) : WLR P w0 m0 N rd nR ops i Q l ds h := by
  obtain ⟨h', e, z1⟩ := obind_some z
  subst a0
  exact WLR.eff h1 h2 (h3.trans (store_row a1 a2 e)) (hk h' z1)
theorem roL (d t : Nat) {x : AV} {k : AV → R} (z : obind (ldCell h x) k = some r) (hk : ∀ v, k v = some r → WLR P w0 m0 N rd nR ops (i + 1) Q (l.put (some d) v) ds h) (a1 : aggO P t = some false := by kernel_rfl) (h1 : dstR N ops i = some (some d) := by kernel_rfl) (h2 : wantAt ops l.get i = some true := by kernel_rfl) (h3 : opAt P l.eval ops i h = opLoad P h t (some x) := by kernel_rfl) : WLR P w0 m0 N rd nR ops i Q l ds h := by
  obtain ⟨v, e, z1⟩ := obind_some z
  exact WLR.val h1 h2 (h3.trans (load_cell a1 e)) (hk v z1)
theorem roLi (d t : Nat) {c : IntKind} {x : AV} {k : Int → R} (z : (obind (ldCell h x) fun v => obind (avInt c v) k) = some r) (hk : ∀ v, k v = some r → WLR P w0 m0 N rd nR ops (i + 1) Q (l.put (some d) (.int c v)) ds h) (a1 : aggO P t = some false := by kernel_rfl) (h1 : dstR N ops i = some (some d) := by kernel_rfl) (h2 : wantAt ops l.get i = some true := by kernel_rfl) (h3 : opAt P l.eval ops i h = opLoad P h t (some x) := by kernel_rfl) : WLR P w0 m0 N rd nR ops i Q l ds h := by
  obtain ⟨v, e, z1⟩ := obind_some z
  obtain ⟨n, c1, z2⟩ := obind_some z1
  have c2 := avInt_some c1
  subst c2
  exact WLR.val h1 h2 (h3.trans (load_cell a1 e)) (hk n z2)
theorem roLb (d t : Nat) {x : AV} {k : Bool → R} (z : (obind (ldCell h x) fun v => obind (avBool v) k) = some r) (hk : ∀ v, k v = some r → WLR P w0 m0 N rd nR ops (i + 1) Q (l.put (some d) (.bool v)) ds h) (a1 : aggO P t = some false := by kernel_rfl) (h1 : dstR N ops i = some (some d) := by kernel_rfl) (h2 : wantAt ops l.get i = some true := by kernel_rfl) (h3 : opAt P l.eval ops i h = opLoad P h t (some x) := by kernel_rfl) : WLR P w0 m0 N rd nR ops i Q l ds h := by
  obtain ⟨v, e, z1⟩ := obind_some z
  obtain ⟨n, c1, z2⟩ := obind_some z1
  have c2 := avBool_some c1
  subst c2
  exact WLR.val h1 h2 (h3.trans (load_cell a1 e)) (hk n z2)
theorem roLs (d t : Nat) {x : AV} {k : Bytes → R} (z : (obind (ldCell h x) fun v => obind (avStr v) k) = some r) (hk : ∀ v, k v = some r → WLR P w0 m0 N rd nR ops (i + 1) Q (l.put (some d) (strA v)) ds h) (a1 : aggO P t = some false := by kernel_rfl) (h1 : dstR N ops i = some (some d) := by kernel_rfl) (h2 : wantAt ops l.get i = some true := by kernel_rfl) (h3 : opAt P l.eval ops i h = opLoad P h t (some x) := by kernel_rfl) : WLR P w0 m0 N rd nR ops i Q l ds h := by
  obtain ⟨v, e, z1⟩ := obind_some z
  obtain ⟨n, c1, z2⟩ := obind_some z1
  have c2 := avStr_some c1
  subst c2
  exact WLR.val h1 h2 (h3.trans (load_cell a1 e)) (hk n z2)
theorem roR (d t : Nat) {n : Nat} {x : AV} {k : List AV → R} (z : obind (ldRow h n x) k = some r) (hk : ∀ v, k v = some r → WLR P w0 m0 N rd nR ops (i + 1) Q (l.put (some d) (.agg v)) ds h) (a1 : aggO P t = some true := by kernel_rfl) (a2 : P.cellsOf t = n := by kernel_rfl) (h1 : dstR N ops i = some (some d) := by kernel_rfl) (h2 : wantAt ops l.get i = some true := by kernel_rfl) (h3 : opAt P l.eval ops i h = opLoad P h t (some x) := by kernel_rfl) : WLR P w0 m0 N rd nR ops i Q l ds h := by
  obtain ⟨v, e, z1⟩ := obind_some z
  exact WLR.val h1 h2 (h3.trans (load_row a1 a2 e)) (hk v z1)
theorem roF (d s f : Nat) {off : Nat} {x : AV} {k : AV → R} (z : obind (fldP off x) k = some r) (hk : ∀ v, k v = some r → WLR P w0 m0 N rd nR ops (i + 1) Q (l.put (some d) v) ds h) (a1 : (match P.underlying s with
    | some (.struct fs) => match fs[f]? with
      | some g => Nat.blt 0 (P.cellsOf g.type) && Nat.beq g.offset off
      | none => false
    | _ => false) = true := by kernel_rfl) (h1 : dstR N ops i = some (some d) := by kernel_rfl) (h2 : wantAt ops l.get i = some true := by kernel_rfl) (h3 : opAt P l.eval ops i h = opFieldAddr P h s f (some x) := by kernel_rfl) : WLR P w0 m0 N rd nR ops i Q l ds h := by
  obtain ⟨v, e, z1⟩ := obind_some z
  exact WLR.val h1 h2 (h3.trans (field_ptr a1 e)) (hk v z1)
theorem roX (d t : Nat) (c : IntKind) {s : Bytes} {j : Int} {k : Int → R} (z : obind (idxS s j) k = some r) (hk : ∀ v, k v = some r → WLR P w0 m0 N rd nR ops (i + 1) Q (l.put (some d) (.int .u8 v)) ds h) (a1 : P.underlying t = some .string := by kernel_rfl) (h1 : dstR N ops i = some (some d) := by kernel_rfl) (h2 : wantAt ops l.get i = some true := by kernel_rfl) (h3 : opAt P l.eval ops i h = opIndex P h t (some (strA s)) (some (.int c j)) := by kernel_rfl) : WLR P w0 m0 N rd nR ops i Q l ds h := by
  obtain ⟨v, e, z1⟩ := obind_some z
  exact WLR.val h1 h2 (h3.trans (index_str a1 e)) (hk v z1)
theorem roP (d t e' : Nat) (c : IntKind) {sz : Nat} {x : AV} {j : Int} {k : AV → R} (z : obind (idxP sz x j) k = some r) (hk : ∀ v, k v = some r → WLR P w0 m0 N rd nR ops (i + 1) Q (l.put (some d) v) ds h) (a1 : elemOf P t = some e' := by kernel_rfl) (a2 : (P.info? e').isSome = true := by kernel_rfl) (a3 : P.cellsOf e' = sz := by kernel_rfl) (h1 : dstR N ops i = some (some d) := by kernel_rfl) (h2 : wantAt ops l.get i = some true := by kernel_rfl) (h3 : opAt P l.eval ops i h = opIndexAddr P h t (some x) (some (.int c j)) := by kernel_rfl) : WLR P w0 m0 N rd nR ops i Q l ds h := by
  obtain ⟨v, e, z1⟩ := obind_some z
  exact WLR.val h1 h2 (h3.trans (index_row a1 a2 a3 e)) (hk v z1)
theorem roQ (d t e' : Nat) (c : IntKind) {n sz : Nat} {x : AV} {j : Int} {k : AV → R} (z : obind (idxA n sz x j) k = some r) (hk : ∀ v, k v = some r → WLR P w0 m0 N rd nR ops (i + 1) Q (l.put (some d) v) ds h) (a1 : P.underlying t = some (.array n e') := by kernel_rfl) (a2 : (P.info? e').isSome = true := by kernel_rfl) (a3 : P.cellsOf e' = sz := by kernel_rfl) (h1 : dstR N ops i = some (some d) := by kernel_rfl) (h2 : wantAt ops l.get i = some true := by kernel_rfl) (h3 : opAt P l.eval ops i h = opIndexAddr P h t (some x) (some (.int c j)) := by kernel_rfl) : WLR P w0 m0 N rd nR ops i Q l ds h := by
  obtain ⟨v, e, z1⟩ := obind_some z
  exact WLR.val h1 h2 (h3.trans (index_arr a1 a2 a3 e)) (hk v z1)
theorem roC0 (d : Nat) {x : AV} {k : AV → R} (z : obind (nilC x) k = some r) (hk : ∀ v, k v = some r → WLR P w0 m0 N rd nR ops (i + 1) Q (l.put (some d) v) ds h) (h1 : dstR N ops i = some (some d) := by kernel_rfl) (h2 : wantAt ops l.get i = some true := by kernel_rfl) (h3 : opAt P l.eval ops i h = opNil h (some x) := by kernel_rfl) : WLR P w0 m0 N rd nR ops i Q l ds h := by
  obtain ⟨v, e, z1⟩ := obind_some z
  exact WLR.val h1 h2 (h3.trans (nil_chk e)) (hk v z1)
theorem roM (d t e' : Nat) {x : AV} {k : Int → R} (z : obind (lenL x) k = some r) (hk : ∀ v, k v = some r → WLR P w0 m0 N rd nR ops (i + 1) Q (l.put (some d) (.int .i64 v)) ds h) (a1 : P.underlying t = some (.slice e') := by kernel_rfl) (h1 : dstR N ops i = some (some d) := by kernel_rfl) (h2 : wantAt ops l.get i = some true := by kernel_rfl) (h3 : opAt P l.eval ops i h = opLen P h t x := by kernel_rfl) : WLR P w0 m0 N rd nR ops i Q l ds h := by
  obtain ⟨v, e, z1⟩ := obind_some z
  exact WLR.val h1 h2 (h3.trans (len_row a1 e)) (hk v z1)
theorem roE (d : Nat) {j : Nat} {x : AV} {k : AV → R} (z : obind (extT j x) k = some r) (hk : ∀ v, k v = some r → WLR P w0 m0 N rd nR ops (i + 1) Q (l.put (some d) v) ds h) (h1 : dstR N ops i = some (some d) := by kernel_rfl) (h2 : wantAt ops l.get i = some true := by kernel_rfl) (h3 : opAt P l.eval ops i h = opExtract h j (some x) := by kernel_rfl) : WLR P w0 m0 N rd nR ops i Q l ds h := by
  obtain ⟨v, e, z1⟩ := obind_some z
  exact WLR.val h1 h2 (h3.trans (extract_tup e)) (hk v z1)
theorem roEi (d : Nat) {c : IntKind} {j : Nat} {x : AV} {k : Int → R} (z : (obind (extT j x) fun v => obind (avInt c v) k) = some r) (hk : ∀ v, k v = some r → WLR P w0 m0 N rd nR ops (i + 1) Q (l.put (some d) (.int c v)) ds h) (h1 : dstR N ops i = some (some d) := by kernel_rfl) (h2 : wantAt ops l.get i = some true := by kernel_rfl) (h3 : opAt P l.eval ops i h = opExtract h j (some x) := by kernel_rfl) : WLR P w0 m0 N rd nR ops i Q l ds h := by
  obtain ⟨v, e, z1⟩ := obind_some z
  obtain ⟨n, c1, z2⟩ := obind_some z1
  have c2 := avInt_some c1
  subst c2
  exact WLR.val h1 h2 (h3.trans (extract_tup e)) (hk n z2)
theorem roEb (d : Nat) {j : Nat} {x : AV} {k : Bool → R} (z : (obind (extT j x) fun v => obind (avBool v) k) = some r) (hk : ∀ v, k v = some r → WLR P w0 m0 N rd nR ops (i + 1) Q (l.put (some d) (.bool v)) ds h) (h1 : dstR N ops i = some (some d) := by kernel_rfl) (h2 : wantAt ops l.get i = some true := by kernel_rfl) (h3 : opAt P l.eval ops i h = opExtract h j (some x) := by kernel_rfl) : WLR P w0 m0 N rd nR ops i Q l ds h := by
  obtain ⟨v, e, z1⟩ := obind_some z
  obtain ⟨n, c1, z2⟩ := obind_some z1
  have c2 := avBool_some c1
  subst c2
  exact WLR.val h1 h2 (h3.trans (extract_tup e)) (hk n z2)
theorem roEs (d : Nat) {j : Nat} {x : AV} {k : Bytes → R} (z : (obind (extT j x) fun v => obind (avStr v) k) = some r) (hk : ∀ v, k v = some r → WLR P w0 m0 N rd nR ops (i + 1) Q (l.put (some d) (strA v)) ds h) (h1 : dstR N ops i = some (some d) := by kernel_rfl) (h2 : wantAt ops l.get i = some true := by kernel_rfl) (h3 : opAt P l.eval ops i h = opExtract h j (some x) := by kernel_rfl) : WLR P w0 m0 N rd nR ops i Q l ds h := by
  obtain ⟨v, e, z1⟩ := obind_some z
  obtain ⟨n, c1, z2⟩ := obind_some z1
  have c2 := avStr_some c1
  subst c2
  exact WLR.val h1 h2 (h3.trans (extract_tup e)) (hk n z2)
theorem roEa (d : Nat) {j : Nat} {x : AV} {k : List AV → R} (z : (obind (extT j x) fun v => obind (avAgg v) k) = some r) (hk : ∀ v, k v = some r → WLR P w0 m0 N rd nR ops (i + 1) Q (l.put (some d) (.agg v)) ds h) (h1 : dstR N ops i = some (some d) := by kernel_rfl) (h2 : wantAt ops l.get i = some true := by kernel_rfl) (h3 : opAt P l.eval ops i h = opExtract h j (some x) := by kernel_rfl) : WLR P w0 m0 N rd nR ops i Q l ds h := by
  obtain ⟨v, e, z1⟩ := obind_some z
  obtain ⟨n, c1, z2⟩ := obind_some z1
  have c2 := avAgg_some c1
  subst c2
  exact WLR.val h1 h2 (h3.trans (extract_tup e)) (hk n z2)
theorem roC (hc : SaysAll P call) (d : Option Nat) {f : FuncId} {args : List AV} {h1 : AHeap} {k : AV → AHeap → R} (z : callN (call f args h1) k = some r) (hk : ∀ v h', k v h' = some r → WLR P w0 m0 N rd nR ops (i + 1) Q (l.put d v) ds h') (b1 : dstR N ops i = some d := by kernel_rfl) (b2 : wantAt ops l.get i = some true := by kernel_rfl) (b3 : opAt P l.eval ops i h = some (.call f args, h1) := by kernel_rfl) : WLR P w0 m0 N rd nR ops i Q l ds h := by
  obtain ⟨v, h', e, z1⟩ := callN_some z
  exact WLR.call (hc.ok w0) b1 b2 b3 e (hk v h' z1)
theorem roCi (hc : SaysAll P call) (d : Nat) {c : IntKind} {f : FuncId} {args : List AV} {h1 : AHeap} {k : Int → AHeap → R} (z : (callN (call f args h1) fun v h' => obind (avInt c v) fun n => k n h') = some r) (hk : ∀ v h', k v h' = some r → WLR P w0 m0 N rd nR ops (i + 1) Q (l.put (some d) (.int c v)) ds h') (b1 : dstR N ops i = some (some d) := by kernel_rfl) (b2 : wantAt ops l.get i = some true := by kernel_rfl) (b3 : opAt P l.eval ops i h = some (.call f args, h1) := by kernel_rfl) : WLR P w0 m0 N rd nR ops i Q l ds h := by
  obtain ⟨v, h', e, z1⟩ := callN_some z
  obtain ⟨n, c1, z2⟩ := obind_some z1
  have c2 := avInt_some c1
  subst c2
  exact WLR.call (hc.ok w0) b1 b2 b3 e (hk n h' z2)
theorem roCb (hc : SaysAll P call) (d : Nat) {f : FuncId} {args : List AV} {h1 : AHeap} {k : Bool → AHeap → R} (z : (callN (call f args h1) fun v h' => obind (avBool v) fun n => k n h') = some r) (hk : ∀ v h', k v h' = some r → WLR P w0 m0 N rd nR ops (i + 1) Q (l.put (some d) (.bool v)) ds h') (b1 : dstR N ops i = some (some d) := by kernel_rfl) (b2 : wantAt ops l.get i = some true := by kernel_rfl) (b3 : opAt P l.eval ops i h = some (.call f args, h1) := by kernel_rfl) : WLR P w0 m0 N rd nR ops i Q l ds h := by
  obtain ⟨v, h', e, z1⟩ := callN_some z
  obtain ⟨n, c1, z2⟩ := obind_some z1
  have c2 := avBool_some c1
  subst c2
  exact WLR.call (hc.ok w0) b1 b2 b3 e (hk n h' z2)
theorem roCs (hc : SaysAll P call) (d : Nat) {f : FuncId} {args : List AV} {h1 : AHeap} {k : Bytes → AHeap → R} (z : (callN (call f args h1) fun v h' => obind (avStr v) fun n => k n h') = some r) (hk : ∀ v h', k v h' = some r → WLR P w0 m0 N rd nR ops (i + 1) Q (l.put (some d) (strA v)) ds h') (b1 : dstR N ops i = some (some d) := by kernel_rfl) (b2 : wantAt ops l.get i = some true := by kernel_rfl) (b3 : opAt P l.eval ops i h = some (.call f args, h1) := by kernel_rfl) : WLR P w0 m0 N rd nR ops i Q l ds h := by
  obtain ⟨v, h', e, z1⟩ := callN_some z
  obtain ⟨n, c1, z2⟩ := obind_some z1
  have c2 := avStr_some c1
  subst c2
  exact WLR.call (hc.ok w0) b1 b2 b3 e (hk n h' z2)
theorem roCa (hc : SaysAll P call) (d : Nat) {f : FuncId} {args : List AV} {h1 : AHeap} {k : List AV → AHeap → R} (z : (callN (call f args h1) fun v h' => obind (avAgg v) fun n => k n h') = some r) (hk : ∀ v h', k v h' = some r → WLR P w0 m0 N rd nR ops (i + 1) Q (l.put (some d) (.agg v)) ds h') (b1 : dstR N ops i = some (some d) := by kernel_rfl) (b2 : wantAt ops l.get i = some true := by kernel_rfl) (b3 : opAt P l.eval ops i h = some (.call f args, h1) := by kernel_rfl) : WLR P w0 m0 N rd nR ops i Q l ds h := by
  obtain ⟨v, h', e, z1⟩ := callN_some z
  obtain ⟨n, c1, z2⟩ := obind_some z1
  have c2 := avAgg_some c1
  subst c2
  exact WLR.call (hc.ok w0) b1 b2 b3 e (hk n h' z2)
theorem roK (d : Nat) {x : OutT} {k : AV → AHeap → R} (z : outK x k = some r) (hk : ∀ v h', k v h' = some r → WLR P w0 m0 N rd nR ops (i + 1) Q (l.put (some d) v) ds h') (b1 : dstR N ops i = some (some d) := by kernel_rfl) (b2 : wantAt ops l.get i = some true := by kernel_rfl) (b3 : opAt P l.eval ops i h = x := by kernel_rfl) : WLR P w0 m0 N rd nR ops i Q l ds h := by
  obtain ⟨v, h', e, z1⟩ := outK_some z
  exact WLR.val b1 b2 (b3.trans e) (hk v h' z1)
theorem roT {c : Code} {a b : R} (z : ifB true a b = some r) (hk : a = some r → WR P w0 m0 N rd nR (Code.p1 c) Q l ds h) (hc : Code.kind c = 2 := by kernel_rfl) (hv : l.eval (Code.opd c) = some (.bool true) := by kernel_rfl) : WR P w0 m0 N rd nR c Q l ds h := WR.cond_true hc hv (hk z)
theorem roU {c : Code} {a b : R} (z : ifB false a b = some r) (hk : b = some r → WR P w0 m0 N rd nR (Code.p2 c) Q l ds h) (hc : Code.kind c = 2 := by kernel_rfl) (hv : l.eval (Code.opd c) = some (.bool false) := by kernel_rfl) : WR P w0 m0 N rd nR c Q l ds h := WR.cond_false hc hv (hk z)
theorem roG {c : Code} (hk : ∀ {K : Exit → Act → World → Prop}, (∀ {ds : DefT} {l : Fr} {h : AHeap}, WR P w0 m0 N rd nR (Code.p2 c) Q l ds h → Go w0 m0 N (K .normal) l ds h) → WR P w0 m0 N rd nR (Code.p1 c) K l ds h) (hc : Code.kind c = 1 := by kernel_rfl) : WR P w0 m0 N rd nR c Q l ds h := WR.seqK hc fun _ n _ _ _ => hk n
theorem roH {c : Code} (hk : ∀ {K : Exit → Act → World → Prop}, (∀ {ds : DefT} {l : Fr} {h : AHeap}, WR P w0 m0 N rd nR (Code.p2 c) Q l ds h → Go w0 m0 N (K .normal) l ds h) → (∀ {ds : DefT} {l : Fr} {h : AHeap}, Go w0 m0 N (Q .ret) l ds h → Go w0 m0 N (K .ret) l ds h) → WR P w0 m0 N rd nR (Code.p1 c) K l ds h) (hc : Code.kind c = 1 := by kernel_rfl) : WR P w0 m0 N rd nR c Q l ds h := WR.seqK hc fun _ n _ q _ => hk n q
theorem roJ {c : Code} (hk : ∀ {K : Exit → Act → World → Prop}, (∀ {ds : DefT} {l : Fr} {h : AHeap}, WR P w0 m0 N rd nR (Code.p2 c) Q l ds h → Go w0 m0 N (K .normal) l ds h) → (∀ {ds : DefT} {l : Fr} {v : AV} {h : AHeap}, Pan w0 m0 N Q l ds v h → Pan w0 m0 N K l ds v h) → WR P w0 m0 N rd nR (Code.p1 c) K l ds h) (hc : Code.kind c = 1 := by kernel_rfl) : WR P w0 m0 N rd nR c Q l ds h := WR.seqK hc fun _ n _ _ p => hk n p
theorem roY {c : Code} (hk : Go w0 m0 N (Q .ret) l ds h) (hc : Code.kind c = 6 := by kernel_rfl) : WR P w0 m0 N rd nR c Q l ds h := WR.ret hc hk
theorem roZ {c : Code} (hk : Go w0 m0 N (Q .normal) l ds h) (hc : Code.kind c = 0 := by kernel_rfl) : WR P w0 m0 N rd nR c Q l ds h := WR.skip hc hk
theorem roV (l' : Fr) (hk : Go w0 m0 N (Q .normal) l' ds h) (hs : l'.map (fun p => l.get p.1) = l'.map (fun p => some p.2) := by kernel_rfl) (hi : Nat.beq ops.size i = true := by kernel_rfl) : WLR P w0 m0 N rd nR ops i Q l ds h := WLR.nil hi (Go.weaken (sub_of hs) hk)
theorem rwW {c : Code} (l' : Fr) (hk : WR P w0 m0 N rd nR c Q l' ds h) (hs : l'.map (fun p => l.get p.1) = l'.map (fun p => some p.2) := by kernel_rfl) : WR P w0 m0 N rd nR c Q l ds h := WR.weaken (sub_of hs) hk
theorem rlW (l' : Fr) (hk : WLR P w0 m0 N rd nR ops i Q l' ds h) (hs : l'.map (fun p => l.get p.1) = l'.map (fun p => some p.2) := by kernel_rfl) : WLR P w0 m0 N rd nR ops i Q l ds h := WLR.weaken (sub_of hs) hk
theorem roCK (hc : SaysAll P call) (d : Option Nat) {f : FuncId} {args : List AV} {h1 : AHeap} {k : AV → AHeap → R} (z : callK (call f args h1) k = some r) (hp : ∀ {v : AV} {h' : AHeap}, r = (.panic v, h') → Pan w0 m0 N Q l ds v h') (hk : ∀ v h', k v h' = some r → WLR P w0 m0 N rd nR ops (i + 1) Q (l.put d v) ds h') (b1 : dstR N ops i = some d := by kernel_rfl) (b2 : wantAt ops l.get i = some true := by kernel_rfl) (b3 : opAt P l.eval ops i h = some (.call f args, h1) := by kernel_rfl) : WLR P w0 m0 N rd nR ops i Q l ds h := by
  rcases callK_some z with ⟨v, h', e, z1⟩ | ⟨v, h', e, q⟩
  · exact WLR.call (hc.ok w0) b1 b2 b3 e (hk v h' z1)
  · exact WLR.callPanic (hc.ok w0) b1 b2 b3 e (hp q)
end
end
end Go.Proofs.Ytikaeeaepnflnaa.Abs
