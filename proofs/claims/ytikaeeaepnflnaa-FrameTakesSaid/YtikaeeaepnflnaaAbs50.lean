/- Short forms of the rules, for texts written by program. -/
import Derived.Test.YtikaeeaepnflnaaAbs36
namespace Go.Proofs.Ytikaeeaepnflnaa.Abs
noncomputable section
open Go.RowKit
section
variable {P : Program} {w0 : Base} {m0 : Map} {N : Nat} {l l' : Fr} {ds : DefT} {h : AHeap} {Q : Exit → Act → World → Prop} {K : Act → World → Prop} {Y : OutT} {ops : Array Oper} {i : Nat}
theorem WL.a (d : Option Nat) (v : AV) (h' : AHeap) (hk : WL P w0 m0 N ops (i + 1) Q (l.put d v) ds h') (h1 : dstN N ops i = some d := by kernel_rfl) (h2 : wantAt ops l.get i = some true := by kernel_rfl) (h3 : opAt P l.eval ops i h = some (.val v, h') := by kernel_rfl) : WL P w0 m0 N ops i Q l ds h := WL.val h1 h2 h3 hk
theorem WL.b (d : Option Nat) (v : AV) (h' : AHeap) (x : Y = some (.val v, h')) (hk : WL P w0 m0 N ops (i + 1) Q (l.put d v) ds h') (h1 : dstN N ops i = some d := by kernel_rfl) (h2 : wantAt ops l.get i = some true := by kernel_rfl) (h3 : opAt P l.eval ops i h = Y := by kernel_rfl) : WL P w0 m0 N ops i Q l ds h := WL.val h1 h2 (h3.trans x) hk
theorem WL.e (h' : AHeap) (x : Y = some (.skip, h')) (hk : WL P w0 m0 N ops (i + 1) Q l ds h') (h1 : dstN N ops i = some none := by kernel_rfl) (h2 : wantAt ops l.get i = some true := by kernel_rfl) (h3 : opAt P l.eval ops i h = Y := by kernel_rfl) : WL P w0 m0 N ops i Q l ds h := WL.eff h1 h2 (h3.trans x) hk
theorem WL.o (d : Option Nat) (hk : WL P w0 m0 N ops (i + 1) Q (l.put d (.tup [])) ds h) (h1 : dstN N ops i = some d := by kernel_rfl) (h2 : wantAt ops l.get i = some false := by kernel_rfl) : WL P w0 m0 N ops i Q l ds h := WL.not h1 h2 hk
theorem WL.c {call : CallF} (hc : CallOK P w0 call) (d : Option Nat) {f : FuncId} {args : List AV} {v : AV} {h1 h' : AHeap} (hcall : call f args h1 = some (.ret v, h')) (hk : WL P w0 m0 N ops (i + 1) Q (l.put d v) ds h') (h2 : dstN N ops i = some d := by kernel_rfl) (h3 : wantAt ops l.get i = some true := by kernel_rfl) (h4 : opAt P l.eval ops i h = some (.call f args, h1) := by kernel_rfl) : WL P w0 m0 N ops i Q l ds h := WL.call hc h2 h3 h4 hcall hk
theorem WL.n (hk : Go w0 m0 N (Q .normal) l ds h) (hi : Nat.beq ops.size i = true := by kernel_rfl) : WL P w0 m0 N ops i Q l ds h := WL.nil hi hk
theorem WD.a {call : CallF} {plan : List Nat} {rs : List Rec} (k : Nat) (d : Option Nat) (v : AV) (h' : AHeap) (hk : WD P w0 m0 N call ops plan (recsD k (recAt P ops i l h) rs) K (l.put d v) ds h') (h1 : dstN N ops i = some d := by kernel_rfl) (h2 : wantAt ops l.get i = some true := by kernel_rfl) (h3 : opAt P l.eval ops i h = some (.val v, h') := by kernel_rfl)
    (h4 : kindD P ops i = k := by kernel_rfl) (h5 : Nat.beq k 2 = false := by kernel_rfl) (h6 : Nat.beq k 9 = false := by kernel_rfl) : WD P w0 m0 N call ops (i :: plan) rs K l ds h :=
  WD.val h1 h2 h3 h4 (fun e => by subst e; cases h5) (fun e => by subst e; cases h6) hk
theorem WD.b {call : CallF} {plan : List Nat} {rs : List Rec} (k : Nat) (d : Option Nat) (v : AV) (h' : AHeap) (x : Y = some (.val v, h')) (hk : WD P w0 m0 N call ops plan (recsD k (recAt P ops i l h) rs) K (l.put d v) ds h') (h1 : dstN N ops i = some d := by kernel_rfl) (h2 : wantAt ops l.get i = some true := by kernel_rfl) (h3 : opAt P l.eval ops i h = Y := by kernel_rfl)
    (h4 : kindD P ops i = k := by kernel_rfl) (h5 : Nat.beq k 2 = false := by kernel_rfl) (h6 : Nat.beq k 9 = false := by kernel_rfl) : WD P w0 m0 N call ops (i :: plan) rs K l ds h :=
  WD.val h1 h2 (h3.trans x) h4 (fun e => by subst e; cases h5) (fun e => by subst e; cases h6) hk
theorem W.r {c : Code} (hk : WL P w0 m0 N (Code.ops c) 0 Q l ds h) (hc : Code.kind c = 7 := by kernel_rfl) : W P w0 m0 N c Q l ds h := W.region hc hk
theorem W.s {c : Code} (hk : ∀ K : Exit → Act → World → Prop, (∀ {ds : DefT} {l : Fr} {h : AHeap}, W P w0 m0 N (Code.p2 c) Q l ds h → Go w0 m0 N (K .normal) l ds h) →
    (∀ {id : Nat} {ds : DefT} {l : Fr} {h : AHeap}, Go w0 m0 N (Q (.exit id)) l ds h → Go w0 m0 N (K (.exit id)) l ds h) → (∀ {ds : DefT} {l : Fr} {h : AHeap}, Go w0 m0 N (Q .ret) l ds h → Go w0 m0 N (K .ret) l ds h) →
    (∀ {ds : DefT} {l : Fr} {v : AV} {h : AHeap}, Pan w0 m0 N Q l ds v h → Pan w0 m0 N K l ds v h) → W P w0 m0 N (Code.p1 c) K l ds h) (hc : Code.kind c = 1 := by kernel_rfl) : W P w0 m0 N c Q l ds h := W.seqK hc hk
theorem W.t {c : Code} (hk : W P w0 m0 N (Code.p1 c) Q l ds h) (hc : Code.kind c = 2 := by kernel_rfl) (hv : l.eval (Code.opd c) = some (.bool true) := by kernel_rfl) : W P w0 m0 N c Q l ds h := W.cond_true hc hv hk
theorem W.f {c : Code} (hk : W P w0 m0 N (Code.p2 c) Q l ds h) (hc : Code.kind c = 2 := by kernel_rfl) (hv : l.eval (Code.opd c) = some (.bool false) := by kernel_rfl) : W P w0 m0 N c Q l ds h := W.cond_false hc hv hk
end
theorem Fr.c {l l' : Fr} {t : Nat} {v : AV} (k : l.sub l') (h : l.get t = some v := by kernel_rfl) : l.sub ((t, v) :: l') := Fr.sub_cons h k
theorem Fr.n {l : Fr} : l.sub [] := Fr.sub_nil l
end
end Go.Proofs.Ytikaeeaepnflnaa.Abs
