/- Loops over functions in hand proofs: a round, what an iterator calls, the marks at the end. -/
import Derived.Test.YtikaeeaepnflnaaAbs59
namespace Go.Proofs.Ytikaeeaepnflnaa.Abs
noncomputable section
open Go.RowKit
section
variable {P : Program} {both : BothF} {sites : List LSite} {s : LSite} {b N D : Nat} {c : Code} {t0 : T AV} {h : AHeap} {args vs : List AV} {j : AJump} {st : LoopState} {Q : ARes → AHeap → Prop}
theorem dynB_yld (hb : h.get b = some (recQ st j N c t0 D)) (hl : Nat.beq args.length (Code.rgp c).size = true) : dynB P both (.yld b) args h = both true b args h := by
  have e : callV P h args (some (.yld b)) = some (.round b args, h) := by
    show yieldV h args b = _
    unfold yieldV
    rw [hb]
    unfold recQ
    simp only [hl, if_true]
  unfold dynB
  rw [e]
theorem Wp.marks0 {k : AHeap → R} (hk : Wp (k h) Q) : Wp (marksK [] h k) Q := hk
theorem Wp.marks1 {k : AHeap → R} {ds : DefT} (hD : h.get D = some (.obj .dfr)) (hk : Wp (marksK ds (h.put D (.obj .shut)) k) Q) : Wp (marksK (dmark D :: ds) h k) Q := by
  unfold marksK at hk ⊢
  have e : marksH (dmark D :: ds) h = marksH ds (h.put D (.obj .shut)) := by
    show (match h.get D with
      | some (.obj .dfr) => marksH ds (h.put D (.obj .shut))
      | _ => none) = _
    rw [hD]
  rw [e]
  exact hk
/-- a round, from what its two codes come to -/
theorem round_W {G : Int → AHeap → Prop} (hb : h.get b = some (recQ .ready j N c t0 D)) (hs : ∀ st jj, lsite sites ⟨st, jj, t0, N, Code.rgp c, Code.r1 c, Code.r2 c, D⟩ = some s) (hg : ((putPs N (Code.rgp c).toList args t0).bind fun t => slotsC t s.sa) = some vs)
    (ea : Wp (s.fa both vs h) fun r h1 => ∃ ws, r = .ret (.tup ws) ∧ h1.get b = h.get b ∧ slotsC (Fr.tree (s.ts.zip ws)) s.ts = some ws ∧
      Wp (s.fb both ws (h1.put b (recQ .busy j N c t0 D))) fun r2 h2 => ∃ z, r2 = .ret (.int .i64 z) ∧ h2.get b = some (recQ .busy j N c t0 D) ∧ G z (h2.put b (recQ (stZ (jumpZ z)) (jumpZ z) N c t0 D))) :
    ∃ z h', roundL sites both b args h = some (.ret (.bool (jumpZ z).isNone), h') ∧ G z h' := by
  obtain ⟨t, hp, hg⟩ := Option.bind_eq_some_iff.1 hg
  obtain ⟨_, h1, e1, ws, rfl, k1, g2, _, h2, e2, z, rfl, k2, hG⟩ := ea
  exact ⟨z, _, round_L hb hs hp hg e1 k1 g2 e2 k2, hG⟩
end
section
variable {P : Program} {both : BothF} {N : Nat} {c : Code} {t : T AV} {ds : DefT} {h h2 : AHeap} {kn kr : AHeap → R} {ke : Nat → AHeap → R} {Q : ARes → AHeap → Prop} {g : FuncId} {first cap : List AV} {v : AV} {st : LoopState} {j : AJump}
/-- a loop over a function: what its iterator leaves says how it goes on -/
theorem Wp.rng (hb : hasBody P g = true) (e : both false g (first ++ [.yld (h.next + 1)] ++ cap) (rngH N c t h) = some (.ret v, h2)) (hq : h2.get (h.next + 1) = some (recQ st j N c t h.next)) (hs : st ≠ .busy)
    (hn : j = .none → Wp (kn (h2.put (h.next + 1) (recQ .exhausted j N c t h.next))) Q) (hr : j = .ret → Wp (kr (h2.put (h.next + 1) (recQ .exhausted j N c t h.next))) Q) (he : ∀ id, j = .exit id → Wp (ke id (h2.put (h.next + 1) (recQ .exhausted j N c t h.next))) Q) : Wp (rngK (rngX P both N (.fn g first cap) c t ds h) kn kr ke) Q := by
  cases j with
  | none => exact Wp.rngN hb e hq hs rfl (hn rfl)
  | ret => exact Wp.rngR hb e hq hs rfl (hr rfl)
  | exit id => exact Wp.rngE hb e hq hs rfl (he id rfl)
end
theorem Wp.lettG {α : Type} {a : α} {K : α → R} {Q : ARes → AHeap → Prop} (hk : ∀ x, x = a → Wp (K x) Q) : Wp (Abs.lett a K) Q := hk a rfl
theorem jumpZ_0 : jumpZ 0 = .none := rfl
theorem jumpZ_1 : jumpZ 1 = .ret := rfl
theorem jumpZ_id (k : Nat) : jumpZ ((k : Int) + 2) = .exit k := by
  have h : decE (.ret (.int .i64 ((k : Int) + 2))) = .exit k := by
    show (match ((k + 2 : Nat) : Int) with
      | 0 => AExit.normal
      | 1 => .ret
      | z => .exit (z - 2).toNat) = _
    split
    · rename_i e
      omega
    · rename_i e
      omega
    · congr 1
      omega
  unfold jumpZ
  rw [h]
end
end Go.Proofs.Ytikaeeaepnflnaa.Abs
