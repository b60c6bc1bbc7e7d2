/- A long text of zeros in one step: a row of zero bytes is made and turned into a text; nobody looks at the row again. -/
import Derived.Test.YtpnccmlajhhpdaaAbs42
namespace Go.Proofs.Ytpnccmlajhhpdaa.Abs
noncomputable section
open Go.RowKit

def zConv (P : Program) (ops : Array Oper) (a : AAct) (nx n : Nat) (o : Oper) : Option AAct :=
  match wantedT ops a.tmps.get o.guard, o.op with
  | some true, .convert s d x => match a.eval x with
    | some (.sl b 0 k 1) => match Nat.beq b nx && Nat.beq k n with
      | true => match P.underlying d, P.underlying s with
        | some .string, some (.slice e) => match P.underlying e with
          | some (.int .u8) => some (a.put o.dst (.str n 0))
          | _ => none
        | _, _ => none
      | false => none
    | _ => none
  | _, _ => none
def zTwo (P : Program) (ops : Array Oper) (a : AAct) (h : AHeap) (o o2 : Oper) : Option AAct :=
  match wantedT ops a.tmps.get o.guard, o.op with
  | some true, .makeSlice t l c => match a.eval l, a.eval c with
    | some (.int _ (.ofNat n)), some (.int _ (.ofNat m)) => match elemOf P t with
      | some e => match zeroA P e with
        | some (.int .u8 (.ofNat 0)) => match Nat.ble n m && bytesFit P e m && (memB e h.ex == false) && Nat.beq (P.cellsOf e) 1 with
          | true => zConv P ops (a.put o.dst (.sl h.next 0 n 1)) h.next n o2
          | false => none
        | _ => none
      | none => none
    | _, _ => none
  | _, _ => none
def zStep (P : Program) (S : MS) : Option MS := match S.top.k with
  | .ops p j :: k => match okOps S.top.N (opsIn (codeAt (bodyAt P S.top.f) p)).toList && noDeferL (((opsIn (codeAt (bodyAt P S.top.f) p)).toList.drop j).take 2) with
    | true => match (opsIn (codeAt (bodyAt P S.top.f) p)).toList.drop j with
      | o :: o2 :: _ => match zTwo P (opsIn (codeAt (bodyAt P S.top.f) p)) S.top.a S.h o o2 with
        | some a => some ⟨{ S.top with a := a, k := .ops p (j + 2) :: k }, S.st, ⟨S.h.next + 1, S.h.ex, S.h.tree⟩⟩
        | none => none
      | _ => none
    | false => none
  | _ => none
/-- a piece that is this step alone -/
def zPiece (P : Program) (A B : LS) : Bool := match zStep P A.ms with
  | some S => (A.ms.h.get A.ms.h.next).isNone && covers S B
  | none => false

theorem take_rep {α : Type} {t : T α} {x : α} : ∀ (n i : Nat), (∀ k, k < n → t.get (i + k) = some x) → t.take i n = some (List.replicate n x)
  | 0, _, _ => rfl
  | n + 1, i, h => by
    have h0 := h 0 (by omega)
    rw [Nat.add_zero] at h0
    have h1 := take_rep n (i + 1) (fun k hk => by rw [show i + 1 + k = i + (k + 1) by omega]; exact h (k + 1) (by omega))
    simp only [T.take, h0, h1, List.replicate_succ]
theorem bytesA_rep : ∀ n : Nat, bytesA (List.replicate n (.int .u8 (.ofNat 0))) = some (n, 0)
  | 0 => rfl
  | n + 1 => by
    have h := bytesA_rep n
    simp only [List.replicate_succ, bytesA, h]
    rfl
theorem zConv_eq {P : Program} {ops : Array Oper} {a a' : AAct} {h : AHeap} {e0 : TypeId} {m n : Nat} {o : Oper} (hnm : n ≤ m) (hz : zConv P ops a h.next n o = some a') :
    ∀ both, stepR P both ops o a (h.new (rowOf (List.replicate m (.int .u8 (.ofNat 0))) e0)) = some (.go a' (h.new (rowOf (List.replicate m (.int .u8 (.ofNat 0))) e0))) := by
  intro both
  unfold zConv at hz
  split at hz
  · rename_i s d x hw ho
    split at hz
    · rename_i b k hx
      split at hz
      · rename_i hbk
        rw [Bool.and_eq_true] at hbk
        have hb := Nat.eq_of_beq_eq_true hbk.1
        have hk := Nat.eq_of_beq_eq_true hbk.2
        subst hb hk
        split at hz
        · rename_i e hd hs
          split at hz
          · rename_i he
            simp only [Option.some.injEq] at hz
            subst hz
            have hg : rowGet (h.new (rowOf (List.replicate m (.int .u8 (.ofNat 0))) e0)) h.next 0 k = some (List.replicate k (.int .u8 (.ofNat 0))) := by
              have h1 : (h.new (rowOf (List.replicate m (AV.int .u8 (.ofNat 0))) e0)).get h.next = some (rowOf (List.replicate m (.int .u8 (.ofNat 0))) e0) := T.get_set_same _ _ _
              unfold rowGet
              rw [h1]
              show (T.put .e 0 _).take 0 k = _
              refine take_rep k 0 fun i hi => ?_
              rw [rowOf_get, Nat.zero_add, List.getElem?_replicate, if_pos (by omega)]
            unfold stepR
            rw [hw]
            unfold opA
            rw [ho]
            show stepOutR both a o.dst (opConv P _ s d (a.eval x)) = _
            rw [hx]
            show stepOutR both a o.dst (if (1 : Nat) = 1 then convBytes P _ s d (rowGet _ h.next 0 k) else none) = _
            rw [if_pos rfl, hg]
            unfold convBytes
            simp only [hd, hs, he, bytesA_rep]
            rfl
          · cases hz
        · cases hz
      · cases hz
    · cases hz
  · cases hz
theorem zTwo_eq {P : Program} {ops : Array Oper} {a a' : AAct} {h : AHeap} {o o2 : Oper} (hz : zTwo P ops a h o o2 = some a') :
    ∃ l e, ∀ both, opsR P both ops [o, o2] a h = some (.normal, a', h.new (rowOf l e)) := by
  unfold zTwo at hz
  split at hz
  · rename_i t l c hw ho
    split at hz
    · rename_i k1 n k2 m hl hc
      split at hz
      · rename_i e he
        split at hz
        · rename_i hze
          split at hz
          · rename_i hk
            simp only [Bool.and_eq_true, beq_iff_eq] at hk
            have hnm := Nat.le_of_ble_eq_true hk.1.1.1
            have hce := Nat.eq_of_beq_eq_true hk.2
            refine ⟨List.replicate m (.int .u8 (.ofNat 0)), e, fun both => ?_⟩
            have h1 : stepR P both ops o a h = some (.go (a.put o.dst (.sl h.next 0 n 1)) (h.new (rowOf (List.replicate m (.int .u8 (.ofNat 0))) e))) := by
              unfold stepR
              rw [hw]
              unfold opA
              rw [ho]
              show stepOutR both a o.dst (opMakeSlice P h t (a.eval l) (a.eval c)) = _
              rw [hl, hc]
              unfold opMakeSlice
              simp only [he, hze]
              rw [if_pos ⟨hk.1.1.1, hk.1.1.2⟩]
              have hf : (List.replicate m (AV.int .u8 (.ofNat 0)).cells).flatten = List.replicate m (.int .u8 (.ofNat 0)) := by
                show (List.replicate m [AV.int .u8 (.ofNat 0)]).flatten = _
                induction m with
                | zero => rfl
                | succ m ih => simp [List.replicate_succ]
              rw [hf]
              unfold outNewS
              rw [if_pos ⟨by rw [List.all_eq_true]; intro x hx; rw [List.eq_of_mem_replicate hx]; rfl, hk.1.2⟩, hce]
              rfl
            have h2 := zConv_eq (e0 := e) hnm hz both
            show aNext (fun a h => aNext (fun a h => some (.normal, a, h)) a (stepR P both ops o2 a h)) a (stepR P both ops o a h) = _
            rw [h1]
            show aNext (fun a h => some (.normal, a, h)) _ (stepR P both ops o2 _ _) = _
            rw [h2]
            rfl
          · cases hz
        · cases hz
      · cases hz
    · cases hz
  · cases hz
theorem subO_refl : ∀ {l : List (Nat × LO)} {b : Nat} {o : AObj}, (obTree l).get b = some o → SubO o o
  | [], b, o, h => by
    have h : (T.e : T AObj).get b = some o := h
    rw [T.get_e] at h; cases h
  | (c, q) :: l, b, o, h => by
    unfold obTree at h
    by_cases e : c = b
    · subst e
      rw [T.get_set_same] at h
      simp only [Option.some.injEq] at h; subst h
      cases q with
      | row l e => exact ⟨_, rfl, fun i hi => by rw [rowOf_get, List.getElem?_eq_none hi], fun _ _ => rfl⟩
      | map es => exact rfl
      | glob l => exact ⟨_, rfl, fun _ _ h => h⟩
      | dfr => exact ⟨rfl, rfl⟩
    · rw [T.get_set_other _ _ e] at h
      exact subO_refl h
section
variable {P : Program} {w0 : Base} {R0 : Ending → World → Prop} {both : BothF}
theorem zPiece_ok (hm : P.follows .mixedOrders = true) (hb : BothOK P w0 both) {A B : LS} (h : zPiece P A B = true) (hB : RunsM P w0 R0 B.ms) : RunsM P w0 R0 A.ms := by
  unfold zPiece at h
  split at h
  · rename_i S hS
    rw [Bool.and_eq_true] at h
    have hR := covers_ok h.2 hB
    unfold zStep at hS
    split at hS
    · rename_i p j k hk
      split at hS
      · rename_i hok
        split at hS
        · rename_i o o2 rest hd
          split at hS
          · rename_i a ha
            simp only [Option.some.injEq] at hS
            obtain ⟨l, e, he⟩ := zTwo_eq ha
            have h2 : stepM P both 0 A.ms (.ops 2) = some ⟨{ A.ms.top with a := a, k := .ops p (j + 2) :: k }, A.ms.st, A.ms.h.new (rowOf l e)⟩ := by
              rw [hd, List.take_succ_cons, List.take_succ_cons, List.take_zero] at hok
              unfold stepM
              simp only [hk, hd, List.take_succ_cons, List.take_zero, hok, he both]
            refine stepM_ok hm hb h2 ?_
            subst hS
            intro m acts act w hst hra F
            refine hR m acts act w hst hra (F.sub rfl rfl fun b q hq => ?_)
            have hq : A.ms.h.get b = some q := hq
            have hne : A.ms.h.next ≠ b := fun e => by
              rw [e, hq] at h
              exact absurd h.1 (by simp)
            refine ⟨q, ?_, subO_refl hq⟩
            show (A.ms.h.tree.set A.ms.h.next _).get b = _
            rw [T.get_set_other _ _ hne]
            exact hq
          · cases hS
        · cases hS
      · cases hS
    · cases hS
  · cases h
end
end
end Go.Proofs.Ytpnccmlajhhpdaa.Abs
