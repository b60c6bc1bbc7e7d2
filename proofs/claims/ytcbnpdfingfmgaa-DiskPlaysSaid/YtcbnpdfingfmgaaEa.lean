/- The disk: contents of files, changes. -/
import Derived.Test.YtcbnpdfingfmgaaWw
import Derived.Test.YtcbnpdfingfmgaaAbs52
import Derived.Test.YtcbnpdfingfmgaaAbs53
import Derived.Test.YtcbnpdfingfmgaaAbs54
namespace Go.Proofs.Ytcbnpdfingfmgaa
open Go.RowKit Abs
abbrev TBy : Nat := 49
abbrev TChg : Nat := 61
abbrev TChgs : Nat := 52
abbrev TDisk : Nat := 57
/-- is it there, its bytes -/
structure Cont where
  th : Bool
  u : Bytes
/-- 0: it grows by s, 1: it is cut to n, 2: it is gone -/
structure Chg where
  k : Nat
  s : Bytes
  n : Int
noncomputable def chgC (c : Chg) : List AV := [.int .i64 (c.k : Int), strA c.s, .int .i64 c.n]
def do1 (x : Cont) (c : Chg) : Cont := if c.k = 0 then ⟨true, x.u ++ c.s⟩ else if c.k = 1 then ⟨x.th, x.u.take c.n.toNat⟩ else ⟨false, []⟩
def doL (x : Cont) (l : List Chg) : Cont := l.foldl do1 x
def legal (x : Cont) (c : Chg) : Prop := c.k = 0 ∨ (c.k = 1 ∧ 0 ≤ c.n ∧ c.n ≤ (x.u.length : Int)) ∨ c.k = 2
def Legal : Cont → List Chg → Prop
  | _, [] => True
  | x, c :: l => legal x c ∧ Legal (do1 x c) l
def sumL : List Chg → Nat
  | [] => 0
  | c :: l => c.s.length + sumL l
theorem do1_len (x : Cont) (c : Chg) : (do1 x c).u.length ≤ x.u.length + c.s.length := by
  unfold do1
  split
  · rw [List.length_append]
    exact Nat.le_refl _
  · split
    · rw [List.length_take]
      omega
    · exact Nat.zero_le _
theorem doL_len : ∀ (l : List Chg) (x : Cont), (doL x l).u.length ≤ x.u.length + sumL l
  | [], _ => Nat.le_refl _
  | c :: l, x => by
    have h1 := do1_len x c
    have h2 := doL_len l (do1 x c)
    show (doL (do1 x c) l).u.length ≤ x.u.length + (c.s.length + sumL l)
    omega
theorem doL_snoc (x : Cont) (l : List Chg) (c : Chg) : doL x (l ++ [c]) = do1 (doL x l) c := by
  unfold doL
  rw [List.foldl_append]
  rfl
theorem Legal_snoc : ∀ (l : List Chg) (x : Cont) (c : Chg), Legal x l → legal (doL x l) c → Legal x (l ++ [c])
  | [], _, _, _, h => ⟨h, trivial⟩
  | a :: l, x, c, h1, h2 => ⟨h1.1, Legal_snoc l (do1 x a) c h1.2 h2⟩
theorem sumL_snoc : ∀ (l : List Chg) (c : Chg), sumL (l ++ [c]) = sumL l + c.s.length
  | [], c => by
    show c.s.length + 0 = 0 + c.s.length
    omega
  | a :: l, c => by
    have := sumL_snoc l c
    show a.s.length + sumL (l ++ [c]) = a.s.length + sumL l + c.s.length
    omega
theorem Wp.lettG {α : Type} {a : α} {K : α → R} {Q : ARes → AHeap → Prop} (hk : ∀ x, x = a → Wp (K x) Q) : Wp (Abs.lett a K) Q := hk a rfl
def blkV : AV → List Nat
  | .sl c _ _ _ => [c]
  | _ => []
theorem slice_to {P : Program} {h : AHeap} {t e : TypeId} {b m sz k : Nat} {k1 : IntKind} (he : Abs.elemOf P t = some e) (hi : (P.info? e).isSome = true) (hsz : P.cellsOf e = sz) (h1 : k ≤ m) :
    sliceA P h t (.sl b 0 m sz) none (some (.int k1 (k : Int))) = some (.val (.sl b 0 k sz), h) := by
  have b1 : boundA (some (AV.int k1 (k : Int))) m = some k := rfl
  have b2 : boundA none 0 = some 0 := rfl
  simp only [sliceA, sliceRow, b1, b2, he]
  rw [if_pos ⟨Nat.ble_eq_true_of_le (Nat.zero_le k), Nat.ble_eq_true_of_le h1, hsz.symm, hi⟩, if_neg (fun hc => by have := Nat.le_of_ble_eq_true hc.2; omega), Nat.zero_mul, Nat.add_zero, Nat.sub_zero]
theorem fitBy : fitB Try.prog 5 1 = true := by kernel_rfl
/-- bytes in memory; more may stand behind them -/
def BufAt (h : AHeap) (v : AV) (u : Bytes) : Prop := (v = .nsl ∧ u = []) ∨ ∃ c rest, v = .sl c 0 u.length 1 ∧ RowH h c 5 (bytesC u ++ rest) ∧ c < h.next
section
variable {h h' : AHeap} {v : AV} {u : Bytes}
theorem BufAt.tch {S : List Nat} (k : BufAt h v u) (t : Tch S h h') (hd : ∀ b ∈ blkV v, b ∉ S) : BufAt h' v u := by
  rcases k with k | ⟨c, rest, rfl, h2, h3⟩
  · exact .inl k
  · exact .inr ⟨c, rest, rfl, h2.tch t h3 (hd c (List.mem_singleton.2 rfl)), Nat.lt_of_lt_of_le h3 t.1⟩
theorem BufAt.lt (k : BufAt h v u) : ∀ b ∈ blkV v, b < h.next := by
  rcases k with ⟨rfl, _⟩ | ⟨c, rest, rfl, _, h3⟩
  · exact fun b hb => nomatch hb
  · intro b hb
    rw [List.mem_singleton.1 hb]
    exact h3
theorem BufAt.len (k : BufAt h v u) : lenL v = some (u.length : Int) := by
  rcases k with ⟨rfl, rfl⟩ | ⟨c, rest, rfl, _⟩ <;> rfl
theorem BufAt.one (k : BufAt h v u) : v.one = true ∧ AV.cells v = [v] := by
  rcases k with ⟨rfl, rfl⟩ | ⟨c, rest, rfl, _⟩ <;> exact ⟨rfl, rfl⟩
theorem BufAt.app (k : BufAt h v u) (s : Bytes) (hx : h.ex = []) (hm : u.length + s.length ≤ 1000000000) :
    ∃ v' h', opAppend Try.prog h TBy 9 v (strA s) = some (.val v', h') ∧ BufAt h' v' (u ++ s) ∧ Tch (blkV v) h h' ∧ ∀ b ∈ blkV v', b ∈ blkV v ∨ h.next ≤ b := by
  have he : Abs.elemOf Try.prog TBy = some 5 := by kernel_rfl
  have hu : notInt Try.prog 9 = true := by kernel_rfl
  have hsz : Try.prog.cellsOf 5 = 1 := by kernel_rfl
  have hex : memB 5 h.ex = false := by rw [hx]; rfl
  by_cases h0 : s = []
  · subst h0
    have hfit2 := bytesFit_of (P := Try.prog) (e := 5) (B := 1) (k := u.length + 0) fitBy (by omega) (by omega)
    rw [List.append_nil]
    refine ⟨v, h, ?_, k, Tch.refl _ _, fun b hb => .inl hb⟩
    rcases k with ⟨rfl, rfl⟩ | ⟨c, rest, rfl, _⟩
    · have hl : lenA .nsl = some 0 := rfl
      have hx0 : lenA (strA []) = some 0 := rfl
      have hf : firstA h 1 0 (strA []) = some [] := firstA_str []
      unfold notInt at hu
      unfold opAppend
      split at hu
      · cases hu
      · rename_i ud hni heq
        have hfit3 : bytesFit Try.prog 5 (0 + 0) = true := hfit2
        simp only [he, hl, hx0, heq, hsz, hf, hfit3, hex, List.all_nil, and_self, if_true]
        rfl
      · cases hu
    · exact append_zero he hu hsz rfl rfl (firstA_str []) hfit2 hex
  · obtain ⟨m, hm2⟩ : ∃ m, s.length = m + 1 := by
      cases s with
      | nil => exact absurd rfl h0
      | cons a l => exact ⟨l.length, rfl⟩
    have hf : firstA h 1 (m + 1) (strA s) = some (bytesC s) := by
      rw [← hm2]
      exact firstA_str s
    have hl : lenA (strA s) = some (m + 1) := by
      rw [← hm2]
      rfl
    rcases k with ⟨rfl, rfl⟩ | ⟨c, rest, rfl, h2, h3⟩
    · have a1 := append_new (P := Try.prog) (h := h) (t := TBy) (u := 9) he hu hsz hl hf (bytesFit_of fitBy (by omega) (by omega)) (bytesC_one s) hex
      refine ⟨_, _, a1, .inr ⟨h.next, [], by rw [List.nil_append, hm2], ?_, Nat.lt_succ_self _⟩, Tch.newH _ _ _ _, fun b hb => .inr (by rw [List.mem_singleton.1 hb]; exact Nat.le_refl _)⟩
      rw [List.nil_append, List.append_nil]
      exact RowH.new _ _ _
    · have hcl := bytesC_length u
      have a1 := append_more (P := Try.prog) (h := h) (t := TBy) (u := 9) (b := c) (o := 0) (m := u.length) (cs := bytesC u) he hu hsz hl hf (bytesFit_of fitBy (by omega) (by omega)) (bytesC_one s) hex (by
        have := h2.part (o := 0) (n := (bytesC u).length) (by rw [List.length_append]; omega)
        rw [List.drop_zero, List.take_left' rfl] at this
        rw [Nat.mul_one, ← hcl]
        exact this) h2.type
      refine ⟨_, _, a1, .inr ⟨h.next, [], by rw [List.length_append, hm2], ?_, Nat.lt_succ_self _⟩, (Tch.put (S := [c]) (.inl (List.mem_singleton.2 rfl)) _).trans (Tch.newH _ _ _ _), fun b hb => .inr (by rw [List.mem_singleton.1 hb]; exact Nat.le_refl _)⟩
      rw [bytesC_append, List.append_nil]
      exact RowH.new (h.put c .dead) _ _
theorem BufAt.cut (k : BufAt h v u) {n : Int} (h0 : 0 ≤ n) (h1 : n ≤ (u.length : Int)) : ∃ v', sliceA Try.prog h TBy v none (some (.int .i64 n)) = some (.val v', h) ∧ BufAt h v' (u.take n.toNat) ∧ blkV v' = blkV v := by
  obtain ⟨j, rfl⟩ : ∃ j : Nat, n = (j : Int) := ⟨n.toNat, by omega⟩
  rw [Int.toNat_natCast]
  have hj : j ≤ u.length := by omega
  rcases k with ⟨rfl, rfl⟩ | ⟨c, rest, rfl, h2, h3⟩
  · have hj0 : j = 0 := by
      rw [List.length_nil] at hj
      omega
    subst hj0
    exact ⟨.nsl, by kernel_rfl, .inl ⟨rfl, rfl⟩, rfl⟩
  · have hl : (u.take j).length = j := by rw [List.length_take]; omega
    refine ⟨.sl c 0 j 1, slice_to (P := Try.prog) (e := 5) (k1 := .i64) (by kernel_rfl) (by kernel_rfl) (by kernel_rfl) hj, .inr ⟨c, bytesC (u.drop j) ++ rest, by rw [hl], ?_, h3⟩, rfl⟩
    rw [← List.append_assoc, ← bytesC_append, List.take_append_drop]
    exact h2
end
/-- changes that can be read, from a memory on -/
def RdL (h : AHeap) (S : List Nat) (lv : AV) (l : List Chg) : Prop := lenL lv = some (l.length : Int) ∧ ∀ H, Tch S h H → ∀ (i : Nat) (hi : i < l.length), ∃ p, idxP 3 lv (i : Int) = some p ∧ ldRow H 3 p = some (chgC l[i])
end Go.Proofs.Ytcbnpdfingfmgaa
