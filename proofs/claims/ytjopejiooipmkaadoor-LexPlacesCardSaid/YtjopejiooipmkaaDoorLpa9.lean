/- What lexPlaces_proved stands on, part 9 of 10. -/
import Derived.Test.YtjopejiooipmkaaDoorLpa8
namespace Go.Proofs.YtjopejiooipmkaaDoor
open Go.RowKit Abs
/-- nothing but blanks and remarks between two places; line's ends too, if no token stands ahead in the line -/
inductive Gap (u : Bytes) (s : Bool) : Nat → Nat → Prop
 | here {p} : Gap u s p p
 | blank {p q} (h : p < u.length) (hb : blankB (u[p]).toNat = true) (k : Gap u s (p + 1) q) : Gap u s p q
 | remark {p q} (h : p < u.length) (hb : (u[p]).toNat = 35) (k : Gap u s (p + spanN restB (u.drop p)) q) : Gap u s p q
 | nl {p q} (h : p < u.length) (hb : (u[p]).toNat = 10) (hs : s = false) (k : Gap u s (p + 1) q) : Gap u s p q
/-- tokens, each where it says, from a place on -/
inductive Places (u : Bytes) : Bool → Nat → List (List AV) → Prop
 | nil {p} : Places u false p []
 | tok {s p q k t m q' rest} (g : Gap u s p q) (hq : q < u.length) (ht : tokenQ u q = .ok k t m q q') (r : Places u true q' rest) : Places u s p (tokC k t m q :: rest)
 | eol {p q rest} (g : Gap u true p q) (hq : q ≤ u.length) (he : endsB u q = true) (r : Places u false q rest) : Places u true p (tokC 6 [] 0 q :: rest)
section
variable {u : Bytes} {p q : Nat} {s : Bool} {l rest : List (List AV)} {x : LR}
theorem Gap.le (g : Gap u s p q) : p ≤ q := by
 induction g with
 | here => exact Nat.le_refl _
 | blank _ _ _ ih => omega
 | remark _ _ _ ih => omega
 | nl _ _ _ _ ih => omega
theorem Places.blank (h : p < u.length) (hb : blankB (u[p]).toNat = true) (k : Places u s (p + 1) rest) : Places u s p rest := by
 cases k with
 | nil => exact .nil
 | tok g hq ht r => exact .tok (.blank h hb g) hq ht r
 | eol g hq he r => exact .eol (.blank h hb g) hq he r
theorem Places.remark (h : p < u.length) (hb : (u[p]).toNat = 35) (k : Places u s (p + spanN restB (u.drop p)) rest) : Places u s p rest := by
 cases k with
 | nil => exact .nil
 | tok g hq ht r => exact .tok (.remark h hb g) hq ht r
 | eol g hq he r => exact .eol (.remark h hb g) hq he r
theorem Places.line (h : p < u.length) (hb : (u[p]).toNat = 10) (k : Places u false (p + 1) rest) : Places u false p rest := by
 cases k with
 | nil => exact .nil
 | tok g hq ht r => exact .tok (.nl h hb rfl g) hq ht r
theorem ref_places (h : RefTo u p s l x) : (p = u.length + 1 → s = false) → p ≤ u.length + 1 → ∀ l' q', x = .ok l' q' → ∃ rest, l' = l ++ rest ∧ Places u s p rest ∧ (u.length < p → rest = []) := by
 induction h with
 | @done p s l h =>
  intro hs hp l' q' e
  cases e
  have := hs (by omega)
  subst this
  exact ⟨[], by simp, .nil, fun _ => rfl⟩
 | @nl p s l x h1 h2 k ih =>
  intro hs hp l' q' e
  obtain ⟨rest, e1, pl, hz⟩ := ih (fun _ => rfl) (by omega) l' q' e
  have pl2 : Places u false p rest := by
   by_cases hl : p < u.length
   ·exact pl.line hl (by
     unfold endsB at h2
     rw [at?_lt hl] at h2
     dsimp only at h2
     have : ((u[p]).toNat : Int) = 10 := by simpa using h2
     exact_mod_cast this)
   ·rw [hz (by omega)]
    exact .nil
  cases s with
  | false => exact ⟨rest, e1, pl2, fun hh => by omega⟩
  | true =>
   rw [if_pos rfl] at e1
   exact ⟨tokC 6 [] 0 p :: rest, by rw [e1]; simp, .eol .here h1 h2 pl2, fun hh => by omega⟩
 | @blank p s l x h1 h2 k ih =>
  intro hs hp l' q' e
  have hp1 : p + 1 = u.length + 1 → s = false := fun hh => by omega
  obtain ⟨rest, e1, pl, hz⟩ := ih hp1 (by omega) l' q' e
  exact ⟨rest, e1, pl.blank h1 h2, fun hh => by omega⟩
 | @remark p s l x h1 h2 k ih =>
  intro hs hp l' q' e
  have hle := span_le restB (u.drop p)
  rw [List.length_drop] at hle
  obtain ⟨rest, e1, pl, hz⟩ := ih (fun hh => by omega) (by omega) l' q' e
  exact ⟨rest, e1, pl.remark h1 h2, fun hh => by omega⟩
 | @tok p s l x k t m a q h1 h2 h3 h4 h5 _ ih =>
  intro hs hp l' q' e
  obtain ⟨_, ha, hpq, hq, _⟩ := token_word h1 h5
  subst ha
  obtain ⟨rest, e1, pl, hz⟩ := ih (fun hh => by omega) (by omega) l' q' e
  exact ⟨tokC k t m a :: rest, by rw [e1]; simp, .tok .here h1 h5 pl, fun hh => by omega⟩
 | @bad p s l e q h1 h2 h3 h4 h5 =>
  intro hs hp l' q' e
  cases e
theorem lexAll_places {q : Nat} (hu : u.length ≤ 2048) (hh : lexAll u = .ok l q) : Places u false 0 l := by
 have h1 : RefTo u 0 false [] (lexAll u).norm := by
  unfold lexAll
  rw [if_neg (by omega)]
  exact lex_to _ _ _ (by omega) (by omega)
 rw [hh] at h1
 obtain ⟨rest, e, pl, _⟩ := ref_places h1 (by omega) (by omega) l 0 rfl
 rw [e]
 exact pl
/-- the last one is a line's end -/
theorem Places.last (h : Places u s p l) : (s = true → l ≠ []) ∧ (l ≠ [] → ∃ l0 q, l = l0 ++ [tokC 6 [] 0 q]) := by
 induction h with
 | nil => exact ⟨by simp, by simp⟩
 | @tok s p q k t m q' rest g hq ht r ih =>
  refine ⟨by simp, fun _ => ?_⟩
  obtain ⟨l0, q0, e⟩ := ih.2 (ih.1 rfl)
  exact ⟨tokC k t m q :: l0, q0, by rw [e]; rfl⟩
 | @eol p q rest g hq he r ih =>
  refine ⟨by simp, fun _ => ?_⟩
  by_cases hr : rest = []
  ·exact ⟨[], q, by rw [hr]; rfl⟩
  ·obtain ⟨l0, q0, e⟩ := ih.2 hr
   exact ⟨tokC 6 [] 0 q :: l0, q0, by rw [e]; rfl⟩
theorem Gap.more (g : Gap u s p q) (hp : p < q) (hb : (u[p]?).map UInt8.toNat = some 10) : s = false ∧ Gap u s (p + 1) q := by
 cases g with
 | here => omega
 | blank h h2 k =>
  rw [List.getElem?_eq_getElem h] at hb
  simp only [Option.map_some, Option.some.injEq] at hb
  rw [hb] at h2
  cases h2
 | remark h h2 k =>
  rw [List.getElem?_eq_getElem h] at hb
  simp only [Option.map_some, Option.some.injEq] at hb
  omega
 | nl h h2 hs k => exact ⟨hs, k⟩
end
end Go.Proofs.YtjopejiooipmkaaDoor

namespace Go.Proofs.YtjopejiooipmkaaDoor
open Go.RowKit Abs

noncomputable def law12_LexPlaces_L2b (t0 : Bytes) (h_51 : AHeap) (k150 : Int → AHeap → R) (self : Int → AHeap → R) (t8_154 : Int) (h_155 : AHeap) : R :=
 obind (ldCell h_155 (AV.ptr (AHeap.next h_51) 3)) fun v56 =>
 obind (avInt .i64 v56) fun t56 =>
 lett (decide (t8_154 < t56)) fun (t57 : Bool) =>
 lett (fun (t63 : Bool) (h_161 : AHeap) =>
  ifB t63
  (
   lett (IntKind.i64.wrap (t8_154 + 1)) fun (t65 : Int) =>
   self t65 h_161)
  (
   k150 t8_154 h_161)) fun j63 =>
 ifB t57
 (
  obind (idxS t0 t8_154) fun t61 =>
  lett ((t61 : Int) != 10) fun (t62 : Bool) =>
  j63 t62 h_155)
 (
  j63 false h_155)
noncomputable def law12_LexPlaces_L2 (t0 : Bytes) (h_51 : AHeap) (k150 : Int → AHeap → R) : Nat → Int → AHeap → R := iterR (fun _ _ => none) (law12_LexPlaces_L2b t0 h_51 k150)
theorem law12_LexPlaces_L2_s (t0 : Bytes) (h_51 : AHeap) (k150 : Int → AHeap → R) (m : Nat) : law12_LexPlaces_L2 t0 h_51 k150 (m + 1) = law12_LexPlaces_L2b t0 h_51 k150 (law12_LexPlaces_L2 t0 h_51 k150 m) := rfl
noncomputable def law12_LexPlaces_L1b (n : Nat) (t0 : Bytes) (v17 : AV) (t6 : Int) (h_51 : AHeap) (k81 : AHeap → R) (self : Int → AHeap → R) (t8 : Int) (h_132 : AHeap) : R :=
 obind (ldCell h_132 (AV.ptr (AHeap.next h_51) 3)) fun v46 =>
 obind (avInt .i64 v46) fun t46 =>
 lett (decide (t8 < t46)) fun (t47 : Bool) =>
 ifB t47
 (
  lett (fun (t8_141 : Int) (h_142 : AHeap) =>
   lett (IntKind.i64.wrap (t8_141 + 1)) fun (t49 : Int) =>
   self t49 h_142) fun k140 =>
  obind (idxS t0 t8) fun t52 =>
  lett ((t52 : Int) == 35) fun (t53 : Bool) =>
  ifB t53
  (
   lett (fun (t8_151 : Int) (h_152 : AHeap) =>
    k140 t8_151 h_152) fun k150 =>
   law12_LexPlaces_L2 t0 h_51 k150 n t8 h_132)
  (
   obind (idxS t0 t8) fun t68 =>
   lett ((t68 : Int) != 32) fun (t69 : Bool) =>
   lett (fun (t75 : Bool) (h_171 : AHeap) =>
    lett (fun (t94 : Bool) (h_174 : AHeap) =>
     ifB t94
     (
      some (.ret (.bool false), h_174))
     (
      k140 t8 h_174)) fun j94 =>
    ifB t75
    (
     obind (idxS t0 t8) fun t79 =>
     lett ((t79 : Int) != 10) fun (t80 : Bool) =>
     lett (fun (t93 : Bool) (h_180 : AHeap) =>
      j94 t93 h_180) fun j93 =>
     ifB t80
     (
      j93 true h_171)
     (
      lett (decide (t6 > 0)) fun (t83 : Bool) =>
      lett (fun (t92 : Bool) (h_184 : AHeap) =>
       j93 t92 h_184) fun j92 =>
      ifB t83
      (
       lett (IntKind.i64.wrap (t6 - 1)) fun (t87 : Int) =>
       obind (idxP 4 v17 t87) fun t88 =>
       obind (fldP 0 t88) fun t89 =>
       obind (ldCell h_171 t89) fun v90 =>
       obind (avInt .i64 v90) fun t90 =>
       lett ((t90 : Int) != 6) fun (t91 : Bool) =>
       j92 t91 h_171)
      (
       j92 false h_171)))
    (
     j94 false h_171)) fun j75 =>
   ifB t69
   (
    obind (idxS t0 t8) fun t73 =>
    lett ((t73 : Int) != 9) fun (t74 : Bool) =>
    j75 t74 h_132)
   (
    j75 false h_132)))
 (
  k81 h_132)
noncomputable def law12_LexPlaces_L1 (n : Nat) (t0 : Bytes) (v17 : AV) (t6 : Int) (h_51 : AHeap) (k81 : AHeap → R) : Nat → Int → AHeap → R := iterR (fun _ _ => none) (law12_LexPlaces_L1b n t0 v17 t6 h_51 k81)
theorem law12_LexPlaces_L1_s (n : Nat) (t0 : Bytes) (v17 : AV) (t6 : Int) (h_51 : AHeap) (k81 : AHeap → R) (m : Nat) : law12_LexPlaces_L1 n t0 v17 t6 h_51 k81 (m + 1) = law12_LexPlaces_L1b n t0 v17 t6 h_51 k81 (law12_LexPlaces_L1 n t0 v17 t6 h_51 k81 m) := rfl
noncomputable def law12_LexPlaces_L0b (call : CallF) (n : Nat) (t0 : Bytes) (v17 : AV) (k35 : AHeap → R) (self : Int → Int → AHeap → R) (t5 : Int) (t6 : Int) (h_51 : AHeap) : R :=
 obind (lenL v17) fun t24 =>
 lett (decide (t6 < t24)) fun (t25 : Bool) =>
 ifB t25
 (
  lett (fun (t5_59 : Int) (h_60 : AHeap) =>
   lett (IntKind.i64.wrap (t6 + 1)) fun (t27 : Int) =>
   self t5_59 t27 h_60) fun k58 =>
  obind (idxP 4 v17 t6) fun t30 =>
  obind (ldRow h_51 4 t30) fun t31 =>
  lett (newH h_51 37 [.int .i64 0, .str 0 0, .int .i64 0, .int .i64 0]) fun h_65 =>
  obind (stRow h_65 4 t31 (newP h_51)) fun h_67 =>
  obind (ldCell h_67 (AV.ptr (AHeap.next h_51) 3)) fun v33 =>
  obind (avInt .i64 v33) fun t33 =>
  lett (decide (t33 < t5)) fun (t35 : Bool) =>
  lett (fun (t42 : Bool) (h_74 : AHeap) =>
   ifB t42
   (
    some (.ret (.bool false), h_74))
   (
    lett (fun  (h_82 : AHeap) =>
     obind (ldCell h_82 (AV.ptr (AHeap.next h_51) 3)) fun v96 =>
     obind (avInt .i64 v96) fun t96 =>
     obind (ldCell h_82 (AV.ptr (AHeap.next h_51) 0)) fun v98 =>
     obind (avInt .i64 v98) fun t98 =>
     lett ((t98 : Int) == 6) fun (t99 : Bool) =>
     ifB t99
     (
      lett (decide (t96 < (lenS t0))) fun (t103 : Bool) =>
      lett (fun (t109 : Bool) (h_94 : AHeap) =>
       lett (fun (t113 : Bool) (h_97 : AHeap) =>
        lett (fun (t122 : Bool) (h_100 : AHeap) =>
         ifB t122
         (
          some (.ret (.bool false), h_100))
         (
          k58 t96 h_100)) fun j122 =>
        ifB t113
        (
         j122 true h_97)
        (
         lett (IntKind.i64.wrap (t6 - 1)) fun (t117 : Int) =>
         obind (idxP 4 v17 t117) fun t118 =>
         obind (fldP 0 t118) fun t119 =>
         obind (ldCell h_97 t119) fun v120 =>
         obind (avInt .i64 v120) fun t120 =>
         lett ((t120 : Int) == 6) fun (t121 : Bool) =>
         j122 t121 h_97)) fun j113 =>
       ifB t109
       (
        j113 true h_94)
       (
        lett ((t6 : Int) == 0) fun (t112 : Bool) =>
        j113 t112 h_94)) fun j109 =>
      ifB t103
      (
       obind (idxS t0 t96) fun t107 =>
       lett ((t107 : Int) != 10) fun (t108 : Bool) =>
       j109 t108 h_82)
      (
       j109 false h_82))
     (
      obind (ldRow h_82 4 (newP h_51)) fun t123 =>
      callK (call 11 [.agg t123] h_82) fun r124 h_115 =>
      obind (avStr r124) fun t124 =>
      lett (IntKind.i64.wrap ((lenS t0) - t96)) fun (t128 : Int) =>
      lett (decide (t128 < (lenS t124))) fun (t131 : Bool) =>
      lett (fun (t142 : Bool) (h_122 : AHeap) =>
       ifB t142
       (
        some (.ret (.bool false), h_122))
       (
        lett (IntKind.i64.wrap (t96 + (lenS t124))) fun (t146 : Int) =>
        k58 t146 h_122)) fun j142 =>
      ifB t131
      (
       j142 true h_115)
      (
       lett (IntKind.i64.wrap (t96 + (lenS t124))) fun (t138 : Int) =>
       obind (sliceS t0 t96 t138) fun t139 =>
       lett (!eqS t139 t124) fun (t141 : Bool) =>
       j142 t141 h_115))) fun k81 =>
    law12_LexPlaces_L1 n t0 v17 t6 h_51 k81 n t5 h_74)) fun j42 =>
  ifB t35
  (
   j42 true h_67)
  (
   obind (ldCell h_67 (AV.ptr (AHeap.next h_51) 3)) fun v38 =>
   obind (avInt .i64 v38) fun t38 =>
   lett (decide (t38 > (lenS t0))) fun (t41 : Bool) =>
   j42 t41 h_67))
 (
  k35 h_51)
noncomputable def law12_LexPlaces_L0 (call : CallF) (n : Nat) (t0 : Bytes) (v17 : AV) (k35 : AHeap → R) : Nat → Int → Int → AHeap → R := iterR (fun _ _ _ => none) (law12_LexPlaces_L0b call n t0 v17 k35)
theorem law12_LexPlaces_L0_s (call : CallF) (n : Nat) (t0 : Bytes) (v17 : AV) (k35 : AHeap → R) (m : Nat) : law12_LexPlaces_L0 call n t0 v17 k35 (m + 1) = law12_LexPlaces_L0b call n t0 v17 k35 (law12_LexPlaces_L0 call n t0 v17 k35 m) := rfl
noncomputable def law12_LexPlaces (call : CallF) (n : Nat) (t0 : Bytes) (h : AHeap) : R :=
 callN (call 6 [] h) fun r10 h_4 =>
 obind (avBool r10) fun t10 =>
 lett (!t10) fun (t11 : Bool) =>
 ifB t11
 (
  some (.ret (.bool false), h_4))
 (
  callN (call 7 [strA t0] h_4) fun r13 h_11 =>
  obind (avBool r13) fun t13 =>
  ifB t13
  (
   some (.ret (.bool true), h_11))
  (
   callN (call 8 [strA t0] h_11) fun r16 h_16 =>
   obind (extT 0 r16) fun v17 =>
   obind (extT 1 r16) fun v18 =>
   obind (avAgg v18) fun t18 =>
   lett (newH h_16 27 [.int .i64 0, .int .i64 0]) fun h_21 =>
   obind (stRow h_21 2 t18 (newP h_16)) fun h_23 =>
   obind (ldCell h_23 (AV.ptr (AHeap.next h_16) 0)) fun v20 =>
   obind (avInt .i64 v20) fun t20 =>
   lett ((t20 : Int) != 0) fun (t21 : Bool) =>
   ifB t21
   (
    some (.ret (.bool true), h_23))
   (
    lett (fun  (h_36 : AHeap) =>
     obind (lenL v17) fun t148 =>
     lett ((t148 : Int) == 0) fun (t149 : Bool) =>
     lett (fun (t159 : Bool) (h_40 : AHeap) =>
      some (.ret (.bool t159), h_40)) fun j159 =>
     ifB t149
     (
      j159 true h_36)
     (
      obind (lenL v17) fun t153 =>
      lett (IntKind.i64.wrap (t153 - 1)) fun (t154 : Int) =>
      obind (idxP 4 v17 t154) fun t155 =>
      obind (fldP 0 t155) fun t156 =>
      obind (ldCell h_36 t156) fun v157 =>
      obind (avInt .i64 v157) fun t157 =>
      lett ((t157 : Int) == 6) fun (t158 : Bool) =>
      j159 t158 h_36)) fun k35 =>
    law12_LexPlaces_L0 call n t0 v17 k35 n 0 0 h_23)))
set_option maxHeartbeats 4000000 in
set_option maxRecDepth 20000 in
theorem law12_LexPlaces_ok {call : CallF} (hc : SaysAll Tryd.prog call) {n : Nat} {t0 : Bytes} {h : AHeap} {rR : ARes} {hR : AHeap} (hF : law12_LexPlaces call n t0 h = some (rR, hR)) : Says Tryd.prog 5 [strA t0] h rR hR := by
 unfold law12_LexPlaces at hF
 refine says_of (fn := Tryd.f5) Tryd.func5 (c := codeOf Tryd.f5) (by kernel_rfl) (by kernel_rfl) (fun w0 m0 => ?_)
 refine W.weaken (l' := [(0, strA t0)]) (Fr.c Fr.n) ?_
 refine W.s (fun K1 n1 e1 q1 p1 => ?_)
 refine W.r ?_
 refine WL.a (some 2) (.bool false) h ?_
 refine WL.n ?_
 refine Go.weaken (l' := [(0, strA t0)]) (Fr.c Fr.n) ?_
 refine n1 ?_
 refine W.s (fun K2 n2 e2 q2 p2 => ?_)
 refine W.s (fun K3 n3 e3 q3 p3 => ?_)
 refine W.r ?_
 replace hF := callN_some hF; obtain ⟨r10, h_4, e5, hF⟩ := hF
 replace hF := obind_some hF; obtain ⟨t10, c6, hF⟩ := hF
 have c6 := avBool_some c6
 subst c6
 refine WL.c (hc.ok w0) (some 10) e5 ?_
 replace hF := lett_some hF; obtain ⟨t11, e7, hF⟩ := hF
 refine WL.val (d := (some 11)) (v := .bool t11) (h' := h_4) (by kernel_rfl) (by kernel_rfl) (val_of AV.bool e7 (by kernel_rfl)) ?_
 refine WL.n ?_
 refine Go.weaken (l' := [(0, strA t0), (11, .bool t11)]) (Fr.c (Fr.c Fr.n)) ?_
 refine n3 ?_
 cases t11 with
 | true =>
  replace hF := ifB_t hF
  refine W.t ?_
  refine W.s (fun K8 n8 e8 q8 p8 => ?_)
  refine W.r ?_
  refine WL.a (some 2) (.bool false) h_4 ?_
  refine WL.n ?_
  refine Go.weaken (l' := [(2, .bool false)]) (Fr.c Fr.n) ?_
  refine n8 ?_
  refine W.ret (by kernel_rfl) ?_
  refine q2 ?_
  obtain ⟨hF, hF2⟩ := ret_inj hF; subst hF; subst hF2
  exact leave_of (rs := [.tmp 2]) (vs := [.bool false]) (by kernel_rfl) (res_tmp (by kernel_rfl) res_nil) (by kernel_rfl)
 | false =>
  replace hF := ifB_f hF
  refine W.f ?_
  refine W.skip (by kernel_rfl) ?_
  refine n2 ?_
  refine W.s (fun K9 n9 e9 q9 p9 => ?_)
  refine W.s (fun K10 n10 e10 q10 p10 => ?_)
  refine W.r ?_
  refine WL.a (some 12) (strA t0) h_4 ?_
  replace hF := callN_some hF; obtain ⟨r13, h_11, e12, hF⟩ := hF
  replace hF := obind_some hF; obtain ⟨t13, c13, hF⟩ := hF
  have c13 := avBool_some c13
  subst c13
  refine WL.c (hc.ok w0) (some 13) e12 ?_
  refine WL.n ?_
  refine Go.weaken (l' := [(0, strA t0), (13, .bool t13)]) (Fr.c (Fr.c Fr.n)) ?_
  refine n10 ?_
  cases t13 with
  | true =>
   replace hF := ifB_t hF
   refine W.t ?_
   refine W.s (fun K14 n14 e14 q14 p14 => ?_)
   refine W.r ?_
   refine WL.a (some 2) (.bool true) h_11 ?_
   refine WL.n ?_
   refine Go.weaken (l' := [(2, .bool true)]) (Fr.c Fr.n) ?_
   refine n14 ?_
   refine W.ret (by kernel_rfl) ?_
   refine q9 ?_
   obtain ⟨hF, hF2⟩ := ret_inj hF; subst hF; subst hF2
   exact leave_of (rs := [.tmp 2]) (vs := [.bool true]) (by kernel_rfl) (res_tmp (by kernel_rfl) res_nil) (by kernel_rfl)
  | false =>
   replace hF := ifB_f hF
   refine W.f ?_
   refine W.skip (by kernel_rfl) ?_
   refine n9 ?_
   refine W.s (fun K15 n15 e15 q15 p15 => ?_)
   refine W.r ?_
   refine WL.a (some 15) (strA t0) h_11 ?_
   replace hF := callN_some hF; obtain ⟨r16, h_16, e17, hF⟩ := hF
   refine WL.c (hc.ok w0) (some 16) e17 ?_
   refine WL.a (some 14) r16 h_16 ?_
   replace hF := obind_some hF; obtain ⟨v17, e18, hF⟩ := hF
   refine WL.b (some 17) v17 h_16 (extract_tup (h := h_16) e18) ?_
   replace hF := obind_some hF; obtain ⟨v18, e19, hF⟩ := hF
   replace hF := obind_some hF; obtain ⟨t18, c20, hF⟩ := hF
   have c20 := avAgg_some c20
   subst c20
   refine WL.b (some 18) (.agg t18) h_16 (extract_tup (h := h_16) e19) ?_
   replace hF := lett_some hF; obtain ⟨h_21, e22, hF⟩ := hF
   refine WL.val (d := (some 4)) (v := (newP h_16)) (h' := h_21) (by kernel_rfl) (by kernel_rfl) (val_ofH e22 (by kernel_rfl)) ?_
   refine WL.a (some 3) v17 h_21 ?_
   replace hF := obind_some hF; obtain ⟨h_23, e24, hF⟩ := hF
   refine WL.e h_23 (store_row (P := Tryd.prog) (h := h_21) (t := 27) (v := (.agg t18)) (by kernel_rfl) (by kernel_rfl) e24) ?_
   refine WL.n ?_
   refine Go.weaken (l' := [(0, strA t0), (3, v17), (4, (newP h_16))]) (Fr.c (Fr.c (Fr.c Fr.n))) ?_
   refine n15 ?_
   refine W.s (fun K25 n25 e25 q25 p25 => ?_)
   refine W.s (fun K26 n26 e26 q26 p26 => ?_)
   refine W.r ?_
   refine WL.a (some 19) (AV.ptr (AHeap.next h_16) 0) h_23 ?_
   replace hF := obind_some hF; obtain ⟨v20, e27, hF⟩ := hF
   replace hF := obind_some hF; obtain ⟨t20, c28, hF⟩ := hF
   have c28 := avInt_some c28
   subst c28
   refine WL.b (some 20) (.int .i64 t20) h_23 (load_cell (P := Tryd.prog) (h := h_23) (t := 25) (by kernel_rfl) e27) ?_
   replace hF := lett_some hF; obtain ⟨t21, e29, hF⟩ := hF
   refine WL.val (d := (some 21)) (v := .bool t21) (h' := h_23) (by kernel_rfl) (by kernel_rfl) (val_of AV.bool e29 (by kernel_rfl)) ?_
   refine WL.n ?_
   refine Go.weaken (l' := [(0, strA t0), (3, v17), (21, .bool t21)]) (Fr.c (Fr.c (Fr.c Fr.n))) ?_
   refine n26 ?_
   cases t21 with
   | true =>
    replace hF := ifB_t hF
    refine W.t ?_
    refine W.s (fun K30 n30 e30 q30 p30 => ?_)
    refine W.r ?_
    refine WL.a (some 2) (.bool true) h_23 ?_
    refine WL.n ?_
    refine Go.weaken (l' := [(2, .bool true)]) (Fr.c Fr.n) ?_
    refine n30 ?_
    refine W.ret (by kernel_rfl) ?_
    refine q25 ?_
    obtain ⟨hF, hF2⟩ := ret_inj hF; subst hF; subst hF2
    exact leave_of (rs := [.tmp 2]) (vs := [.bool true]) (by kernel_rfl) (res_tmp (by kernel_rfl) res_nil) (by kernel_rfl)
   | false =>
    replace hF := ifB_f hF
    refine W.f ?_
    refine W.skip (by kernel_rfl) ?_
    refine n25 ?_
    refine W.s (fun K31 n31 e31 q31 p31 => ?_)
    refine W.r ?_
    refine WL.a (some 5) (.int .i64 0) h_23 ?_
    refine WL.n ?_
    refine Go.weaken (l' := [(0, strA t0), (3, v17), (5, .int .i64 0)]) (Fr.c (Fr.c (Fr.c Fr.n))) ?_
    refine n31 ?_
    refine W.s (fun K32 n32 e32 q32 p32 => ?_)
    refine W.s (fun K33 n33 e33 q33 p33 => ?_)
    refine W.r ?_
    refine WL.a (some 6) (.int .i64 0) h_23 ?_
    refine WL.n ?_
    refine Go.weaken (l' := [(0, strA t0), (3, v17), (5, .int .i64 0), (6, .int .i64 0)]) (Fr.c (Fr.c (Fr.c (Fr.c Fr.n)))) ?_
    refine n33 ?_
    replace hF := lett_some hF; obtain ⟨k35, e35, hF⟩ := hF
    have J35 : ∀  (h_36 : AHeap), k35 h_36 = some (rR, hR) → Go w0 m0 (Func.ntmps Tryd.f5) (K32 .normal) [(3, v17)] [] h_36 := by
     intro  h_36 hF
     rw [e35] at hF
     refine n32 ?_
     refine W.s (fun K37 n37 e37 q37 p37 => ?_)
     refine W.r ?_
     refine WL.a (some 147) v17 h_36 ?_
     replace hF := obind_some hF; obtain ⟨t148, e38, hF⟩ := hF
     refine WL.b (some 148) (.int .i64 t148) h_36 (len_row (P := Tryd.prog) (h := h_36) (t := 24) (e' := 37) (by kernel_rfl) e38) ?_
     replace hF := lett_some hF; obtain ⟨t149, e39, hF⟩ := hF
     refine WL.val (d := (some 149)) (v := .bool t149) (h' := h_36) (by kernel_rfl) (by kernel_rfl) (val_of AV.bool e39 (by kernel_rfl)) ?_
     refine WL.a (some 150) (.bool t149) h_36 ?_
     replace hF := lett_some hF; obtain ⟨j159, e41, hF⟩ := hF
     have J42 : ∀ (t159 : Bool) (h_40 : AHeap), j159 t159 h_40 = some (rR, hR) → WL Tryd.prog w0 m0 (Func.ntmps Tryd.f5) (Code.ops (Code.p1 (Code.p2 (Code.p2 (Code.p2 (Code.p2 (Code.p2 (Code.p2 (Code.p2 (codeOf Tryd.f5)))))))))) 13 K37 [(159, .bool t159)] [] h_40 := by
      intro t159 h_40 hF
      rw [e41] at hF
      refine WL.a (some 2) (.bool t159) h_40 ?_
      refine WL.n ?_
      refine Go.weaken (l' := [(2, .bool t159)]) (Fr.c Fr.n) ?_
      refine n37 ?_
      refine W.ret (by kernel_rfl) ?_
      obtain ⟨hF, hF2⟩ := ret_inj hF; subst hF; subst hF2
      exact leave_of (rs := [.tmp 2]) (vs := [.bool t159]) (by kernel_rfl) (res_tmp (by kernel_rfl) res_nil) (by kernel_rfl)
     cases t149 with
     | true =>
      replace hF := ifB_t hF
      refine WL.o (some 151) ?_
      refine WL.o (some 152) ?_
      refine WL.o (some 153) ?_
      refine WL.o (some 154) ?_
      refine WL.o (some 155) ?_
      refine WL.o (some 156) ?_
      refine WL.o (some 157) ?_
      refine WL.o (some 158) ?_
      refine WL.a (some 159) (.bool true) h_36 ?_
      exact WL.weaken (Fr.c Fr.n) (J42 _ _ hF)
     | false =>
      replace hF := ifB_f hF
      refine WL.a (some 151) v17 h_36 ?_
      refine WL.a (some 152) v17 h_36 ?_
      replace hF := obind_some hF; obtain ⟨t153, e43, hF⟩ := hF
      refine WL.b (some 153) (.int .i64 t153) h_36 (len_row (P := Tryd.prog) (h := h_36) (t := 24) (e' := 37) (by kernel_rfl) e43) ?_
      replace hF := lett_some hF; obtain ⟨t154, e44, hF⟩ := hF
      refine WL.val (d := (some 154)) (v := .int .i64 t154) (h' := h_36) (by kernel_rfl) (by kernel_rfl) (val_of (AV.int .i64) e44 (by kernel_rfl)) ?_
      replace hF := obind_some hF; obtain ⟨t155, e45, hF⟩ := hF
      refine WL.b (some 155) t155 h_36 (index_row (P := Tryd.prog) (h := h_36) (t := 24) (e' := 37) (k := .i64) (by kernel_rfl) (by kernel_rfl) (by kernel_rfl) e45) ?_
      replace hF := obind_some hF; obtain ⟨t156, e46, hF⟩ := hF
      refine WL.b (some 156) t156 h_36 (field_ptr (P := Tryd.prog) (h := h_36) (s := 37) (f := 0) (by kernel_rfl) e46) ?_
      replace hF := obind_some hF; obtain ⟨v157, e47, hF⟩ := hF
      replace hF := obind_some hF; obtain ⟨t157, c48, hF⟩ := hF
      have c48 := avInt_some c48
      subst c48
      refine WL.b (some 157) (.int .i64 t157) h_36 (load_cell (P := Tryd.prog) (h := h_36) (t := 3) (by kernel_rfl) e47) ?_
      replace hF := lett_some hF; obtain ⟨t158, e49, hF⟩ := hF
      refine WL.val (d := (some 158)) (v := .bool t158) (h' := h_36) (by kernel_rfl) (by kernel_rfl) (val_of AV.bool e49 (by kernel_rfl)) ?_
      refine WL.a (some 159) (.bool t158) h_36 ?_
      exact WL.weaken (Fr.c Fr.n) (J42 _ _ hF)
    refine W.blockK (by kernel_rfl) (fun K34 n34 s34 o34 q34 p34 => ?_)
    refine W.loopK (by kernel_rfl) (fun I50 K50 b50 n50 e50 q50 p50 => ?_)
    have L50 : ∀ (m : Nat) (t5 : Int) (t6 : Int) (h_51 : AHeap), law12_LexPlaces_L0 call n t0 v17 k35 m t5 t6 h_51 = some (rR, hR) → Go w0 m0 (Func.ntmps Tryd.f5) I50 [(0, strA t0), (3, v17), (5, .int .i64 t5), (6, .int .i64 t6)] [] h_51 := by
     intro m
     induction m with
     | zero => intro t5 t6 h_51 hF; cases hF
     | succ m ih50 =>
      intro t5 t6 h_51 hF
      rw [law12_LexPlaces_L0_s] at hF; unfold law12_LexPlaces_L0b at hF
      refine b50 ?_
      refine W.s (fun K52 n52 e52 q52 p52 => ?_)
      refine W.s (fun K53 n53 e53 q53 p53 => ?_)
      refine W.r ?_
      refine WL.a (some 22) (.int .i64 t6) h_51 ?_
      refine WL.a (some 23) v17 h_51 ?_
      replace hF := obind_some hF; obtain ⟨t24, e54, hF⟩ := hF
      refine WL.b (some 24) (.int .i64 t24) h_51 (len_row (P := Tryd.prog) (h := h_51) (t := 24) (e' := 37) (by kernel_rfl) e54) ?_
      replace hF := lett_some hF; obtain ⟨t25, e55, hF⟩ := hF
      refine WL.val (d := (some 25)) (v := .bool t25) (h' := h_51) (by kernel_rfl) (by kernel_rfl) (val_of AV.bool e55 (by kernel_rfl)) ?_
      refine WL.n ?_
      refine Go.weaken (l' := [(0, strA t0), (3, v17), (5, .int .i64 t5), (6, .int .i64 t6), (25, .bool t25)]) (Fr.c (Fr.c (Fr.c (Fr.c (Fr.c Fr.n))))) ?_
      refine n53 ?_
      cases t25 with
      | true =>
       replace hF := ifB_t hF
       refine W.t ?_
       refine W.skip (by kernel_rfl) ?_
       refine n52 ?_
       refine W.s (fun K56 n56 e56 q56 p56 => ?_)
       replace hF := lett_some hF; obtain ⟨k58, e58, hF⟩ := hF
       have J58 : ∀ (t5_59 : Int) (h_60 : AHeap), k58 t5_59 h_60 = some (rR, hR) → Go w0 m0 (Func.ntmps Tryd.f5) (K56 .normal) [(0, strA t0), (3, v17), (5, .int .i64 t5_59), (6, .int .i64 t6)] [] h_60 := by
        intro t5_59 h_60 hF
        rw [e58] at hF
        refine n56 ?_
        refine W.r ?_
        refine WL.a (some 26) (.int .i64 t6) h_60 ?_
        replace hF := lett_some hF; obtain ⟨t27, e61, hF⟩ := hF
        refine WL.val (d := (some 27)) (v := .int .i64 t27) (h' := h_60) (by kernel_rfl) (by kernel_rfl) (val_of (AV.int .i64) e61 (by kernel_rfl)) ?_
        refine WL.a (some 6) (.int .i64 t27) h_60 ?_
        refine WL.n ?_
        refine Go.weaken (l' := [(0, strA t0), (3, v17), (5, .int .i64 t5_59), (6, .int .i64 t27)]) (Fr.c (Fr.c (Fr.c (Fr.c Fr.n)))) ?_
        refine n50 ?_
        exact Go.weaken (Fr.c (Fr.c (Fr.c (Fr.c Fr.n)))) (ih50 _ _ _ hF)
       refine W.blockK (by kernel_rfl) (fun K57 n57 s57 o57 q57 p57 => ?_)
       refine W.s (fun K62 n62 e62 q62 p62 => ?_)
       refine W.r ?_
       refine WL.a (some 28) v17 h_51 ?_
       refine WL.a (some 29) (.int .i64 t6) h_51 ?_
       replace hF := obind_some hF; obtain ⟨t30, e63, hF⟩ := hF
       refine WL.b (some 30) t30 h_51 (index_row (P := Tryd.prog) (h := h_51) (t := 24) (e' := 37) (k := .i64) (by kernel_rfl) (by kernel_rfl) (by kernel_rfl) e63) ?_
       replace hF := obind_some hF; obtain ⟨t31, e64, hF⟩ := hF
       refine WL.b (some 31) (.agg t31) h_51 (load_row (P := Tryd.prog) (h := h_51) (t := 37) (by kernel_rfl) (by kernel_rfl) e64) ?_
       replace hF := lett_some hF; obtain ⟨h_65, e66, hF⟩ := hF
       refine WL.val (d := (some 7)) (v := (newP h_51)) (h' := h_65) (by kernel_rfl) (by kernel_rfl) (val_ofH e66 (by kernel_rfl)) ?_
       replace hF := obind_some hF; obtain ⟨h_67, e68, hF⟩ := hF
       refine WL.e h_67 (store_row (P := Tryd.prog) (h := h_65) (t := 37) (v := (.agg t31)) (by kernel_rfl) (by kernel_rfl) e68) ?_
       refine WL.n ?_
       refine Go.weaken (l' := [(0, strA t0), (3, v17), (5, .int .i64 t5), (6, .int .i64 t6), (7, (newP h_51))]) (Fr.c (Fr.c (Fr.c (Fr.c (Fr.c Fr.n))))) ?_
       refine n62 ?_
       refine W.s (fun K69 n69 e69 q69 p69 => ?_)
       refine W.s (fun K70 n70 e70 q70 p70 => ?_)
       refine W.r ?_
       refine WL.a (some 32) (AV.ptr (AHeap.next h_51) 3) h_67 ?_
       replace hF := obind_some hF; obtain ⟨v33, e71, hF⟩ := hF
       replace hF := obind_some hF; obtain ⟨t33, c72, hF⟩ := hF
       have c72 := avInt_some c72
       subst c72
       refine WL.b (some 33) (.int .i64 t33) h_67 (load_cell (P := Tryd.prog) (h := h_67) (t := 3) (by kernel_rfl) e71) ?_
       refine WL.a (some 34) (.int .i64 t5) h_67 ?_
       replace hF := lett_some hF; obtain ⟨t35, e73, hF⟩ := hF
       refine WL.val (d := (some 35)) (v := .bool t35) (h' := h_67) (by kernel_rfl) (by kernel_rfl) (val_of AV.bool e73 (by kernel_rfl)) ?_
       refine WL.a (some 36) (.bool t35) h_67 ?_
       replace hF := lett_some hF; obtain ⟨j42, e75, hF⟩ := hF
       have J76 : ∀ (t42 : Bool) (h_74 : AHeap), j42 t42 h_74 = some (rR, hR) → WL Tryd.prog w0 m0 (Func.ntmps Tryd.f5) (Code.ops (Code.p1 (Code.p1 (Code.p2 (Code.p1 (Code.p1 (Code.p2 (Code.p1 (Code.p1 (Code.p2 (Code.p1 (Code.p2 (Code.p2 (Code.p2 (Code.p2 (Code.p2 (Code.p2 (codeOf Tryd.f5)))))))))))))))))) 11 K70 [(0, strA t0), (3, v17), (5, .int .i64 t5), (6, .int .i64 t6), (7, (newP h_51)), (42, .bool t42)] [] h_74 := by
        intro t42 h_74 hF
        rw [e75] at hF
        refine WL.n ?_
        refine Go.weaken (l' := [(0, strA t0), (3, v17), (5, .int .i64 t5), (6, .int .i64 t6), (7, (newP h_51)), (42, .bool t42)]) (Fr.c (Fr.c (Fr.c (Fr.c (Fr.c (Fr.c Fr.n)))))) ?_
        refine n70 ?_
        cases t42 with
        | true =>
         replace hF := ifB_t hF
         refine W.t ?_
         refine W.s (fun K77 n77 e77 q77 p77 => ?_)
         refine W.r ?_
         refine WL.a (some 2) (.bool false) h_74 ?_
         refine WL.n ?_
         refine Go.weaken (l' := [(2, .bool false)]) (Fr.c Fr.n) ?_
         refine n77 ?_
         refine W.ret (by kernel_rfl) ?_
         refine q69 ?_
         refine q57 ?_
         refine q56 ?_
         refine q50 ?_
         refine q34 ?_
         refine q32 ?_
         obtain ⟨hF, hF2⟩ := ret_inj hF; subst hF; subst hF2
         exact leave_of (rs := [.tmp 2]) (vs := [.bool false]) (by kernel_rfl) (res_tmp (by kernel_rfl) res_nil) (by kernel_rfl)
        | false =>
         replace hF := ifB_f hF
         refine W.f ?_
         refine W.skip (by kernel_rfl) ?_
         refine n69 ?_
         refine W.s (fun K78 n78 e78 q78 p78 => ?_)
         refine W.s (fun K79 n79 e79 q79 p79 => ?_)
         refine W.r ?_
         refine WL.a (some 43) (.int .i64 t5) h_74 ?_
         refine WL.a (some 8) (.int .i64 t5) h_74 ?_
         refine WL.n ?_
         refine Go.weaken (l' := [(0, strA t0), (3, v17), (6, .int .i64 t6), (7, (newP h_51)), (8, .int .i64 t5)]) (Fr.c (Fr.c (Fr.c (Fr.c (Fr.c Fr.n))))) ?_
         refine n79 ?_
         replace hF := lett_some hF; obtain ⟨k81, e81, hF⟩ := hF
         have J81 : ∀  (h_82 : AHeap), k81 h_82 = some (rR, hR) → Go w0 m0 (Func.ntmps Tryd.f5) (K78 .normal) [(0, strA t0), (3, v17), (6, .int .i64 t6), (7, (newP h_51))] [] h_82 := by
          intro  h_82 hF
          rw [e81] at hF
          refine n78 ?_
          refine W.s (fun K83 n83 e83 q83 p83 => ?_)
          refine W.r ?_
          refine WL.a (some 95) (AV.ptr (AHeap.next h_51) 3) h_82 ?_
          replace hF := obind_some hF; obtain ⟨v96, e84, hF⟩ := hF
          replace hF := obind_some hF; obtain ⟨t96, c85, hF⟩ := hF
          have c85 := avInt_some c85
          subst c85
          refine WL.b (some 96) (.int .i64 t96) h_82 (load_cell (P := Tryd.prog) (h := h_82) (t := 3) (by kernel_rfl) e84) ?_
          refine WL.a (some 5) (.int .i64 t96) h_82 ?_
          refine WL.n ?_
          refine Go.weaken (l' := [(0, strA t0), (3, v17), (5, .int .i64 t96), (6, .int .i64 t6), (7, (newP h_51))]) (Fr.c (Fr.c (Fr.c (Fr.c (Fr.c Fr.n))))) ?_
          refine n83 ?_
          refine W.s (fun K86 n86 e86 q86 p86 => ?_)
          refine W.s (fun K87 n87 e87 q87 p87 => ?_)
          refine W.r ?_
          refine WL.a (some 97) (AV.ptr (AHeap.next h_51) 0) h_82 ?_
          replace hF := obind_some hF; obtain ⟨v98, e88, hF⟩ := hF
          replace hF := obind_some hF; obtain ⟨t98, c89, hF⟩ := hF
          have c89 := avInt_some c89
          subst c89
          refine WL.b (some 98) (.int .i64 t98) h_82 (load_cell (P := Tryd.prog) (h := h_82) (t := 3) (by kernel_rfl) e88) ?_
          replace hF := lett_some hF; obtain ⟨t99, e90, hF⟩ := hF
          refine WL.val (d := (some 99)) (v := .bool t99) (h' := h_82) (by kernel_rfl) (by kernel_rfl) (val_of AV.bool e90 (by kernel_rfl)) ?_
          refine WL.n ?_
          refine Go.weaken (l' := [(0, strA t0), (3, v17), (5, .int .i64 t96), (6, .int .i64 t6), (7, (newP h_51)), (99, .bool t99)]) (Fr.c (Fr.c (Fr.c (Fr.c (Fr.c (Fr.c Fr.n)))))) ?_
          refine n87 ?_
          cases t99 with
          | true =>
           replace hF := ifB_t hF
           refine W.t ?_
           refine W.s (fun K91 n91 e91 q91 p91 => ?_)
           refine W.s (fun K92 n92 e92 q92 p92 => ?_)
           refine W.r ?_
           refine WL.a (some 100) (.int .i64 t96) h_82 ?_
           refine WL.a (some 101) (strA t0) h_82 ?_
           refine WL.a (some 102) (.int .i64 (lenS t0)) h_82 ?_
           replace hF := lett_some hF; obtain ⟨t103, e93, hF⟩ := hF
           refine WL.val (d := (some 103)) (v := .bool t103) (h' := h_82) (by kernel_rfl) (by kernel_rfl) (val_of AV.bool e93 (by kernel_rfl)) ?_
           refine WL.a (some 104) (.bool t103) h_82 ?_
           replace hF := lett_some hF; obtain ⟨j109, e95, hF⟩ := hF
           have J96 : ∀ (t109 : Bool) (h_94 : AHeap), j109 t109 h_94 = some (rR, hR) → WL Tryd.prog w0 m0 (Func.ntmps Tryd.f5) (Code.ops (Code.p1 (Code.p1 (Code.p1 (Code.p2 (Code.p1 (Code.p2 (Code.p2 (Code.p2 (Code.p2 (Code.p1 (Code.p1 (Code.p2 (Code.p1 (Code.p1 (Code.p2 (Code.p1 (Code.p2 (Code.p2 (Code.p2 (Code.p2 (Code.p2 (Code.p2 (codeOf Tryd.f5)))))))))))))))))))))))) 10 K92 [(0, strA t0), (3, v17), (5, .int .i64 t96), (6, .int .i64 t6), (109, .bool t109)] [] h_94 := by
            intro t109 h_94 hF
            rw [e95] at hF
            refine WL.a (some 110) (.bool t109) h_94 ?_
            replace hF := lett_some hF; obtain ⟨j113, e98, hF⟩ := hF
            have J99 : ∀ (t113 : Bool) (h_97 : AHeap), j113 t113 h_97 = some (rR, hR) → WL Tryd.prog w0 m0 (Func.ntmps Tryd.f5) (Code.ops (Code.p1 (Code.p1 (Code.p1 (Code.p2 (Code.p1 (Code.p2 (Code.p2 (Code.p2 (Code.p2 (Code.p1 (Code.p1 (Code.p2 (Code.p1 (Code.p1 (Code.p2 (Code.p1 (Code.p2 (Code.p2 (Code.p2 (Code.p2 (Code.p2 (Code.p2 (codeOf Tryd.f5)))))))))))))))))))))))) 14 K92 [(0, strA t0), (3, v17), (5, .int .i64 t96), (6, .int .i64 t6), (113, .bool t113)] [] h_97 := by
             intro t113 h_97 hF
             rw [e98] at hF
             refine WL.a (some 114) (.bool t113) h_97 ?_
             replace hF := lett_some hF; obtain ⟨j122, e101, hF⟩ := hF
             have J102 : ∀ (t122 : Bool) (h_100 : AHeap), j122 t122 h_100 = some (rR, hR) → WL Tryd.prog w0 m0 (Func.ntmps Tryd.f5) (Code.ops (Code.p1 (Code.p1 (Code.p1 (Code.p2 (Code.p1 (Code.p2 (Code.p2 (Code.p2 (Code.p2 (Code.p1 (Code.p1 (Code.p2 (Code.p1 (Code.p1 (Code.p2 (Code.p1 (Code.p2 (Code.p2 (Code.p2 (Code.p2 (Code.p2 (Code.p2 (codeOf Tryd.f5)))))))))))))))))))))))) 23 K92 [(0, strA t0), (3, v17), (5, .int .i64 t96), (6, .int .i64 t6), (122, .bool t122)] [] h_100 := by
              intro t122 h_100 hF
              rw [e101] at hF
              refine WL.n ?_
              refine Go.weaken (l' := [(0, strA t0), (3, v17), (5, .int .i64 t96), (6, .int .i64 t6), (122, .bool t122)]) (Fr.c (Fr.c (Fr.c (Fr.c (Fr.c Fr.n))))) ?_
              refine n92 ?_
              cases t122 with
              | true =>
               replace hF := ifB_t hF
               refine W.t ?_
               refine W.s (fun K103 n103 e103 q103 p103 => ?_)
               refine W.r ?_
               refine WL.a (some 2) (.bool false) h_100 ?_
               refine WL.n ?_
               refine Go.weaken (l' := [(2, .bool false)]) (Fr.c Fr.n) ?_
               refine n103 ?_
               refine W.ret (by kernel_rfl) ?_
               refine q91 ?_
               refine q86 ?_
               refine q57 ?_
               refine q56 ?_
               refine q50 ?_
               refine q34 ?_
               refine q32 ?_
               obtain ⟨hF, hF2⟩ := ret_inj hF; subst hF; subst hF2
               exact leave_of (rs := [.tmp 2]) (vs := [.bool false]) (by kernel_rfl) (res_tmp (by kernel_rfl) res_nil) (by kernel_rfl)
              | false =>
               replace hF := ifB_f hF
               refine W.f ?_
               refine W.skip (by kernel_rfl) ?_
               refine n91 ?_
               refine W.exit (by kernel_rfl) ?_
               refine e86 ?_
               refine s57 (by kernel_rfl) ?_
               exact Go.weaken (Fr.c (Fr.c (Fr.c (Fr.c Fr.n)))) (J58 _ _ hF)
             cases t113 with
             | true =>
              replace hF := ifB_t hF
              refine WL.o (some 115) ?_
              refine WL.o (some 116) ?_
              refine WL.o (some 117) ?_
              refine WL.o (some 118) ?_
              refine WL.o (some 119) ?_
              refine WL.o (some 120) ?_
              refine WL.o (some 121) ?_
              refine WL.a (some 122) (.bool true) h_97 ?_
              exact WL.weaken (Fr.c (Fr.c (Fr.c (Fr.c (Fr.c Fr.n))))) (J102 _ _ hF)
             | false =>
              replace hF := ifB_f hF
              refine WL.a (some 115) v17 h_97 ?_
              refine WL.a (some 116) (.int .i64 t6) h_97 ?_
              replace hF := lett_some hF; obtain ⟨t117, e104, hF⟩ := hF
              refine WL.val (d := (some 117)) (v := .int .i64 t117) (h' := h_97) (by kernel_rfl) (by kernel_rfl) (val_of (AV.int .i64) e104 (by kernel_rfl)) ?_
              replace hF := obind_some hF; obtain ⟨t118, e105, hF⟩ := hF
              refine WL.b (some 118) t118 h_97 (index_row (P := Tryd.prog) (h := h_97) (t := 24) (e' := 37) (k := .i64) (by kernel_rfl) (by kernel_rfl) (by kernel_rfl) e105) ?_
              replace hF := obind_some hF; obtain ⟨t119, e106, hF⟩ := hF
              refine WL.b (some 119) t119 h_97 (field_ptr (P := Tryd.prog) (h := h_97) (s := 37) (f := 0) (by kernel_rfl) e106) ?_
              replace hF := obind_some hF; obtain ⟨v120, e107, hF⟩ := hF
              replace hF := obind_some hF; obtain ⟨t120, c108, hF⟩ := hF
              have c108 := avInt_some c108
              subst c108
              refine WL.b (some 120) (.int .i64 t120) h_97 (load_cell (P := Tryd.prog) (h := h_97) (t := 3) (by kernel_rfl) e107) ?_
              replace hF := lett_some hF; obtain ⟨t121, e109, hF⟩ := hF
              refine WL.val (d := (some 121)) (v := .bool t121) (h' := h_97) (by kernel_rfl) (by kernel_rfl) (val_of AV.bool e109 (by kernel_rfl)) ?_
              refine WL.a (some 122) (.bool t121) h_97 ?_
              exact WL.weaken (Fr.c (Fr.c (Fr.c (Fr.c (Fr.c Fr.n))))) (J102 _ _ hF)
            cases t109 with
            | true =>
             replace hF := ifB_t hF
             refine WL.o (some 111) ?_
             refine WL.o (some 112) ?_
             refine WL.a (some 113) (.bool true) h_94 ?_
             exact WL.weaken (Fr.c (Fr.c (Fr.c (Fr.c (Fr.c Fr.n))))) (J99 _ _ hF)
            | false =>
             replace hF := ifB_f hF
             refine WL.a (some 111) (.int .i64 t6) h_94 ?_
             replace hF := lett_some hF; obtain ⟨t112, e110, hF⟩ := hF
             refine WL.val (d := (some 112)) (v := .bool t112) (h' := h_94) (by kernel_rfl) (by kernel_rfl) (val_of AV.bool e110 (by kernel_rfl)) ?_
             refine WL.a (some 113) (.bool t112) h_94 ?_
             exact WL.weaken (Fr.c (Fr.c (Fr.c (Fr.c (Fr.c Fr.n))))) (J99 _ _ hF)
           cases t103 with
           | true =>
            replace hF := ifB_t hF
            refine WL.a (some 105) (strA t0) h_82 ?_
            refine WL.a (some 106) (.int .i64 t96) h_82 ?_
            replace hF := obind_some hF; obtain ⟨t107, e111, hF⟩ := hF
            refine WL.b (some 107) (.int .u8 t107) h_82 (index_str (P := Tryd.prog) (h := h_82) (t := 9) (k := .i64) (by kernel_rfl) e111) ?_
            replace hF := lett_some hF; obtain ⟨t108, e112, hF⟩ := hF
            refine WL.val (d := (some 108)) (v := .bool t108) (h' := h_82) (by kernel_rfl) (by kernel_rfl) (val_of AV.bool e112 (by kernel_rfl)) ?_
            refine WL.a (some 109) (.bool t108) h_82 ?_
            exact WL.weaken (Fr.c (Fr.c (Fr.c (Fr.c (Fr.c Fr.n))))) (J96 _ _ hF)
           | false =>
            replace hF := ifB_f hF
            refine WL.o (some 105) ?_
            refine WL.o (some 106) ?_
            refine WL.o (some 107) ?_
            refine WL.o (some 108) ?_
            refine WL.a (some 109) (.bool false) h_82 ?_
            exact WL.weaken (Fr.c (Fr.c (Fr.c (Fr.c (Fr.c Fr.n))))) (J96 _ _ hF)
          | false =>
           replace hF := ifB_f hF
           refine W.f ?_
           refine W.skip (by kernel_rfl) ?_
           refine n86 ?_
           refine W.s (fun K113 n113 e113 q113 p113 => ?_)
           refine W.r ?_
           replace hF := obind_some hF; obtain ⟨t123, e114, hF⟩ := hF
           refine WL.b (some 123) (.agg t123) h_82 (load_row (P := Tryd.prog) (h := h_82) (t := 37) (by kernel_rfl) (by kernel_rfl) e114) ?_
           replace hF := callK_some hF; rcases hF with ⟨r124, h_115, e116, hF⟩ | ⟨r124, h_115, e116, q130⟩
           ·replace hF := obind_some hF; obtain ⟨t124, c117, hF⟩ := hF
            have c117 := avStr_some c117
            subst c117
            refine WL.c (hc.ok w0) (some 124) e116 ?_
            refine WL.a (some 9) (strA t124) h_115 ?_
            refine WL.n ?_
            refine Go.weaken (l' := [(0, strA t0), (3, v17), (5, .int .i64 t96), (6, .int .i64 t6), (9, strA t124)]) (Fr.c (Fr.c (Fr.c (Fr.c (Fr.c Fr.n))))) ?_
            refine n113 ?_
            refine W.s (fun K118 n118 e118 q118 p118 => ?_)
            refine W.s (fun K119 n119 e119 q119 p119 => ?_)
            refine W.r ?_
            refine WL.a (some 125) (strA t0) h_115 ?_
            refine WL.a (some 126) (.int .i64 (lenS t0)) h_115 ?_
            refine WL.a (some 127) (.int .i64 t96) h_115 ?_
            replace hF := lett_some hF; obtain ⟨t128, e120, hF⟩ := hF
            refine WL.val (d := (some 128)) (v := .int .i64 t128) (h' := h_115) (by kernel_rfl) (by kernel_rfl) (val_of (AV.int .i64) e120 (by kernel_rfl)) ?_
            refine WL.a (some 129) (strA t124) h_115 ?_
            refine WL.a (some 130) (.int .i64 (lenS t124)) h_115 ?_
            replace hF := lett_some hF; obtain ⟨t131, e121, hF⟩ := hF
            refine WL.val (d := (some 131)) (v := .bool t131) (h' := h_115) (by kernel_rfl) (by kernel_rfl) (val_of AV.bool e121 (by kernel_rfl)) ?_
            refine WL.a (some 132) (.bool t131) h_115 ?_
            replace hF := lett_some hF; obtain ⟨j142, e123, hF⟩ := hF
            have J124 : ∀ (t142 : Bool) (h_122 : AHeap), j142 t142 h_122 = some (rR, hR) → WL Tryd.prog w0 m0 (Func.ntmps Tryd.f5) (Code.ops (Code.p1 (Code.p1 (Code.p2 (Code.p2 (Code.p2 (Code.p2 (Code.p2 (Code.p2 (Code.p1 (Code.p1 (Code.p2 (Code.p1 (Code.p1 (Code.p2 (Code.p1 (Code.p2 (Code.p2 (Code.p2 (Code.p2 (Code.p2 (Code.p2 (codeOf Tryd.f5))))))))))))))))))))))) 18 K119 [(0, strA t0), (3, v17), (5, .int .i64 t96), (6, .int .i64 t6), (9, strA t124), (142, .bool t142)] [] h_122 := by
             intro t142 h_122 hF
             rw [e123] at hF
             refine WL.n ?_
             refine Go.weaken (l' := [(0, strA t0), (3, v17), (5, .int .i64 t96), (6, .int .i64 t6), (9, strA t124), (142, .bool t142)]) (Fr.c (Fr.c (Fr.c (Fr.c (Fr.c (Fr.c Fr.n)))))) ?_
             refine n119 ?_
             cases t142 with
             | true =>
              replace hF := ifB_t hF
              refine W.t ?_
              refine W.s (fun K125 n125 e125 q125 p125 => ?_)
              refine W.r ?_
              refine WL.a (some 2) (.bool false) h_122 ?_
              refine WL.n ?_
              refine Go.weaken (l' := [(2, .bool false)]) (Fr.c Fr.n) ?_
              refine n125 ?_
              refine W.ret (by kernel_rfl) ?_
              refine q118 ?_
              refine q57 ?_
              refine q56 ?_
              refine q50 ?_
              refine q34 ?_
              refine q32 ?_
              obtain ⟨hF, hF2⟩ := ret_inj hF; subst hF; subst hF2
              exact leave_of (rs := [.tmp 2]) (vs := [.bool false]) (by kernel_rfl) (res_tmp (by kernel_rfl) res_nil) (by kernel_rfl)
             | false =>
              replace hF := ifB_f hF
              refine W.f ?_
              refine W.skip (by kernel_rfl) ?_
              refine n118 ?_
              refine W.r ?_
              refine WL.a (some 143) (.int .i64 t96) h_122 ?_
              refine WL.a (some 144) (strA t124) h_122 ?_
              refine WL.a (some 145) (.int .i64 (lenS t124)) h_122 ?_
              replace hF := lett_some hF; obtain ⟨t146, e126, hF⟩ := hF
              refine WL.val (d := (some 146)) (v := .int .i64 t146) (h' := h_122) (by kernel_rfl) (by kernel_rfl) (val_of (AV.int .i64) e126 (by kernel_rfl)) ?_
              refine WL.a (some 5) (.int .i64 t146) h_122 ?_
              refine WL.n ?_
              refine Go.weaken (l' := [(0, strA t0), (3, v17), (5, .int .i64 t146), (6, .int .i64 t6)]) (Fr.c (Fr.c (Fr.c (Fr.c Fr.n)))) ?_
              refine n57 ?_
              exact Go.weaken (Fr.c (Fr.c (Fr.c (Fr.c Fr.n)))) (J58 _ _ hF)
            cases t131 with
            | true =>
             replace hF := ifB_t hF
             refine WL.o (some 133) ?_
             refine WL.o (some 134) ?_
             refine WL.o (some 135) ?_
             refine WL.o (some 136) ?_
             refine WL.o (some 137) ?_
             refine WL.o (some 138) ?_
             refine WL.o (some 139) ?_
             refine WL.o (some 140) ?_
             refine WL.o (some 141) ?_
             refine WL.a (some 142) (.bool true) h_115 ?_
             exact WL.weaken (Fr.c (Fr.c (Fr.c (Fr.c (Fr.c (Fr.c Fr.n)))))) (J124 _ _ hF)
            | false =>
             replace hF := ifB_f hF
             refine WL.a (some 133) (strA t0) h_115 ?_
             refine WL.a (some 134) (.int .i64 t96) h_115 ?_
             refine WL.a (some 135) (.int .i64 t96) h_115 ?_
             refine WL.a (some 136) (strA t124) h_115 ?_
             refine WL.a (some 137) (.int .i64 (lenS t124)) h_115 ?_
             replace hF := lett_some hF; obtain ⟨t138, e127, hF⟩ := hF
             refine WL.val (d := (some 138)) (v := .int .i64 t138) (h' := h_115) (by kernel_rfl) (by kernel_rfl) (val_of (AV.int .i64) e127 (by kernel_rfl)) ?_
             replace hF := obind_some hF; obtain ⟨t139, e128, hF⟩ := hF
             refine WL.b (some 139) (strA t139) h_115 (slice_str (P := Tryd.prog) (h := h_115) (t := 9) (A := (some (.int .i64 t96))) (B := (some (.int .i64 t138))) (by kernel_rfl) (.inl ⟨_, rfl⟩) (.inl ⟨_, rfl⟩) e128) ?_
             refine WL.a (some 140) (strA t124) h_115 ?_
             replace hF := lett_some hF; obtain ⟨t141, e129, hF⟩ := hF
             refine WL.val (d := (some 141)) (v := .bool t141) (h' := h_115) (by kernel_rfl) (by kernel_rfl) (val_of AV.bool e129 (by kernel_rfl)) ?_
             refine WL.a (some 142) (.bool t141) h_115 ?_
             exact WL.weaken (Fr.c (Fr.c (Fr.c (Fr.c (Fr.c (Fr.c Fr.n)))))) (J124 _ _ hF)
           ·obtain ⟨zq, zr⟩ := pan_inj q130; subst zq; subst zr
            exact WL.callPanic (hc.ok w0) (d := (some 124)) (by kernel_rfl) (by kernel_rfl) (by kernel_rfl) e116 (p113 (p57 (p56 (p50 (p34 (p32 Pan.fin))))))
         refine W.blockK (by kernel_rfl) (fun K80 n80 s80 o80 q80 p80 => ?_)
         refine W.loopK (by kernel_rfl) (fun I131 K131 b131 n131 e131 q131 p131 => ?_)
         have L131 : ∀ (m : Nat) (t8 : Int) (h_132 : AHeap), law12_LexPlaces_L1 n t0 v17 t6 h_51 k81 m t8 h_132 = some (rR, hR) → Go w0 m0 (Func.ntmps Tryd.f5) I131 [(0, strA t0), (3, v17), (6, .int .i64 t6), (7, (newP h_51)), (8, .int .i64 t8)] [] h_132 := by
          intro m
          induction m with
          | zero => intro t8 h_132 hF; cases hF
          | succ m ih131 =>
           intro t8 h_132 hF
           rw [law12_LexPlaces_L1_s] at hF; unfold law12_LexPlaces_L1b at hF
           refine b131 ?_
           refine W.s (fun K133 n133 e133 q133 p133 => ?_)
           refine W.s (fun K134 n134 e134 q134 p134 => ?_)
           refine W.r ?_
           refine WL.a (some 44) (.int .i64 t8) h_132 ?_
           refine WL.a (some 45) (AV.ptr (AHeap.next h_51) 3) h_132 ?_
           replace hF := obind_some hF; obtain ⟨v46, e135, hF⟩ := hF
           replace hF := obind_some hF; obtain ⟨t46, c136, hF⟩ := hF
           have c136 := avInt_some c136
           subst c136
           refine WL.b (some 46) (.int .i64 t46) h_132 (load_cell (P := Tryd.prog) (h := h_132) (t := 3) (by kernel_rfl) e135) ?_
           replace hF := lett_some hF; obtain ⟨t47, e137, hF⟩ := hF
           refine WL.val (d := (some 47)) (v := .bool t47) (h' := h_132) (by kernel_rfl) (by kernel_rfl) (val_of AV.bool e137 (by kernel_rfl)) ?_
           refine WL.n ?_
           refine Go.weaken (l' := [(0, strA t0), (3, v17), (6, .int .i64 t6), (7, (newP h_51)), (8, .int .i64 t8), (47, .bool t47)]) (Fr.c (Fr.c (Fr.c (Fr.c (Fr.c (Fr.c Fr.n)))))) ?_
           refine n134 ?_
           cases t47 with
           | true =>
            replace hF := ifB_t hF
            refine W.t ?_
            refine W.skip (by kernel_rfl) ?_
            refine n133 ?_
            refine W.s (fun K138 n138 e138 q138 p138 => ?_)
            replace hF := lett_some hF; obtain ⟨k140, e140, hF⟩ := hF
            have J140 : ∀ (t8_141 : Int) (h_142 : AHeap), k140 t8_141 h_142 = some (rR, hR) → Go w0 m0 (Func.ntmps Tryd.f5) (K138 .normal) [(0, strA t0), (3, v17), (6, .int .i64 t6), (7, (newP h_51)), (8, .int .i64 t8_141)] [] h_142 := by
             intro t8_141 h_142 hF
             rw [e140] at hF
             refine n138 ?_
             refine W.r ?_
             refine WL.a (some 48) (.int .i64 t8_141) h_142 ?_
             replace hF := lett_some hF; obtain ⟨t49, e143, hF⟩ := hF
             refine WL.val (d := (some 49)) (v := .int .i64 t49) (h' := h_142) (by kernel_rfl) (by kernel_rfl) (val_of (AV.int .i64) e143 (by kernel_rfl)) ?_
             refine WL.a (some 8) (.int .i64 t49) h_142 ?_
             refine WL.n ?_
             refine Go.weaken (l' := [(0, strA t0), (3, v17), (6, .int .i64 t6), (7, (newP h_51)), (8, .int .i64 t49)]) (Fr.c (Fr.c (Fr.c (Fr.c (Fr.c Fr.n))))) ?_
             refine n131 ?_
             exact Go.weaken (Fr.c (Fr.c (Fr.c (Fr.c (Fr.c Fr.n))))) (ih131 _ _ hF)
            refine W.blockK (by kernel_rfl) (fun K139 n139 s139 o139 q139 p139 => ?_)
            refine W.s (fun K144 n144 e144 q144 p144 => ?_)
            refine W.s (fun K145 n145 e145 q145 p145 => ?_)
            refine W.r ?_
            refine WL.a (some 50) (strA t0) h_132 ?_
            refine WL.a (some 51) (.int .i64 t8) h_132 ?_
            replace hF := obind_some hF; obtain ⟨t52, e146, hF⟩ := hF
            refine WL.b (some 52) (.int .u8 t52) h_132 (index_str (P := Tryd.prog) (h := h_132) (t := 9) (k := .i64) (by kernel_rfl) e146) ?_
            replace hF := lett_some hF; obtain ⟨t53, e147, hF⟩ := hF
            refine WL.val (d := (some 53)) (v := .bool t53) (h' := h_132) (by kernel_rfl) (by kernel_rfl) (val_of AV.bool e147 (by kernel_rfl)) ?_
            refine WL.n ?_
            refine Go.weaken (l' := [(0, strA t0), (3, v17), (6, .int .i64 t6), (7, (newP h_51)), (8, .int .i64 t8), (53, .bool t53)]) (Fr.c (Fr.c (Fr.c (Fr.c (Fr.c (Fr.c Fr.n)))))) ?_
            refine n145 ?_
            cases t53 with
            | true =>
             replace hF := ifB_t hF
             refine W.t ?_
             refine W.s (fun K148 n148 e148 q148 p148 => ?_)
             replace hF := lett_some hF; obtain ⟨k150, e150, hF⟩ := hF
             have J150 : ∀ (t8_151 : Int) (h_152 : AHeap), k150 t8_151 h_152 = some (rR, hR) → Go w0 m0 (Func.ntmps Tryd.f5) (K148 .normal) [(0, strA t0), (3, v17), (6, .int .i64 t6), (7, (newP h_51)), (8, .int .i64 t8_151)] [] h_152 := by
              intro t8_151 h_152 hF
              rw [e150] at hF
              refine n148 ?_
              refine W.exit (by kernel_rfl) ?_
              refine e144 ?_
              refine s139 (by kernel_rfl) ?_
              exact Go.weaken (Fr.c (Fr.c (Fr.c (Fr.c (Fr.c Fr.n))))) (J140 _ _ hF)
             refine W.blockK (by kernel_rfl) (fun K149 n149 s149 o149 q149 p149 => ?_)
             refine W.loopK (by kernel_rfl) (fun I153 K153 b153 n153 e153 q153 p153 => ?_)
             have L153 : ∀ (m : Nat) (t8_154 : Int) (h_155 : AHeap), law12_LexPlaces_L2 t0 h_51 k150 m t8_154 h_155 = some (rR, hR) → Go w0 m0 (Func.ntmps Tryd.f5) I153 [(0, strA t0), (3, v17), (6, .int .i64 t6), (7, (newP h_51)), (8, .int .i64 t8_154)] [] h_155 := by
              intro m
              induction m with
              | zero => intro t8_154 h_155 hF; cases hF
              | succ m ih153 =>
               intro t8_154 h_155 hF
               rw [law12_LexPlaces_L2_s] at hF; unfold law12_LexPlaces_L2b at hF
               refine b153 ?_
               refine W.s (fun K156 n156 e156 q156 p156 => ?_)
               refine W.s (fun K157 n157 e157 q157 p157 => ?_)
               refine W.r ?_
               refine WL.a (some 54) (.int .i64 t8_154) h_155 ?_
               refine WL.a (some 55) (AV.ptr (AHeap.next h_51) 3) h_155 ?_
               replace hF := obind_some hF; obtain ⟨v56, e158, hF⟩ := hF
               replace hF := obind_some hF; obtain ⟨t56, c159, hF⟩ := hF
               have c159 := avInt_some c159
               subst c159
               refine WL.b (some 56) (.int .i64 t56) h_155 (load_cell (P := Tryd.prog) (h := h_155) (t := 3) (by kernel_rfl) e158) ?_
               replace hF := lett_some hF; obtain ⟨t57, e160, hF⟩ := hF
               refine WL.val (d := (some 57)) (v := .bool t57) (h' := h_155) (by kernel_rfl) (by kernel_rfl) (val_of AV.bool e160 (by kernel_rfl)) ?_
               refine WL.a (some 58) (.bool t57) h_155 ?_
               replace hF := lett_some hF; obtain ⟨j63, e162, hF⟩ := hF
               have J163 : ∀ (t63 : Bool) (h_161 : AHeap), j63 t63 h_161 = some (rR, hR) → WL Tryd.prog w0 m0 (Func.ntmps Tryd.f5) (Code.ops (Code.p1 (Code.p1 (Code.p1 (Code.p1 (Code.p1 (Code.p1 (Code.p2 (Code.p1 (Code.p1 (Code.p1 (Code.p2 (Code.p1 (Code.p1 (Code.p2 (Code.p1 (Code.p2 (Code.p2 (Code.p1 (Code.p1 (Code.p2 (Code.p1 (Code.p1 (Code.p2 (Code.p1 (Code.p2 (Code.p2 (Code.p2 (Code.p2 (Code.p2 (Code.p2 (codeOf Tryd.f5)))))))))))))))))))))))))))))))) 10 K157 [(0, strA t0), (3, v17), (6, .int .i64 t6), (7, (newP h_51)), (8, .int .i64 t8_154), (63, .bool t63)] [] h_161 := by
                intro t63 h_161 hF
                rw [e162] at hF
                refine WL.n ?_
                refine Go.weaken (l' := [(0, strA t0), (3, v17), (6, .int .i64 t6), (7, (newP h_51)), (8, .int .i64 t8_154), (63, .bool t63)]) (Fr.c (Fr.c (Fr.c (Fr.c (Fr.c (Fr.c Fr.n)))))) ?_
                refine n157 ?_
                cases t63 with
                | true =>
                 replace hF := ifB_t hF
                 refine W.t ?_
                 refine W.skip (by kernel_rfl) ?_
                 refine n156 ?_
                 refine W.blockK (by kernel_rfl) (fun K164 n164 s164 o164 q164 p164 => ?_)
                 refine W.r ?_
                 refine WL.a (some 64) (.int .i64 t8_154) h_161 ?_
                 replace hF := lett_some hF; obtain ⟨t65, e165, hF⟩ := hF
                 refine WL.val (d := (some 65)) (v := .int .i64 t65) (h' := h_161) (by kernel_rfl) (by kernel_rfl) (val_of (AV.int .i64) e165 (by kernel_rfl)) ?_
                 refine WL.a (some 8) (.int .i64 t65) h_161 ?_
                 refine WL.n ?_
                 refine Go.weaken (l' := [(0, strA t0), (3, v17), (6, .int .i64 t6), (7, (newP h_51)), (8, .int .i64 t65)]) (Fr.c (Fr.c (Fr.c (Fr.c (Fr.c Fr.n))))) ?_
                 refine n164 ?_
                 refine n153 ?_
                 exact Go.weaken (Fr.c (Fr.c (Fr.c (Fr.c (Fr.c Fr.n))))) (ih153 _ _ hF)
                | false =>
                 replace hF := ifB_f hF
                 refine W.f ?_
                 refine W.exit (by kernel_rfl) ?_
                 refine e156 ?_
                 refine e153 ?_
                 refine s149 (by kernel_rfl) ?_
                 exact Go.weaken (Fr.c (Fr.c (Fr.c (Fr.c (Fr.c Fr.n))))) (J150 _ _ hF)
               cases t57 with
               | true =>
                replace hF := ifB_t hF
                refine WL.a (some 59) (strA t0) h_155 ?_
                refine WL.a (some 60) (.int .i64 t8_154) h_155 ?_
                replace hF := obind_some hF; obtain ⟨t61, e166, hF⟩ := hF
                refine WL.b (some 61) (.int .u8 t61) h_155 (index_str (P := Tryd.prog) (h := h_155) (t := 9) (k := .i64) (by kernel_rfl) e166) ?_
                replace hF := lett_some hF; obtain ⟨t62, e167, hF⟩ := hF
                refine WL.val (d := (some 62)) (v := .bool t62) (h' := h_155) (by kernel_rfl) (by kernel_rfl) (val_of AV.bool e167 (by kernel_rfl)) ?_
                refine WL.a (some 63) (.bool t62) h_155 ?_
                exact WL.weaken (Fr.c (Fr.c (Fr.c (Fr.c (Fr.c (Fr.c Fr.n)))))) (J163 _ _ hF)
               | false =>
                replace hF := ifB_f hF
                refine WL.o (some 59) ?_
                refine WL.o (some 60) ?_
                refine WL.o (some 61) ?_
                refine WL.o (some 62) ?_
                refine WL.a (some 63) (.bool false) h_155 ?_
                exact WL.weaken (Fr.c (Fr.c (Fr.c (Fr.c (Fr.c (Fr.c Fr.n)))))) (J163 _ _ hF)
             exact Go.weaken (Fr.c (Fr.c (Fr.c (Fr.c (Fr.c Fr.n))))) (L153 _ _ _ hF)
            | false =>
             replace hF := ifB_f hF
             refine W.f ?_
             refine W.skip (by kernel_rfl) ?_
             refine n144 ?_
             refine W.s (fun K168 n168 e168 q168 p168 => ?_)
             refine W.r ?_
             refine WL.a (some 66) (strA t0) h_132 ?_
             refine WL.a (some 67) (.int .i64 t8) h_132 ?_
             replace hF := obind_some hF; obtain ⟨t68, e169, hF⟩ := hF
             refine WL.b (some 68) (.int .u8 t68) h_132 (index_str (P := Tryd.prog) (h := h_132) (t := 9) (k := .i64) (by kernel_rfl) e169) ?_
             replace hF := lett_some hF; obtain ⟨t69, e170, hF⟩ := hF
             refine WL.val (d := (some 69)) (v := .bool t69) (h' := h_132) (by kernel_rfl) (by kernel_rfl) (val_of AV.bool e170 (by kernel_rfl)) ?_
             refine WL.a (some 70) (.bool t69) h_132 ?_
             replace hF := lett_some hF; obtain ⟨j75, e172, hF⟩ := hF
             have J173 : ∀ (t75 : Bool) (h_171 : AHeap), j75 t75 h_171 = some (rR, hR) → WL Tryd.prog w0 m0 (Func.ntmps Tryd.f5) (Code.ops (Code.p1 (Code.p2 (Code.p1 (Code.p1 (Code.p2 (Code.p1 (Code.p1 (Code.p2 (Code.p1 (Code.p2 (Code.p2 (Code.p1 (Code.p1 (Code.p2 (Code.p1 (Code.p1 (Code.p2 (Code.p1 (Code.p2 (Code.p2 (Code.p2 (Code.p2 (Code.p2 (Code.p2 (codeOf Tryd.f5)))))))))))))))))))))))))) 10 K168 [(0, strA t0), (3, v17), (6, .int .i64 t6), (7, (newP h_51)), (8, .int .i64 t8), (75, .bool t75)] [] h_171 := by
              intro t75 h_171 hF
              rw [e172] at hF
              refine WL.a (some 76) (.bool t75) h_171 ?_
              replace hF := lett_some hF; obtain ⟨j94, e175, hF⟩ := hF
              have J176 : ∀ (t94 : Bool) (h_174 : AHeap), j94 t94 h_174 = some (rR, hR) → WL Tryd.prog w0 m0 (Func.ntmps Tryd.f5) (Code.ops (Code.p1 (Code.p2 (Code.p1 (Code.p1 (Code.p2 (Code.p1 (Code.p1 (Code.p2 (Code.p1 (Code.p2 (Code.p2 (Code.p1 (Code.p1 (Code.p2 (Code.p1 (Code.p1 (Code.p2 (Code.p1 (Code.p2 (Code.p2 (Code.p2 (Code.p2 (Code.p2 (Code.p2 (codeOf Tryd.f5)))))))))))))))))))))))))) 29 K168 [(0, strA t0), (3, v17), (6, .int .i64 t6), (7, (newP h_51)), (8, .int .i64 t8), (94, .bool t94)] [] h_174 := by
               intro t94 h_174 hF
               rw [e175] at hF
               refine WL.n ?_
               refine Go.weaken (l' := [(0, strA t0), (3, v17), (6, .int .i64 t6), (7, (newP h_51)), (8, .int .i64 t8), (94, .bool t94)]) (Fr.c (Fr.c (Fr.c (Fr.c (Fr.c (Fr.c Fr.n)))))) ?_
               refine n168 ?_
               cases t94 with
               | true =>
                replace hF := ifB_t hF
                refine W.t ?_
                refine W.s (fun K177 n177 e177 q177 p177 => ?_)
                refine W.r ?_
                refine WL.a (some 2) (.bool false) h_174 ?_
                refine WL.n ?_
                refine Go.weaken (l' := [(2, .bool false)]) (Fr.c Fr.n) ?_
                refine n177 ?_
                refine W.ret (by kernel_rfl) ?_
                refine q139 ?_
                refine q138 ?_
                refine q131 ?_
                refine q80 ?_
                refine q78 ?_
                refine q57 ?_
                refine q56 ?_
                refine q50 ?_
                refine q34 ?_
                refine q32 ?_
                obtain ⟨hF, hF2⟩ := ret_inj hF; subst hF; subst hF2
                exact leave_of (rs := [.tmp 2]) (vs := [.bool false]) (by kernel_rfl) (res_tmp (by kernel_rfl) res_nil) (by kernel_rfl)
               | false =>
                replace hF := ifB_f hF
                refine W.f ?_
                refine W.skip (by kernel_rfl) ?_
                refine n139 ?_
                exact Go.weaken (Fr.c (Fr.c (Fr.c (Fr.c (Fr.c Fr.n))))) (J140 _ _ hF)
              cases t75 with
              | true =>
               replace hF := ifB_t hF
               refine WL.a (some 77) (strA t0) h_171 ?_
               refine WL.a (some 78) (.int .i64 t8) h_171 ?_
               replace hF := obind_some hF; obtain ⟨t79, e178, hF⟩ := hF
               refine WL.b (some 79) (.int .u8 t79) h_171 (index_str (P := Tryd.prog) (h := h_171) (t := 9) (k := .i64) (by kernel_rfl) e178) ?_
               replace hF := lett_some hF; obtain ⟨t80, e179, hF⟩ := hF
               refine WL.val (d := (some 80)) (v := .bool t80) (h' := h_171) (by kernel_rfl) (by kernel_rfl) (val_of AV.bool e179 (by kernel_rfl)) ?_
               refine WL.a (some 81) (.bool t80) h_171 ?_
               replace hF := lett_some hF; obtain ⟨j93, e181, hF⟩ := hF
               have J182 : ∀ (t93 : Bool) (h_180 : AHeap), j93 t93 h_180 = some (rR, hR) → WL Tryd.prog w0 m0 (Func.ntmps Tryd.f5) (Code.ops (Code.p1 (Code.p2 (Code.p1 (Code.p1 (Code.p2 (Code.p1 (Code.p1 (Code.p2 (Code.p1 (Code.p2 (Code.p2 (Code.p1 (Code.p1 (Code.p2 (Code.p1 (Code.p1 (Code.p2 (Code.p1 (Code.p2 (Code.p2 (Code.p2 (Code.p2 (Code.p2 (Code.p2 (codeOf Tryd.f5)))))))))))))))))))))))))) 28 K168 [(0, strA t0), (3, v17), (6, .int .i64 t6), (7, (newP h_51)), (8, .int .i64 t8), (76, .bool true), (93, .bool t93)] [] h_180 := by
                intro t93 h_180 hF
                rw [e181] at hF
                refine WL.a (some 94) (.bool t93) h_180 ?_
                exact WL.weaken (Fr.c (Fr.c (Fr.c (Fr.c (Fr.c (Fr.c Fr.n)))))) (J176 _ _ hF)
               cases t80 with
               | true =>
                replace hF := ifB_t hF
                refine WL.o (some 82) ?_
                refine WL.o (some 83) ?_
                refine WL.o (some 84) ?_
                refine WL.o (some 85) ?_
                refine WL.o (some 86) ?_
                refine WL.o (some 87) ?_
                refine WL.o (some 88) ?_
                refine WL.o (some 89) ?_
                refine WL.o (some 90) ?_
                refine WL.o (some 91) ?_
                refine WL.o (some 92) ?_
                refine WL.a (some 93) (.bool true) h_171 ?_
                exact WL.weaken (Fr.c (Fr.c (Fr.c (Fr.c (Fr.c (Fr.c (Fr.c Fr.n))))))) (J182 _ _ hF)
               | false =>
                replace hF := ifB_f hF
                refine WL.a (some 82) (.int .i64 t6) h_171 ?_
                replace hF := lett_some hF; obtain ⟨t83, e183, hF⟩ := hF
                refine WL.val (d := (some 83)) (v := .bool t83) (h' := h_171) (by kernel_rfl) (by kernel_rfl) (val_of AV.bool e183 (by kernel_rfl)) ?_
                refine WL.a (some 84) (.bool t83) h_171 ?_
                replace hF := lett_some hF; obtain ⟨j92, e185, hF⟩ := hF
                have J186 : ∀ (t92 : Bool) (h_184 : AHeap), j92 t92 h_184 = some (rR, hR) → WL Tryd.prog w0 m0 (Func.ntmps Tryd.f5) (Code.ops (Code.p1 (Code.p2 (Code.p1 (Code.p1 (Code.p2 (Code.p1 (Code.p1 (Code.p2 (Code.p1 (Code.p2 (Code.p2 (Code.p1 (Code.p1 (Code.p2 (Code.p1 (Code.p1 (Code.p2 (Code.p1 (Code.p2 (Code.p2 (Code.p2 (Code.p2 (Code.p2 (Code.p2 (codeOf Tryd.f5)))))))))))))))))))))))))) 27 K168 [(0, strA t0), (3, v17), (6, .int .i64 t6), (7, (newP h_51)), (8, .int .i64 t8), (76, .bool true), (81, .bool false), (92, .bool t92)] [] h_184 := by
                 intro t92 h_184 hF
                 rw [e185] at hF
                 refine WL.a (some 93) (.bool t92) h_184 ?_
                 exact WL.weaken (Fr.c (Fr.c (Fr.c (Fr.c (Fr.c (Fr.c (Fr.c Fr.n))))))) (J182 _ _ hF)
                cases t83 with
                | true =>
                 replace hF := ifB_t hF
                 refine WL.a (some 85) v17 h_171 ?_
                 refine WL.a (some 86) (.int .i64 t6) h_171 ?_
                 replace hF := lett_some hF; obtain ⟨t87, e187, hF⟩ := hF
                 refine WL.val (d := (some 87)) (v := .int .i64 t87) (h' := h_171) (by kernel_rfl) (by kernel_rfl) (val_of (AV.int .i64) e187 (by kernel_rfl)) ?_
                 replace hF := obind_some hF; obtain ⟨t88, e188, hF⟩ := hF
                 refine WL.b (some 88) t88 h_171 (index_row (P := Tryd.prog) (h := h_171) (t := 24) (e' := 37) (k := .i64) (by kernel_rfl) (by kernel_rfl) (by kernel_rfl) e188) ?_
                 replace hF := obind_some hF; obtain ⟨t89, e189, hF⟩ := hF
                 refine WL.b (some 89) t89 h_171 (field_ptr (P := Tryd.prog) (h := h_171) (s := 37) (f := 0) (by kernel_rfl) e189) ?_
                 replace hF := obind_some hF; obtain ⟨v90, e190, hF⟩ := hF
                 replace hF := obind_some hF; obtain ⟨t90, c191, hF⟩ := hF
                 have c191 := avInt_some c191
                 subst c191
                 refine WL.b (some 90) (.int .i64 t90) h_171 (load_cell (P := Tryd.prog) (h := h_171) (t := 3) (by kernel_rfl) e190) ?_
                 replace hF := lett_some hF; obtain ⟨t91, e192, hF⟩ := hF
                 refine WL.val (d := (some 91)) (v := .bool t91) (h' := h_171) (by kernel_rfl) (by kernel_rfl) (val_of AV.bool e192 (by kernel_rfl)) ?_
                 refine WL.a (some 92) (.bool t91) h_171 ?_
                 exact WL.weaken (Fr.c (Fr.c (Fr.c (Fr.c (Fr.c (Fr.c (Fr.c (Fr.c Fr.n)))))))) (J186 _ _ hF)
                | false =>
                 replace hF := ifB_f hF
                 refine WL.o (some 85) ?_
                 refine WL.o (some 86) ?_
                 refine WL.o (some 87) ?_
                 refine WL.o (some 88) ?_
                 refine WL.o (some 89) ?_
                 refine WL.o (some 90) ?_
                 refine WL.o (some 91) ?_
                 refine WL.a (some 92) (.bool false) h_171 ?_
                 exact WL.weaken (Fr.c (Fr.c (Fr.c (Fr.c (Fr.c (Fr.c (Fr.c (Fr.c Fr.n)))))))) (J186 _ _ hF)
              | false =>
               replace hF := ifB_f hF
               refine WL.o (some 77) ?_
               refine WL.o (some 78) ?_
               refine WL.o (some 79) ?_
               refine WL.o (some 80) ?_
               refine WL.o (some 81) ?_
               refine WL.o (some 82) ?_
               refine WL.o (some 83) ?_
               refine WL.o (some 84) ?_
               refine WL.o (some 85) ?_
               refine WL.o (some 86) ?_
               refine WL.o (some 87) ?_
               refine WL.o (some 88) ?_
               refine WL.o (some 89) ?_
               refine WL.o (some 90) ?_
               refine WL.o (some 91) ?_
               refine WL.o (some 92) ?_
               refine WL.o (some 93) ?_
               refine WL.a (some 94) (.bool false) h_171 ?_
               exact WL.weaken (Fr.c (Fr.c (Fr.c (Fr.c (Fr.c (Fr.c Fr.n)))))) (J176 _ _ hF)
             cases t69 with
             | true =>
              replace hF := ifB_t hF
              refine WL.a (some 71) (strA t0) h_132 ?_
              refine WL.a (some 72) (.int .i64 t8) h_132 ?_
              replace hF := obind_some hF; obtain ⟨t73, e193, hF⟩ := hF
              refine WL.b (some 73) (.int .u8 t73) h_132 (index_str (P := Tryd.prog) (h := h_132) (t := 9) (k := .i64) (by kernel_rfl) e193) ?_
              replace hF := lett_some hF; obtain ⟨t74, e194, hF⟩ := hF
              refine WL.val (d := (some 74)) (v := .bool t74) (h' := h_132) (by kernel_rfl) (by kernel_rfl) (val_of AV.bool e194 (by kernel_rfl)) ?_
              refine WL.a (some 75) (.bool t74) h_132 ?_
              exact WL.weaken (Fr.c (Fr.c (Fr.c (Fr.c (Fr.c (Fr.c Fr.n)))))) (J173 _ _ hF)
             | false =>
              replace hF := ifB_f hF
              refine WL.o (some 71) ?_
              refine WL.o (some 72) ?_
              refine WL.o (some 73) ?_
              refine WL.o (some 74) ?_
              refine WL.a (some 75) (.bool false) h_132 ?_
              exact WL.weaken (Fr.c (Fr.c (Fr.c (Fr.c (Fr.c (Fr.c Fr.n)))))) (J173 _ _ hF)
           | false =>
            replace hF := ifB_f hF
            refine W.f ?_
            refine W.exit (by kernel_rfl) ?_
            refine e133 ?_
            refine e131 ?_
            refine s80 (by kernel_rfl) ?_
            exact Go.weaken (Fr.c (Fr.c (Fr.c (Fr.c Fr.n)))) (J81 _ hF)
         exact Go.weaken (Fr.c (Fr.c (Fr.c (Fr.c (Fr.c Fr.n))))) (L131 _ _ _ hF)
       cases t35 with
       | true =>
        replace hF := ifB_t hF
        refine WL.o (some 37) ?_
        refine WL.o (some 38) ?_
        refine WL.o (some 39) ?_
        refine WL.o (some 40) ?_
        refine WL.o (some 41) ?_
        refine WL.a (some 42) (.bool true) h_67 ?_
        exact WL.weaken (Fr.c (Fr.c (Fr.c (Fr.c (Fr.c (Fr.c Fr.n)))))) (J76 _ _ hF)
       | false =>
        replace hF := ifB_f hF
        refine WL.a (some 37) (AV.ptr (AHeap.next h_51) 3) h_67 ?_
        replace hF := obind_some hF; obtain ⟨v38, e195, hF⟩ := hF
        replace hF := obind_some hF; obtain ⟨t38, c196, hF⟩ := hF
        have c196 := avInt_some c196
        subst c196
        refine WL.b (some 38) (.int .i64 t38) h_67 (load_cell (P := Tryd.prog) (h := h_67) (t := 3) (by kernel_rfl) e195) ?_
        refine WL.a (some 39) (strA t0) h_67 ?_
        refine WL.a (some 40) (.int .i64 (lenS t0)) h_67 ?_
        replace hF := lett_some hF; obtain ⟨t41, e197, hF⟩ := hF
        refine WL.val (d := (some 41)) (v := .bool t41) (h' := h_67) (by kernel_rfl) (by kernel_rfl) (val_of AV.bool e197 (by kernel_rfl)) ?_
        refine WL.a (some 42) (.bool t41) h_67 ?_
        exact WL.weaken (Fr.c (Fr.c (Fr.c (Fr.c (Fr.c (Fr.c Fr.n)))))) (J76 _ _ hF)
      | false =>
       replace hF := ifB_f hF
       refine W.f ?_
       refine W.exit (by kernel_rfl) ?_
       refine e52 ?_
       refine e50 ?_
       refine s34 (by kernel_rfl) ?_
       exact Go.weaken (Fr.c Fr.n) (J35 _ hF)
    exact Go.weaken (Fr.c (Fr.c (Fr.c (Fr.c Fr.n)))) (L50 _ _ _ _ hF)
end Go.Proofs.YtjopejiooipmkaaDoor

namespace Go.Proofs.YtjopejiooipmkaaDoor
open Go.RowKit Abs
theorem take_head {t : T AV} {o n : Nat} {x : AV} {xs : List AV} (h : t.take o (n + 1) = some (x :: xs)) : t.get o = some x := by
 unfold T.take at h
 cases e1 : t.get o with
 | none => rw [e1] at h; cases h
 | some y =>
  rw [e1] at h
  cases e2 : t.take (o + 1) n with
  | none => rw [e2] at h; cases h
  | some ys =>
   rw [e2] at h
   cases h
   rfl
theorem row_head {H : AHeap} {b o n : Nat} {x : AV} {xs : List AV} (h : ldRow H (n + 1) (.ptr b o) = some (x :: xs)) : ldCell H (.ptr b o) = some x := by
 simp only [ldRow, rowGet] at h
 simp only [ldCell, cellGet]
 split at h
 ·exact take_head h
 ·exact take_head h
 ·exact take_head h
 ·cases h
section
variable {n d p q a b c N i : Nat} {h h0 H : AHeap} {u : Bytes} {Q : ARes → AHeap → Prop} {v : AV} {S : List Nat} {ys T : List RowT} {rows ls l : List (List AV)} {s : Bool}
theorem slc_row (hs : Slc N H 4 v ls) (hN : N ≤ H.next) {i : Nat} (hi : i < ls.length) : ∃ b, idxP 4 v (i : Int) = some (.ptr b (i * 4)) ∧ ∀ H', Tch [] H H' → ldRow H' 4 (.ptr b (i * 4)) = some ls[i] := by
 obtain ⟨b, _, x1, _⟩ := hs.row hi
 refine ⟨b, x1, fun H' t => ?_⟩
 obtain ⟨b', _, x2, r2⟩ := (hs.tch t hN (by simp)).row hi
 rw [x1] at x2
 simp only [Option.some.injEq, AV.ptr.injEq] at x2
 rw [x2.1]
 exact r2
theorem rem2_loop {k150 : Int → AHeap → R} {hb : AHeap} {kk m : Int} {t : Bytes} (hu : u.length ≤ 1000000) (Mx : Mem S h0 H ((hb.next, TTok, tokC kk t m a) :: ys)) (ha : a ≤ u.length) (hle : p + spanN restB (u.drop p) ≤ a) (hk : Wp (k150 ((p + spanN restB (u.drop p) : Nat) : Int) H) Q) :
  ∀ (f j : Nat), spanN restB (u.drop p) < f + j → j ≤ spanN restB (u.drop p) → Wp (law12_LexPlaces_L2 u hb k150 f ((p + j : Nat) : Int) H) Q
 | 0, j, hf, hj => by omega
 | f + 1, j, hf, hj => by
  rw [law12_LexPlaces_L2_s]
  unfold law12_LexPlaces_L2b
  unfold tokC at Mx
  by_cases hlt : j < spanN restB (u.drop p)
  ·have hl : p + j < u.length := by omega
   have hx : idxS u ((p + j : Nat) : Int) = some ((u[p + j]).toNat : Int) := idxS_nat hl
   have ht := span_lt hlt (by rw [List.length_drop]; omega)
   rw [List.getElem_drop] at ht
   change (((u[p + j]).toNat : Int) != 10) = true at ht
   repeat (first | ((with_reducible apply Wp.obind); (with_reducible exact avInt_int _ _)) | ((with_reducible apply Wp.ld0 Mx); rfl) | (with_reducible refine Wp.join1 (fun _ _ => ?_)) | ((with_reducible refine Wp.lettw ?_ ?_ ?_); omega; omega) | (with_reducible refine Wp.lett ?_) | ((with_reducible apply Wp.obind); (with_reducible exact hx)) | ((with_reducible refine Wp.ift ?_ ?_); first | (with_reducible assumption) | ((with_reducible apply decide_eq_true); omega)) | (with_reducible refine Wp.go1 (by assumption) ?_))
   rw [show ((p + j : Nat) : Int) + 1 = ((p + (j + 1) : Nat) : Int) by omega]
   exact rem2_loop hu Mx ha hle hk f (j + 1) (by omega) (by omega)
  ·have hj' : j = spanN restB (u.drop p) := by omega
   rw [← hj'] at hk hle
   by_cases hl : p + j < a
   ·have hx : idxS u ((p + j : Nat) : Int) = some ((u[p + j]).toNat : Int) := idxS_nat (by omega)
    have ht := span_stop hj' (by rw [List.length_drop]; omega)
    rw [List.getElem_drop] at ht
    change (((u[p + j]).toNat : Int) != 10) = false at ht
    repeat (first | ((with_reducible apply Wp.obind); (with_reducible exact avInt_int _ _)) | ((with_reducible apply Wp.ld0 Mx); rfl) | (with_reducible refine Wp.join1 (fun _ _ => ?_)) | (with_reducible refine Wp.lett ?_) | ((with_reducible apply Wp.obind); (with_reducible exact hx)) | ((with_reducible refine Wp.ift ?_ ?_); ((with_reducible first | apply decide_eq_true | apply bne_t); omega)) | ((with_reducible refine Wp.iff ?_ ?_); (with_reducible assumption)) | (with_reducible refine Wp.go1 (by assumption) ?_))
    exact hk
   ·repeat (first | ((with_reducible apply Wp.obind); (with_reducible exact avInt_int _ _)) | ((with_reducible apply Wp.ld0 Mx); rfl) | (with_reducible refine Wp.join1 (fun _ _ => ?_)) | (with_reducible refine Wp.lett ?_) | ((with_reducible refine Wp.iff ?_ ?_); first | (with_reducible rfl) | ((with_reducible apply decide_eq_false); omega)) | (with_reducible refine Wp.go1 (by assumption) ?_))
    exact hk
/-- which token stands ahead -/
def Prev (l : List (List AV)) (i : Nat) (s : Bool) : Prop := (s = false → i = 0 ∨ ∃ t m p, l[i - 1]? = some (tokC 6 t m p)) ∧ (s = true → 0 < i ∧ ∃ k t m p, l[i - 1]? = some (tokC k t m p) ∧ k ≠ 6)
set_option maxRecDepth 100000 in
theorem gap_loop {k81 : AHeap → R} {hb : AHeap} {kk m : Int} {t : Bytes} (hu : u.length ≤ 1000000) (hn : u.length + 20 < n) (hs : Slc N H 4 v l) (hN : N ≤ H.next) (hp : Prev l i s) (hi : i ≤ l.length) (hil : l.length ≤ 1000000) (Mx : Mem S h0 H ((hb.next, TTok, tokC kk t m a) :: ys)) (ha : a ≤ u.length) (hk : Wp (k81 H) Q) :
  ∀ (f p : Nat), a + 2 ≤ f + p → p ≤ a + 1 → (p ≤ a → Gap u s p a) → Wp (law12_LexPlaces_L1 n u v (i : Int) hb k81 f (p : Int) H) Q
 | 0, p, hf, hp1, g => by omega
 | f + 1, p, hf, hp1, g => by
  rw [law12_LexPlaces_L1_s]
  unfold law12_LexPlaces_L1b
  have Mt := Mx
  unfold tokC at Mx
  by_cases hlt : p < a
  ·have hl : p < u.length := by omega
   have hx : idxS u (p : Int) = some ((u[p]).toNat : Int) := idxS_nat hl
   cases g (by omega) with
   | here => omega
   | blank _ hb2 k =>
    have h3 : ((u[p]).toNat : Int) = 32 ∨ ((u[p]).toNat : Int) = 9 := by
     unfold blankB at hb2
     simpa using hb2
    rcases h3 with h3 | h3
    ·repeat (first | ((with_reducible apply Wp.obind); (with_reducible exact avInt_int _ _)) | ((with_reducible apply Wp.ld0 Mx); rfl) | (with_reducible refine Wp.join1 (fun _ _ => ?_)) | ((with_reducible refine Wp.lettw ?_ ?_ ?_); omega; omega) | (with_reducible refine Wp.lett ?_) | ((with_reducible apply Wp.obind); (with_reducible exact hx)) | ((with_reducible refine Wp.ift ?_ ?_); ((with_reducible first | apply decide_eq_true | apply bne_t | apply beq_t); omega)) | ((with_reducible refine Wp.iff ?_ ?_); first | (with_reducible rfl) | ((with_reducible first | apply bne_f | apply beq_f); omega)) | (with_reducible refine Wp.go1 (by assumption) ?_))
     rw [show (p : Int) + 1 = ((p + 1 : Nat) : Int) by omega]
     exact gap_loop hu hn hs hN hp hi hil Mt ha hk f (p + 1) (by omega) (by omega) (fun _ => k)
    ·repeat (first | ((with_reducible apply Wp.obind); (with_reducible exact avInt_int _ _)) | ((with_reducible apply Wp.ld0 Mx); rfl) | (with_reducible refine Wp.join1 (fun _ _ => ?_)) | ((with_reducible refine Wp.lettw ?_ ?_ ?_); omega; omega) | (with_reducible refine Wp.lett ?_) | ((with_reducible apply Wp.obind); (with_reducible exact hx)) | ((with_reducible refine Wp.ift ?_ ?_); ((with_reducible first | apply decide_eq_true | apply bne_t | apply beq_t); omega)) | ((with_reducible refine Wp.iff ?_ ?_); first | (with_reducible rfl) | ((with_reducible first | apply bne_f | apply beq_f); omega)) | (with_reducible refine Wp.go1 (by assumption) ?_))
     rw [show (p : Int) + 1 = ((p + 1 : Nat) : Int) by omega]
     exact gap_loop hu hn hs hN hp hi hil Mt ha hk f (p + 1) (by omega) (by omega) (fun _ => k)
   | remark _ hb2 k =>
    have hle := k.le
    have h3 : ((u[p]).toNat : Int) = 35 := by rw [hb2]; rfl
    have hsp := span_le restB (u.drop p)
    rw [List.length_drop] at hsp
    have h1 : 1 ≤ spanN restB (u.drop p) := by
     rw [List.drop_eq_getElem_cons hl, spanN, if_pos (by rw [hb2]; rfl)]
     omega
    repeat (first | ((with_reducible apply Wp.obind); (with_reducible exact avInt_int _ _)) | ((with_reducible apply Wp.ld0 Mx); rfl) | (with_reducible refine Wp.join1 (fun _ _ => ?_)) | (with_reducible refine Wp.lett ?_) | ((with_reducible apply Wp.obind); (with_reducible exact hx)) | ((with_reducible refine Wp.ift ?_ ?_); ((with_reducible first | apply decide_eq_true | apply beq_t); omega)))
    refine rem2_loop (p := p) hu Mt ha hle ?_ n 0 (by omega) (by omega)
    repeat (first | ((with_reducible refine Wp.lettw ?_ ?_ ?_); omega; omega) | (with_reducible refine Wp.go1 (by assumption) ?_))
    rw [show ((p + spanN restB (u.drop p) : Nat) : Int) + 1 = ((p + spanN restB (u.drop p) + 1 : Nat) : Int) by omega]
    refine gap_loop hu hn hs hN hp hi hil Mt ha hk f _ (by omega) (by omega) (fun hh => ?_)
    refine (k.more (by omega) ?_).2
    have hj : p + spanN restB (u.drop p) < u.length := by omega
    have ht := span_stop (f := restB) (w := u.drop p) rfl (by rw [List.length_drop]; omega)
    rw [List.getElem_drop] at ht
    change (((u[p + spanN restB (u.drop p)]).toNat : Int) != 10) = false at ht
    rw [List.getElem?_eq_getElem hj]
    have : ((u[p + spanN restB (u.drop p)]).toNat : Int) = 10 := by simpa using ht
    simp only [Option.map_some, Option.some.injEq]
    exact_mod_cast this
   | nl _ hb2 hs0 k =>
    have h3 : ((u[p]).toNat : Int) = 10 := by rw [hb2]; rfl
    by_cases hi0 : 0 < i
    ·rcases hp.1 hs0 with h0 | ⟨t', m', p', e⟩
     ·omega
     ·obtain ⟨hil2, e2⟩ := List.getElem?_eq_some_iff.1 e
      obtain ⟨b1, x1, r1⟩ := slc_row hs hN hil2
      have r2 := r1 H (Tch.refl _ _)
      rw [e2] at r2
      unfold tokC at r2
      have r3 : ldCell H (.ptr b1 ((i - 1) * 4 + 0)) = some (.int .i64 6) := row_head r2
      rw [← show (i : Int) - 1 = ((i - 1 : Nat) : Int) by omega] at x1
      repeat (first | ((with_reducible apply Wp.obind); (with_reducible first | exact avInt_int _ _ | exact fldP_ptr _ _ _)) | ((with_reducible apply Wp.ld0 Mx); rfl) | (with_reducible refine Wp.join1 (fun _ _ => ?_)) | ((with_reducible refine Wp.lettw ?_ ?_ ?_); omega; omega) | (with_reducible refine Wp.lett ?_) | ((with_reducible apply Wp.obind); (with_reducible first | exact hx | exact x1 | exact r3)) | ((with_reducible refine Wp.ift ?_ ?_); ((with_reducible first | apply decide_eq_true | apply bne_t | apply beq_t); omega)) | ((with_reducible refine Wp.iff ?_ ?_); ((with_reducible first | apply bne_f | apply beq_f); omega)) | (with_reducible refine Wp.go1 (by assumption) ?_))
      rw [show (p : Int) + 1 = ((p + 1 : Nat) : Int) by omega]
      exact gap_loop hu hn hs hN hp hi hil Mt ha hk f (p + 1) (by omega) (by omega) (fun _ => k)
    ·repeat (first | ((with_reducible apply Wp.obind); (with_reducible exact avInt_int _ _)) | ((with_reducible apply Wp.ld0 Mx); rfl) | (with_reducible refine Wp.join1 (fun _ _ => ?_)) | ((with_reducible refine Wp.lettw ?_ ?_ ?_); omega; omega) | (with_reducible refine Wp.lett ?_) | ((with_reducible apply Wp.obind); (with_reducible exact hx)) | ((with_reducible refine Wp.ift ?_ ?_); ((with_reducible first | apply decide_eq_true | apply bne_t | apply beq_t); omega)) | ((with_reducible refine Wp.iff ?_ ?_); first | (with_reducible rfl) | ((with_reducible first | apply decide_eq_false | apply bne_f | apply beq_f); omega)) | (with_reducible refine Wp.go1 (by assumption) ?_))
     rw [show (p : Int) + 1 = ((p + 1 : Nat) : Int) by omega]
     exact gap_loop hu hn hs hN hp hi hil Mt ha hk f (p + 1) (by omega) (by omega) (fun _ => k)
  ·repeat (first | ((with_reducible apply Wp.obind); (with_reducible exact avInt_int _ _)) | ((with_reducible apply Wp.ld0 Mx); rfl) | (with_reducible refine Wp.lett ?_) | ((with_reducible refine Wp.iff ?_ ?_); ((with_reducible apply decide_eq_false); omega)))
   exact hk
set_option maxRecDepth 100000 in
theorem places_loop {k35 : AHeap → R} {st : Bool} (hu : u.length ≤ 2048) (hn : 10000 < n) (hN : N ≤ h.next) (hP : HasPow h) (hxB : memB TBld h.ex = true) (hx8 : memB TU8 h.ex = false) (hl : l.length ≤ 1000000) (hk : ∀ H', Tch [] h H' → Wp (k35 H') Q) {rest : List (List AV)} (pl : Places u st p rest) :
  ∀ (f i : Nat) (H : AHeap), l.drop i = rest → i ≤ l.length → rest.length < f → Prev l i st → Slc N h 4 v l → Tch [] h H → p ≤ u.length →
   Wp (law12_LexPlaces_L0 (world n (d + 7)) n u v k35 f (p : Int) (i : Int) H) Q := by
 induction pl with
 | @nil p =>
  intro f i H hd hi hf hp hs t hpu
  cases f with
  | zero => omega
  | succ f =>
   rw [law12_LexPlaces_L0_s]
   unfold law12_LexPlaces_L0b
   have hle := hs.len
   have : i = l.length := by
    have := congrArg List.length hd
    rw [List.length_drop] at this
    simp at this
    omega
   repeat (first | (with_reducible refine Wp.lett ?_) | ((with_reducible apply Wp.obind); (with_reducible exact hle)) | ((with_reducible refine Wp.iff ?_ ?_); ((with_reducible apply decide_eq_false); omega)))
   exact hk _ t
 | @tok s p q k tx m q' rest g hq ht r ih =>
  intro f i H hd hi hf hp hs t hpu
  cases f with
  | zero => omega
  | succ f =>
   rw [law12_LexPlaces_L0_s]
   unfold law12_LexPlaces_L0b
   have hle := hs.len
   have lu := lenS_nat u
   have hil : i < l.length := by
    have := congrArg List.length hd
    rw [List.length_drop] at this
    simp at this
    omega
   have hli : l[i] = tokC k tx m q := by
    rw [List.drop_eq_getElem_cons hil] at hd
    exact (List.cons.inj hd).1
   have hd2 : l.drop (i + 1) = rest := by
    rw [List.drop_eq_getElem_cons hil] at hd
    exact (List.cons.inj hd).2
   have hs2 := hs.tch t hN (by simp)
   have nt := t.1
   obtain ⟨b1, x1, r1⟩ := slc_row hs2 (by omega) hil
   have r2 := r1 H (Tch.refl _ _)
   rw [hli] at r1
   obtain ⟨_, _, hpq, hqu, _, hw, hk3, hk1, hk5, htl⟩ := token_word hq ht
   have hgl := g.le
   have Mx := Mem.nil [] H
   have hpl := fun (H' : AHeap) (tt : Tch [] H H') => lword_w (n := n) (d := d) (h := H') (p := q) (k := k) (m := m) (t := tx) hk3 (by omega) (by omega) (by omega) (hP.tch (t.trans tt) (by simp)) (by rw [tt.2.1, t.2.1]; exact hxB) (by rw [tt.2.1, t.2.1]; exact hx8)
   unfold tokC at r1 hpl
   have hwl : (wordQ k tx m).length = q' - q := by rw [← hw, List.length_take, List.length_drop]; omega
   have lw := lenS_nat (wordQ k tx m)
   repeat (first | ((with_reducible apply Wp.obind); (with_reducible exact avInt_int _ _)) | ((with_reducible apply Wp.ld0 Mx); rfl) | ((with_reducible apply Wp.sa0 Mx); rfl; rfl; (rfl); intro _ Mz; clear Mx; have Mx := Mz; clear Mz) | ((with_reducible apply Wp.mnew Mx); intro _ Mz; clear Mx; have Mx := Mz; clear Mz) | (with_reducible first | refine Wp.join0 (fun _ _ => ?_) | refine Wp.join1 (fun _ _ => ?_)) | (with_reducible refine Wp.lett ?_) | ((with_reducible apply Wp.obind); (with_reducible first | exact hle | exact x1 | exact r1 _ Mx.tch)) | ((with_reducible refine Wp.ift ?_ ?_); ((with_reducible apply decide_eq_true); omega)) | ((with_reducible refine Wp.iff ?_ ?_); ((with_reducible apply decide_eq_false); omega)) | (with_reducible refine Wp.go1 (by assumption) ?_) | rw [newP_eq])
   refine gap_loop (N := N) (l := l) (s := s) (S := []) (h0 := H) (ys := []) (by omega) (by omega) (hs2.tch Mx.tch (by omega) (by simp)) (by have := Mx.tch.1; omega) hp (by omega) hl Mx (by omega) ?_ n p (by omega) (by omega) (fun _ => g)
   have hsl := sl_nat (u := u) (a := q) (b := q') (by omega) (by omega)
   rw [hw] at hsl
   have es : eqS (wordQ k tx m) (wordQ k tx m) = true := eqS_true.2 rfl
   rw [show (q' : Int) = (q : Int) + lenS (wordQ k tx m) by omega] at hsl
   have hk6 : k ≠ 6 := by omega
   repeat (first | (rw [es]) | ((with_reducible apply Wp.obind); (with_reducible first | exact avInt_int _ _ | exact avStr_str _)) | ((with_reducible apply Wp.ld0 Mx); rfl) | ((with_reducible apply Wp.lr0 Mx); rfl) | (with_reducible refine Wp.join1 (fun _ _ => ?_)) | ((with_reducible refine Wp.lettw ?_ ?_ ?_); omega; omega) | (with_reducible refine Wp.lett ?_) | ((with_reducible apply Wp.obind); (with_reducible exact hsl)) | ((with_reducible refine Wp.iff ?_ ?_); first | (with_reducible exact Bool.not_true) | ((with_reducible first | apply decide_eq_false | apply beq_f); omega)) | ((with_reducible apply Wp.callK); (with_reducible exact hpl _ Mx.tch)) | (with_reducible first | refine Wp.go0 (by assumption) ?_ | refine Wp.go1 (by assumption) ?_))
   rw [show (i : Int) + 1 = ((i + 1 : Nat) : Int) by omega, show (q : Int) + lenS (wordQ k tx m) = (q' : Int) by omega]
   exact ih f (i + 1) _ hd2 (by omega) (by simp at hf; omega) ⟨(fun hh => by cases hh), fun _ => ⟨by omega, k, tx, m, q, by rw [Nat.add_sub_cancel, List.getElem?_eq_getElem hil, hli], hk6⟩⟩ hs (t.trans Mx.tch) hqu
 | @eol p q rest g hq he r ih =>
  intro f i H hd hi hf hp hs t hpu
  cases f with
  | zero => omega
  | succ f =>
   rw [law12_LexPlaces_L0_s]
   unfold law12_LexPlaces_L0b
   have hle := hs.len
   have lu := lenS_nat u
   have hil : i < l.length := by
    have := congrArg List.length hd
    rw [List.length_drop] at this
    simp at this
    omega
   have hli : l[i] = tokC 6 [] 0 q := by
    rw [List.drop_eq_getElem_cons hil] at hd
    exact (List.cons.inj hd).1
   have hd2 : l.drop (i + 1) = rest := by
    rw [List.drop_eq_getElem_cons hil] at hd
    exact (List.cons.inj hd).2
   have hs2 := hs.tch t hN (by simp)
   have nt := t.1
   obtain ⟨b1, x1, r1⟩ := slc_row hs2 (by omega) hil
   rw [hli] at r1
   have hgl := g.le
   have Mx := Mem.nil [] H
   unfold tokC at r1
   obtain ⟨hi0, k', t', m', p', e, hk6⟩ := hp.2 rfl
   obtain ⟨hil2, e2⟩ := List.getElem?_eq_some_iff.1 e
   obtain ⟨b2, x2, r2⟩ := slc_row hs2 (by omega) hil2
   rw [e2] at r2
   unfold tokC at r2
   have r3 := fun H' (tt : Tch [] H H') => (show ldCell H' (.ptr b2 ((i - 1) * 4 + 0)) = some (.int .i64 k') from row_head (r2 H' tt))
   rw [← show (i : Int) - 1 = ((i - 1 : Nat) : Int) by omega] at x2
   repeat (first | ((with_reducible apply Wp.obind); (with_reducible exact avInt_int _ _)) | ((with_reducible apply Wp.ld0 Mx); rfl) | ((with_reducible apply Wp.sa0 Mx); rfl; rfl; (rfl); intro _ Mz; clear Mx; have Mx := Mz; clear Mz) | ((with_reducible apply Wp.mnew Mx); intro _ Mz; clear Mx; have Mx := Mz; clear Mz) | (with_reducible first | refine Wp.join0 (fun _ _ => ?_) | refine Wp.join1 (fun _ _ => ?_)) | (with_reducible refine Wp.lett ?_) | ((with_reducible apply Wp.obind); (with_reducible first | exact hle | exact x1 | exact r1 _ Mx.tch)) | ((with_reducible refine Wp.ift ?_ ?_); ((with_reducible apply decide_eq_true); omega)) | ((with_reducible refine Wp.iff ?_ ?_); ((with_reducible apply decide_eq_false); omega)) | (with_reducible refine Wp.go1 (by assumption) ?_) | rw [newP_eq])
   refine gap_loop (N := N) (l := l) (s := true) (S := []) (h0 := H) (ys := []) (by omega) (by omega) (hs2.tch Mx.tch (by omega) (by simp)) (by have := Mx.tch.1; omega) hp (by omega) hl (kk := 6) (t := []) (m := 0) Mx (by omega) ?_ n p (by omega) (by omega) (fun _ => g)
   by_cases hqu : q < u.length
   ·have hx : idxS u (q : Int) = some ((u[q]).toNat : Int) := idxS_nat hqu
    unfold endsB at he
    rw [at?_lt hqu] at he
    dsimp only at he
    have h10 : ((u[q]).toNat : Int) = 10 := by simpa using he
    repeat (first | ((with_reducible apply Wp.obind); (with_reducible first | exact avInt_int _ _ | exact fldP_ptr _ _ _)) | ((with_reducible apply Wp.ld0 Mx); rfl) | (with_reducible refine Wp.join1 (fun _ _ => ?_)) | ((with_reducible refine Wp.lettw ?_ ?_ ?_); omega; omega) | (with_reducible refine Wp.lett ?_) | ((with_reducible apply Wp.obind); (with_reducible first | exact hx | exact x2 | exact r3 _ Mx.tch)) | ((with_reducible refine Wp.ift ?_ ?_); ((with_reducible first | apply decide_eq_true | apply bne_t | apply beq_t); omega)) | ((with_reducible refine Wp.iff ?_ ?_); ((with_reducible first | apply bne_f | apply beq_f); omega)) | (with_reducible first | refine Wp.go0 (by assumption) ?_ | refine Wp.go1 (by assumption) ?_))
    rw [show (i : Int) + 1 = ((i + 1 : Nat) : Int) by omega]
    exact ih f (i + 1) _ hd2 (by omega) (by simp at hf; omega) ⟨fun _ => .inr ⟨[], 0, q, by rw [Nat.add_sub_cancel, List.getElem?_eq_getElem hil, hli]⟩, fun hh => by cases hh⟩ hs (t.trans Mx.tch) hq
   ·repeat (first | ((with_reducible apply Wp.obind); (with_reducible first | exact avInt_int _ _ | exact fldP_ptr _ _ _)) | ((with_reducible apply Wp.ld0 Mx); rfl) | (with_reducible refine Wp.join1 (fun _ _ => ?_)) | ((with_reducible refine Wp.lettw ?_ ?_ ?_); omega; omega) | (with_reducible refine Wp.lett ?_) | ((with_reducible apply Wp.obind); (with_reducible first | exact x2 | exact r3 _ Mx.tch)) | ((with_reducible refine Wp.ift ?_ ?_); ((with_reducible first | apply decide_eq_true | apply beq_t); omega)) | ((with_reducible refine Wp.iff ?_ ?_); first | (with_reducible rfl) | ((with_reducible first | apply decide_eq_false | apply beq_f); omega)) | (with_reducible first | refine Wp.go0 (by assumption) ?_ | refine Wp.go1 (by assumption) ?_))
    rw [show (i : Int) + 1 = ((i + 1 : Nat) : Int) by omega]
    exact ih f (i + 1) _ hd2 (by omega) (by simp at hf; omega) ⟨fun _ => .inr ⟨[], 0, q, by rw [Nat.add_sub_cancel, List.getElem?_eq_getElem hil, hli]⟩, fun hh => by cases hh⟩ hs (t.trans Mx.tch) hq
end
end Go.Proofs.YtjopejiooipmkaaDoor

namespace Go.Proofs.YtjopejiooipmkaaDoor
open Go.RowKit Abs
theorem works_w (n d : Nat) (h : AHeap) : world n (d + 1) 6 [] h = some (.ret (.bool true), h) := w_true n d [] h
theorem great_w (n d : Nat) (u : Bytes) (h : AHeap) : world n (d + 1) 7 [strA u] h = some (.ret (.bool (decide (lenS u > 65536))), h) := by
 rw [w_law12_great]
 unfold law12_great
 rw [lett_eq, gcR_self]
theorem GrowT.slc' {S : List Nat} {h0 H : AHeap} {T rs : List RowT} {rows : List (List AV)} {v : AV} (g : GrowT TTok 4 rows v T) (M : Mem S h0 H rs) (hT : ∀ x ∈ T, x ∈ rs) : Slc H.next H 4 v rows := by
 refine ⟨fun l hl => (g.1 l hl).1, ?_⟩
 rcases g.2 with ⟨rfl, rfl, _⟩ | ⟨h1, c, rfl, rfl⟩
 ·exact .inl ⟨rfl, .inl rfl⟩
 ·obtain ⟨⟨t, h5, h6⟩, h3, _⟩ := M.row (c, TTok, rows.flatten) (hT _ (by simp))
  exact .inr ⟨c, h1, h3, rfl, t, .inr ⟨_, _, h5⟩, h6⟩
section
variable {u : Bytes}
theorem lex_le : ∀ (f p : Nat) (l l' : List (List AV)) (q : Nat), lexQ u f p l = .ok l' q → p ≤ u.length + 1 → l'.length + p ≤ l.length + q ∧ q ≤ u.length + 1
 | 0, p, l, l', q, hh, hp => by
  rw [lexQ] at hh
  cases hh
  omega
 | f + 1, p, l, l', q, hh, hp => by
  rw [lexQ] at hh
  split at hh
  ·rename_i hlt
   cases hL : lineQ u p l with
   | bad e q' => rw [hL] at hh; cases hh
   | ok l2 q2 =>
    rw [hL] at hh
    obtain ⟨a1, a2, a3, a4⟩ := lineQ_fact hL (by omega)
    have := lex_le f _ _ _ _ hh a2
    omega
  ·cases hh
   omega
end
/-- the tables that are laid, beside what came in -/
def powG : Tabs := [(0, powT)]
theorem pow_of {h : AHeap} {X : List Nat} {G : Nat} (hG : 0 < G) (k : Keeps (startG powG X G) h) : HasPow h :=
 ⟨k.2.2 _ _ (by show (tabTree powG).get _ = _; unfold powG tabTree; rw [T.get_set_same]), Nat.lt_of_lt_of_le hG k.1⟩
set_option maxRecDepth 100000 in
/-- the law -/
theorem lexPlaces_says (h : AHeap) (hX : h.ex = [52]) (hPw : HasPow h) (xs : List AV) (hP : ArgsP Tryd.prog h.next h 12 [9] xs) : ∃ h', Says Tryd.prog 5 xs h (.ret (.bool true)) h' := by
 obtain ⟨_, _, rfl, hp0, hP⟩ := args_cons hP
 obtain rfl := args0 hP
 obtain ⟨u, rfl, hs⟩ := hp0.str Tryd.underlying9
 obtain ⟨n, hn⟩ : ∃ n, n = 1000000 := ⟨_, rfl⟩
 suffices hK : Wp (law12_LexPlaces (world n 14) n u h) fun r _ => r = .ret (.bool true) by
  obtain ⟨_, h', e, rfl⟩ := hK
  exact ⟨h', law12_LexPlaces_ok (world_ok n 14) e⟩
 unfold law12_LexPlaces
 have lu := lenS_nat u
 have hwk := works_w n 13 h
 have hlg := great_w n 13 u h
 have Mx := Mem.nil [] h
 by_cases hl : lenS u > 65536
 ·rw [decide_eq_true hl] at hlg
  repeat (first | (with_reducible refine Wp.lett ?_) | ((with_reducible apply Wp.obind); (with_reducible exact avBool_bool _)) | ((with_reducible refine Wp.ift ?_ ?_); (with_reducible rfl)) | ((with_reducible refine Wp.iff ?_ ?_); (with_reducible exact Bool.not_true)) | ((with_reducible apply Wp.callN); (with_reducible assumption)))
  exact Wp.ret rfl
 ·rw [decide_eq_false hl] at hlg
  have hp := lex_w (n := n) (d := 0) (h := h) (u := u) (by omega) (by omega) (by rw [hX]; rfl) (by rw [hX]; rfl) (by rw [hX]; rfl)
  cases hQ : lexAll u with
  | bad e q =>
   rw [hQ] at hp
   dsimp only at hp
   obtain ⟨hne, h1, e1, M1⟩ := hp
   clear Mx
   have Mx := M1
   repeat (first | ((with_reducible apply Wp.obind); (with_reducible first | exact avInt_int _ _ | exact avBool_bool _)) | ((with_reducible apply Wp.ld0 Mx); rfl) | ((with_reducible apply Wp.sa0 Mx); rfl; rfl; (rfl); intro _ Mz; clear Mx; have Mx := Mz; clear Mz) | ((with_reducible apply Wp.mnew Mx); intro _ Mz; clear Mx; have Mx := Mz; clear Mz) | (with_reducible refine Wp.lett ?_) | ((with_reducible apply Wp.obind); (with_reducible first | exact avAgg_agg _ | exact extT_0 _ _ | exact extT_1 _ _ _)) | ((with_reducible refine Wp.ift ?_ ?_); ((with_reducible apply bne_t); omega)) | ((with_reducible refine Wp.iff ?_ ?_); (with_reducible first | rfl | exact Bool.not_true)) | ((with_reducible apply Wp.callN); (with_reducible assumption)) | rw [newP_eq])
   exact Wp.ret rfl
  | ok l q =>
   rw [hQ] at hp
   dsimp only at hp
   obtain ⟨h1, v1, T1, e1, g1, M1⟩ := hp
   have hu : u.length ≤ 2048 := by
    unfold lexAll at hQ
    split at hQ
    ·cases hQ
    ·omega
   have hpl := lexAll_places hu hQ
   have hll : l.length ≤ 3000 := by
    unfold lexAll at hQ
    rw [if_neg (by omega)] at hQ
    have := lex_le _ _ _ _ _ hQ (by omega)
    simp at this
    omega
   clear Mx
   have Mx := M1
   have le1 := g1.len
   repeat (first | ((with_reducible apply Wp.obind); (with_reducible first | exact avInt_int _ _ | exact avBool_bool _)) | ((with_reducible apply Wp.ld0 Mx); rfl) | ((with_reducible apply Wp.sa0 Mx); rfl; rfl; (rfl); intro _ Mz; clear Mx; have Mx := Mz; clear Mz) | ((with_reducible apply Wp.mnew Mx); intro _ Mz; clear Mx; have Mx := Mz; clear Mz) | (with_reducible refine Wp.join0 (fun _ _ => ?_)) | (with_reducible refine Wp.lett ?_) | ((with_reducible apply Wp.obind); (with_reducible first | exact avAgg_agg _ | exact extT_0 _ _ | exact extT_1 _ _ _)) | ((with_reducible refine Wp.iff ?_ ?_); first | (with_reducible first | rfl | exact Bool.not_true) | ((with_reducible apply bne_f); omega)) | ((with_reducible apply Wp.callN); (with_reducible assumption)) | rw [newP_eq])
   have hsl := GrowT.slc' g1 Mx (fun x hx => by simp [hx])
   refine places_loop (d := 7) (l := l) (st := false) (p := 0) hu (by omega) (Nat.le_refl _) (hPw.tch Mx.tch (by simp)) (by rw [Mx.ex, hX]; rfl) (by rw [Mx.ex, hX]; rfl) (by omega) ?_ hpl n 0 _ rfl (by omega) (by omega) ⟨fun _ => .inl rfl, fun hh => by cases hh⟩ hsl (Tch.refl _ _) (by omega)
   intro H' t
   by_cases h0 : l = []
   ·subst h0
    have le1 : lenL v1 = some 0 := le1
    repeat (first | (with_reducible refine Wp.join1 (fun _ _ => ?_)) | (with_reducible refine Wp.lett ?_) | ((with_reducible apply Wp.obind); (with_reducible exact le1)) | ((with_reducible refine Wp.ift ?_ ?_); ((with_reducible apply beq_t); omega)) | (with_reducible first | refine Wp.go0 (by assumption) ?_ | refine Wp.go1 (by assumption) ?_))
    exact Wp.ret rfl
   ·obtain ⟨l0, q0, e0⟩ := hpl.last.2 h0
    have hlen : l.length = l0.length + 1 := by rw [e0]; simp
    have hgl : l[l0.length]'(by omega) = tokC 6 [] 0 q0 := by simp [e0]
    obtain ⟨b1, x1, r1⟩ := slc_row hsl (Nat.le_refl _) (i := l0.length) (by omega)
    have r2 := r1 H' t
    rw [hgl] at r2
    unfold tokC at r2
    have r3 : ldCell H' (.ptr b1 (l0.length * 4 + 0)) = some (.int .i64 6) := row_head r2
    rw [show ((l0.length : Nat) : Int) = (l.length : Int) - 1 by omega] at x1
    repeat (first | (with_reducible refine Wp.join1 (fun _ _ => ?_)) | ((with_reducible refine Wp.lettw ?_ ?_ ?_); omega; omega) | (with_reducible refine Wp.lett ?_) | ((with_reducible apply Wp.obind); (with_reducible first | exact le1 | exact x1 | exact r3 | exact avInt_int _ _ | exact fldP_ptr _ _ _)) | ((with_reducible refine Wp.iff ?_ ?_); ((with_reducible apply beq_f); omega)) | (with_reducible first | refine Wp.go0 (by assumption) ?_ | refine Wp.go1 (by assumption) ?_))
    exact Wp.ret rfl
end Go.Proofs.YtjopejiooipmkaaDoor
