/- What lexTokens_proved stands on, part 8 of 8. -/
import Derived.Test.YtjopejiooipmkaaLta7
namespace Go.Proofs.Ytjopejiooipmkaa
open Go.RowKit Abs
def rtokP (x : TR) (r : ARes) : Prop := match x with
 | .ok k t m a q => r = .ret (.tup [.agg (tokC k t m a), .int .i64 (q : Int), .int .i64 0])
 | .bad e q => e ≠ 0 ∧ ∃ l, r = .ret (.tup [.agg l, .int .i64 (q : Int), .int .i64 e]) ∧ l.length = 4 ∧ l.all AV.one = true ∧ (AV.agg l).scal = true
theorem rtokP_scal {x : TR} {r : ARes} (h : rtokP x r) : r.val.scal = true := by
 cases x with
 | ok k t m a q =>
  unfold rtokP at h
  rw [h]
  rfl
 | bad e q =>
  obtain ⟨_, l, rfl, _, _, h4⟩ := h
  simpa [ARes.val, AV.scal, AV.scalL] using h4
section
variable {n d p c b : Nat} {h h0 : AHeap} {u : Bytes} {Q : ARes → AHeap → Prop} {v : AV} {S : List Nat} {ys : List RowT}
set_option maxRecDepth 100000 in
theorem rtoken_w (hu : u.length ≤ 1000000) (hn : u.length + 320 < n) (hp : p < u.length) (hxI : memB 3 h.ex = false) (hx8 : memB TU8 h.ex = false) : ∃ r, world n (d + 5) 14 [strA u, .int .i64 (p : Int)] h = some (r, h) ∧ rtokP (tokenQ u p) r := by
 suffices hK : Wp (world n (d + 5) 14 [strA u, .int .i64 (p : Int)] h) fun r h' => rtokP (tokenQ u p) r ∧ h' = h by
  obtain ⟨r, h', e, q, rfl⟩ := hK
  exact ⟨r, e, q⟩
 rw [w_ref12_token]
 refine Wp.gc ?_
 suffices hK : Wp (ref12_token (world n (d + 4)) n u (p : Int) h) fun r h' => rtokP (tokenQ u p) r ∧ Tch [] h h' from hK.mono fun r h' ⟨e, t⟩ => ⟨t.above, rtokP_scal e, e, rfl⟩
 unfold ref12_token
 have Mx := Mem.nil [] h
 have lu := lenS_nat u
 have hx : idxS u (p : Int) = some ((u[p]).toNat : Int) := idxS_nat hp
 have hf := fun H => rfirst_w (n := n) (d := d + 3) (c := (u[p]).toNat) H
 have hd := fun H => rnumber_w (n := n) (d := d + 3) (c := (u[p]).toNat) H
 have hend := fun q (hq : q ≤ u.length) H => rends_w (n := n) (d := d + 3) (q := q) hq H
 cases e1 : smallB (u[p]).toNat with
 | true =>
  rw [e1] at hf
  have hR : readQ u p = readWordQ u p := by unfold readQ; rw [at?_lt hp]; dsimp only; rw [if_pos e1]
  have hle := span_le wordB (u.drop p)
  rw [List.length_drop] at hle
  repeat (first | ((with_reducible apply Wp.obind); (with_reducible exact avBool_bool _)) | ((with_reducible apply Wp.sa0 Mx); rfl; rfl; (rfl); intro _ Mz; (try simp only [List.set_cons_succ] at Mz); (try simp only [List.set_cons_zero] at Mz); clear Mx; have Mx := Mz; clear Mz) | ((with_reducible apply Wp.mnew Mx); intro _ Mz; clear Mx; have Mx := Mz; clear Mz) | (with_reducible refine Wp.join1 (fun _ _ => ?_)) | ((with_reducible apply Wp.obind); (with_reducible exact hx)) | ((with_reducible refine Wp.ift ?_ ?_); (with_reducible rfl)) | ((with_reducible apply Wp.callN); (with_reducible exact hf _)) | rw [newP_eq])
  refine rword_loop (d := d) hu Mx ?_ ?_ n 0 (by omega) (by omega) (by omega)
  ·intro hs
   have hsl := sl_nat (u := u) (a := p) (b := p + spanN wordB (u.drop p)) (by omega) (by omega)
   rw [Nat.add_sub_cancel_left] at hsl
   unfold readWordQ at hR
   rw [if_pos hs] at hR
   obtain ⟨k, hk⟩ : ∃ k, k = spanN wordB (u.drop p) := ⟨_, rfl⟩
   rw [← hk] at hsl hs hle hR ⊢
   by_cases hl : p + k < u.length
   ·have hx2 : idxS u ((p + k : Nat) : Int) = some ((u[p + k]).toNat : Int) := idxS_nat hl
    by_cases h58 : (u[p + k]).toNat = 58
    ·rw [if_pos (by rw [at?_lt hl, h58])] at hR
     have he := hend (p + k + 1) (by omega)
     simp only [show ((p + k + 1 : Nat) : Int) = ((p + k : Nat) : Int) + 1 from rfl] at he
     cases ee : endTok u (p + k + 1) with
     | true =>
      rw [ee] at he
      repeat (first | ((with_reducible apply Wp.obind); (with_reducible exact avBool_bool _)) | ((with_reducible apply Wp.lr0 Mx); rfl) | ((with_reducible apply Wp.ms0 Mx); exact Nat.le_of_ble_eq_true rfl; rfl; intro _ Mz; (try simp only [List.set_cons_succ] at Mz); (try simp only [List.set_cons_zero] at Mz); clear Mx; have Mx := Mz; clear Mz) | ((with_reducible apply Wp.lr1 Mx); rfl) | ((with_reducible apply Wp.sa1 Mx); rfl; rfl; (rfl); intro _ Mz; (try simp only [List.set_cons_succ] at Mz); (try simp only [List.set_cons_zero] at Mz); clear Mx; have Mx := Mz; clear Mz) | (with_reducible refine Wp.join1 (fun _ _ => ?_)) | ((with_reducible refine Wp.lettw ?_ ?_ ?_); omega; omega) | (with_reducible refine Wp.lett ?_) | ((with_reducible apply Wp.obind); (with_reducible first | exact hsl | exact hx2)) | ((with_reducible refine Wp.ift ?_ ?_); ((with_reducible first | apply decide_eq_true | apply beq_t); omega)) | ((with_reducible refine Wp.iff ?_ ?_); (with_reducible exact Bool.not_true)) | ((with_reducible apply Wp.callN); (with_reducible exact he _)) | (with_reducible refine Wp.go1 (by assumption) ?_) | rw [newP_eq])
      exact Wp.ret ⟨by rw [tokenQ_ok hR ee]; rfl, Mx.tch⟩
     | false =>
      rw [ee] at he
      repeat (first | ((with_reducible apply Wp.obind); (with_reducible exact avBool_bool _)) | ((with_reducible apply Wp.lr0 Mx); rfl) | ((with_reducible apply Wp.ms0 Mx); exact Nat.le_of_ble_eq_true rfl; rfl; intro _ Mz; (try simp only [List.set_cons_succ] at Mz); (try simp only [List.set_cons_zero] at Mz); clear Mx; have Mx := Mz; clear Mz) | ((with_reducible apply Wp.lr1 Mx); rfl) | ((with_reducible apply Wp.sa1 Mx); rfl; rfl; (rfl); intro _ Mz; (try simp only [List.set_cons_succ] at Mz); (try simp only [List.set_cons_zero] at Mz); clear Mx; have Mx := Mz; clear Mz) | (with_reducible refine Wp.join1 (fun _ _ => ?_)) | ((with_reducible refine Wp.lettw ?_ ?_ ?_); omega; omega) | (with_reducible refine Wp.lett ?_) | ((with_reducible apply Wp.obind); (with_reducible first | exact hsl | exact hx2)) | ((with_reducible refine Wp.ift ?_ ?_); first | (with_reducible exact Bool.not_false) | ((with_reducible first | apply decide_eq_true | apply beq_t); omega)) | ((with_reducible apply Wp.callN); (with_reducible exact he _)) | (with_reducible refine Wp.go1 (by assumption) ?_) | rw [newP_eq])
      exact Wp.ret ⟨by rw [tokenQ_odd hR ee]; exact ⟨by decide, _, rfl, rfl, rfl, rfl⟩, Mx.tch⟩
    ·rw [if_neg (by rw [at?_lt hl]; simp; exact h58)] at hR
     have he := hend (p + k) (by omega)
     cases ee : endTok u (p + k) with
     | true =>
      rw [ee] at he
      repeat (first | ((with_reducible apply Wp.obind); (with_reducible exact avBool_bool _)) | ((with_reducible apply Wp.lr0 Mx); rfl) | ((with_reducible apply Wp.ms0 Mx); exact Nat.le_of_ble_eq_true rfl; rfl; intro _ Mz; (try simp only [List.set_cons_succ] at Mz); (try simp only [List.set_cons_zero] at Mz); clear Mx; have Mx := Mz; clear Mz) | ((with_reducible apply Wp.lr1 Mx); rfl) | ((with_reducible apply Wp.sa1 Mx); rfl; rfl; (rfl); intro _ Mz; (try simp only [List.set_cons_succ] at Mz); (try simp only [List.set_cons_zero] at Mz); clear Mx; have Mx := Mz; clear Mz) | (with_reducible refine Wp.join1 (fun _ _ => ?_)) | (with_reducible refine Wp.lett ?_) | ((with_reducible apply Wp.obind); (with_reducible first | exact hsl | exact hx2)) | ((with_reducible refine Wp.ift ?_ ?_); ((with_reducible first | apply decide_eq_true | apply beq_t); omega)) | ((with_reducible refine Wp.iff ?_ ?_); first | (with_reducible exact Bool.not_true) | ((with_reducible apply beq_f); omega)) | ((with_reducible apply Wp.callN); (with_reducible exact he _)) | (with_reducible refine Wp.go1 (by assumption) ?_) | rw [newP_eq])
      exact Wp.ret ⟨by rw [tokenQ_ok hR ee]; rfl, Mx.tch⟩
     | false =>
      rw [ee] at he
      repeat (first | ((with_reducible apply Wp.obind); (with_reducible exact avBool_bool _)) | ((with_reducible apply Wp.lr0 Mx); rfl) | ((with_reducible apply Wp.ms0 Mx); exact Nat.le_of_ble_eq_true rfl; rfl; intro _ Mz; (try simp only [List.set_cons_succ] at Mz); (try simp only [List.set_cons_zero] at Mz); clear Mx; have Mx := Mz; clear Mz) | ((with_reducible apply Wp.lr1 Mx); rfl) | ((with_reducible apply Wp.sa1 Mx); rfl; rfl; (rfl); intro _ Mz; (try simp only [List.set_cons_succ] at Mz); (try simp only [List.set_cons_zero] at Mz); clear Mx; have Mx := Mz; clear Mz) | (with_reducible refine Wp.join1 (fun _ _ => ?_)) | (with_reducible refine Wp.lett ?_) | ((with_reducible apply Wp.obind); (with_reducible first | exact hsl | exact hx2)) | ((with_reducible refine Wp.ift ?_ ?_); first | (with_reducible exact Bool.not_false) | ((with_reducible first | apply decide_eq_true | apply beq_t); omega)) | ((with_reducible refine Wp.iff ?_ ?_); ((with_reducible apply beq_f); omega)) | ((with_reducible apply Wp.callN); (with_reducible exact he _)) | (with_reducible refine Wp.go1 (by assumption) ?_) | rw [newP_eq])
      exact Wp.ret ⟨by rw [tokenQ_odd hR ee]; exact ⟨by decide, _, rfl, rfl, rfl, rfl⟩, Mx.tch⟩
   ·rw [if_neg (by rw [at?_ge (by omega)]; simp)] at hR
    have he := hend (p + k) (by omega)
    cases ee : endTok u (p + k) with
    | true =>
     rw [ee] at he
     repeat (first | ((with_reducible apply Wp.obind); (with_reducible exact avBool_bool _)) | ((with_reducible apply Wp.lr0 Mx); rfl) | ((with_reducible apply Wp.ms0 Mx); exact Nat.le_of_ble_eq_true rfl; rfl; intro _ Mz; (try simp only [List.set_cons_succ] at Mz); (try simp only [List.set_cons_zero] at Mz); clear Mx; have Mx := Mz; clear Mz) | ((with_reducible apply Wp.lr1 Mx); rfl) | ((with_reducible apply Wp.sa1 Mx); rfl; rfl; (rfl); intro _ Mz; (try simp only [List.set_cons_succ] at Mz); (try simp only [List.set_cons_zero] at Mz); clear Mx; have Mx := Mz; clear Mz) | (with_reducible refine Wp.join1 (fun _ _ => ?_)) | (with_reducible refine Wp.lett ?_) | ((with_reducible apply Wp.obind); (with_reducible exact hsl)) | ((with_reducible refine Wp.iff ?_ ?_); first | (with_reducible first | rfl | exact Bool.not_true) | ((with_reducible apply decide_eq_false); omega)) | ((with_reducible apply Wp.callN); (with_reducible exact he _)) | (with_reducible refine Wp.go1 (by assumption) ?_) | rw [newP_eq])
     exact Wp.ret ⟨by rw [tokenQ_ok hR ee]; rfl, Mx.tch⟩
    | false =>
     rw [ee] at he
     repeat (first | ((with_reducible apply Wp.obind); (with_reducible exact avBool_bool _)) | ((with_reducible apply Wp.lr0 Mx); rfl) | ((with_reducible apply Wp.ms0 Mx); exact Nat.le_of_ble_eq_true rfl; rfl; intro _ Mz; (try simp only [List.set_cons_succ] at Mz); (try simp only [List.set_cons_zero] at Mz); clear Mx; have Mx := Mz; clear Mz) | ((with_reducible apply Wp.lr1 Mx); rfl) | ((with_reducible apply Wp.sa1 Mx); rfl; rfl; (rfl); intro _ Mz; (try simp only [List.set_cons_succ] at Mz); (try simp only [List.set_cons_zero] at Mz); clear Mx; have Mx := Mz; clear Mz) | (with_reducible refine Wp.join1 (fun _ _ => ?_)) | (with_reducible refine Wp.lett ?_) | ((with_reducible apply Wp.obind); (with_reducible exact hsl)) | ((with_reducible refine Wp.ift ?_ ?_); (with_reducible exact Bool.not_false)) | ((with_reducible refine Wp.iff ?_ ?_); first | (with_reducible rfl) | ((with_reducible apply decide_eq_false); omega)) | ((with_reducible apply Wp.callN); (with_reducible exact he _)) | (with_reducible refine Wp.go1 (by assumption) ?_) | rw [newP_eq])
     exact Wp.ret ⟨by rw [tokenQ_odd hR ee]; exact ⟨by decide, _, rfl, rfl, rfl, rfl⟩, Mx.tch⟩
  ·intro hs H' ys' M
   unfold readWordQ at hR
   rw [if_neg (by omega)] at hR
   exact ⟨by rw [tokenQ_bad hR]; exact ⟨by decide, _, rfl, rfl, rfl, rfl⟩, M.tch⟩
 | false =>
  rw [e1] at hf
  cases e2 : digB (u[p]).toNat with
  | true =>
   rw [e2] at hd
   have hR : readQ u p = readNumQ u p := by unfold readQ; rw [at?_lt hp]; dsimp only; rw [if_neg (by rw [e1]; decide), if_pos e2]
   have hle := span_le digB (u.drop p)
   rw [List.length_drop] at hle
   unfold readNumQ at hR
   by_cases h48 : (u[p]).toNat = 48
   ·rw [if_pos (by rw [at?_lt hp, h48])] at hR
    have he := hend (p + 1) (by omega)
    simp only [show ((p + 1 : Nat) : Int) = (p : Int) + 1 from rfl] at he
    cases ee : endTok u (p + 1) with
    | true =>
     rw [ee] at he
     repeat (first | ((with_reducible apply Wp.obind); (with_reducible exact avBool_bool _)) | ((with_reducible apply Wp.lr0 Mx); rfl) | ((with_reducible apply Wp.ms0 Mx); exact Nat.le_of_ble_eq_true rfl; rfl; intro _ Mz; (try simp only [List.set_cons_succ] at Mz); (try simp only [List.set_cons_zero] at Mz); clear Mx; have Mx := Mz; clear Mz) | ((with_reducible apply Wp.sa0 Mx); rfl; rfl; (rfl); intro _ Mz; (try simp only [List.set_cons_succ] at Mz); (try simp only [List.set_cons_zero] at Mz); clear Mx; have Mx := Mz; clear Mz) | ((with_reducible apply Wp.lr1 Mx); rfl) | ((with_reducible apply Wp.sa1 Mx); rfl; rfl; (rfl); intro _ Mz; (try simp only [List.set_cons_succ] at Mz); (try simp only [List.set_cons_zero] at Mz); clear Mx; have Mx := Mz; clear Mz) | ((with_reducible apply Wp.mnew Mx); intro _ Mz; clear Mx; have Mx := Mz; clear Mz) | (with_reducible refine Wp.join1 (fun _ _ => ?_)) | ((with_reducible refine Wp.lettw ?_ ?_ ?_); omega; omega) | (with_reducible refine Wp.lett ?_) | ((with_reducible apply Wp.obind); (with_reducible exact hx)) | ((with_reducible refine Wp.ift ?_ ?_); ((with_reducible apply beq_t); omega)) | ((with_reducible refine Wp.iff ?_ ?_); (with_reducible first | rfl | exact Bool.not_true)) | ((with_reducible apply Wp.callN); (with_reducible first | exact hf _ | exact he _)) | (with_reducible refine Wp.go1 (by assumption) ?_) | rw [newP_eq])
     exact Wp.ret ⟨by rw [tokenQ_ok hR ee]; rfl, Mx.tch⟩
    | false =>
     rw [ee] at he
     repeat (first | ((with_reducible apply Wp.obind); (with_reducible exact avBool_bool _)) | ((with_reducible apply Wp.lr0 Mx); rfl) | ((with_reducible apply Wp.ms0 Mx); exact Nat.le_of_ble_eq_true rfl; rfl; intro _ Mz; (try simp only [List.set_cons_succ] at Mz); (try simp only [List.set_cons_zero] at Mz); clear Mx; have Mx := Mz; clear Mz) | ((with_reducible apply Wp.sa0 Mx); rfl; rfl; (rfl); intro _ Mz; (try simp only [List.set_cons_succ] at Mz); (try simp only [List.set_cons_zero] at Mz); clear Mx; have Mx := Mz; clear Mz) | ((with_reducible apply Wp.lr1 Mx); rfl) | ((with_reducible apply Wp.sa1 Mx); rfl; rfl; (rfl); intro _ Mz; (try simp only [List.set_cons_succ] at Mz); (try simp only [List.set_cons_zero] at Mz); clear Mx; have Mx := Mz; clear Mz) | ((with_reducible apply Wp.mnew Mx); intro _ Mz; clear Mx; have Mx := Mz; clear Mz) | (with_reducible refine Wp.join1 (fun _ _ => ?_)) | ((with_reducible refine Wp.lettw ?_ ?_ ?_); omega; omega) | (with_reducible refine Wp.lett ?_) | ((with_reducible apply Wp.obind); (with_reducible exact hx)) | ((with_reducible refine Wp.ift ?_ ?_); first | (with_reducible exact Bool.not_false) | ((with_reducible apply beq_t); omega)) | ((with_reducible refine Wp.iff ?_ ?_); (with_reducible rfl)) | ((with_reducible apply Wp.callN); (with_reducible first | exact hf _ | exact he _)) | (with_reducible refine Wp.go1 (by assumption) ?_) | rw [newP_eq])
     exact Wp.ret ⟨by rw [tokenQ_odd hR ee]; exact ⟨by decide, _, rfl, rfl, rfl, rfl⟩, Mx.tch⟩
   ·rw [if_neg (by rw [at?_lt hp]; simp; exact h48)] at hR
    repeat (first | ((with_reducible apply Wp.obind); (with_reducible exact avBool_bool _)) | ((with_reducible apply Wp.ms0 Mx); exact Nat.le_of_ble_eq_true rfl; rfl; intro _ Mz; (try simp only [List.set_cons_succ] at Mz); (try simp only [List.set_cons_zero] at Mz); clear Mx; have Mx := Mz; clear Mz) | ((with_reducible apply Wp.sa0 Mx); rfl; rfl; (rfl); intro _ Mz; (try simp only [List.set_cons_succ] at Mz); (try simp only [List.set_cons_zero] at Mz); clear Mx; have Mx := Mz; clear Mz) | ((with_reducible apply Wp.mnew Mx); intro _ Mz; clear Mx; have Mx := Mz; clear Mz) | (with_reducible refine Wp.join1 (fun _ _ => ?_)) | (with_reducible refine Wp.lett ?_) | ((with_reducible apply Wp.obind); (with_reducible exact hx)) | ((with_reducible refine Wp.ift ?_ ?_); (with_reducible rfl)) | ((with_reducible refine Wp.iff ?_ ?_); first | (with_reducible rfl) | ((with_reducible apply beq_f); omega)) | ((with_reducible apply Wp.callN); (with_reducible first | exact hf _ | exact hd _)) | rw [newP_eq])
    refine rnum_loop (d := d) hu ?_ ?_ n 0 _ (by omega) (by omega) (by omega) Mx
    ·intro hs H' M'
     clear Mx
     have Mx := M'
     clear M'
     rw [if_pos hs] at hR
     obtain ⟨k, hk⟩ : ∃ k, k = spanN digB (u.drop p) := ⟨_, rfl⟩
     rw [← hk] at hs hle hR Mx ⊢
     have he := hend (p + k) (by omega)
     cases ee : endTok u (p + k) with
     | true =>
      rw [ee] at he
      repeat (first | ((with_reducible apply Wp.obind); (with_reducible exact avBool_bool _)) | ((with_reducible apply Wp.lr0 Mx); rfl) | ((with_reducible apply Wp.lr1 Mx); rfl) | ((with_reducible apply Wp.sa1 Mx); rfl; rfl; (rfl); intro _ Mz; (try simp only [List.set_cons_succ] at Mz); (try simp only [List.set_cons_zero] at Mz); clear Mx; have Mx := Mz; clear Mz) | (with_reducible refine Wp.lett ?_) | ((with_reducible refine Wp.iff ?_ ?_); (with_reducible exact Bool.not_true)) | ((with_reducible apply Wp.callN); (with_reducible exact he _)) | (with_reducible refine Wp.go1 (by assumption) ?_) | rw [newP_eq])
      exact Wp.ret ⟨by rw [tokenQ_ok hR ee]; rfl, Mx.tch⟩
     | false =>
      rw [ee] at he
      repeat (first | ((with_reducible apply Wp.obind); (with_reducible exact avBool_bool _)) | ((with_reducible apply Wp.lr0 Mx); rfl) | ((with_reducible apply Wp.lr1 Mx); rfl) | ((with_reducible apply Wp.sa1 Mx); rfl; rfl; (rfl); intro _ Mz; (try simp only [List.set_cons_succ] at Mz); (try simp only [List.set_cons_zero] at Mz); clear Mx; have Mx := Mz; clear Mz) | (with_reducible refine Wp.lett ?_) | ((with_reducible refine Wp.ift ?_ ?_); (with_reducible exact Bool.not_false)) | ((with_reducible apply Wp.callN); (with_reducible exact he _)) | (with_reducible refine Wp.go1 (by assumption) ?_) | rw [newP_eq])
      exact Wp.ret ⟨by rw [tokenQ_odd hR ee]; exact ⟨by decide, _, rfl, rfl, rfl, rfl⟩, Mx.tch⟩
    ·intro hs H' ys' m M
     rw [if_neg (by omega)] at hR
     exact ⟨by rw [tokenQ_bad hR]; exact ⟨by decide, _, rfl, rfl, rfl, rfl⟩, M.tch⟩
  | false =>
   rw [e2] at hd
   have h48 : (u[p]).toNat ≠ 48 := by
    intro hh
    rw [hh] at e2
    cases e2
   by_cases h34 : (u[p]).toNat = 34
   ·have hR : readQ u p = readTextQ u p := by unfold readQ; rw [at?_lt hp]; dsimp only; rw [if_neg (by rw [e1]; decide), if_neg (by rw [e2]; decide), if_pos h34]
    have hsl := sl_nat (u := u) (a := p) (b := u.length) (by omega) (Nat.le_refl _)
    rw [List.take_of_length_le (by rw [List.length_drop]; omega), ← lu] at hsl
    have hq := fun (H : AHeap) (e : H.ex = h.ex) => rQuoted_w (n := n) (d := d) (h := H) (u := u.drop p) 64 (by decide) (by rw [List.length_drop]; omega) (by rw [List.length_drop]; omega) (by rw [e]; exact hxI) (by rw [e]; exact hx8)
    unfold quotedV at hq
    unfold readTextQ at hR
    cases hs : quotedQ (u.drop p) 64 with
    | ok l q =>
     rw [hs] at hq hR
     dsimp only at hq hR
     have hql := (quoted_fact hs).2.1
     rw [List.length_drop] at hql
     have he := hend (p + q) (by omega)
     simp only [show ((p + q : Nat) : Int) = (p : Int) + (q : Int) from rfl] at he
     cases ee : endTok u (p + q) with
     | true =>
      rw [ee] at he
      repeat (first | ((with_reducible apply Wp.obind); (with_reducible first | exact avInt_int _ _ | exact avBool_bool _ | exact avStr_str _)) | ((with_reducible apply Wp.ld0 Mx); rfl) | ((with_reducible apply Wp.sa0 Mx); rfl; rfl; (rfl); intro _ Mz; (try simp only [List.set_cons_succ] at Mz); (try simp only [List.set_cons_zero] at Mz); clear Mx; have Mx := Mz; clear Mz) | ((with_reducible apply Wp.lr1 Mx); rfl) | ((with_reducible apply Wp.ms1 Mx); exact Nat.le_of_ble_eq_true rfl; rfl; intro _ Mz; (try simp only [List.set_cons_succ] at Mz); (try simp only [List.set_cons_zero] at Mz); clear Mx; have Mx := Mz; clear Mz) | ((with_reducible apply Wp.lr2 Mx); rfl) | ((with_reducible apply Wp.sa2 Mx); rfl; rfl; (rfl); intro _ Mz; (try simp only [List.set_cons_succ] at Mz); (try simp only [List.set_cons_zero] at Mz); clear Mx; have Mx := Mz; clear Mz) | ((with_reducible apply Wp.mnew Mx); intro _ Mz; clear Mx; have Mx := Mz; clear Mz) | (with_reducible refine Wp.join1 (fun _ _ => ?_)) | ((with_reducible refine Wp.lettw ?_ ?_ ?_); omega; omega) | (with_reducible refine Wp.lett ?_) | ((with_reducible apply Wp.obind); (with_reducible first | exact hx | exact hsl | exact avAgg_agg _ | exact extT_0 _ _ | exact extT_1 _ _ _ | exact extT_2 _ _ _ _)) | ((with_reducible refine Wp.ift ?_ ?_); ((with_reducible first | apply bne_t | apply beq_t); omega)) | ((with_reducible refine Wp.iff ?_ ?_); first | (with_reducible first | rfl | exact Bool.not_true) | ((with_reducible first | apply bne_f | apply beq_f); omega)) | ((with_reducible apply Wp.callN); (with_reducible first | exact hf _ | exact hd _ | exact hq _ Mx.ex | exact he _)) | (with_reducible refine Wp.go1 (by assumption) ?_) | rw [newP_eq])
      exact Wp.ret ⟨by rw [tokenQ_ok hR ee]; rfl, Mx.tch⟩
     | false =>
      rw [ee] at he
      repeat (first | ((with_reducible apply Wp.obind); (with_reducible first | exact avInt_int _ _ | exact avBool_bool _ | exact avStr_str _)) | ((with_reducible apply Wp.ld0 Mx); rfl) | ((with_reducible apply Wp.sa0 Mx); rfl; rfl; (rfl); intro _ Mz; (try simp only [List.set_cons_succ] at Mz); (try simp only [List.set_cons_zero] at Mz); clear Mx; have Mx := Mz; clear Mz) | ((with_reducible apply Wp.lr1 Mx); rfl) | ((with_reducible apply Wp.ms1 Mx); exact Nat.le_of_ble_eq_true rfl; rfl; intro _ Mz; (try simp only [List.set_cons_succ] at Mz); (try simp only [List.set_cons_zero] at Mz); clear Mx; have Mx := Mz; clear Mz) | ((with_reducible apply Wp.lr2 Mx); rfl) | ((with_reducible apply Wp.sa2 Mx); rfl; rfl; (rfl); intro _ Mz; (try simp only [List.set_cons_succ] at Mz); (try simp only [List.set_cons_zero] at Mz); clear Mx; have Mx := Mz; clear Mz) | ((with_reducible apply Wp.mnew Mx); intro _ Mz; clear Mx; have Mx := Mz; clear Mz) | (with_reducible refine Wp.join1 (fun _ _ => ?_)) | ((with_reducible refine Wp.lettw ?_ ?_ ?_); omega; omega) | (with_reducible refine Wp.lett ?_) | ((with_reducible apply Wp.obind); (with_reducible first | exact hx | exact hsl | exact avAgg_agg _ | exact extT_0 _ _ | exact extT_1 _ _ _ | exact extT_2 _ _ _ _)) | ((with_reducible refine Wp.ift ?_ ?_); first | (with_reducible exact Bool.not_false) | ((with_reducible first | apply bne_t | apply beq_t); omega)) | ((with_reducible refine Wp.iff ?_ ?_); first | (with_reducible rfl) | ((with_reducible first | apply bne_f | apply beq_f); omega)) | ((with_reducible apply Wp.callN); (with_reducible first | exact hf _ | exact hd _ | exact hq _ Mx.ex | exact he _)) | (with_reducible refine Wp.go1 (by assumption) ?_) | rw [newP_eq])
      exact Wp.ret ⟨by rw [tokenQ_odd hR ee]; exact ⟨by decide, _, rfl, rfl, rfl, rfl⟩, Mx.tch⟩
    | bad e q =>
     rw [hs] at hq hR
     dsimp only at hq hR
     have hne := quotedQ_err hs
     have hql := quoted_bad hs
     rw [List.length_drop] at hql
     repeat (first | ((with_reducible apply Wp.obind); (with_reducible first | exact avInt_int _ _ | exact avBool_bool _ | exact avStr_str _)) | ((with_reducible apply Wp.ld0 Mx); rfl) | ((with_reducible apply Wp.sa0 Mx); rfl; rfl; (rfl); intro _ Mz; (try simp only [List.set_cons_succ] at Mz); (try simp only [List.set_cons_zero] at Mz); clear Mx; have Mx := Mz; clear Mz) | ((with_reducible apply Wp.lr1 Mx); rfl) | ((with_reducible apply Wp.lr2 Mx); rfl) | ((with_reducible apply Wp.sa2 Mx); rfl; rfl; (rfl); intro _ Mz; (try simp only [List.set_cons_succ] at Mz); (try simp only [List.set_cons_zero] at Mz); clear Mx; have Mx := Mz; clear Mz) | ((with_reducible apply Wp.mnew Mx); intro _ Mz; clear Mx; have Mx := Mz; clear Mz) | ((with_reducible refine Wp.chk ?_ ?_); focus ((repeat' (first | (with_reducible exact rfl) | (with_reducible apply and_t) | ((with_reducible apply Mem.re0 Mx); kernel_rfl; rfl))); done)) | (with_reducible refine Wp.join1 (fun _ _ => ?_)) | ((with_reducible refine Wp.lettw ?_ ?_ ?_); omega; omega) | (with_reducible refine Wp.lett ?_) | ((with_reducible apply Wp.obind); (with_reducible first | exact hx | exact hsl | exact avAgg_agg _ | exact extT_0 _ _ | exact extT_1 _ _ _ | exact extT_2 _ _ _ _)) | ((with_reducible refine Wp.ift ?_ ?_); ((with_reducible first | apply bne_t | apply beq_t); omega)) | ((with_reducible refine Wp.iff ?_ ?_); first | (with_reducible rfl) | ((with_reducible apply beq_f); omega)) | ((with_reducible apply Wp.callN); (with_reducible first | exact hf _ | exact hd _ | exact hq _ Mx.ex)) | rw [newP_eq])
     exact Wp.ret ⟨by rw [tokenQ_bad hR]; exact ⟨hne, _, rfl, rfl, rfl, rfl⟩, Mx.tch⟩
   ·by_cases h60 : (u[p]).toNat = 60 ∨ (u[p]).toNat = 123 ∨ (u[p]).toNat = 125
    ·have hR : readQ u p = .ok 5 ((u.drop p).take 1) 0 p (p + 1) := by unfold readQ; rw [at?_lt hp]; dsimp only; rw [if_neg (by rw [e1]; decide), if_neg (by rw [e2]; decide), if_neg h34, if_pos h60]
     have hsl := sl_nat (u := u) (a := p) (b := p + 1) (by omega) (by omega)
     rw [Nat.add_sub_cancel_left, show ((p + 1 : Nat) : Int) = (p : Int) + 1 by omega] at hsl
     have he := hend (p + 1) (by omega)
     simp only [show ((p + 1 : Nat) : Int) = (p : Int) + 1 from rfl] at he
     cases ee : endTok u (p + 1) with
     | true =>
      rw [ee] at he
      rcases h60 with h60 | h60 | h60
      ·repeat (first | ((with_reducible apply Wp.obind); (with_reducible exact avBool_bool _)) | ((with_reducible apply Wp.lr0 Mx); rfl) | ((with_reducible apply Wp.ms0 Mx); exact Nat.le_of_ble_eq_true rfl; rfl; intro _ Mz; (try simp only [List.set_cons_succ] at Mz); (try simp only [List.set_cons_zero] at Mz); clear Mx; have Mx := Mz; clear Mz) | ((with_reducible apply Wp.sa0 Mx); rfl; rfl; (rfl); intro _ Mz; (try simp only [List.set_cons_succ] at Mz); (try simp only [List.set_cons_zero] at Mz); clear Mx; have Mx := Mz; clear Mz) | ((with_reducible apply Wp.lr1 Mx); rfl) | ((with_reducible apply Wp.sa1 Mx); rfl; rfl; (rfl); intro _ Mz; (try simp only [List.set_cons_succ] at Mz); (try simp only [List.set_cons_zero] at Mz); clear Mx; have Mx := Mz; clear Mz) | ((with_reducible apply Wp.mnew Mx); intro _ Mz; clear Mx; have Mx := Mz; clear Mz) | (with_reducible refine Wp.join1 (fun _ _ => ?_)) | ((with_reducible refine Wp.lettw ?_ ?_ ?_); omega; omega) | (with_reducible refine Wp.lett ?_) | ((with_reducible apply Wp.obind); (with_reducible first | exact hx | exact hsl)) | ((with_reducible refine Wp.ift ?_ ?_); first | (with_reducible rfl) | ((with_reducible apply beq_t); omega)) | ((with_reducible refine Wp.iff ?_ ?_); first | (with_reducible first | rfl | exact Bool.not_true) | ((with_reducible apply beq_f); omega)) | ((with_reducible apply Wp.callN); (with_reducible first | exact hf _ | exact hd _ | exact he _)) | (with_reducible refine Wp.go1 (by assumption) ?_) | rw [newP_eq])
       exact Wp.ret ⟨by rw [tokenQ_ok hR ee]; rfl, Mx.tch⟩
      ·repeat (first | ((with_reducible apply Wp.obind); (with_reducible exact avBool_bool _)) | ((with_reducible apply Wp.lr0 Mx); rfl) | ((with_reducible apply Wp.ms0 Mx); exact Nat.le_of_ble_eq_true rfl; rfl; intro _ Mz; (try simp only [List.set_cons_succ] at Mz); (try simp only [List.set_cons_zero] at Mz); clear Mx; have Mx := Mz; clear Mz) | ((with_reducible apply Wp.sa0 Mx); rfl; rfl; (rfl); intro _ Mz; (try simp only [List.set_cons_succ] at Mz); (try simp only [List.set_cons_zero] at Mz); clear Mx; have Mx := Mz; clear Mz) | ((with_reducible apply Wp.lr1 Mx); rfl) | ((with_reducible apply Wp.sa1 Mx); rfl; rfl; (rfl); intro _ Mz; (try simp only [List.set_cons_succ] at Mz); (try simp only [List.set_cons_zero] at Mz); clear Mx; have Mx := Mz; clear Mz) | ((with_reducible apply Wp.mnew Mx); intro _ Mz; clear Mx; have Mx := Mz; clear Mz) | (with_reducible refine Wp.join1 (fun _ _ => ?_)) | ((with_reducible refine Wp.lettw ?_ ?_ ?_); omega; omega) | (with_reducible refine Wp.lett ?_) | ((with_reducible apply Wp.obind); (with_reducible first | exact hx | exact hsl)) | ((with_reducible refine Wp.ift ?_ ?_); first | (with_reducible rfl) | ((with_reducible apply beq_t); omega)) | ((with_reducible refine Wp.iff ?_ ?_); first | (with_reducible first | rfl | exact Bool.not_true) | ((with_reducible apply beq_f); omega)) | ((with_reducible apply Wp.callN); (with_reducible first | exact hf _ | exact hd _ | exact he _)) | (with_reducible refine Wp.go1 (by assumption) ?_) | rw [newP_eq])
       exact Wp.ret ⟨by rw [tokenQ_ok hR ee]; rfl, Mx.tch⟩
      ·repeat (first | ((with_reducible apply Wp.obind); (with_reducible exact avBool_bool _)) | ((with_reducible apply Wp.lr0 Mx); rfl) | ((with_reducible apply Wp.ms0 Mx); exact Nat.le_of_ble_eq_true rfl; rfl; intro _ Mz; (try simp only [List.set_cons_succ] at Mz); (try simp only [List.set_cons_zero] at Mz); clear Mx; have Mx := Mz; clear Mz) | ((with_reducible apply Wp.sa0 Mx); rfl; rfl; (rfl); intro _ Mz; (try simp only [List.set_cons_succ] at Mz); (try simp only [List.set_cons_zero] at Mz); clear Mx; have Mx := Mz; clear Mz) | ((with_reducible apply Wp.lr1 Mx); rfl) | ((with_reducible apply Wp.sa1 Mx); rfl; rfl; (rfl); intro _ Mz; (try simp only [List.set_cons_succ] at Mz); (try simp only [List.set_cons_zero] at Mz); clear Mx; have Mx := Mz; clear Mz) | ((with_reducible apply Wp.mnew Mx); intro _ Mz; clear Mx; have Mx := Mz; clear Mz) | (with_reducible refine Wp.join1 (fun _ _ => ?_)) | ((with_reducible refine Wp.lettw ?_ ?_ ?_); omega; omega) | (with_reducible refine Wp.lett ?_) | ((with_reducible apply Wp.obind); (with_reducible first | exact hx | exact hsl)) | ((with_reducible refine Wp.ift ?_ ?_); ((with_reducible apply beq_t); omega)) | ((with_reducible refine Wp.iff ?_ ?_); first | (with_reducible first | rfl | exact Bool.not_true) | ((with_reducible apply beq_f); omega)) | ((with_reducible apply Wp.callN); (with_reducible first | exact hf _ | exact hd _ | exact he _)) | (with_reducible refine Wp.go1 (by assumption) ?_) | rw [newP_eq])
       exact Wp.ret ⟨by rw [tokenQ_ok hR ee]; rfl, Mx.tch⟩
     | false =>
      rw [ee] at he
      rcases h60 with h60 | h60 | h60
      ·repeat (first | ((with_reducible apply Wp.obind); (with_reducible exact avBool_bool _)) | ((with_reducible apply Wp.lr0 Mx); rfl) | ((with_reducible apply Wp.ms0 Mx); exact Nat.le_of_ble_eq_true rfl; rfl; intro _ Mz; (try simp only [List.set_cons_succ] at Mz); (try simp only [List.set_cons_zero] at Mz); clear Mx; have Mx := Mz; clear Mz) | ((with_reducible apply Wp.sa0 Mx); rfl; rfl; (rfl); intro _ Mz; (try simp only [List.set_cons_succ] at Mz); (try simp only [List.set_cons_zero] at Mz); clear Mx; have Mx := Mz; clear Mz) | ((with_reducible apply Wp.lr1 Mx); rfl) | ((with_reducible apply Wp.sa1 Mx); rfl; rfl; (rfl); intro _ Mz; (try simp only [List.set_cons_succ] at Mz); (try simp only [List.set_cons_zero] at Mz); clear Mx; have Mx := Mz; clear Mz) | ((with_reducible apply Wp.mnew Mx); intro _ Mz; clear Mx; have Mx := Mz; clear Mz) | (with_reducible refine Wp.join1 (fun _ _ => ?_)) | ((with_reducible refine Wp.lettw ?_ ?_ ?_); omega; omega) | (with_reducible refine Wp.lett ?_) | ((with_reducible apply Wp.obind); (with_reducible first | exact hx | exact hsl)) | ((with_reducible refine Wp.ift ?_ ?_); first | (with_reducible first | rfl | exact Bool.not_false) | ((with_reducible apply beq_t); omega)) | ((with_reducible refine Wp.iff ?_ ?_); first | (with_reducible rfl) | ((with_reducible apply beq_f); omega)) | ((with_reducible apply Wp.callN); (with_reducible first | exact hf _ | exact hd _ | exact he _)) | (with_reducible refine Wp.go1 (by assumption) ?_) | rw [newP_eq])
       exact Wp.ret ⟨by rw [tokenQ_odd hR ee]; exact ⟨by decide, _, rfl, rfl, rfl, rfl⟩, Mx.tch⟩
      ·repeat (first | ((with_reducible apply Wp.obind); (with_reducible exact avBool_bool _)) | ((with_reducible apply Wp.lr0 Mx); rfl) | ((with_reducible apply Wp.ms0 Mx); exact Nat.le_of_ble_eq_true rfl; rfl; intro _ Mz; (try simp only [List.set_cons_succ] at Mz); (try simp only [List.set_cons_zero] at Mz); clear Mx; have Mx := Mz; clear Mz) | ((with_reducible apply Wp.sa0 Mx); rfl; rfl; (rfl); intro _ Mz; (try simp only [List.set_cons_succ] at Mz); (try simp only [List.set_cons_zero] at Mz); clear Mx; have Mx := Mz; clear Mz) | ((with_reducible apply Wp.lr1 Mx); rfl) | ((with_reducible apply Wp.sa1 Mx); rfl; rfl; (rfl); intro _ Mz; (try simp only [List.set_cons_succ] at Mz); (try simp only [List.set_cons_zero] at Mz); clear Mx; have Mx := Mz; clear Mz) | ((with_reducible apply Wp.mnew Mx); intro _ Mz; clear Mx; have Mx := Mz; clear Mz) | (with_reducible refine Wp.join1 (fun _ _ => ?_)) | ((with_reducible refine Wp.lettw ?_ ?_ ?_); omega; omega) | (with_reducible refine Wp.lett ?_) | ((with_reducible apply Wp.obind); (with_reducible first | exact hx | exact hsl)) | ((with_reducible refine Wp.ift ?_ ?_); first | (with_reducible first | rfl | exact Bool.not_false) | ((with_reducible apply beq_t); omega)) | ((with_reducible refine Wp.iff ?_ ?_); first | (with_reducible rfl) | ((with_reducible apply beq_f); omega)) | ((with_reducible apply Wp.callN); (with_reducible first | exact hf _ | exact hd _ | exact he _)) | (with_reducible refine Wp.go1 (by assumption) ?_) | rw [newP_eq])
       exact Wp.ret ⟨by rw [tokenQ_odd hR ee]; exact ⟨by decide, _, rfl, rfl, rfl, rfl⟩, Mx.tch⟩
      ·repeat (first | ((with_reducible apply Wp.obind); (with_reducible exact avBool_bool _)) | ((with_reducible apply Wp.lr0 Mx); rfl) | ((with_reducible apply Wp.ms0 Mx); exact Nat.le_of_ble_eq_true rfl; rfl; intro _ Mz; (try simp only [List.set_cons_succ] at Mz); (try simp only [List.set_cons_zero] at Mz); clear Mx; have Mx := Mz; clear Mz) | ((with_reducible apply Wp.sa0 Mx); rfl; rfl; (rfl); intro _ Mz; (try simp only [List.set_cons_succ] at Mz); (try simp only [List.set_cons_zero] at Mz); clear Mx; have Mx := Mz; clear Mz) | ((with_reducible apply Wp.lr1 Mx); rfl) | ((with_reducible apply Wp.sa1 Mx); rfl; rfl; (rfl); intro _ Mz; (try simp only [List.set_cons_succ] at Mz); (try simp only [List.set_cons_zero] at Mz); clear Mx; have Mx := Mz; clear Mz) | ((with_reducible apply Wp.mnew Mx); intro _ Mz; clear Mx; have Mx := Mz; clear Mz) | (with_reducible refine Wp.join1 (fun _ _ => ?_)) | ((with_reducible refine Wp.lettw ?_ ?_ ?_); omega; omega) | (with_reducible refine Wp.lett ?_) | ((with_reducible apply Wp.obind); (with_reducible first | exact hx | exact hsl)) | ((with_reducible refine Wp.ift ?_ ?_); first | (with_reducible exact Bool.not_false) | ((with_reducible apply beq_t); omega)) | ((with_reducible refine Wp.iff ?_ ?_); first | (with_reducible rfl) | ((with_reducible apply beq_f); omega)) | ((with_reducible apply Wp.callN); (with_reducible first | exact hf _ | exact hd _ | exact he _)) | (with_reducible refine Wp.go1 (by assumption) ?_) | rw [newP_eq])
       exact Wp.ret ⟨by rw [tokenQ_odd hR ee]; exact ⟨by decide, _, rfl, rfl, rfl, rfl⟩, Mx.tch⟩
    ·have hR : readQ u p = .bad 6 p := by unfold readQ; rw [at?_lt hp]; dsimp only; rw [if_neg (by rw [e1]; decide), if_neg (by rw [e2]; decide), if_neg h34, if_neg h60]
     repeat (first | ((with_reducible apply Wp.obind); (with_reducible exact avBool_bool _)) | ((with_reducible apply Wp.lr0 Mx); rfl) | ((with_reducible apply Wp.sa0 Mx); rfl; rfl; (rfl); intro _ Mz; (try simp only [List.set_cons_succ] at Mz); (try simp only [List.set_cons_zero] at Mz); clear Mx; have Mx := Mz; clear Mz) | ((with_reducible apply Wp.lr1 Mx); rfl) | ((with_reducible apply Wp.sa1 Mx); rfl; rfl; (rfl); intro _ Mz; (try simp only [List.set_cons_succ] at Mz); (try simp only [List.set_cons_zero] at Mz); clear Mx; have Mx := Mz; clear Mz) | ((with_reducible apply Wp.mnew Mx); intro _ Mz; clear Mx; have Mx := Mz; clear Mz) | (with_reducible refine Wp.join1 (fun _ _ => ?_)) | (with_reducible refine Wp.lett ?_) | ((with_reducible apply Wp.obind); (with_reducible exact hx)) | ((with_reducible refine Wp.iff ?_ ?_); first | (with_reducible rfl) | ((with_reducible apply beq_f); omega)) | ((with_reducible apply Wp.callN); (with_reducible first | exact hf _ | exact hd _)) | (with_reducible refine Wp.go1 (by assumption) ?_) | rw [newP_eq])
     exact Wp.ret ⟨by rw [tokenQ_bad hR]; exact ⟨by decide, _, rfl, rfl, rfl, rfl⟩, Mx.tch⟩
end
end Go.Proofs.Ytjopejiooipmkaa

namespace Go.Proofs.Ytjopejiooipmkaa
open Go.RowKit Abs
section
variable {n d p c b : Nat} {h h0 : AHeap} {u : Bytes} {Q : ARes → AHeap → Prop} {v : AV} {S : List Nat} {ys T : List RowT} {rows : List (List AV)}
theorem remark_loop {k68 : Int → AHeap → R} {H : AHeap} (hu : u.length ≤ 1000000) (hk : Wp (k68 ((p + spanN restB (u.drop p) : Nat) : Int) H) Q) :
  ∀ (f i : Nat), spanN restB (u.drop p) < f + i → i ≤ spanN restB (u.drop p) → Wp (ref12_Lex_L1 u k68 f ((p + i : Nat) : Int) H) Q
 | 0, i, hf, hi => by omega
 | f + 1, i, hf, hi => by
  rw [ref12_Lex_L1_s]
  unfold ref12_Lex_L1b
  have lu := lenS_nat u
  have hle := span_le restB (u.drop p)
  rw [List.length_drop] at hle
  by_cases hlt : i < spanN restB (u.drop p)
  ·have hl : p + i < u.length := by omega
   have hx : idxS u ((p + i : Nat) : Int) = some ((u[p + i]).toNat : Int) := idxS_nat hl
   have ht := span_lt hlt (by rw [List.length_drop]; omega)
   rw [List.getElem_drop] at ht
   change (((u[p + i]).toNat : Int) != 10) = true at ht
   repeat (first | (with_reducible refine Wp.join1 (fun _ _ => ?_)) | ((with_reducible refine Wp.lettw ?_ ?_ ?_); omega; omega) | (with_reducible refine Wp.lett ?_) | ((with_reducible apply Wp.obind); (with_reducible exact hx)) | ((with_reducible refine Wp.ift ?_ ?_); first | (with_reducible assumption) | ((with_reducible apply decide_eq_true); omega)) | (with_reducible refine Wp.go1 (by assumption) ?_))
   rw [show ((p + i : Nat) : Int) + 1 = ((p + (i + 1) : Nat) : Int) by omega]
   exact remark_loop hu hk f (i + 1) (by omega) (by omega)
  ·have hi' : i = spanN restB (u.drop p) := by omega
   rw [← hi'] at hk
   by_cases hl : p + i < u.length
   ·have hx : idxS u ((p + i : Nat) : Int) = some ((u[p + i]).toNat : Int) := idxS_nat hl
    have ht := span_stop hi' (by rw [List.length_drop]; omega)
    rw [List.getElem_drop] at ht
    change (((u[p + i]).toNat : Int) != 10) = false at ht
    repeat (first | (with_reducible refine Wp.join1 (fun _ _ => ?_)) | (with_reducible refine Wp.lett ?_) | ((with_reducible apply Wp.obind); (with_reducible exact hx)) | ((with_reducible refine Wp.ift ?_ ?_); ((with_reducible first | apply decide_eq_true | apply bne_t); omega)) | ((with_reducible refine Wp.iff ?_ ?_); (with_reducible assumption)) | (with_reducible refine Wp.go1 (by assumption) ?_))
    exact hk
   ·repeat (first | (with_reducible refine Wp.join1 (fun _ _ => ?_)) | (with_reducible refine Wp.lett ?_) | ((with_reducible refine Wp.iff ?_ ?_); first | (with_reducible rfl) | ((with_reducible apply decide_eq_false); omega)) | (with_reducible refine Wp.go1 (by assumption) ?_))
    exact hk
set_option maxRecDepth 100000 in
theorem rlex_loop {hb : AHeap} {k16 : AV → AHeap → R} (hu : u.length ≤ 1000000) (hn : u.length + 320 < n) (hxI : memB 3 h0.ex = false) (hx8 : memB TU8 h0.ex = false) (hxT : memB TTok h0.ex = false) {s : Bool} {rows : List (List AV)} {r : LR} (hr : RefTo u p s rows r) :
  ∀ (f : Nat) (v : AV) (T : List RowT) (H : AHeap), u.length + 2 ≤ f + p → rows.length ≤ p → p ≤ u.length + 1 → GrowT TTok 4 rows v T → Mem [] h0 H ((hb.next, TSpot, [.int .i64 0, .int .i64 0]) :: T) →
   (∀ l v' T' H', r = .ok l 0 → GrowT TTok 4 l v' T' → Mem [] h0 H' ((hb.next, TSpot, [.int .i64 0, .int .i64 0]) :: T') → Wp (k16 v' H') Q) →
   (∀ e q H', r = .bad e q → e ≠ 0 → Mem [] h0 H' [] → Q (.ret (.tup [.nsl, .agg [.int .i64 e, .int .i64 (q : Int)]])) H') →
   Wp (ref12_Lex_L0 (world n (d + 5)) n u hb k16 f v (p : Int) s H) Q := by
 induction hr with
 | @done p s l hd =>
  intro f v T H hf hrp hp g Mx hok hbad
  cases f with
  | zero => omega
  | succ f =>
   rw [ref12_Lex_L0_s]
   unfold ref12_Lex_L0b
   have lu := lenS_nat u
   repeat (first | (with_reducible refine Wp.lett ?_) | ((with_reducible refine Wp.iff ?_ ?_); ((with_reducible apply decide_eq_false); omega)))
   exact hok l v T H rfl g Mx
 | @nl p s l r h1 h2 _ ih =>
  intro f v T H hf hrp hp g Mx hok hbad
  cases f with
  | zero => omega
  | succ f =>
   rw [ref12_Lex_L0_s]
   unfold ref12_Lex_L0b
   have lu := lenS_nat u
   by_cases hl : p < u.length
   ·have hx : idxS u (p : Int) = some ((u[p]).toNat : Int) := idxS_nat hl
    unfold endsB at h2
    rw [at?_lt hl] at h2
    dsimp only at h2
    cases s with
    | true =>
     repeat (first | (with_reducible refine Wp.join1 (fun _ _ => ?_)) | (with_reducible refine Wp.lett ?_) | ((with_reducible apply Wp.obind); (with_reducible exact hx)) | ((with_reducible refine Wp.ift ?_ ?_); first | (with_reducible first | rfl | assumption) | ((with_reducible first | apply decide_eq_true | apply beq_t); omega)) | ((with_reducible refine Wp.iff ?_ ?_); ((with_reducible apply beq_f); omega)) | (with_reducible refine Wp.go1 (by assumption) ?_))
     refine Wp.mnews Mx (bldSl_end _ _) rfl hxT (fun h1 M1 => ?_)
     clear Mx
     have Mx := M1
     clear M1
     refine Wp.grow (xs := [_]) (T := T) (sz := 4) (P := Try.prog) Mx g elT notT cellsT fitT hxT rfl rfl (by omega) (by omega) (fun v2 h2 T2 g2 M2 => ?_)
     clear Mx
     have Mx := M2
     clear M2
     repeat (first | ((with_reducible refine Wp.lettw ?_ ?_ ?_); omega; omega) | (with_reducible refine Wp.go1 (by assumption) ?_))
     exact ih f v2 T2 _ (by omega) (by rw [if_pos rfl]; simp; omega) (by omega) (by rw [if_pos rfl]; exact g2) Mx hok hbad
    | false =>
     repeat (first | (with_reducible refine Wp.join1 (fun _ _ => ?_)) | ((with_reducible refine Wp.lettw ?_ ?_ ?_); omega; omega) | (with_reducible refine Wp.lett ?_) | ((with_reducible apply Wp.obind); (with_reducible exact hx)) | ((with_reducible refine Wp.ift ?_ ?_); first | (with_reducible assumption) | ((with_reducible first | apply decide_eq_true | apply beq_t); omega)) | ((with_reducible refine Wp.iff ?_ ?_); first | (with_reducible rfl) | ((with_reducible apply beq_f); omega)) | (with_reducible refine Wp.go1 (by assumption) ?_))
     exact ih f v T _ (by omega) (by rw [if_neg (by decide)]; omega) (by omega) (by rw [if_neg (by decide)]; exact g) Mx hok hbad
   ·cases s with
    | true =>
     repeat (first | (with_reducible refine Wp.join1 (fun _ _ => ?_)) | (with_reducible refine Wp.lett ?_) | ((with_reducible refine Wp.ift ?_ ?_); first | (with_reducible rfl) | ((with_reducible first | apply decide_eq_true | apply beq_t); omega)) | (with_reducible refine Wp.go1 (by assumption) ?_))
     refine Wp.mnews Mx (bldSl_end _ _) rfl hxT (fun h1 M1 => ?_)
     clear Mx
     have Mx := M1
     clear M1
     refine Wp.grow (xs := [_]) (T := T) (sz := 4) (P := Try.prog) Mx g elT notT cellsT fitT hxT rfl rfl (by omega) (by omega) (fun v2 h2 T2 g2 M2 => ?_)
     clear Mx
     have Mx := M2
     clear M2
     repeat (first | ((with_reducible refine Wp.lettw ?_ ?_ ?_); omega; omega) | (with_reducible refine Wp.go1 (by assumption) ?_))
     exact ih f v2 T2 _ (by omega) (by rw [if_pos rfl]; simp; omega) (by omega) (by rw [if_pos rfl]; exact g2) Mx hok hbad
    | false =>
     repeat (first | (with_reducible refine Wp.join1 (fun _ _ => ?_)) | ((with_reducible refine Wp.lettw ?_ ?_ ?_); omega; omega) | (with_reducible refine Wp.lett ?_) | ((with_reducible refine Wp.ift ?_ ?_); first | (with_reducible rfl) | ((with_reducible first | apply decide_eq_true | apply beq_t); omega)) | ((with_reducible refine Wp.iff ?_ ?_); (with_reducible rfl)) | (with_reducible refine Wp.go1 (by assumption) ?_))
     exact ih f v T _ (by omega) (by rw [if_neg (by decide)]; omega) (by omega) (by rw [if_neg (by decide)]; exact g) Mx hok hbad
 | @blank p s l r h1 h2 _ ih =>
  intro f v T H hf hrp hp g Mx hok hbad
  cases f with
  | zero => omega
  | succ f =>
   rw [ref12_Lex_L0_s]
   unfold ref12_Lex_L0b
   have lu := lenS_nat u
   have hx : idxS u (p : Int) = some ((u[p]).toNat : Int) := idxS_nat h1
   have h3 : ((u[p]).toNat : Int) = 32 ∨ ((u[p]).toNat : Int) = 9 := by
    unfold blankB at h2
    simpa using h2
   rcases h3 with h3 | h3
   ·repeat (first | (with_reducible refine Wp.join1 (fun _ _ => ?_)) | ((with_reducible refine Wp.lettw ?_ ?_ ?_); omega; omega) | (with_reducible refine Wp.lett ?_) | ((with_reducible apply Wp.obind); (with_reducible exact hx)) | ((with_reducible refine Wp.ift ?_ ?_); first | (with_reducible rfl) | ((with_reducible first | apply decide_eq_true | apply beq_t); omega)) | ((with_reducible refine Wp.iff ?_ ?_); ((with_reducible apply beq_f); omega)) | (with_reducible refine Wp.go1 (by assumption) ?_))
    exact ih f v T _ (by omega) (by omega) (by omega) g Mx hok hbad
   ·repeat (first | (with_reducible refine Wp.join1 (fun _ _ => ?_)) | ((with_reducible refine Wp.lettw ?_ ?_ ?_); omega; omega) | (with_reducible refine Wp.lett ?_) | ((with_reducible apply Wp.obind); (with_reducible exact hx)) | ((with_reducible refine Wp.ift ?_ ?_); ((with_reducible first | apply decide_eq_true | apply beq_t); omega)) | ((with_reducible refine Wp.iff ?_ ?_); ((with_reducible apply beq_f); omega)) | (with_reducible refine Wp.go1 (by assumption) ?_))
    exact ih f v T _ (by omega) (by omega) (by omega) g Mx hok hbad
 | @remark p s l r h1 h2 _ ih =>
  intro f v T H hf hrp hp g Mx hok hbad
  cases f with
  | zero => omega
  | succ f =>
   rw [ref12_Lex_L0_s]
   unfold ref12_Lex_L0b
   have lu := lenS_nat u
   have hx : idxS u (p : Int) = some ((u[p]).toNat : Int) := idxS_nat h1
   have hle := span_le restB (u.drop p)
   rw [List.length_drop] at hle
   have h3 : 1 ≤ spanN restB (u.drop p) := by
    rw [List.drop_eq_getElem_cons h1, spanN, if_pos (by rw [h2]; rfl)]
    omega
   repeat (first | (with_reducible refine Wp.join1 (fun _ _ => ?_)) | (with_reducible refine Wp.lett ?_) | ((with_reducible apply Wp.obind); (with_reducible exact hx)) | ((with_reducible refine Wp.ift ?_ ?_); ((with_reducible first | apply decide_eq_true | apply beq_t); omega)) | ((with_reducible refine Wp.iff ?_ ?_); ((with_reducible apply beq_f); omega)) | (with_reducible refine Wp.go1 (by assumption) ?_))
   refine remark_loop hu ?_ n 0 (by omega) (by omega)
   repeat ((with_reducible refine Wp.go1 (by assumption) ?_))
   exact ih f v T _ (by omega) (by omega) (by omega) g Mx hok hbad
 | @tok p s l r k t m a q h1 h2 h3 h4 h5 _ ih =>
  intro f v T H hf hrp hp g Mx hok hbad
  cases f with
  | zero => omega
  | succ f =>
   rw [ref12_Lex_L0_s]
   unfold ref12_Lex_L0b
   have lu := lenS_nat u
   have hx : idxS u (p : Int) = some ((u[p]).toNat : Int) := idxS_nat h1
   have hq := tokenQ_le h1 h5
   have hq2 := tokenQ_lt h1 h5
   unfold endsB at h2
   rw [at?_lt h1] at h2
   dsimp only at h2
   have h6 : ¬ ((u[p]).toNat : Int) = 10 := by simpa using h2
   have h7 : ¬ ((u[p]).toNat : Int) = 32 := fun hh => by
    unfold blankB at h3
    rw [hh] at h3
    cases h3
   have h8 : ¬ ((u[p]).toNat : Int) = 9 := fun hh => by
    unfold blankB at h3
    rw [hh] at h3
    cases h3
   obtain ⟨r1, e1, p1⟩ := rtoken_w (n := n) (d := d) (h := H) hu hn h1 (by rw [Mx.ex]; exact hxI) (by rw [Mx.ex]; exact hx8)
   rw [h5] at p1
   unfold rtokP at p1
   rw [p1] at e1
   unfold tokC at e1
   repeat (first | ((with_reducible apply Wp.obind); (with_reducible exact avInt_int _ _)) | ((with_reducible apply Wp.lr0 Mx); rfl) | ((with_reducible apply Wp.sa0 Mx); rfl; rfl; (rfl); intro _ Mz; clear Mx; have Mx := Mz; clear Mz) | ((with_reducible apply Wp.mnew Mx); intro _ Mz; clear Mx; have Mx := Mz; clear Mz) | (with_reducible refine Wp.join1 (fun _ _ => ?_)) | (with_reducible refine Wp.lett ?_) | ((with_reducible apply Wp.obind); (with_reducible first | exact hx | exact avAgg_agg _ | exact extT_0 _ _ | exact extT_1 _ _ _ | exact extT_2 _ _ _ _)) | ((with_reducible refine Wp.ift ?_ ?_); ((with_reducible first | apply decide_eq_true | apply bne_t | apply beq_t); omega)) | ((with_reducible refine Wp.iff ?_ ?_); first | (with_reducible assumption) | ((with_reducible first | apply bne_f | apply beq_f); omega)) | ((with_reducible apply Wp.callN); (with_reducible exact e1)) | (with_reducible refine Wp.go1 (by assumption) ?_) | rw [newP_eq])
   refine Wp.mnews Mx (bldSl_tok _ _ _ _ _) rfl hxT (fun h1 M1 => ?_)
   clear Mx
   have Mx := M1
   clear M1
   refine Wp.grow (xs := [_, _]) (T := T) (sz := 4) (P := Try.prog) Mx g elT notT cellsT fitT hxT rfl rfl (by omega) (by omega) (fun v2 h2 T2 g2 M2 => ?_)
   clear Mx
   have Mx := M2
   clear M2
   exact ih f v2 T2 _ (by omega) (by simp; omega) (by omega) g2 Mx.pop hok hbad
 | @bad p s l e q h1 h2 h3 h4 h5 =>
  intro f v T H hf hrp hp g Mx hok hbad
  cases f with
  | zero => omega
  | succ f =>
   rw [ref12_Lex_L0_s]
   unfold ref12_Lex_L0b
   have lu := lenS_nat u
   have hx : idxS u (p : Int) = some ((u[p]).toNat : Int) := idxS_nat h1
   unfold endsB at h2
   rw [at?_lt h1] at h2
   dsimp only at h2
   have h6 : ¬ ((u[p]).toNat : Int) = 10 := by simpa using h2
   have h7 : ¬ ((u[p]).toNat : Int) = 32 := fun hh => by
    unfold blankB at h3
    rw [hh] at h3
    cases h3
   have h8 : ¬ ((u[p]).toNat : Int) = 9 := fun hh => by
    unfold blankB at h3
    rw [hh] at h3
    cases h3
   obtain ⟨r1, e1, p1⟩ := rtoken_w (n := n) (d := d) (h := H) hu hn h1 (by rw [Mx.ex]; exact hxI) (by rw [Mx.ex]; exact hx8)
   rw [h5] at p1
   unfold rtokP at p1
   obtain ⟨hne, cl, p2, p3, p4, _⟩ := p1
   rw [p2] at e1
   repeat (first | ((with_reducible apply Wp.obind); (with_reducible exact avInt_int _ _)) | ((with_reducible apply Wp.mnew Mx); intro _ Mz; clear Mx; have Mx := Mz; clear Mz) | (with_reducible refine Wp.join1 (fun _ _ => ?_)) | (with_reducible refine Wp.lett ?_) | ((with_reducible apply Wp.obind); (with_reducible first | exact hx | exact avAgg_agg _ | exact extT_0 _ _ | exact extT_1 _ _ _ | exact extT_2 _ _ _ _)) | ((with_reducible refine Wp.ift ?_ ?_); ((with_reducible first | apply decide_eq_true | apply beq_t); omega)) | ((with_reducible refine Wp.iff ?_ ?_); first | (with_reducible assumption) | ((with_reducible apply beq_f); omega)) | ((with_reducible apply Wp.callN); (with_reducible exact e1)) | (with_reducible refine Wp.go1 (by assumption) ?_) | rw [newP_eq])
   refine Wp.sa0 Mx p3 rfl p4 (fun h5 M5 => ?_)
   clear Mx
   have Mx := M5
   repeat (first | ((with_reducible apply Wp.lr1 Mx); rfl) | ((with_reducible apply Wp.sa1 Mx); rfl; rfl; (rfl); intro _ Mz; clear Mx; have Mx := Mz; clear Mz) | (with_reducible refine Wp.lett ?_) | ((with_reducible refine Wp.ift ?_ ?_); ((with_reducible apply bne_t); omega)))
   exact Wp.ret (hbad e q _ rfl hne (Mem.drop (xs := _ :: _ :: T) (by rw [List.append_nil]; exact Mx)))
end
end Go.Proofs.Ytjopejiooipmkaa

namespace Go.Proofs.Ytjopejiooipmkaa
open Go.RowKit Abs
section
variable {n d p c b : Nat} {h h0 H : AHeap} {u : Bytes} {Q : ARes → AHeap → Prop} {v : AV} {S : List Nat} {ys T : List RowT} {rows : List (List AV)}
set_option maxRecDepth 100000 in
theorem rlex_w (hu : u.length ≤ 1000000) (hn : u.length + 320 < n) (hxI : memB 3 h.ex = false) (hx8 : memB TU8 h.ex = false) (hxT : memB TTok h.ex = false) : match lexAll u with
  | .ok l _ => ∃ h' v T, world n (d + 6) 10 [strA u] h = some (.ret (.tup [v, .agg [.int .i64 0, .int .i64 0]]), h') ∧ GrowT TTok 4 l v T ∧ Mem [] h h' T
  | .bad e q => e ≠ 0 ∧ ∃ h', world n (d + 6) 10 [strA u] h = some (.ret (.tup [.nsl, .agg [.int .i64 e, .int .i64 (q : Int)]]), h') ∧ Mem [] h h' [] := by
 suffices hK : Wp (world n (d + 6) 10 [strA u] h) fun r h' => match lexAll u with
   | .ok l _ => ∃ v T, r = .ret (.tup [v, .agg [.int .i64 0, .int .i64 0]]) ∧ GrowT TTok 4 l v T ∧ Mem [] h h' T
   | .bad e q => e ≠ 0 ∧ r = .ret (.tup [.nsl, .agg [.int .i64 e, .int .i64 (q : Int)]]) ∧ Mem [] h h' [] by
  obtain ⟨r, h', e, q⟩ := hK
  cases hl : lexAll u with
  | ok l q' =>
   rw [hl] at q
   obtain ⟨v, T, rfl, q2⟩ := q
   exact ⟨h', v, T, e, q2⟩
  | bad e' q' =>
   rw [hl] at q
   exact ⟨q.1, h', by rw [e, q.2.1], q.2.2⟩
 rw [w_ref12_Lex]
 refine Wp.gc2 ?_
 suffices hK : Wp (ref12_Lex (world n (d + 5)) n u h) fun r h' => match lexAll u with
   | .ok l _ => ∃ v T, r = .ret (.tup [v, .agg [.int .i64 0, .int .i64 0]]) ∧ GrowT TTok 4 l v T ∧ Mem [] h h' T
   | .bad e q => e ≠ 0 ∧ r = .ret (.tup [.nsl, .agg [.int .i64 e, .int .i64 (q : Int)]]) ∧ Mem [] h h' [] by
  refine hK.mono fun r h' q => ⟨q, fun _ hlo => ?_⟩
  cases hl : lexAll u with
  | ok l q' =>
   rw [hl] at q
   obtain ⟨v, T, rfl, g, M⟩ := q
   rcases g.2 with ⟨h1, h2, rfl⟩ | ⟨h1, c, rfl, rfl⟩
   ·exact ⟨v, [], rfl, g, Mem.nil [] h⟩
   ·have := (M.row _ (List.mem_singleton.2 rfl)).2.2
    exfalso
    rcases this with hh | hh
    ·cases hh
    ·exact absurd (blt_lt' (by simpa [ARes.val, AV.lo, AV.loL] using hlo)) (Nat.not_lt.2 hh)
  | bad e' q' =>
   rw [hl] at q
   exact ⟨q.1, q.2.1, Mem.nil [] h⟩
 unfold ref12_Lex
 have Mx := Mem.nil [] h
 have lu := lenS_nat u
 by_cases hl : 2048 < u.length
 ·have hla : lexAll u = .bad 3 2048 := by unfold lexAll; rw [if_pos hl]
  rw [hla]
  repeat (first | ((with_reducible apply Wp.lr0 Mx); rfl) | ((with_reducible apply Wp.sa0 Mx); rfl; rfl; (rfl); intro _ Mz; clear Mx; have Mx := Mz; clear Mz) | ((with_reducible apply Wp.mnew Mx); intro _ Mz; clear Mx; have Mx := Mz; clear Mz) | (with_reducible refine Wp.lett ?_) | ((with_reducible refine Wp.ift ?_ ?_); ((with_reducible apply decide_eq_true); omega)) | rw [newP_eq])
  exact Wp.ret ⟨by decide, rfl, Mx.pop⟩
 ·have hla : lexAll u = lexQ u (u.length + 1) 0 [] := by unfold lexAll; rw [if_neg hl]
  rw [hla]
  repeat (first | ((with_reducible apply Wp.mnew Mx); intro _ Mz; clear Mx; have Mx := Mz; clear Mz) | (with_reducible refine Wp.join1 (fun _ _ => ?_)) | (with_reducible refine Wp.lett ?_) | ((with_reducible refine Wp.iff ?_ ?_); ((with_reducible apply decide_eq_false); omega)))
  refine rlex_loop hu hn hxI hx8 hxT (lex_to (u.length + 1) 0 [] (by omega) (by omega)) n .nsl [] _ (by omega) (by simp) (by omega) (GrowT.nil _ _) Mx ?_ ?_
  ·intro l v' T' H' hr g' M6
   cases hL : lexQ u (u.length + 1) 0 [] with
   | bad e q => rw [hL] at hr; cases hr
   | ok l2 q =>
    rw [hL] at hr
    cases hr
    clear Mx
    have Mx := M6
    clear M6
    repeat (first | ((with_reducible apply Wp.lr0 Mx); rfl) | ((with_reducible apply Wp.sa0 Mx); rfl; rfl; (rfl); intro _ Mz; clear Mx; have Mx := Mz; clear Mz) | (with_reducible refine Wp.go1 (by assumption) ?_) | rw [newP_eq])
    exact Wp.ret ⟨v', T', rfl, g', Mx.pop⟩
  ·intro e q H' hr he M6
   cases hL : lexQ u (u.length + 1) 0 [] with
   | ok l2 q => rw [hL] at hr; cases hr
   | bad e2 q2 =>
    rw [hL] at hr
    cases hr
    exact ⟨he, rfl, M6⟩
/-- a token's cells -/
def isTok (r : List AV) : Prop := ∃ k t m a, r = tokC k t m a
theorem rest_toks : ∀ (f p : Nat) (l l' : List (List AV)) (q : Nat), restQ u f p l = .ok l' q → (∀ r ∈ l, isTok r) → ∀ r ∈ l', isTok r
 | 0, p, l, l', q, hh, _ => by rw [restQ] at hh; cases hh
 | f + 1, p, l, l', q, hh, hl => by
  rw [restQ] at hh
  split at hh
  ·cases hh
   exact hl
  ·cases hT : tokenQ u p with
   | bad e q' => rw [hT] at hh; cases hh
   | ok k t m a q' =>
    rw [hT] at hh
    refine rest_toks f _ _ _ _ hh fun r hr => ?_
    rcases List.mem_append.1 hr with hr | hr
    ·exact hl r hr
    ·exact ⟨k, t, m, a, by simpa using hr⟩
theorem line_toks {l l' : List (List AV)} {q : Nat} (hh : lineQ u p l = .ok l' q) (hl : ∀ r ∈ l, isTok r) : ∀ r ∈ l', isTok r := by
 unfold lineQ at hh
 cases hr : restQ u (u.length + 1) (skipP u p) l with
 | bad e q' => rw [hr] at hh; cases hh
 | ok l2 q2 =>
  rw [hr] at hh
  have h2 := rest_toks _ _ _ _ _ hr hl
  simp only [LR.ok.injEq] at hh
  obtain ⟨rfl, rfl⟩ := hh
  split
  ·intro r hr
   rcases List.mem_append.1 hr with hr | hr
   ·exact h2 r hr
   ·exact ⟨6, [], 0, q2, by simpa using hr⟩
  ·exact h2
theorem lex_toks : ∀ (f p : Nat) (l l' : List (List AV)) (q : Nat), lexQ u f p l = .ok l' q → (∀ r ∈ l, isTok r) → ∀ r ∈ l', isTok r
 | 0, p, l, l', q, hh, hl => by
  rw [lexQ] at hh
  cases hh
  exact hl
 | f + 1, p, l, l', q, hh, hl => by
  rw [lexQ] at hh
  split at hh
  ·cases hL : lineQ u p l with
   | bad e q' => rw [hL] at hh; cases hh
   | ok l2 q2 =>
    rw [hL] at hh
    exact lex_toks f _ _ _ _ hh (line_toks hL hl)
  ·cases hh
   exact hl
theorem lexAll_toks {l : List (List AV)} {q : Nat} (hh : lexAll u = .ok l q) : ∀ r ∈ l, isTok r := by
 unfold lexAll at hh
 split at hh
 ·cases hh
 ·exact lex_toks _ _ _ _ _ hh (by simp)
theorem lex_le : ∀ (f p : Nat) (l l' : List (List AV)) (q : Nat), lexQ u f p l = .ok l' q → p ≤ u.length + 1 → l'.length + p ≤ l.length + q ∧ q ≤ u.length + 1
 | 0, p, l, l', q, hh, hp => by
  rw [lexQ] at hh
  cases hh
  omega
 | f + 1, p, l, l', q, hh, hp => by
  rw [lexQ] at hh
  split at hh
  ·rename_i hlt
   cases hL : lineQ u p l with
   | bad e q' => rw [hL] at hh; cases hh
   | ok l2 q2 =>
    rw [hL] at hh
    obtain ⟨a1, a2, a3, a4⟩ := lineQ_fact hL (by omega)
    have := lex_le f _ _ _ _ hh a2
    omega
  ·cases hh
   omega
theorem lexAll_le {l : List (List AV)} {q : Nat} (hh : lexAll u = .ok l q) : l.length ≤ u.length + 1 ∧ u.length ≤ 2048 := by
 unfold lexAll at hh
 split at hh
 ·cases hh
 ·have := lex_le _ _ _ _ _ hh (by omega)
  simp at this
  omega
theorem GrowT.slc (g : GrowT TTok 4 rows v T) (M : Mem S h0 H (ys ++ T)) : Slc H.next H 4 v rows := by
 refine ⟨fun l hl => (g.1 l hl).1, ?_⟩
 rcases g.2 with ⟨rfl, rfl, _⟩ | ⟨h1, c, rfl, rfl⟩
 ·exact .inl ⟨rfl, .inl rfl⟩
 ·obtain ⟨⟨t, h5, h6⟩, h3, _⟩ := M.row (c, TTok, rows.flatten) (by simp)
  exact .inr ⟨c, h1, h3, rfl, t, .inr ⟨_, _, h5⟩, h6⟩
theorem flatTok : flatB Try.prog TTok [1, 2, 1, 1] = true := by kernel_rfl
theorem eqTok (k m k' m' a a' : Int) (t t' : Bytes) : eqOther Try.prog TTok (.agg [.int .i64 k, strA t, .int .i64 m, .int .i64 a]) (.agg [.int .i64 k', strA t', .int .i64 m', .int .i64 a']) = some ((k == k') && ((t == t') && ((m == m') && ((a == a') && true)))) :=
 eq_flat flatTok (eqL_cons rfl (eqCell_int _ _ _) (eqL_cons rfl (eqCell_str _ _) (eqL_cons rfl (eqCell_int _ _ _) (eqL_cons rfl (eqCell_int _ _ _) rfl))))
theorem eqTok_self {r : List AV} (h : isTok r) : eqOther Try.prog TTok (.agg r) (.agg r) = some true := by
 obtain ⟨k, t, m, a, rfl⟩ := h
 unfold tokC
 rw [eqTok]
 simp
theorem tok_loop {v15 v20 : AV} {k49 : AHeap → R} {l : List (List AV)} (s1 : Slc H.next H 4 v15 l) (s2 : Slc H.next H 4 v20 l) (ht : ∀ r ∈ l, isTok r) (hb : l.length ≤ 1000000) (hk : Wp (k49 H) Q) :
  ∀ (f i : Nat), l.length < f + i → i ≤ l.length → Wp (law12_LexTokens_L0 v15 v20 k49 f (i : Int) H) Q
 | 0, i, hf, hi => by omega
 | f + 1, i, hf, hi => by
  rw [law12_LexTokens_L0_s]
  unfold law12_LexTokens_L0b
  have hl := s1.len
  by_cases hlt : i < l.length
  ·obtain ⟨b1, _, x1, r1⟩ := s1.row hlt
   obtain ⟨b2, _, x2, r2⟩ := s2.row hlt
   have he := eqTok_self (ht _ (List.getElem_mem hlt))
   repeat (first | ((with_reducible refine Wp.lettw ?_ ?_ ?_); omega; omega) | (with_reducible refine Wp.lett ?_) | ((with_reducible apply Wp.obind); (with_reducible first | exact hl | exact x1 | exact r1 | exact x2 | exact r2 | exact he)) | ((with_reducible refine Wp.ift ?_ ?_); ((with_reducible apply decide_eq_true); omega)) | ((with_reducible refine Wp.iff ?_ ?_); (with_reducible exact Bool.not_true)))
   rw [show (i : Int) + 1 = ((i + 1 : Nat) : Int) by omega]
   exact tok_loop s1 s2 ht hb hk f (i + 1) (by omega) (by omega)
  ·repeat (first | (with_reducible refine Wp.lett ?_) | ((with_reducible apply Wp.obind); (with_reducible exact hl)) | ((with_reducible refine Wp.iff ?_ ?_); ((with_reducible apply decide_eq_false); omega)))
   exact hk
end
end Go.Proofs.Ytjopejiooipmkaa

namespace Go.Proofs.Ytjopejiooipmkaa
open Go.RowKit Abs
theorem flatSpot : flatB Try.prog TSpot [1, 1] = true := by kernel_rfl
theorem eqSpot (a b c d : Int) : eqOther Try.prog TSpot (.agg [.int .i64 a, .int .i64 b]) (.agg [.int .i64 c, .int .i64 d]) = some ((a == c) && ((b == d) && true)) := eq_flat flatSpot (eqL_cons rfl (eqCell_int _ _ _) (eqL_cons rfl (eqCell_int _ _ _) rfl))
theorem eqSpot_self (a b : Int) : eqOther Try.prog TSpot (.agg [.int .i64 a, .int .i64 b]) (.agg [.int .i64 a, .int .i64 b]) = some true := by rw [eqSpot]; simp
theorem works_w (n d : Nat) (h : AHeap) : world n (d + 1) 7 [] h = some (.ret (.bool true), h) := w_true n d [] h
theorem great_w (n d : Nat) (u : Bytes) (h : AHeap) : world n (d + 1) 8 [strA u] h = some (.ret (.bool (decide (lenS u > 65536))), h) := by
 rw [w_law12_great]
 unfold law12_great
 rw [lett_eq, gcR_self]
set_option maxRecDepth 100000 in
/-- the law -/
theorem lexTokens_says (h : AHeap) (hX : h.ex = [70]) (xs : List AV) (hP : ArgsP Try.prog h.next h 12 [9] xs) : ∃ h', Says Try.prog 3 xs h (.ret (.bool true)) h' := by
 obtain ⟨_, _, rfl, hp0, hP⟩ := args_cons hP
 obtain rfl := args0 hP
 obtain ⟨u, rfl, hs⟩ := hp0.str Try.underlying9
 obtain ⟨n, hn⟩ : ∃ n, n = 1000000 := ⟨_, rfl⟩
 suffices hK : Wp (world n 15 3 [strA u] h) fun r _ => r = .ret (.bool true) by
  obtain ⟨_, h', e, rfl⟩ := hK
  exact ⟨h', world_ok n 15 3 _ h _ h' e⟩
 rw [w_law12_LexTokens]
 refine Wp.gc' ?_
 suffices hK : Wp (law12_LexTokens (world n 14) n u h) fun r _ => r = .ret (.bool true) from hK.mono fun r h' e => ⟨e, fun _ => e⟩
 unfold law12_LexTokens
 have lu := lenS_nat u
 have hwk := works_w n 13 h
 have hlg := great_w n 13 u h
 have Mx := Mem.nil [] h
 by_cases hl : lenS u > 65536
 ·rw [decide_eq_true hl] at hlg
  repeat (first | (with_reducible refine Wp.lett ?_) | ((with_reducible apply Wp.obind); (with_reducible exact avBool_bool _)) | ((with_reducible refine Wp.ift ?_ ?_); (with_reducible rfl)) | ((with_reducible refine Wp.iff ?_ ?_); (with_reducible exact Bool.not_true)) | ((with_reducible apply Wp.callN); (with_reducible assumption)))
  exact Wp.ret rfl
 ·rw [decide_eq_false hl] at hlg
  have hp := lex_w (n := n) (d := 0) (h := h) (u := u) (by omega) (by omega) (by rw [hX]; rfl) (by rw [hX]; rfl) (by rw [hX]; rfl)
  have hr := fun (H : AHeap) (hx : H.ex = [70]) => rlex_w (n := n) (d := 8) (h := H) (u := u) (by omega) (by omega) (by rw [hx]; rfl) (by rw [hx]; rfl) (by rw [hx]; rfl)
  cases hQ : lexAll u with
  | bad e q =>
   rw [hQ] at hp hr
   dsimp only at hp hr
   obtain ⟨_, h1, e1, M1⟩ := hp
   clear Mx
   have Mx := M1
   repeat (first | ((with_reducible apply Wp.obind); (with_reducible exact avBool_bool _)) | ((with_reducible apply Wp.sa0 Mx); rfl; rfl; (rfl); intro _ Mz; clear Mx; have Mx := Mz; clear Mz) | ((with_reducible apply Wp.mnew Mx); intro _ Mz; clear Mx; have Mx := Mz; clear Mz) | (with_reducible refine Wp.lett ?_) | ((with_reducible apply Wp.obind); (with_reducible first | exact avAgg_agg _ | exact extT_0 _ _ | exact extT_1 _ _ _)) | ((with_reducible refine Wp.iff ?_ ?_); (with_reducible first | rfl | exact Bool.not_true)) | ((with_reducible apply Wp.callN); (with_reducible assumption)) | rw [newP_eq])
   obtain ⟨_, h2, e2, M2⟩ := hr _ (by rw [Mx.ex]; exact hX)
   have M3 := Mem.frame (xs := []) Mx M2
   clear Mx
   have Mx := M3
   simp only [List.nil_append] at Mx
   have ln : lenL .nsl = some 0 := rfl
   repeat (first | ((with_reducible apply Wp.lr0 Mx); rfl) | ((with_reducible apply Wp.sa0 Mx); rfl; rfl; (rfl); intro _ Mz; clear Mx; have Mx := Mz; clear Mz) | ((with_reducible apply Wp.lr1 Mx); rfl) | ((with_reducible apply Wp.mnew Mx); intro _ Mz; clear Mx; have Mx := Mz; clear Mz) | (with_reducible first | refine Wp.join0 (fun _ _ => ?_) | refine Wp.join1 (fun _ _ => ?_)) | (with_reducible refine Wp.lett ?_) | ((with_reducible apply Wp.obind); (with_reducible first | exact eqSpot_self _ _ | exact ln | exact avAgg_agg _ | exact extT_0 _ _ | exact extT_1 _ _ _)) | ((with_reducible refine Wp.iff ?_ ?_); first | (with_reducible exact Bool.not_true) | ((with_reducible apply bne_f); omega)) | ((with_reducible apply Wp.callN); (with_reducible exact e2)) | (with_reducible refine Wp.go1 (by assumption) ?_) | rw [newP_eq])
   refine tok_loop (l := []) (Slc.nil _) (Slc.nil _) (by simp) (by simp) ?_ n 0 (by simp; omega) (by simp)
   repeat ((with_reducible refine Wp.go0 (by assumption) ?_))
   exact Wp.ret rfl
  | ok l q =>
   rw [hQ] at hp hr
   dsimp only at hp hr
   obtain ⟨h1, v1, T1, e1, g1, M1⟩ := hp
   obtain ⟨hl1, hl2⟩ := lexAll_le hQ
   have hts := lexAll_toks hQ
   clear Mx
   have Mx := M1
   repeat (first | ((with_reducible apply Wp.obind); (with_reducible exact avBool_bool _)) | ((with_reducible apply Wp.sa0 Mx); rfl; rfl; (rfl); intro _ Mz; clear Mx; have Mx := Mz; clear Mz) | ((with_reducible apply Wp.mnew Mx); intro _ Mz; clear Mx; have Mx := Mz; clear Mz) | (with_reducible refine Wp.lett ?_) | ((with_reducible apply Wp.obind); (with_reducible first | exact avAgg_agg _ | exact extT_0 _ _ | exact extT_1 _ _ _)) | ((with_reducible refine Wp.iff ?_ ?_); (with_reducible first | rfl | exact Bool.not_true)) | ((with_reducible apply Wp.callN); (with_reducible assumption)) | rw [newP_eq])
   obtain ⟨h2, v2, T2, e2, g2, M2⟩ := hr _ (by rw [Mx.ex]; exact hX)
   have M3 := Mem.frame (xs := []) Mx M2
   clear Mx
   have Mx := M3.perm List.perm_append_comm
   simp only [List.cons_append] at Mx
   have le1 := g1.len
   have le2 := g2.len
   repeat (first | ((with_reducible apply Wp.lr0 Mx); rfl) | ((with_reducible apply Wp.sa0 Mx); rfl; rfl; (rfl); intro _ Mz; clear Mx; have Mx := Mz; clear Mz) | ((with_reducible apply Wp.lr1 Mx); rfl) | ((with_reducible apply Wp.mnew Mx); intro _ Mz; clear Mx; have Mx := Mz; clear Mz) | (with_reducible first | refine Wp.join0 (fun _ _ => ?_) | refine Wp.join1 (fun _ _ => ?_)) | (with_reducible refine Wp.lett ?_) | ((with_reducible apply Wp.obind); (with_reducible first | exact eqSpot_self _ _ | exact le1 | exact le2 | exact avAgg_agg _ | exact extT_0 _ _ | exact extT_1 _ _ _)) | ((with_reducible refine Wp.iff ?_ ?_); first | (with_reducible exact Bool.not_true) | ((with_reducible apply bne_f); omega)) | ((with_reducible apply Wp.callN); (with_reducible exact e2)) | (with_reducible refine Wp.go1 (by assumption) ?_) | rw [newP_eq])
   refine tok_loop (l := l) ?_ ?_ hts (by omega) ?_ n 0 (by omega) (by omega)
   ·exact GrowT.slc g1 (ys := _ :: _ :: T2) (Mx.perm (List.Perm.append_left [_, _] List.perm_append_comm))
   ·exact GrowT.slc g2 (ys := _ :: _ :: T1) Mx
   ·repeat ((with_reducible refine Wp.go0 (by assumption) ?_))
    exact Wp.ret rfl
end Go.Proofs.Ytjopejiooipmkaa
