/- Plain functions in place of the program's, and that their calls come to what they say. -/
import Derived.Test.YtmibgiblejpgdaaFrame
import Derived.Test.YtmibgiblejpgdaaAbs50
namespace Go.Proofs.Ytmibgiblejpgdaa
open Go.RowKit Abs

noncomputable def message_within (_ : CallF) (_ : Nat) (t0 : Int) (t1 : Int) (h : AHeap) : R :=
  lett (decide (t0 ≥ 0)) fun (t6 : Bool) =>
  lett (fun (t11 : Bool) (h_4 : AHeap) =>
    some (.ret (.bool t11), h_4)) fun j11 =>
  ifB t6
  (
    lett (decide (t0 ≤ t1)) fun (t10 : Bool) =>
    j11 t10 h)
  (
    j11 false h)
set_option maxHeartbeats 4000000 in
set_option maxRecDepth 20000 in
theorem message_within_ok {call : CallF} (_ : SaysAll Try.prog call) {n : Nat} {t0 : Int} {t1 : Int} {h : AHeap} {rR : ARes} {hR : AHeap} (hF : message_within call n t0 t1 h = some (rR, hR)) : Says Try.prog 32 [.int .i64 t0, .int .i64 t1] h rR hR := by
  unfold message_within at hF
  refine says_of (fn := Try.f32) Try.func32 (c := codeOf Try.f32) (by kernel_rfl) (by kernel_rfl) (fun w0 m0 => ?_)
  refine W.weaken (l' := [(0, .int .i64 t0), (1, .int .i64 t1)]) (Fr.c (Fr.c Fr.n)) ?_
  refine W.s (fun K1 n1 e1 q1 p1 => ?_)
  refine W.r ?_
  refine WL.a (some 4) (.bool false) h ?_
  refine WL.n ?_
  refine Go.weaken (l' := [(0, .int .i64 t0), (1, .int .i64 t1)]) (Fr.c (Fr.c Fr.n)) ?_
  refine n1 ?_
  refine W.s (fun K2 n2 e2 q2 p2 => ?_)
  refine W.r ?_
  refine WL.a (some 5) (.int .i64 t0) h ?_
  replace hF := lett_some hF; obtain ⟨t6, e3, hF⟩ := hF
  refine WL.val (d := (some 6)) (v := .bool t6) (h' := h) (by kernel_rfl) (by kernel_rfl) (val_of AV.bool e3 (by kernel_rfl)) ?_
  refine WL.a (some 7) (.bool t6) h ?_
  replace hF := lett_some hF; obtain ⟨j11, e5, hF⟩ := hF
  have J6 : ∀ (t11 : Bool) (h_4 : AHeap), j11 t11 h_4 = some (rR, hR) → WL Try.prog w0 m0 (Func.ntmps Try.f32) (Code.ops (Code.p1 (Code.p2 (codeOf Try.f32)))) 7 K2 [(11, .bool t11)] [] h_4 := by
    intro t11 h_4 hF
    rw [e5] at hF
    refine WL.a (some 4) (.bool t11) h_4 ?_
    refine WL.n ?_
    refine Go.weaken (l' := [(4, .bool t11)]) (Fr.c Fr.n) ?_
    refine n2 ?_
    refine W.ret (by kernel_rfl) ?_
    obtain ⟨hF, hF2⟩ := ret_inj hF; subst hF; subst hF2
    exact leave_of (rs := [.tmp 4]) (vs := [.bool t11]) (by kernel_rfl) (res_tmp (by kernel_rfl) res_nil) (by kernel_rfl)
  cases t6 with
  | true =>
    replace hF := ifB_t hF
    refine WL.a (some 8) (.int .i64 t0) h ?_
    refine WL.a (some 9) (.int .i64 t1) h ?_
    replace hF := lett_some hF; obtain ⟨t10, e7, hF⟩ := hF
    refine WL.val (d := (some 10)) (v := .bool t10) (h' := h) (by kernel_rfl) (by kernel_rfl) (val_of AV.bool e7 (by kernel_rfl)) ?_
    refine WL.a (some 11) (.bool t10) h ?_
    exact WL.weaken (Fr.c Fr.n) (J6 _ _ hF)
  | false =>
    replace hF := ifB_f hF
    refine WL.o (some 8) ?_
    refine WL.o (some 9) ?_
    refine WL.o (some 10) ?_
    refine WL.a (some 11) (.bool false) h ?_
    exact WL.weaken (Fr.c Fr.n) (J6 _ _ hF)
noncomputable def message_within_fn (call : CallF) (n : Nat) : FnT := fun args h => match args with
  | [x0, x1] => obind (avInt .i64 x0) fun t0 => obind (avInt .i64 x1) fun t1 => message_within call n t0 t1 h
  | _ => none
set_option maxRecDepth 100000 in
theorem message_within_fn_eq (call : CallF) (n : Nat) (t0 : Int) (t1 : Int) (h : AHeap) : message_within_fn call n [.int .i64 t0, .int .i64 t1] h = message_within call n t0 t1 h :=
  (Eq.trans (obind_eq (fun t0 => obind (avInt .i64 (.int .i64 t1)) fun t1 => message_within call n t0 t1 h) (avInt_int .i64 t0)) (Eq.trans (obind_eq (fun t1 => message_within call n t0 t1 h) (avInt_int .i64 t1)) rfl))
theorem message_within_holds {call : CallF} (hc : SaysAll Try.prog call) (n : Nat) : Holds Try.prog 32 (message_within_fn call n) := by
  intro args h r h2 e
  unfold message_within_fn at e
  split at e
  · replace e := obind_some e; obtain ⟨t0, c0, e⟩ := e; have c0 := avInt_some c0; subst c0
    replace e := obind_some e; obtain ⟨t1, c1, e⟩ := e; have c1 := avInt_some c1; subst c1
    exact message_within_ok hc e
  · cases e

end Go.Proofs.Ytmibgiblejpgdaa
