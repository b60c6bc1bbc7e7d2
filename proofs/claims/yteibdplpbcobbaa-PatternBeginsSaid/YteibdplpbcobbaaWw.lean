/- The functions, put together: any number of levels. -/
import Derived.Test.YteibdplpbcobbaaWk9
import Derived.Test.YteibdplpbcobbaaIb
import Derived.Test.YteibdplpbcobbaaGq
import Derived.Test.YteibdplpbcobbaaGr
import Derived.Test.YteibdplpbcobbaaGl
namespace Go.Proofs.Yteibdplpbcobbaa
open Go.RowKit Abs

noncomputable def worldF (n : Nat) (call : CallF) : CallF := callOf [
  (13, (constF (.ret (.bool true)))),
  (87, ibF),
  (32, signF),
  (35, pattern_guard_fn call n),
  (16, gcF (pattern_Unquote_fn call n)),
  (19, gcF (pattern_Quoted_fn call n)),
  (36, pattern_Quoted_1_fn call n),
  (37, pattern_reader_quoted_fn call n),
  (54, pattern_reader_take_fn call n),
  (55, pattern_reader_skips_fn call n),
  (68, pattern_reader_sees_fn call n),
  (74, pattern_reader_ended_fn call n),
  (58, pattern_reader_form_fn call n),
  (71, pattern_reader_next_fn call n),
  (72, pattern_reader_refuseLast_fn call n),
  (57, gcF (pattern_refuse_fn call n)),
  (73, pattern_reader_twoDigits_fn call n),
  (81, pattern_reader_digit_fn call n),
  (82, gcF (pattern_mayBegin_fn call n)),
  (83, gcF (pattern_byDigits_fn call n)),
  (50, gcF (pattern_short_fn call n)),
  (51, gcF (pattern_plain_fn call n)),
  (29, strings_Builder_WriteByte_fn call n),
  (56, strings_Builder_Len_fn call n),
  (31, strings_Builder_String_fn call n),
  (49, strings_Builder_copyCheck_fn call n),
  (38, gcF (ref09_byteAt_fn call n)),
  (33, gcF (ref09_Scan_fn call n)),
  (20, gcF (ref09_Quoted_fn call n)),
  (18, gcF (ref09_Unquote_fn call n)),
  (34, gcF (ref09_bad_fn call n)),
  (4, gcF (law09_PatternUnquotes_fn call n)),
  (5, gcF (law09_PatternBegins_fn call n)),
  (14, gcF (law09_long_fn call n))]
set_option maxRecDepth 20000 in
theorem worldF_ok (n : Nat) (call : CallF) (hc : SaysAll Try.prog call) : SaysAll Try.prog (worldF n call) := (callOf_cons works_holds
  (callOf_cons ibF_holds
  (callOf_cons signF_holds
  (callOf_cons (pattern_guard_holds hc n)
  (callOf_cons (gcF_holds (pattern_Unquote_holds hc n))
  (callOf_cons (gcF_holds (pattern_Quoted_holds hc n))
  (callOf_cons (pattern_Quoted_1_holds hc n)
  (callOf_cons (pattern_reader_quoted_holds hc n)
  (callOf_cons (pattern_reader_take_holds hc n)
  (callOf_cons (pattern_reader_skips_holds hc n)
  (callOf_cons (pattern_reader_sees_holds hc n)
  (callOf_cons (pattern_reader_ended_holds hc n)
  (callOf_cons (pattern_reader_form_holds hc n)
  (callOf_cons (pattern_reader_next_holds hc n)
  (callOf_cons (pattern_reader_refuseLast_holds hc n)
  (callOf_cons (gcF_holds (pattern_refuse_holds hc n))
  (callOf_cons (pattern_reader_twoDigits_holds hc n)
  (callOf_cons (pattern_reader_digit_holds hc n)
  (callOf_cons (gcF_holds (pattern_mayBegin_holds hc n))
  (callOf_cons (gcF_holds (pattern_byDigits_holds hc n))
  (callOf_cons (gcF_holds (pattern_short_holds hc n))
  (callOf_cons (gcF_holds (pattern_plain_holds hc n))
  (callOf_cons (strings_Builder_WriteByte_holds hc n)
  (callOf_cons (strings_Builder_Len_holds hc n)
  (callOf_cons (strings_Builder_String_holds hc n)
  (callOf_cons (strings_Builder_copyCheck_holds hc n)
  (callOf_cons (gcF_holds (ref09_byteAt_holds hc n))
  (callOf_cons (gcF_holds (ref09_Scan_holds hc n))
  (callOf_cons (gcF_holds (ref09_Quoted_holds hc n))
  (callOf_cons (gcF_holds (ref09_Unquote_holds hc n))
  (callOf_cons (gcF_holds (ref09_bad_holds hc n))
  (callOf_cons (gcF_holds (law09_PatternUnquotes_holds hc n))
  (callOf_cons (gcF_holds (law09_PatternBegins_holds hc n))
  (callOf_cons (gcF_holds (law09_long_holds hc n))
  callOf_nil))))))))))))))))))))))))))))))))))
noncomputable def world (n d : Nat) : CallF := iterW (worldF n) d
theorem world_ok (n d : Nat) : SaysAll Try.prog (world n d) := iterW_ok (worldF_ok n) d
theorem w_true (n d : Nat) (args : List AV) (h : AHeap) : world n (d + 1) 13 args h = (constF (.ret (.bool true))) args h := by kernel_rfl
theorem w_ibF (n d : Nat) (args : List AV) (h : AHeap) : world n (d + 1) 87 args h = ibF args h := by kernel_rfl
theorem w_signF (n d : Nat) (args : List AV) (h : AHeap) : world n (d + 1) 32 args h = signF args h := by kernel_rfl
theorem w_pattern_guard (n d : Nat) (t0 : AV) (h : AHeap) : world n (d + 1) 35 [t0] h = pattern_guard (world n d) n t0 h :=
  Eq.trans (b := pattern_guard_fn (world n d) n [t0] h) (by kernel_rfl) (by rw [pattern_guard_fn_eq])
theorem w_pattern_Unquote (n d : Nat) (t0 : Bytes) (h : AHeap) : world n (d + 1) 16 [strA t0] h = gcR h (pattern_Unquote (world n d) n t0 h) :=
  Eq.trans (b := gcR h (pattern_Unquote_fn (world n d) n [strA t0] h)) (by kernel_rfl) (by rw [pattern_Unquote_fn_eq])
theorem w_pattern_Quoted (n d : Nat) (t0 : Bytes) (t1 : Int) (h : AHeap) : world n (d + 1) 19 [strA t0, .int .i64 t1] h = gcR h (pattern_Quoted (world n d) n t0 t1 h) :=
  Eq.trans (b := gcR h (pattern_Quoted_fn (world n d) n [strA t0, .int .i64 t1] h)) (by kernel_rfl) (by rw [pattern_Quoted_fn_eq])
theorem w_pattern_Quoted_1 (n d : Nat) (t0 : AV) (t1 : AV) (t2 : AV) (h : AHeap) : world n (d + 1) 36 [t0, t1, t2] h = pattern_Quoted_1 (world n d) n t0 t1 t2 h :=
  Eq.trans (b := pattern_Quoted_1_fn (world n d) n [t0, t1, t2] h) (by kernel_rfl) (by rw [pattern_Quoted_1_fn_eq])
theorem w_pattern_reader_quoted (n d : Nat) (t0 : AV) (t1 : Int) (h : AHeap) : world n (d + 1) 37 [t0, .int .i64 t1] h = pattern_reader_quoted (world n d) n t0 t1 h :=
  Eq.trans (b := pattern_reader_quoted_fn (world n d) n [t0, .int .i64 t1] h) (by kernel_rfl) (by rw [pattern_reader_quoted_fn_eq])
theorem w_pattern_reader_take (n d : Nat) (t0 : AV) (t1 : Int) (h : AHeap) : world n (d + 1) 54 [t0, .int .u8 t1] h = pattern_reader_take (world n d) n t0 t1 h :=
  Eq.trans (b := pattern_reader_take_fn (world n d) n [t0, .int .u8 t1] h) (by kernel_rfl) (by rw [pattern_reader_take_fn_eq])
theorem w_pattern_reader_skips (n d : Nat) (t0 : AV) (t1 : Int) (h : AHeap) : world n (d + 1) 55 [t0, .int .u8 t1] h = pattern_reader_skips (world n d) n t0 t1 h :=
  Eq.trans (b := pattern_reader_skips_fn (world n d) n [t0, .int .u8 t1] h) (by kernel_rfl) (by rw [pattern_reader_skips_fn_eq])
theorem w_pattern_reader_sees (n d : Nat) (t0 : AV) (t1 : Int) (h : AHeap) : world n (d + 1) 68 [t0, .int .u8 t1] h = pattern_reader_sees (world n d) n t0 t1 h :=
  Eq.trans (b := pattern_reader_sees_fn (world n d) n [t0, .int .u8 t1] h) (by kernel_rfl) (by rw [pattern_reader_sees_fn_eq])
theorem w_pattern_reader_ended (n d : Nat) (t0 : AV) (h : AHeap) : world n (d + 1) 74 [t0] h = pattern_reader_ended (world n d) n t0 h :=
  Eq.trans (b := pattern_reader_ended_fn (world n d) n [t0] h) (by kernel_rfl) (by rw [pattern_reader_ended_fn_eq])
theorem w_pattern_reader_form (n d : Nat) (t0 : AV) (h : AHeap) : world n (d + 1) 58 [t0] h = pattern_reader_form (world n d) n t0 h :=
  Eq.trans (b := pattern_reader_form_fn (world n d) n [t0] h) (by kernel_rfl) (by rw [pattern_reader_form_fn_eq])
theorem w_pattern_reader_next (n d : Nat) (t0 : AV) (h : AHeap) : world n (d + 1) 71 [t0] h = pattern_reader_next (world n d) n t0 h :=
  Eq.trans (b := pattern_reader_next_fn (world n d) n [t0] h) (by kernel_rfl) (by rw [pattern_reader_next_fn_eq])
theorem w_pattern_reader_refuseLast (n d : Nat) (t0 : AV) (h : AHeap) : world n (d + 1) 72 [t0] h = pattern_reader_refuseLast (world n d) n t0 h :=
  Eq.trans (b := pattern_reader_refuseLast_fn (world n d) n [t0] h) (by kernel_rfl) (by rw [pattern_reader_refuseLast_fn_eq])
theorem w_pattern_refuse (n d : Nat) (t0 : Int) (t1 : Int) (h : AHeap) : world n (d + 1) 57 [.int .i64 t0, .int .i64 t1] h = gcR h (pattern_refuse (world n d) n t0 t1 h) :=
  Eq.trans (b := gcR h (pattern_refuse_fn (world n d) n [.int .i64 t0, .int .i64 t1] h)) (by kernel_rfl) (by rw [pattern_refuse_fn_eq])
theorem w_pattern_reader_twoDigits (n d : Nat) (t0 : AV) (h : AHeap) : world n (d + 1) 73 [t0] h = pattern_reader_twoDigits (world n d) n t0 h :=
  Eq.trans (b := pattern_reader_twoDigits_fn (world n d) n [t0] h) (by kernel_rfl) (by rw [pattern_reader_twoDigits_fn_eq])
theorem w_pattern_reader_digit (n d : Nat) (t0 : AV) (h : AHeap) : world n (d + 1) 81 [t0] h = pattern_reader_digit (world n d) n t0 h :=
  Eq.trans (b := pattern_reader_digit_fn (world n d) n [t0] h) (by kernel_rfl) (by rw [pattern_reader_digit_fn_eq])
theorem w_pattern_mayBegin (n d : Nat) (t0 : Int) (h : AHeap) : world n (d + 1) 82 [.int .u8 t0] h = gcR h (pattern_mayBegin (world n d) n t0 h) :=
  Eq.trans (b := gcR h (pattern_mayBegin_fn (world n d) n [.int .u8 t0] h)) (by kernel_rfl) (by rw [pattern_mayBegin_fn_eq])
theorem w_pattern_byDigits (n d : Nat) (t0 : Int) (h : AHeap) : world n (d + 1) 83 [.int .u8 t0] h = gcR h (pattern_byDigits (world n d) n t0 h) :=
  Eq.trans (b := gcR h (pattern_byDigits_fn (world n d) n [.int .u8 t0] h)) (by kernel_rfl) (by rw [pattern_byDigits_fn_eq])
theorem w_pattern_short (n d : Nat) (t0 : Int) (h : AHeap) : world n (d + 1) 50 [.int .u8 t0] h = gcR h (pattern_short (world n d) n t0 h) :=
  Eq.trans (b := gcR h (pattern_short_fn (world n d) n [.int .u8 t0] h)) (by kernel_rfl) (by rw [pattern_short_fn_eq])
theorem w_pattern_plain (n d : Nat) (t0 : Int) (h : AHeap) : world n (d + 1) 51 [.int .u8 t0] h = gcR h (pattern_plain (world n d) n t0 h) :=
  Eq.trans (b := gcR h (pattern_plain_fn (world n d) n [.int .u8 t0] h)) (by kernel_rfl) (by rw [pattern_plain_fn_eq])
theorem w_strings_Builder_WriteByte (n d : Nat) (t0 : AV) (t1 : Int) (h : AHeap) : world n (d + 1) 29 [t0, .int .u8 t1] h = strings_Builder_WriteByte (world n d) n t0 t1 h :=
  Eq.trans (b := strings_Builder_WriteByte_fn (world n d) n [t0, .int .u8 t1] h) (by kernel_rfl) (by rw [strings_Builder_WriteByte_fn_eq])
theorem w_strings_Builder_Len (n d : Nat) (t0 : AV) (h : AHeap) : world n (d + 1) 56 [t0] h = strings_Builder_Len (world n d) n t0 h :=
  Eq.trans (b := strings_Builder_Len_fn (world n d) n [t0] h) (by kernel_rfl) (by rw [strings_Builder_Len_fn_eq])
theorem w_strings_Builder_String (n d : Nat) (t0 : AV) (h : AHeap) : world n (d + 1) 31 [t0] h = strings_Builder_String (world n d) n t0 h :=
  Eq.trans (b := strings_Builder_String_fn (world n d) n [t0] h) (by kernel_rfl) (by rw [strings_Builder_String_fn_eq])
theorem w_strings_Builder_copyCheck (n d : Nat) (t0 : AV) (h : AHeap) : world n (d + 1) 49 [t0] h = strings_Builder_copyCheck (world n d) n t0 h :=
  Eq.trans (b := strings_Builder_copyCheck_fn (world n d) n [t0] h) (by kernel_rfl) (by rw [strings_Builder_copyCheck_fn_eq])
theorem w_ref09_byteAt (n d : Nat) (t0 : Bytes) (t1 : Int) (h : AHeap) : world n (d + 1) 38 [strA t0, .int .i64 t1] h = gcR h (ref09_byteAt (world n d) n t0 t1 h) :=
  Eq.trans (b := gcR h (ref09_byteAt_fn (world n d) n [strA t0, .int .i64 t1] h)) (by kernel_rfl) (by rw [ref09_byteAt_fn_eq])
theorem w_ref09_Scan (n d : Nat) (t0 : Bytes) (t1 : Int) (h : AHeap) : world n (d + 1) 33 [strA t0, .int .i64 t1] h = gcR h (ref09_Scan (world n d) n t0 t1 h) :=
  Eq.trans (b := gcR h (ref09_Scan_fn (world n d) n [strA t0, .int .i64 t1] h)) (by kernel_rfl) (by rw [ref09_Scan_fn_eq])
theorem w_ref09_Quoted (n d : Nat) (t0 : Bytes) (t1 : Int) (h : AHeap) : world n (d + 1) 20 [strA t0, .int .i64 t1] h = gcR h (ref09_Quoted (world n d) n t0 t1 h) :=
  Eq.trans (b := gcR h (ref09_Quoted_fn (world n d) n [strA t0, .int .i64 t1] h)) (by kernel_rfl) (by rw [ref09_Quoted_fn_eq])
theorem w_ref09_Unquote (n d : Nat) (t0 : Bytes) (h : AHeap) : world n (d + 1) 18 [strA t0] h = gcR h (ref09_Unquote (world n d) n t0 h) :=
  Eq.trans (b := gcR h (ref09_Unquote_fn (world n d) n [strA t0] h)) (by kernel_rfl) (by rw [ref09_Unquote_fn_eq])
theorem w_ref09_bad (n d : Nat) (t0 : Int) (h : AHeap) : world n (d + 1) 34 [.int .i64 t0] h = gcR h (ref09_bad (world n d) n t0 h) :=
  Eq.trans (b := gcR h (ref09_bad_fn (world n d) n [.int .i64 t0] h)) (by kernel_rfl) (by rw [ref09_bad_fn_eq])
theorem w_law09_PatternUnquotes (n d : Nat) (t0 : Bytes) (h : AHeap) : world n (d + 1) 4 [strA t0] h = gcR h (law09_PatternUnquotes (world n d) n t0 h) :=
  Eq.trans (b := gcR h (law09_PatternUnquotes_fn (world n d) n [strA t0] h)) (by kernel_rfl) (by rw [law09_PatternUnquotes_fn_eq])
theorem w_law09_PatternBegins (n d : Nat) (t0 : Bytes) (t1 : Int) (h : AHeap) : world n (d + 1) 5 [strA t0, .int .i64 t1] h = gcR h (law09_PatternBegins (world n d) n t0 t1 h) :=
  Eq.trans (b := gcR h (law09_PatternBegins_fn (world n d) n [strA t0, .int .i64 t1] h)) (by kernel_rfl) (by rw [law09_PatternBegins_fn_eq])
theorem w_law09_long (n d : Nat) (t0 : Int) (h : AHeap) : world n (d + 1) 14 [.int .i64 t0] h = gcR h (law09_long (world n d) n t0 h) :=
  Eq.trans (b := gcR h (law09_long_fn (world n d) n [.int .i64 t0] h)) (by kernel_rfl) (by rw [law09_long_fn_eq])
end Go.Proofs.Yteibdplpbcobbaa
