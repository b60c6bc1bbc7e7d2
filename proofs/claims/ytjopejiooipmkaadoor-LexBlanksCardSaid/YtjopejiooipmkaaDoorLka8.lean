/- What lexBlanks_proved stands on, part 8 of 10. -/
import Derived.Test.YtjopejiooipmkaaDoorLka7
namespace Go.Proofs.YtjopejiooipmkaaDoor
open Go.RowKit Abs
noncomputable def worldF (n : Nat) (call : CallF) : CallF := callOf [
 (6, (constF (.ret (.bool true)))),
 (71, ibF),
 (52, pattern_guard_fn call n),
 (46, gcF (pattern_Quoted_fn call n)),
 (53, pattern_Quoted_1_fn call n),
 (54, pattern_reader_quoted_fn call n),
 (58, pattern_reader_take_fn call n),
 (59, pattern_reader_skips_fn call n),
 (63, pattern_reader_sees_fn call n),
 (67, pattern_reader_ended_fn call n),
 (62, pattern_reader_form_fn call n),
 (64, pattern_reader_next_fn call n),
 (65, pattern_reader_refuseLast_fn call n),
 (61, gcF (pattern_refuse_fn call n)),
 (66, pattern_reader_twoDigits_fn call n),
 (68, pattern_reader_digit_fn call n),
 (69, gcF (pattern_mayBegin_fn call n)),
 (70, gcF (pattern_byDigits_fn call n)),
 (35, gcF (pattern_short_fn call n)),
 (36, gcF (pattern_plain_fn call n)),
 (23, strings_Builder_WriteByte_fn call n),
 (60, strings_Builder_Len_fn call n),
 (25, strings_Builder_String_fn call n),
 (34, strings_Builder_copyCheck_fn call n),
 (8, gcF (lex_Lex_fn call n)),
 (13, lex_lexer_line_fn call n),
 (19, lex_lexer_skipBlanks_fn call n),
 (31, gcF (lex_lexer_skipBlanks_1_fn call n)),
 (29, lex_lexer_skip_fn call n),
 (20, lex_lexer_lineEnds_fn call n),
 (21, lex_lexer_token_fn call n),
 (32, gcF (lex_read_fn call n)),
 (38, gcF (lex_readWord_fn call n)),
 (18, gcF (lex_wordEnd_fn call n)),
 (27, gcF (lex_wordEnd_1_fn call n)),
 (40, gcF (lex_readText_fn call n)),
 (39, gcF (lex_readNumber_fn call n)),
 (26, lex_run_fn call n),
 (16, gcF (lex_small_fn call n)),
 (28, gcF (lex_digit_fn call n)),
 (30, gcF (lex_blank_fn call n)),
 (14, gcF (strconv_Itoa_fn call n)),
 (22, gcF (internal_strconv_Itoa_fn call n)),
 (33, gcF (internal_strconv_FormatInt_fn call n)),
 (41, gcF (internal_strconv_small_fn call n)),
 (42, gcF (internal_strconv_numDigits_fn call n)),
 (43, internal_strconv_formatBase10_fn call n),
 (47, gcF (internal_strconv_log10Pow2_fn call n)),
 (48, gcF (math_bits_Len64_fn call n)),
 (49, gcF (internal_strconv_bool2_int__fn call n)),
 (15, gcF (pattern_Quote_fn call n)),
 (24, pattern_writeForm_fn call n),
 (37, strings_Builder_WriteString_fn call n),
 (11, gcF (law12_word_fn call n)),
 (7, gcF (law12_great_fn call n))]
set_option maxRecDepth 20000 in
theorem worldF_ok (n : Nat) (call : CallF) (hc : SaysAll Tryd.prog call) : SaysAll Tryd.prog (worldF n call) := (callOf_cons works_holds
 (callOf_cons ibF_holds
 (callOf_cons (pattern_guard_holds hc n)
 (callOf_cons (gcF_holds (pattern_Quoted_holds hc n))
 (callOf_cons (pattern_Quoted_1_holds hc n)
 (callOf_cons (pattern_reader_quoted_holds hc n)
 (callOf_cons (pattern_reader_take_holds hc n)
 (callOf_cons (pattern_reader_skips_holds hc n)
 (callOf_cons (pattern_reader_sees_holds hc n)
 (callOf_cons (pattern_reader_ended_holds hc n)
 (callOf_cons (pattern_reader_form_holds hc n)
 (callOf_cons (pattern_reader_next_holds hc n)
 (callOf_cons (pattern_reader_refuseLast_holds hc n)
 (callOf_cons (gcF_holds (pattern_refuse_holds hc n))
 (callOf_cons (pattern_reader_twoDigits_holds hc n)
 (callOf_cons (pattern_reader_digit_holds hc n)
 (callOf_cons (gcF_holds (pattern_mayBegin_holds hc n))
 (callOf_cons (gcF_holds (pattern_byDigits_holds hc n))
 (callOf_cons (gcF_holds (pattern_short_holds hc n))
 (callOf_cons (gcF_holds (pattern_plain_holds hc n))
 (callOf_cons (strings_Builder_WriteByte_holds hc n)
 (callOf_cons (strings_Builder_Len_holds hc n)
 (callOf_cons (strings_Builder_String_holds hc n)
 (callOf_cons (strings_Builder_copyCheck_holds hc n)
 (callOf_cons (gcF_holds (lex_Lex_holds hc n))
 (callOf_cons (lex_lexer_line_holds hc n)
 (callOf_cons (lex_lexer_skipBlanks_holds hc n)
 (callOf_cons (gcF_holds (lex_lexer_skipBlanks_1_holds hc n))
 (callOf_cons (lex_lexer_skip_holds hc n)
 (callOf_cons (lex_lexer_lineEnds_holds hc n)
 (callOf_cons (lex_lexer_token_holds hc n)
 (callOf_cons (gcF_holds (lex_read_holds hc n))
 (callOf_cons (gcF_holds (lex_readWord_holds hc n))
 (callOf_cons (gcF_holds (lex_wordEnd_holds hc n))
 (callOf_cons (gcF_holds (lex_wordEnd_1_holds hc n))
 (callOf_cons (gcF_holds (lex_readText_holds hc n))
 (callOf_cons (gcF_holds (lex_readNumber_holds hc n))
 (callOf_cons (lex_run_holds hc n)
 (callOf_cons (gcF_holds (lex_small_holds hc n))
 (callOf_cons (gcF_holds (lex_digit_holds hc n))
 (callOf_cons (gcF_holds (lex_blank_holds hc n))
 (callOf_cons (gcF_holds (strconv_Itoa_holds hc n))
 (callOf_cons (gcF_holds (internal_strconv_Itoa_holds hc n))
 (callOf_cons (gcF_holds (internal_strconv_FormatInt_holds hc n))
 (callOf_cons (gcF_holds (internal_strconv_small_holds hc n))
 (callOf_cons (gcF_holds (internal_strconv_numDigits_holds hc n))
 (callOf_cons (internal_strconv_formatBase10_holds hc n)
 (callOf_cons (gcF_holds (internal_strconv_log10Pow2_holds hc n))
 (callOf_cons (gcF_holds (math_bits_Len64_holds hc n))
 (callOf_cons (gcF_holds (internal_strconv_bool2_int__holds hc n))
 (callOf_cons (gcF_holds (pattern_Quote_holds hc n))
 (callOf_cons (pattern_writeForm_holds hc n)
 (callOf_cons (strings_Builder_WriteString_holds hc n)
 (callOf_cons (gcF_holds (law12_word_holds hc n))
 (callOf_cons (gcF_holds (law12_great_holds hc n))
 callOf_nil)))))))))))))))))))))))))))))))))))))))))))))))))))))))
noncomputable def world (n d : Nat) : CallF := iterW (worldF n) d
theorem world_ok (n d : Nat) : SaysAll Tryd.prog (world n d) := iterW_ok (worldF_ok n) d
theorem w_true (n d : Nat) (args : List AV) (h : AHeap) : world n (d + 1) 6 args h = (constF (.ret (.bool true))) args h := by kernel_rfl
theorem w_ibF (n d : Nat) (args : List AV) (h : AHeap) : world n (d + 1) 71 args h = ibF args h := by kernel_rfl
theorem w_pattern_guard (n d : Nat) (t0 : AV) (h : AHeap) : world n (d + 1) 52 [t0] h = pattern_guard (world n d) n t0 h :=
 Eq.trans (b := pattern_guard_fn (world n d) n [t0] h) (by kernel_rfl) (by rw [pattern_guard_fn_eq])
theorem w_pattern_Quoted (n d : Nat) (t0 : Bytes) (t1 : Int) (h : AHeap) : world n (d + 1) 46 [strA t0, .int .i64 t1] h = gcR h (pattern_Quoted (world n d) n t0 t1 h) :=
 Eq.trans (b := gcR h (pattern_Quoted_fn (world n d) n [strA t0, .int .i64 t1] h)) (by kernel_rfl) (by rw [pattern_Quoted_fn_eq])
theorem w_pattern_Quoted_1 (n d : Nat) (t0 : AV) (t1 : AV) (t2 : AV) (h : AHeap) : world n (d + 1) 53 [t0, t1, t2] h = pattern_Quoted_1 (world n d) n t0 t1 t2 h :=
 Eq.trans (b := pattern_Quoted_1_fn (world n d) n [t0, t1, t2] h) (by kernel_rfl) (by rw [pattern_Quoted_1_fn_eq])
theorem w_pattern_reader_quoted (n d : Nat) (t0 : AV) (t1 : Int) (h : AHeap) : world n (d + 1) 54 [t0, .int .i64 t1] h = pattern_reader_quoted (world n d) n t0 t1 h :=
 Eq.trans (b := pattern_reader_quoted_fn (world n d) n [t0, .int .i64 t1] h) (by kernel_rfl) (by rw [pattern_reader_quoted_fn_eq])
theorem w_pattern_reader_take (n d : Nat) (t0 : AV) (t1 : Int) (h : AHeap) : world n (d + 1) 58 [t0, .int .u8 t1] h = pattern_reader_take (world n d) n t0 t1 h :=
 Eq.trans (b := pattern_reader_take_fn (world n d) n [t0, .int .u8 t1] h) (by kernel_rfl) (by rw [pattern_reader_take_fn_eq])
theorem w_pattern_reader_skips (n d : Nat) (t0 : AV) (t1 : Int) (h : AHeap) : world n (d + 1) 59 [t0, .int .u8 t1] h = pattern_reader_skips (world n d) n t0 t1 h :=
 Eq.trans (b := pattern_reader_skips_fn (world n d) n [t0, .int .u8 t1] h) (by kernel_rfl) (by rw [pattern_reader_skips_fn_eq])
theorem w_pattern_reader_sees (n d : Nat) (t0 : AV) (t1 : Int) (h : AHeap) : world n (d + 1) 63 [t0, .int .u8 t1] h = pattern_reader_sees (world n d) n t0 t1 h :=
 Eq.trans (b := pattern_reader_sees_fn (world n d) n [t0, .int .u8 t1] h) (by kernel_rfl) (by rw [pattern_reader_sees_fn_eq])
theorem w_pattern_reader_ended (n d : Nat) (t0 : AV) (h : AHeap) : world n (d + 1) 67 [t0] h = pattern_reader_ended (world n d) n t0 h :=
 Eq.trans (b := pattern_reader_ended_fn (world n d) n [t0] h) (by kernel_rfl) (by rw [pattern_reader_ended_fn_eq])
theorem w_pattern_reader_form (n d : Nat) (t0 : AV) (h : AHeap) : world n (d + 1) 62 [t0] h = pattern_reader_form (world n d) n t0 h :=
 Eq.trans (b := pattern_reader_form_fn (world n d) n [t0] h) (by kernel_rfl) (by rw [pattern_reader_form_fn_eq])
theorem w_pattern_reader_next (n d : Nat) (t0 : AV) (h : AHeap) : world n (d + 1) 64 [t0] h = pattern_reader_next (world n d) n t0 h :=
 Eq.trans (b := pattern_reader_next_fn (world n d) n [t0] h) (by kernel_rfl) (by rw [pattern_reader_next_fn_eq])
theorem w_pattern_reader_refuseLast (n d : Nat) (t0 : AV) (h : AHeap) : world n (d + 1) 65 [t0] h = pattern_reader_refuseLast (world n d) n t0 h :=
 Eq.trans (b := pattern_reader_refuseLast_fn (world n d) n [t0] h) (by kernel_rfl) (by rw [pattern_reader_refuseLast_fn_eq])
theorem w_pattern_refuse (n d : Nat) (t0 : Int) (t1 : Int) (h : AHeap) : world n (d + 1) 61 [.int .i64 t0, .int .i64 t1] h = gcR h (pattern_refuse (world n d) n t0 t1 h) :=
 Eq.trans (b := gcR h (pattern_refuse_fn (world n d) n [.int .i64 t0, .int .i64 t1] h)) (by kernel_rfl) (by rw [pattern_refuse_fn_eq])
theorem w_pattern_reader_twoDigits (n d : Nat) (t0 : AV) (h : AHeap) : world n (d + 1) 66 [t0] h = pattern_reader_twoDigits (world n d) n t0 h :=
 Eq.trans (b := pattern_reader_twoDigits_fn (world n d) n [t0] h) (by kernel_rfl) (by rw [pattern_reader_twoDigits_fn_eq])
theorem w_pattern_reader_digit (n d : Nat) (t0 : AV) (h : AHeap) : world n (d + 1) 68 [t0] h = pattern_reader_digit (world n d) n t0 h :=
 Eq.trans (b := pattern_reader_digit_fn (world n d) n [t0] h) (by kernel_rfl) (by rw [pattern_reader_digit_fn_eq])
theorem w_pattern_mayBegin (n d : Nat) (t0 : Int) (h : AHeap) : world n (d + 1) 69 [.int .u8 t0] h = gcR h (pattern_mayBegin (world n d) n t0 h) :=
 Eq.trans (b := gcR h (pattern_mayBegin_fn (world n d) n [.int .u8 t0] h)) (by kernel_rfl) (by rw [pattern_mayBegin_fn_eq])
theorem w_pattern_byDigits (n d : Nat) (t0 : Int) (h : AHeap) : world n (d + 1) 70 [.int .u8 t0] h = gcR h (pattern_byDigits (world n d) n t0 h) :=
 Eq.trans (b := gcR h (pattern_byDigits_fn (world n d) n [.int .u8 t0] h)) (by kernel_rfl) (by rw [pattern_byDigits_fn_eq])
theorem w_pattern_short (n d : Nat) (t0 : Int) (h : AHeap) : world n (d + 1) 35 [.int .u8 t0] h = gcR h (pattern_short (world n d) n t0 h) :=
 Eq.trans (b := gcR h (pattern_short_fn (world n d) n [.int .u8 t0] h)) (by kernel_rfl) (by rw [pattern_short_fn_eq])
theorem w_pattern_plain (n d : Nat) (t0 : Int) (h : AHeap) : world n (d + 1) 36 [.int .u8 t0] h = gcR h (pattern_plain (world n d) n t0 h) :=
 Eq.trans (b := gcR h (pattern_plain_fn (world n d) n [.int .u8 t0] h)) (by kernel_rfl) (by rw [pattern_plain_fn_eq])
theorem w_strings_Builder_WriteByte (n d : Nat) (t0 : AV) (t1 : Int) (h : AHeap) : world n (d + 1) 23 [t0, .int .u8 t1] h = strings_Builder_WriteByte (world n d) n t0 t1 h :=
 Eq.trans (b := strings_Builder_WriteByte_fn (world n d) n [t0, .int .u8 t1] h) (by kernel_rfl) (by rw [strings_Builder_WriteByte_fn_eq])
theorem w_strings_Builder_Len (n d : Nat) (t0 : AV) (h : AHeap) : world n (d + 1) 60 [t0] h = strings_Builder_Len (world n d) n t0 h :=
 Eq.trans (b := strings_Builder_Len_fn (world n d) n [t0] h) (by kernel_rfl) (by rw [strings_Builder_Len_fn_eq])
theorem w_strings_Builder_String (n d : Nat) (t0 : AV) (h : AHeap) : world n (d + 1) 25 [t0] h = strings_Builder_String (world n d) n t0 h :=
 Eq.trans (b := strings_Builder_String_fn (world n d) n [t0] h) (by kernel_rfl) (by rw [strings_Builder_String_fn_eq])
theorem w_strings_Builder_copyCheck (n d : Nat) (t0 : AV) (h : AHeap) : world n (d + 1) 34 [t0] h = strings_Builder_copyCheck (world n d) n t0 h :=
 Eq.trans (b := strings_Builder_copyCheck_fn (world n d) n [t0] h) (by kernel_rfl) (by rw [strings_Builder_copyCheck_fn_eq])
theorem w_lex_Lex (n d : Nat) (t0 : Bytes) (h : AHeap) : world n (d + 1) 8 [strA t0] h = gcR h (lex_Lex (world n d) n t0 h) :=
 Eq.trans (b := gcR h (lex_Lex_fn (world n d) n [strA t0] h)) (by kernel_rfl) (by rw [lex_Lex_fn_eq])
theorem w_lex_lexer_line (n d : Nat) (t0 : AV) (h : AHeap) : world n (d + 1) 13 [t0] h = lex_lexer_line (world n d) n t0 h :=
 Eq.trans (b := lex_lexer_line_fn (world n d) n [t0] h) (by kernel_rfl) (by rw [lex_lexer_line_fn_eq])
theorem w_lex_lexer_skipBlanks (n d : Nat) (t0 : AV) (h : AHeap) : world n (d + 1) 19 [t0] h = lex_lexer_skipBlanks (world n d) n t0 h :=
 Eq.trans (b := lex_lexer_skipBlanks_fn (world n d) n [t0] h) (by kernel_rfl) (by rw [lex_lexer_skipBlanks_fn_eq])
theorem w_lex_lexer_skipBlanks_1 (n d : Nat) (t0 : Int) (h : AHeap) : world n (d + 1) 31 [.int .u8 t0] h = gcR h (lex_lexer_skipBlanks_1 (world n d) n t0 h) :=
 Eq.trans (b := gcR h (lex_lexer_skipBlanks_1_fn (world n d) n [.int .u8 t0] h)) (by kernel_rfl) (by rw [lex_lexer_skipBlanks_1_fn_eq])
theorem w_lex_lexer_skip (n d : Nat) (t0 : AV) (t1 : AV) (h : AHeap) : world n (d + 1) 29 [t0, t1] h = lex_lexer_skip (world n d) n t0 t1 h :=
 Eq.trans (b := lex_lexer_skip_fn (world n d) n [t0, t1] h) (by kernel_rfl) (by rw [lex_lexer_skip_fn_eq])
theorem w_lex_lexer_lineEnds (n d : Nat) (t0 : AV) (h : AHeap) : world n (d + 1) 20 [t0] h = lex_lexer_lineEnds (world n d) n t0 h :=
 Eq.trans (b := lex_lexer_lineEnds_fn (world n d) n [t0] h) (by kernel_rfl) (by rw [lex_lexer_lineEnds_fn_eq])
theorem w_lex_lexer_token (n d : Nat) (t0 : AV) (h : AHeap) : world n (d + 1) 21 [t0] h = lex_lexer_token (world n d) n t0 h :=
 Eq.trans (b := lex_lexer_token_fn (world n d) n [t0] h) (by kernel_rfl) (by rw [lex_lexer_token_fn_eq])
theorem w_lex_read (n d : Nat) (t0 : Bytes) (t1 : Int) (h : AHeap) : world n (d + 1) 32 [strA t0, .int .i64 t1] h = gcR h (lex_read (world n d) n t0 t1 h) :=
 Eq.trans (b := gcR h (lex_read_fn (world n d) n [strA t0, .int .i64 t1] h)) (by kernel_rfl) (by rw [lex_read_fn_eq])
theorem w_lex_readWord (n d : Nat) (t0 : Bytes) (t1 : Int) (h : AHeap) : world n (d + 1) 38 [strA t0, .int .i64 t1] h = gcR h (lex_readWord (world n d) n t0 t1 h) :=
 Eq.trans (b := gcR h (lex_readWord_fn (world n d) n [strA t0, .int .i64 t1] h)) (by kernel_rfl) (by rw [lex_readWord_fn_eq])
theorem w_lex_wordEnd (n d : Nat) (t0 : Bytes) (t1 : Int) (h : AHeap) : world n (d + 1) 18 [strA t0, .int .i64 t1] h = gcR h (lex_wordEnd (world n d) n t0 t1 h) :=
 Eq.trans (b := gcR h (lex_wordEnd_fn (world n d) n [strA t0, .int .i64 t1] h)) (by kernel_rfl) (by rw [lex_wordEnd_fn_eq])
theorem w_lex_wordEnd_1 (n d : Nat) (t0 : Int) (h : AHeap) : world n (d + 1) 27 [.int .u8 t0] h = gcR h (lex_wordEnd_1 (world n d) n t0 h) :=
 Eq.trans (b := gcR h (lex_wordEnd_1_fn (world n d) n [.int .u8 t0] h)) (by kernel_rfl) (by rw [lex_wordEnd_1_fn_eq])
theorem w_lex_readText (n d : Nat) (t0 : Bytes) (t1 : Int) (h : AHeap) : world n (d + 1) 40 [strA t0, .int .i64 t1] h = gcR h (lex_readText (world n d) n t0 t1 h) :=
 Eq.trans (b := gcR h (lex_readText_fn (world n d) n [strA t0, .int .i64 t1] h)) (by kernel_rfl) (by rw [lex_readText_fn_eq])
theorem w_lex_readNumber (n d : Nat) (t0 : Bytes) (t1 : Int) (h : AHeap) : world n (d + 1) 39 [strA t0, .int .i64 t1] h = gcR h (lex_readNumber (world n d) n t0 t1 h) :=
 Eq.trans (b := gcR h (lex_readNumber_fn (world n d) n [strA t0, .int .i64 t1] h)) (by kernel_rfl) (by rw [lex_readNumber_fn_eq])
theorem w_lex_run (n d : Nat) (t0 : Bytes) (t1 : Int) (t2 : Int) (t3 : AV) (h : AHeap) : world n (d + 1) 26 [strA t0, .int .i64 t1, .int .i64 t2, t3] h = lex_run (world n d) n t0 t1 t2 t3 h :=
 Eq.trans (b := lex_run_fn (world n d) n [strA t0, .int .i64 t1, .int .i64 t2, t3] h) (by kernel_rfl) (by rw [lex_run_fn_eq])
theorem w_lex_small (n d : Nat) (t0 : Int) (h : AHeap) : world n (d + 1) 16 [.int .u8 t0] h = gcR h (lex_small (world n d) n t0 h) :=
 Eq.trans (b := gcR h (lex_small_fn (world n d) n [.int .u8 t0] h)) (by kernel_rfl) (by rw [lex_small_fn_eq])
theorem w_lex_digit (n d : Nat) (t0 : Int) (h : AHeap) : world n (d + 1) 28 [.int .u8 t0] h = gcR h (lex_digit (world n d) n t0 h) :=
 Eq.trans (b := gcR h (lex_digit_fn (world n d) n [.int .u8 t0] h)) (by kernel_rfl) (by rw [lex_digit_fn_eq])
theorem w_lex_blank (n d : Nat) (t0 : Int) (h : AHeap) : world n (d + 1) 30 [.int .u8 t0] h = gcR h (lex_blank (world n d) n t0 h) :=
 Eq.trans (b := gcR h (lex_blank_fn (world n d) n [.int .u8 t0] h)) (by kernel_rfl) (by rw [lex_blank_fn_eq])
theorem w_strconv_Itoa (n d : Nat) (t0 : Int) (h : AHeap) : world n (d + 1) 14 [.int .i64 t0] h = gcR h (strconv_Itoa (world n d) n t0 h) :=
 Eq.trans (b := gcR h (strconv_Itoa_fn (world n d) n [.int .i64 t0] h)) (by kernel_rfl) (by rw [strconv_Itoa_fn_eq])
theorem w_internal_strconv_Itoa (n d : Nat) (t0 : Int) (h : AHeap) : world n (d + 1) 22 [.int .i64 t0] h = gcR h (internal_strconv_Itoa (world n d) n t0 h) :=
 Eq.trans (b := gcR h (internal_strconv_Itoa_fn (world n d) n [.int .i64 t0] h)) (by kernel_rfl) (by rw [internal_strconv_Itoa_fn_eq])
theorem w_internal_strconv_FormatInt (n d : Nat) (t0 : Int) (t1 : Int) (h : AHeap) : world n (d + 1) 33 [.int .i64 t0, .int .i64 t1] h = gcR h (internal_strconv_FormatInt (world n d) n t0 t1 h) :=
 Eq.trans (b := gcR h (internal_strconv_FormatInt_fn (world n d) n [.int .i64 t0, .int .i64 t1] h)) (by kernel_rfl) (by rw [internal_strconv_FormatInt_fn_eq])
theorem w_internal_strconv_small (n d : Nat) (t0 : Int) (h : AHeap) : world n (d + 1) 41 [.int .i64 t0] h = gcR h (internal_strconv_small (world n d) n t0 h) :=
 Eq.trans (b := gcR h (internal_strconv_small_fn (world n d) n [.int .i64 t0] h)) (by kernel_rfl) (by rw [internal_strconv_small_fn_eq])
theorem w_internal_strconv_numDigits (n d : Nat) (t0 : Int) (h : AHeap) : world n (d + 1) 42 [.int .u64 t0] h = gcR h (internal_strconv_numDigits (world n d) n t0 h) :=
 Eq.trans (b := gcR h (internal_strconv_numDigits_fn (world n d) n [.int .u64 t0] h)) (by kernel_rfl) (by rw [internal_strconv_numDigits_fn_eq])
theorem w_internal_strconv_formatBase10 (n d : Nat) (t0 : AV) (t1 : Int) (h : AHeap) : world n (d + 1) 43 [t0, .int .u64 t1] h = internal_strconv_formatBase10 (world n d) n t0 t1 h :=
 Eq.trans (b := internal_strconv_formatBase10_fn (world n d) n [t0, .int .u64 t1] h) (by kernel_rfl) (by rw [internal_strconv_formatBase10_fn_eq])
theorem w_internal_strconv_log10Pow2 (n d : Nat) (t0 : Int) (h : AHeap) : world n (d + 1) 47 [.int .i64 t0] h = gcR h (internal_strconv_log10Pow2 (world n d) n t0 h) :=
 Eq.trans (b := gcR h (internal_strconv_log10Pow2_fn (world n d) n [.int .i64 t0] h)) (by kernel_rfl) (by rw [internal_strconv_log10Pow2_fn_eq])
theorem w_math_bits_Len64 (n d : Nat) (t0 : Int) (h : AHeap) : world n (d + 1) 48 [.int .u64 t0] h = gcR h (math_bits_Len64 (world n d) n t0 h) :=
 Eq.trans (b := gcR h (math_bits_Len64_fn (world n d) n [.int .u64 t0] h)) (by kernel_rfl) (by rw [math_bits_Len64_fn_eq])
theorem w_internal_strconv_bool2_int_ (n d : Nat) (t0 : Bool) (h : AHeap) : world n (d + 1) 49 [.bool t0] h = gcR h (internal_strconv_bool2_int_ (world n d) n t0 h) :=
 Eq.trans (b := gcR h (internal_strconv_bool2_int__fn (world n d) n [.bool t0] h)) (by kernel_rfl) (by rw [internal_strconv_bool2_int__fn_eq])
theorem w_pattern_Quote (n d : Nat) (t0 : Bytes) (h : AHeap) : world n (d + 1) 15 [strA t0] h = gcR h (pattern_Quote (world n d) n t0 h) :=
 Eq.trans (b := gcR h (pattern_Quote_fn (world n d) n [strA t0] h)) (by kernel_rfl) (by rw [pattern_Quote_fn_eq])
theorem w_pattern_writeForm (n d : Nat) (t0 : AV) (t1 : Int) (h : AHeap) : world n (d + 1) 24 [t0, .int .u8 t1] h = pattern_writeForm (world n d) n t0 t1 h :=
 Eq.trans (b := pattern_writeForm_fn (world n d) n [t0, .int .u8 t1] h) (by kernel_rfl) (by rw [pattern_writeForm_fn_eq])
theorem w_strings_Builder_WriteString (n d : Nat) (t0 : AV) (t1 : Bytes) (h : AHeap) : world n (d + 1) 37 [t0, strA t1] h = strings_Builder_WriteString (world n d) n t0 t1 h :=
 Eq.trans (b := strings_Builder_WriteString_fn (world n d) n [t0, strA t1] h) (by kernel_rfl) (by rw [strings_Builder_WriteString_fn_eq])
theorem w_law12_word (n d : Nat) (t0 : List AV) (h : AHeap) : world n (d + 1) 11 [.agg t0] h = gcR h (law12_word (world n d) n t0 h) :=
 Eq.trans (b := gcR h (law12_word_fn (world n d) n [.agg t0] h)) (by kernel_rfl) (by rw [law12_word_fn_eq])
abbrev sm1 : Bytes := [48, 49, 50, 51, 52, 53, 54, 55, 56, 57, 97, 98, 99, 100, 101, 102, 103, 104, 105, 106, 107, 108, 109, 110, 111, 112, 113, 114, 115, 116, 117, 118, 119, 120, 121, 122]
abbrev sm2 : Bytes := [48, 48, 48, 49, 48, 50, 48, 51, 48, 52, 48, 53, 48, 54, 48, 55, 48, 56, 48, 57, 49, 48, 49, 49, 49, 50, 49, 51, 49, 52, 49, 53, 49, 54, 49, 55, 49, 56, 49, 57, 50, 48, 50, 49, 50, 50, 50, 51, 50, 52, 50, 53, 50, 54, 50, 55, 50, 56, 50, 57, 51, 48, 51, 49, 51, 50, 51, 51, 51, 52, 51, 53, 51, 54, 51, 55, 51, 56, 51, 57, 52, 48, 52, 49, 52, 50, 52, 51, 52, 52, 52, 53, 52, 54, 52, 55, 52, 56, 52, 57, 53, 48, 53, 49, 53, 50, 53, 51, 53, 52, 53, 53, 53, 54, 53, 55, 53, 56, 53, 57, 54, 48, 54, 49, 54, 50, 54, 51, 54, 52, 54, 53, 54, 54, 54, 55, 54, 56, 54, 57, 55, 48, 55, 49, 55, 50, 55, 51, 55, 52, 55, 53, 55, 54, 55, 55, 55, 56, 55, 57, 56, 48, 56, 49, 56, 50, 56, 51, 56, 52, 56, 53, 56, 54, 56, 55, 56, 56, 56, 57, 57, 48, 57, 49, 57, 50, 57, 51, 57, 52, 57, 53, 57, 54, 57, 55, 57, 56, 57, 57]
abbrev lenT : Bytes := [0, 1, 2, 2, 3, 3, 3, 3, 4, 4, 4, 4, 4, 4, 4, 4, 5, 5, 5, 5, 5, 5, 5, 5, 5, 5, 5, 5, 5, 5, 5, 5, 6, 6, 6, 6, 6, 6, 6, 6, 6, 6, 6, 6, 6, 6, 6, 6, 6, 6, 6, 6, 6, 6, 6, 6, 6, 6, 6, 6, 6, 6, 6, 6, 7, 7, 7, 7, 7, 7, 7, 7, 7, 7, 7, 7, 7, 7, 7, 7, 7, 7, 7, 7, 7, 7, 7, 7, 7, 7, 7, 7, 7, 7, 7, 7, 7, 7, 7, 7, 7, 7, 7, 7, 7, 7, 7, 7, 7, 7, 7, 7, 7, 7, 7, 7, 7, 7, 7, 7, 7, 7, 7, 7, 7, 7, 7, 7, 8, 8, 8, 8, 8, 8, 8, 8, 8, 8, 8, 8, 8, 8, 8, 8, 8, 8, 8, 8, 8, 8, 8, 8, 8, 8, 8, 8, 8, 8, 8, 8, 8, 8, 8, 8, 8, 8, 8, 8, 8, 8, 8, 8, 8, 8, 8, 8, 8, 8, 8, 8, 8, 8, 8, 8, 8, 8, 8, 8, 8, 8, 8, 8, 8, 8, 8, 8, 8, 8, 8, 8, 8, 8, 8, 8, 8, 8, 8, 8, 8, 8, 8, 8, 8, 8, 8, 8, 8, 8, 8, 8, 8, 8, 8, 8, 8, 8, 8, 8, 8, 8, 8, 8, 8, 8, 8, 8, 8, 8, 8, 8, 8, 8, 8, 8, 8, 8, 8, 8, 8, 8, 8, 8, 8, 8, 8, 8]
def digs (x : Nat) : Bytes := if x < 10 then [UInt8.ofNat (48 + x)] else if x < 100 then [UInt8.ofNat (48 + x / 10), UInt8.ofNat (48 + x % 10)] else if x < 1000 then [UInt8.ofNat (48 + x / 100), UInt8.ofNat (48 + x % 100 / 10), UInt8.ofNat (48 + x % 100 % 10)]
 else [UInt8.ofNat (48 + x / 100 / 10), UInt8.ofNat (48 + x / 100 % 10), UInt8.ofNat (48 + x % 100 / 10), UInt8.ofNat (48 + x % 100 % 10)]
def powT : List AV := [1, 10, 100, 1000, 10000, 100000, 1000000, 10000000, 100000000, 1000000000, 10000000000, 100000000000, 1000000000000, 10000000000000, 100000000000000, 1000000000000000, 10000000000000000, 100000000000000000, 1000000000000000000, 10000000000000000000].map fun z => AV.int .u64 z
def HasPow (h : AHeap) : Prop := h.get 0 = some (.glob (T.put .e 0 powT)) ∧ 0 < h.next
theorem HasPow.tch {S : List Nat} {h h' : AHeap} (k : HasPow h) (t : Tch S h h') (hS : 0 ∉ S) : HasPow h' := ⟨by rw [t.2.2 _ k.2 hS]; exact k.1, Nat.lt_of_lt_of_le k.2 t.1⟩
theorem pow_cell {h : AHeap} (k : HasPow h) {t : Nat} {v : AV} (hv : powT[t]? = some v) : ldCell h (.gptr 0 t) = some v := by
 simp only [ldCell, k.1, put_get, hv]
def bl (k : Nat) : Nat := if k = 0 then 0 else Nat.log2 k + 1
theorem bl_all : (List.range 256).all (fun k => idxS lenT (k : Int) == some ((bl k : Nat) : Int)) = true := by kernel_rfl
theorem bl_one {k : Nat} (h : k < 256) : idxS lenT (k : Int) = some ((bl k : Nat) : Int) := by
 have := List.all_eq_true.1 bl_all k (List.mem_range.2 h)
 exact eq_of_beq this
theorem bl_le_all : (List.range 256).all (fun k => Nat.ble (bl k) 8) = true := by kernel_rfl
theorem bl_le {k : Nat} (h : k < 256) : bl k ≤ 8 := Nat.le_of_ble_eq_true (List.all_eq_true.1 bl_le_all k (List.mem_range.2 h))
def lenN (x : Nat) : Nat := if 256 ≤ x then 8 + bl (x / 256) else bl x
def numN (x : Nat) : Nat := lenN x * 78913 / 262144 + (if 10 ^ (lenN x * 78913 / 262144) ≤ x then 1 else 0)
theorem num_all : (List.range 10000).all (fun x => Nat.blt x 100 || Nat.beq (numN x) (if x < 1000 then 3 else 4)) = true := by kernel_rfl
theorem num_one {x : Nat} (h : x < 10000) (h1 : 100 ≤ x) : numN x = if x < 1000 then 3 else 4 := by
 have := List.all_eq_true.1 num_all x (List.mem_range.2 h)
 rw [Bool.or_eq_true] at this
 rcases this with h2 | h2
 ·exact absurd (Nat.le_of_ble_eq_true h2) (by omega)
 ·exact Nat.eq_of_beq_eq_true h2
theorem sm1_all : (List.range 10).all (fun x => (sm1.drop x).take 1 == [UInt8.ofNat (48 + x)]) = true := by kernel_rfl
theorem sm2_all : (List.range 100).all (fun x => (sm2.drop (x * 2)).take 2 == [UInt8.ofNat (48 + x / 10), UInt8.ofNat (48 + x % 10)]) = true := by kernel_rfl
theorem sl1_nat {u : Bytes} {a b : Nat} (h1 : a ≤ b) (h2 : b ≤ u.length) : sliceS u (a : Int) (b : Int) = some ((u.drop a).take (b - a)) := by
 have := sliceS_int (l := u) (a := (a : Int)) (b := (b : Int)) (by omega) (by omega) (by omega)
 simpa using this
theorem sm1_sl {x : Nat} (h : x < 10) : sliceS sm1 (x : Int) ((x : Int) + 1) = some (digs x) := by
 have e := eq_of_beq (List.all_eq_true.1 sm1_all x (List.mem_range.2 h))
 have := sl1_nat (u := sm1) (a := x) (b := x + 1) (by omega) (by show x + 1 ≤ 36; omega)
 rw [Nat.add_sub_cancel_left, e] at this
 unfold digs
 rw [if_pos h]
 exact this
theorem sm2_sl {x : Nat} (h : x < 100) (h1 : 10 ≤ x) : sliceS sm2 ((x : Int) * 2) ((x : Int) * 2 + 2) = some (digs x) := by
 have e := eq_of_beq (List.all_eq_true.1 sm2_all x (List.mem_range.2 h))
 have := sl1_nat (u := sm2) (a := x * 2) (b := x * 2 + 2) (by omega) (by show x * 2 + 2 ≤ 200; omega)
 rw [Nat.add_sub_cancel_left, e] at this
 unfold digs
 rw [if_neg (by omega), if_pos h]
 exact this
theorem sm2_hi_all : (List.range 100).all (fun k => idxS sm2 ((k : Int) * 2) == some ((48 + k / 10 : Nat) : Int)) = true := by kernel_rfl
theorem sm2_lo_all : (List.range 100).all (fun k => idxS sm2 ((k : Int) * 2 + 1) == some ((48 + k % 10 : Nat) : Int)) = true := by kernel_rfl
theorem sm2_hi {k : Nat} (h : k < 100) : idxS sm2 ((k : Int) * 2) = some ((48 + k / 10 : Nat) : Int) := eq_of_beq (List.all_eq_true.1 sm2_hi_all k (List.mem_range.2 h))
theorem sm2_lo {k : Nat} (h : k < 100) : idxS sm2 ((k : Int) * 2 + 1) = some ((48 + k % 10 : Nat) : Int) := eq_of_beq (List.all_eq_true.1 sm2_lo_all k (List.mem_range.2 h))
theorem quo32 {x c : Nat} (hc : c ≠ 0) (h : x < 4294967296) : quoI .u32 (x : Int) (c : Int) = some ((x / c : Nat) : Int) := by
 unfold quoI
 have hq := Nat.div_le_self x c
 rw [if_neg (by omega), show (x : Int).tdiv (c : Int) = ((x / c : Nat) : Int) from rfl, wrap_u32_mod]
 generalize x / c = q at *
 rw [Int.emod_eq_of_lt (by omega) (by omega)]
section
variable {n d x b : Nat} {h h0 H : AHeap} {Q : ARes → AHeap → Prop} {S : List Nat} {ys : List RowT}
theorem small9_w (hx : x < 100) (h : AHeap) : world n (d + 1) 41 [.int .i64 (x : Int)] h = some (.ret (strA (digs x)), h) := by
 have : internal_strconv_small (world n d) n (x : Int) h = some (.ret (strA (digs x)), h) := by
  apply Wp.eq
  unfold internal_strconv_small
  by_cases h1 : x < 10
  ·have e := sm1_sl h1
   repeat (first | ((with_reducible refine Wp.lettw ?_ ?_ ?_); omega; omega) | (with_reducible refine Wp.lett ?_) | ((with_reducible apply Wp.obind); (with_reducible exact e)) | ((with_reducible refine Wp.ift ?_ ?_); ((with_reducible apply decide_eq_true); omega)))
   exact Wp.ret ⟨rfl, rfl⟩
  ·have e := sm2_sl hx (by omega)
   repeat (first | ((with_reducible refine Wp.lettw ?_ ?_ ?_); omega; omega) | (with_reducible refine Wp.lett ?_) | ((with_reducible apply Wp.obind); (with_reducible exact e)) | ((with_reducible refine Wp.iff ?_ ?_); ((with_reducible apply decide_eq_false); omega)))
   exact Wp.ret ⟨rfl, rfl⟩
 rw [w_internal_strconv_small, this, gcR_scal (Above.refl _) rfl]
theorem len64_w (hx : x < 10000) (h : AHeap) : world n (d + 1) 48 [.int .u64 (x : Int)] h = some (.ret (.int .i64 (lenN x : Nat)), h) := by
 have : math_bits_Len64 (world n d) n (x : Int) h = some (.ret (.int .i64 (lenN x : Nat)), h) := by
  apply Wp.eq
  unfold math_bits_Len64 lenN
  by_cases h1 : 256 ≤ x
  ·rw [if_pos h1]
   have e1 : shrI .u64 (x : Int) 8 = some ((x / 256 : Nat) : Int) := by
    rw [show shrI .u64 (x : Int) 8 = some ((x : Int).fdiv 256) from rfl, Int.fdiv_eq_ediv_of_nonneg _ (by decide)]
    rfl
   have e2 := bl_one (k := x / 256) (by omega)
   have e3 := bl_le (k := x / 256) (by omega)
   repeat (first | (with_reducible refine Wp.join2 (fun _ _ => ?_)) | ((with_reducible first | refine Wp.lettw ?_ ?_ ?_ | refine Wp.lettu8 ?_ ?_ ?_); omega; omega) | (with_reducible refine Wp.lett ?_) | ((with_reducible apply Wp.obind); (with_reducible first | exact e1 | exact e2)) | ((with_reducible refine Wp.ift ?_ ?_); ((with_reducible apply decide_eq_true); omega)) | ((with_reducible refine Wp.iff ?_ ?_); ((with_reducible apply decide_eq_false); omega)) | (with_reducible refine Wp.go2 (by assumption) ?_))
   exact Wp.ret ⟨rfl, rfl⟩
  ·rw [if_neg h1]
   have e2 := bl_one (k := x) (by omega)
   have e3 := bl_le (k := x) (by omega)
   repeat (first | (with_reducible refine Wp.join2 (fun _ _ => ?_)) | ((with_reducible first | refine Wp.lettw ?_ ?_ ?_ | refine Wp.lettu8 ?_ ?_ ?_); omega; omega) | (with_reducible refine Wp.lett ?_) | ((with_reducible apply Wp.obind); (with_reducible exact e2)) | ((with_reducible refine Wp.iff ?_ ?_); ((with_reducible apply decide_eq_false); omega)) | (with_reducible refine Wp.go2 (by assumption) ?_))
   exact Wp.ret ⟨by rw [Int.zero_add], rfl⟩
 rw [w_math_bits_Len64, this, gcR_scal (Above.refl _) rfl]
theorem log10_w {l : Nat} (hl : l ≤ 64) (h : AHeap) : world n (d + 1) 47 [.int .i64 (l : Int)] h = some (.ret (.int .i64 (l * 78913 / 262144 : Nat)), h) := by
 have : internal_strconv_log10Pow2 (world n d) n (l : Int) h = some (.ret (.int .i64 (l * 78913 / 262144 : Nat)), h) := by
  apply Wp.eq
  unfold internal_strconv_log10Pow2
  have e1 : shrI .i64 ((l : Int) * 78913) 18 = some ((l * 78913 / 262144 : Nat) : Int) := by
   rw [show shrI .i64 ((l : Int) * 78913) 18 = some (((l : Int) * 78913).fdiv 262144) from rfl, Int.fdiv_eq_ediv_of_nonneg _ (by decide)]
   rfl
  repeat (first | ((with_reducible refine Wp.lettw ?_ ?_ ?_); omega; omega) | ((with_reducible apply Wp.obind); (with_reducible exact e1)))
  exact Wp.ret ⟨rfl, rfl⟩
 rw [w_internal_strconv_log10Pow2, this, gcR_scal (Above.refl _) rfl]
theorem bool2_w (c : Bool) (h : AHeap) : world n (d + 1) 49 [.bool c] h = some (.ret (.int .i64 (if c = true then 1 else 0)), h) := by
 have : internal_strconv_bool2_int_ (world n d) n c h = some (.ret (.int .i64 (if c = true then 1 else 0)), h) := by
  cases c <;> rfl
 rw [w_internal_strconv_bool2_int_, this, gcR_scal (Above.refl _) rfl]
theorem lenN_le (hx : x < 10000) : lenN x ≤ 16 := by
 unfold lenN
 split
 ·have := bl_le (k := x / 256) (by omega)
  omega
 ·have := bl_le (k := x) (by omega)
  omega
theorem pow_all : (List.range 5).all (fun t => match powT[t]? with
  | some (.int .u64 z) => z == ((10 ^ t : Nat) : Int)
  | _ => false) = true := by kernel_rfl
theorem pow_one {t : Nat} (ht : t < 5) : powT[t]? = some (.int .u64 ((10 ^ t : Nat) : Int)) := by
 have := List.all_eq_true.1 pow_all t (List.mem_range.2 ht)
 split at this
 ·rename_i z e
  rw [e, eq_of_beq this]
 ·cases this
theorem digits_w (hx : x < 10000) (h1 : 100 ≤ x) (hP : HasPow h) : world n (d + 2) 42 [.int .u64 (x : Int)] h = some (.ret (.int .i64 (if x < 1000 then 3 else 4)), h) := by
 have : internal_strconv_numDigits (world n (d + 1)) n (x : Int) h = some (.ret (.int .i64 (if x < 1000 then 3 else 4)), h) := by
  apply Wp.eq
  unfold internal_strconv_numDigits
  have hn := num_one hx h1
  have hl := lenN_le hx
  have e1 := len64_w (n := n) (d := d) hx h
  have e2 := log10_w (n := n) (d := d) (l := lenN x) (by omega) h
  obtain ⟨t, ht⟩ : ∃ t, t = lenN x * 78913 / 262144 := ⟨_, rfl⟩
  unfold numN at hn
  rw [← ht] at e2 hn
  have ht5 : t < 5 := by omega
  have e3 : idxA 20 1 (.gptr 0 0) (t : Int) = some (.gptr 0 t) := by
   show (match Nat.ble (t + 1) 20 with
    | true => some (AV.gptr _ (0 + t * 1))
    | false => none) = _
   rw [Nat.ble_eq_true_of_le (show t + 1 ≤ 20 by omega), Nat.zero_add, Nat.mul_one]
  have e4 := pow_cell hP (pow_one ht5)
  have e5 := bool2_w (n := n) (d := d) (decide ((x : Int) ≥ ((10 ^ t : Nat) : Int))) h
  by_cases hp : 10 ^ t ≤ x
  ·rw [if_pos hp] at hn
   rw [decide_eq_true (show (x : Int) ≥ ((10 ^ t : Nat) : Int) by omega), if_pos rfl] at e5
   repeat (first | (rw [decide_eq_true (show (x : Int) ≥ ((10 ^ t : Nat) : Int) by omega)]) | ((with_reducible refine Wp.lettw ?_ ?_ ?_); omega; omega) | (with_reducible refine Wp.lett ?_) | ((with_reducible apply Wp.obind); (with_reducible first | exact e3 | exact e4 | exact avInt_int _ _)) | ((with_reducible apply Wp.callN); (with_reducible first | exact e1 | exact e2 | exact e5)))
   exact Wp.ret ⟨by rw [← show ((t + 1 : Nat) : Int) = (t : Int) + 1 from rfl, hn]; split <;> rfl, rfl⟩
  ·rw [if_neg hp] at hn
   rw [decide_eq_false (show ¬ (x : Int) ≥ ((10 ^ t : Nat) : Int) by omega), if_neg (by decide)] at e5
   repeat (first | (rw [decide_eq_false (show ¬ (x : Int) ≥ ((10 ^ t : Nat) : Int) by omega)]) | ((with_reducible refine Wp.lettw ?_ ?_ ?_); omega; omega) | (with_reducible refine Wp.lett ?_) | ((with_reducible apply Wp.obind); (with_reducible first | exact e3 | exact e4 | exact avInt_int _ _)) | ((with_reducible apply Wp.callN); (with_reducible first | exact e1 | exact e2 | exact e5)))
   exact Wp.ret ⟨by rw [Int.add_zero, ← show ((t + 0 : Nat) : Int) = (t : Int) from rfl, hn]; split <;> rfl, rfl⟩
 rw [w_internal_strconv_numDigits, this, gcR_scal (Above.refl _) rfl]
end
abbrev TA24 : Nat := 68
theorem of_nat8 {m : Nat} (h : m < 256) : (UInt8.ofNat m).toNat = m := by
 rw [UInt8.toNat_ofNat']
 omega
section
variable {n d x b : Nat} {h h0 H : AHeap} {Q : ARes → AHeap → Prop} {S : List Nat} {ys : List RowT} {L : List AV}
set_option maxRecDepth 100000 in
theorem base4_w (hx : x < 10000) (h1 : 1000 ≤ x) (Mx : Mem S h0 h ((b, TA24, ([.int .u8 0, .int .u8 0, .int .u8 0, .int .u8 0, .int .u8 0, .int .u8 0, .int .u8 0, .int .u8 0, .int .u8 0, .int .u8 0, .int .u8 0, .int .u8 0, .int .u8 0, .int .u8 0, .int .u8 0, .int .u8 0, .int .u8 0, .int .u8 0, .int .u8 0, .int .u8 0, .int .u8 0, .int .u8 0, .int .u8 0, .int .u8 0] : List AV)) :: ys)) (hn : 3 < n) :
  ∃ h', world n (d + 1) 43 [.sl b 1 4 1, .int .u64 (x : Int)] h = some (.ret (.tup []), h') ∧ Mem S h0 h' ((b, TA24, ([.int .u8 0, .int .u8 ((48 + x / 100 / 10 : Nat) : Int), .int .u8 ((48 + x / 100 % 10 : Nat) : Int), .int .u8 ((48 + x % 100 / 10 : Nat) : Int), .int .u8 ((48 + x % 100 % 10 : Nat) : Int), .int .u8 0, .int .u8 0, .int .u8 0, .int .u8 0, .int .u8 0, .int .u8 0, .int .u8 0, .int .u8 0, .int .u8 0, .int .u8 0, .int .u8 0, .int .u8 0, .int .u8 0, .int .u8 0, .int .u8 0, .int .u8 0, .int .u8 0, .int .u8 0, .int .u8 0] : List AV)) :: ys) := by
 apply Wp.ex
 rw [w_internal_strconv_formatBase10]
 unfold internal_strconv_formatBase10
 have e0 : lenL (.sl b 1 4 1) = some 4 := rfl
 have r1 : remI .u32 (x : Int) 10000 = some (x : Int) := by
  rw [show remI .u32 (x : Int) 10000 = some ((x % 10000 : Nat) : Int) from rfl, Nat.mod_eq_of_lt hx]
 have q1 : quoI .u32 (x : Int) 10000 = some 0 := by
  have := quo32 (x := x) (c := 10000) (by decide) (by omega)
  rw [Nat.div_eq_of_lt hx] at this
  exact this
 have q2 : quoI .u32 (x : Int) 100 = some ((x / 100 : Nat) : Int) := quo32 (by decide) (by omega)
 have r2 : remI .u32 (x : Int) 100 = some ((x % 100 : Nat) : Int) := rfl
 have a1 := sm2_lo (k := x % 100) (by omega)
 have a2 := sm2_hi (k := x % 100) (by omega)
 have a3 := sm2_lo (k := x / 100) (by omega)
 have a4 := sm2_hi (k := x / 100) (by omega)
 have z : x / 100 < 100 := by omega
 have z2 : x % 100 < 100 := by omega
 have i1 : idxP 1 (.sl b 1 4 1) (4 - 1) = some (.ptr b 4) := rfl
 have i2 : idxP 1 (.sl b 1 4 1) (4 - 2) = some (.ptr b 3) := rfl
 have i3 : idxP 1 (.sl b 1 4 1) (4 - 3) = some (.ptr b 2) := rfl
 have i4 : idxP 1 (.sl b 1 4 1) (4 - 4) = some (.ptr b 1) := rfl
 repeat (first | (with_reducible refine Wp.join2 (fun _ _ => ?_)) | ((with_reducible apply Wp.obind); (with_reducible exact e0)))
 obtain ⟨n, rfl⟩ : ∃ m, n = m + 1 := ⟨n - 1, by omega⟩
 rw [internal_strconv_formatBase10_L0_s]
 unfold internal_strconv_formatBase10_L0b
 repeat (first | ((with_reducible apply Wp.ms0 Mx); exact Nat.le_of_ble_eq_true rfl; rfl; intro _ Mz; (try simp only [List.set_cons_succ] at Mz); (try simp only [List.set_cons_zero] at Mz); clear Mx; have Mx := Mz; clear Mz) | (with_reducible first | refine Wp.join0 (fun _ _ => ?_) | refine Wp.join2 (fun _ _ => ?_)) | ((with_reducible first | refine Wp.lettw ?_ ?_ ?_ | refine Wp.lettu32 ?_ ?_ ?_); omega; omega) | (with_reducible refine Wp.lett ?_) | ((with_reducible apply Wp.obind); (with_reducible first | exact r1 | exact q1 | exact q2 | exact r2 | exact a1 | exact a2 | exact a3 | exact a4 | exact i1 | exact i2 | exact i3 | exact i4)) | ((with_reducible refine Wp.ift ?_ ?_); ((with_reducible apply decide_eq_true); omega)) | ((with_reducible refine Wp.iff ?_ ?_); ((with_reducible apply decide_eq_false); omega)) | (with_reducible first | refine Wp.go0 (by assumption) ?_ | refine Wp.go2 (by assumption) ?_))
 exact Wp.ret ⟨rfl, Mx⟩
set_option maxRecDepth 100000 in
theorem base3_w (hx : x < 10000) (h1 : 100 ≤ x) (h2 : x < 1000) (Mx : Mem S h0 h ((b, TA24, ([.int .u8 0, .int .u8 0, .int .u8 0, .int .u8 0, .int .u8 0, .int .u8 0, .int .u8 0, .int .u8 0, .int .u8 0, .int .u8 0, .int .u8 0, .int .u8 0, .int .u8 0, .int .u8 0, .int .u8 0, .int .u8 0, .int .u8 0, .int .u8 0, .int .u8 0, .int .u8 0, .int .u8 0, .int .u8 0, .int .u8 0, .int .u8 0] : List AV)) :: ys)) (hn : 3 < n) :
  ∃ h', world n (d + 1) 43 [.sl b 1 3 1, .int .u64 (x : Int)] h = some (.ret (.tup []), h') ∧ Mem S h0 h' ((b, TA24, ([.int .u8 0, .int .u8 ((48 + x / 100 : Nat) : Int), .int .u8 ((48 + x % 100 / 10 : Nat) : Int), .int .u8 ((48 + x % 100 % 10 : Nat) : Int), .int .u8 0, .int .u8 0, .int .u8 0, .int .u8 0, .int .u8 0, .int .u8 0, .int .u8 0, .int .u8 0, .int .u8 0, .int .u8 0, .int .u8 0, .int .u8 0, .int .u8 0, .int .u8 0, .int .u8 0, .int .u8 0, .int .u8 0, .int .u8 0, .int .u8 0, .int .u8 0] : List AV)) :: ys) := by
 apply Wp.ex
 rw [w_internal_strconv_formatBase10]
 unfold internal_strconv_formatBase10
 have e0 : lenL (.sl b 1 3 1) = some 3 := rfl
 have r1 : remI .u32 (x : Int) 10000 = some (x : Int) := by
  rw [show remI .u32 (x : Int) 10000 = some ((x % 10000 : Nat) : Int) from rfl, Nat.mod_eq_of_lt hx]
 have q1 : quoI .u32 (x : Int) 10000 = some 0 := by
  have := quo32 (x := x) (c := 10000) (by decide) (by omega)
  rw [Nat.div_eq_of_lt hx] at this
  exact this
 have q2 : quoI .u32 (x : Int) 100 = some ((x / 100 : Nat) : Int) := quo32 (by decide) (by omega)
 have r2 : remI .u32 (x : Int) 100 = some ((x % 100 : Nat) : Int) := rfl
 have a1 := sm2_lo (k := x % 100) (by omega)
 have a2 := sm2_hi (k := x % 100) (by omega)
 have a3 := sm2_lo (k := x / 100) (by omega)
 have a4 := sm2_hi (k := x / 100) (by omega)
 have z : x / 100 < 100 := by omega
 have z2 : x % 100 < 100 := by omega
 have z3 : x / 100 < 10 := by omega
 have i1 : idxP 1 (.sl b 1 3 1) (3 - 1) = some (.ptr b 3) := rfl
 have i2 : idxP 1 (.sl b 1 3 1) (3 - 2) = some (.ptr b 2) := rfl
 have i3 : idxP 1 (.sl b 1 3 1) 0 = some (.ptr b 1) := rfl
 repeat (first | (with_reducible refine Wp.join2 (fun _ _ => ?_)) | ((with_reducible apply Wp.obind); (with_reducible exact e0)))
 obtain ⟨n, rfl⟩ : ∃ m, n = m + 1 := ⟨n - 1, by omega⟩
 rw [internal_strconv_formatBase10_L0_s]
 unfold internal_strconv_formatBase10_L0b
 repeat (first | ((with_reducible apply Wp.ms0 Mx); exact Nat.le_of_ble_eq_true rfl; rfl; intro _ Mz; (try simp only [List.set_cons_succ] at Mz); (try simp only [List.set_cons_zero] at Mz); clear Mx; have Mx := Mz; clear Mz) | (with_reducible first | refine Wp.join0 (fun _ _ => ?_) | refine Wp.join2 (fun _ _ => ?_)) | ((with_reducible first | refine Wp.lettw ?_ ?_ ?_ | refine Wp.lettu8 ?_ ?_ ?_ | refine Wp.lettu32 ?_ ?_ ?_); omega; omega) | (with_reducible refine Wp.lett ?_) | ((with_reducible apply Wp.obind); (with_reducible first | exact q2 | exact r2 | exact a1 | exact a2 | exact i1 | exact i2 | exact i3)) | ((with_reducible refine Wp.ift ?_ ?_); ((with_reducible apply decide_eq_true); omega)) | ((with_reducible refine Wp.iff ?_ ?_); ((with_reducible apply decide_eq_false); omega)) | (with_reducible first | refine Wp.go0 (by assumption) ?_ | refine Wp.go2 (by assumption) ?_))
 exact Wp.ret ⟨rfl, Mx⟩
theorem digs4 (hx : x < 10000) (h1 : 1000 ≤ x) : bytesC (digs x) = [.int .u8 ((48 + x / 100 / 10 : Nat) : Int), .int .u8 ((48 + x / 100 % 10 : Nat) : Int), .int .u8 ((48 + x % 100 / 10 : Nat) : Int), .int .u8 ((48 + x % 100 % 10 : Nat) : Int)] := by
 unfold digs
 rw [if_neg (by omega), if_neg (by omega), if_neg (by omega)]
 unfold bytesC
 simp only [List.map_cons, List.map_nil]
 rw [of_nat8 (by omega), of_nat8 (by omega), of_nat8 (by omega), of_nat8 (by omega)]
theorem digs3 (h2 : x < 1000) (h1 : 100 ≤ x) : bytesC (digs x) = [.int .u8 ((48 + x / 100 : Nat) : Int), .int .u8 ((48 + x % 100 / 10 : Nat) : Int), .int .u8 ((48 + x % 100 % 10 : Nat) : Int)] := by
 unfold digs
 rw [if_neg (by omega), if_neg (by omega), if_pos h2]
 unfold bytesC
 simp only [List.map_cons, List.map_nil]
 rw [of_nat8 (by omega), of_nat8 (by omega), of_nat8 (by omega)]
theorem arr24 : Tryd.prog.underlying TA24 = some (.array 24 5) := by kernel_rfl
theorem i24 : (Tryd.prog.info? 5).isSome = true := by kernel_rfl
theorem c24 : Tryd.prog.cellsOf 5 = 1 := by kernel_rfl
theorem sl4 {l : List AV} (k : RowH H b TA24 l) (hl : l.length = 24) : sliceA Tryd.prog H TA24 (.ptr b 0) (some (.int .i64 1)) (some (.int .i64 (1 + 4))) = some (.val (.sl b 1 4 1), H) :=
 slice_arr (l1 := 1) (r1 := 5) (n := 24) (sz := 1) (o := 0) arr24 i24 c24 k (by decide) (by decide) (by rw [hl]; decide) (by decide)
theorem sl3 {l : List AV} (k : RowH H b TA24 l) (hl : l.length = 24) : sliceA Tryd.prog H TA24 (.ptr b 0) (some (.int .i64 1)) (some (.int .i64 (1 + 3))) = some (.val (.sl b 1 3 1), H) :=
 slice_arr (l1 := 1) (r1 := 4) (n := 24) (sz := 1) (o := 0) arr24 i24 c24 k (by decide) (by decide) (by rw [hl]; decide) (by decide)
theorem isB : isBytes Tryd.prog 50 = true := by kernel_rfl
theorem isS : isStr Tryd.prog 9 = true := by kernel_rfl
theorem conv4 (hx : x < 10000) (h1 : 1000 ≤ x) (k : RowH H b TA24 ([.int .u8 0, .int .u8 ((48 + x / 100 / 10 : Nat) : Int), .int .u8 ((48 + x / 100 % 10 : Nat) : Int), .int .u8 ((48 + x % 100 / 10 : Nat) : Int), .int .u8 ((48 + x % 100 % 10 : Nat) : Int), .int .u8 0, .int .u8 0, .int .u8 0, .int .u8 0, .int .u8 0, .int .u8 0, .int .u8 0, .int .u8 0, .int .u8 0, .int .u8 0, .int .u8 0, .int .u8 0, .int .u8 0, .int .u8 0, .int .u8 0, .int .u8 0, .int .u8 0, .int .u8 0, .int .u8 0] : List AV)) : opConv Tryd.prog H 50 9 (some (.sl b 1 4 1)) = some (.val (strA (digs x)), H) := by
 have hl : (digs x).length = 4 := by
  have := congrArg List.length (digs4 hx h1)
  simpa [bytesC] using this
 have hr : rowGet H b 1 (digs x).length = some (bytesC (digs x)) := by
  rw [hl, digs4 hx h1]
  exact k.part (o := 1) (n := 4) (by show 1 + 4 ≤ 24; decide)
 have := conv_row (P := Tryd.prog) isB isS hr
 rw [hl] at this
 exact this
theorem conv3 (h2 : x < 1000) (h1 : 100 ≤ x) (k : RowH H b TA24 ([.int .u8 0, .int .u8 ((48 + x / 100 : Nat) : Int), .int .u8 ((48 + x % 100 / 10 : Nat) : Int), .int .u8 ((48 + x % 100 % 10 : Nat) : Int), .int .u8 0, .int .u8 0, .int .u8 0, .int .u8 0, .int .u8 0, .int .u8 0, .int .u8 0, .int .u8 0, .int .u8 0, .int .u8 0, .int .u8 0, .int .u8 0, .int .u8 0, .int .u8 0, .int .u8 0, .int .u8 0, .int .u8 0, .int .u8 0, .int .u8 0, .int .u8 0] : List AV)) : opConv Tryd.prog H 50 9 (some (.sl b 1 3 1)) = some (.val (strA (digs x)), H) := by
 have hl : (digs x).length = 3 := by
  have := congrArg List.length (digs3 h2 h1)
  simpa [bytesC] using this
 have hr : rowGet H b 1 (digs x).length = some (bytesC (digs x)) := by
  rw [hl, digs3 h2 h1]
  exact k.part (o := 1) (n := 3) (by show 1 + 3 ≤ 24; decide)
 have := conv_row (P := Tryd.prog) isB isS hr
 rw [hl] at this
 exact this
set_option maxRecDepth 100000 in
theorem format_w (hx : x < 10000) (hP : HasPow h) (hn : 3 < n) : world n (d + 4) 33 [.int .i64 (x : Int), .int .i64 10] h = some (.ret (strA (digs x)), h) := by
 apply Wp.eq
 rw [w_internal_strconv_FormatInt]
 refine Wp.gc ?_
 suffices hK : Wp (internal_strconv_FormatInt (world n (d + 3)) n (x : Int) 10 h) fun r h' => r = .ret (strA (digs x)) ∧ Tch [] h h' from hK.mono fun r h' ⟨e, t⟩ => ⟨t.above, by rw [e]; rfl, e, rfl⟩
 unfold internal_strconv_FormatInt
 have Mx := Mem.nil [] h
 by_cases h1 : x < 100
 ·have e1 := small9_w (n := n) (d := d + 2) h1 h
  repeat (first | ((with_reducible apply Wp.obind); (with_reducible exact avStr_str _)) | (with_reducible refine Wp.join1 (fun _ _ => ?_)) | (with_reducible refine Wp.lett ?_) | ((with_reducible refine Wp.ift ?_ ?_); ((with_reducible first | apply decide_eq_true | apply beq_t); omega)) | ((with_reducible apply Wp.callN); (with_reducible exact e1)) | (with_reducible refine Wp.go1 (by assumption) ?_))
  exact Wp.ret ⟨rfl, Mx.tch⟩
 ·repeat (first | ((with_reducible apply Wp.mnew Mx); intro _ Mz; clear Mx; have Mx := Mz; clear Mz) | (with_reducible refine Wp.join1 (fun _ _ => ?_)) | ((with_reducible refine Wp.lettu64 ?_ ?_ ?_); omega; omega) | (with_reducible refine Wp.lett ?_) | ((with_reducible refine Wp.ift ?_ ?_); ((with_reducible first | apply decide_eq_true | apply beq_t); omega)) | ((with_reducible refine Wp.iff ?_ ?_); ((with_reducible apply decide_eq_false); omega)) | (with_reducible refine Wp.go1 (by assumption) ?_) | rw [newP_eq])
  have hP2 : HasPow _ := hP.tch Mx.tch (by simp)
  have e2 := fun (H : AHeap) (hH : HasPow H) => digits_w (n := n) (d := d + 1) (x := x) (h := H) hx (by omega) hH
  by_cases h2 : x < 1000
  ·rw [if_pos h2] at e2
   refine Wp.callN (e2 _ hP2) ?_
   repeat (first | ((with_reducible apply Wp.obind); (with_reducible exact avInt_int _ _)) | ((with_reducible refine Wp.lettw ?_ ?_ ?_); omega; omega))
   refine Wp.outK (sl3 Mx.at0.1 rfl) ?_
   obtain ⟨h3, e3, M3⟩ := base3_w (n := n) (d := d + 2) hx (by omega) h2 Mx hn
   refine Wp.callN e3 ?_
   clear Mx
   have Mx := M3
   repeat (first | ((with_reducible refine Wp.lettw ?_ ?_ ?_); omega; omega) | (with_reducible refine Wp.lett ?_) | ((with_reducible refine Wp.iff ?_ ?_); ((with_reducible apply decide_eq_false); omega)))
   refine Wp.outK (sl3 Mx.at0.1 rfl) ?_
   refine Wp.outK (conv3 h2 (by omega) Mx.at0.1) ?_
   repeat (((with_reducible apply Wp.obind); (with_reducible exact avStr_str _)))
   exact Wp.ret ⟨rfl, Mx.tch⟩
  ·rw [if_neg h2] at e2
   refine Wp.callN (e2 _ hP2) ?_
   repeat (first | ((with_reducible apply Wp.obind); (with_reducible exact avInt_int _ _)) | ((with_reducible refine Wp.lettw ?_ ?_ ?_); omega; omega))
   refine Wp.outK (sl4 Mx.at0.1 rfl) ?_
   obtain ⟨h3, e3, M3⟩ := base4_w (n := n) (d := d + 2) hx (by omega) Mx hn
   refine Wp.callN e3 ?_
   clear Mx
   have Mx := M3
   repeat (first | ((with_reducible refine Wp.lettw ?_ ?_ ?_); omega; omega) | (with_reducible refine Wp.lett ?_) | ((with_reducible refine Wp.iff ?_ ?_); ((with_reducible apply decide_eq_false); omega)))
   refine Wp.outK (sl4 Mx.at0.1 rfl) ?_
   refine Wp.outK (conv4 hx (by omega) Mx.at0.1) ?_
   repeat (((with_reducible apply Wp.obind); (with_reducible exact avStr_str _)))
   exact Wp.ret ⟨rfl, Mx.tch⟩
theorem itoa_w (hx : x < 10000) (hP : HasPow h) (hn : 3 < n) : world n (d + 6) 14 [.int .i64 (x : Int)] h = some (.ret (strA (digs x)), h) := by
 have e1 := format_w (d := d) hx hP hn
 have e2 : internal_strconv_Itoa (world n (d + 4)) n (x : Int) h = some (.ret (strA (digs x)), h) := by
  apply Wp.eq
  unfold internal_strconv_Itoa
  repeat (first | ((with_reducible apply Wp.obind); (with_reducible exact avStr_str _)) | ((with_reducible apply Wp.callK); (with_reducible exact e1)))
  exact Wp.ret ⟨rfl, rfl⟩
 have e3 : world n (d + 5) 22 [.int .i64 (x : Int)] h = some (.ret (strA (digs x)), h) := by
  rw [w_internal_strconv_Itoa, e2, gcR_scal (Above.refl _) rfl]
 have e4 : strconv_Itoa (world n (d + 5)) n (x : Int) h = some (.ret (strA (digs x)), h) := by
  apply Wp.eq
  unfold strconv_Itoa
  repeat (first | ((with_reducible apply Wp.obind); (with_reducible exact avStr_str _)) | ((with_reducible apply Wp.callK); (with_reducible exact e3)))
  exact Wp.ret ⟨rfl, rfl⟩
 rw [w_strconv_Itoa, e4, gcR_scal (Above.refl _) rfl]
end
def smallB (c : Nat) : Bool := decide (97 ≤ (c : Int)) && decide ((c : Int) ≤ 122)
def digB (c : Nat) : Bool := decide (48 ≤ (c : Int)) && decide ((c : Int) ≤ 57)
def wordB (c : Nat) : Bool := smallB c || (digB c || (((c : Int) == 95) || ((c : Int) == 45)))
def blankB (c : Nat) : Bool := ((c : Int) == 32) || ((c : Int) == 9)
def restB (c : Nat) : Bool := (c : Int) != 10
def spanN (f : Nat → Bool) : Bytes → Nat
 | [] => 0
 | a :: w => if f a.toNat = true then spanN f w + 1 else 0
theorem span_le (f : Nat → Bool) : ∀ w : Bytes, spanN f w ≤ w.length
 | [] => Nat.le_refl _
 | a :: w => by
  have := span_le f w
  unfold spanN
  split <;> simp <;> omega
theorem span_lt {f : Nat → Bool} : ∀ {w : Bytes} {i : Nat} (_ : i < spanN f w) (hl : i < w.length), f (w[i]).toNat = true
 | [], i, h, hl => by simp at hl
 | a :: w, i, h, hl => by
  unfold spanN at h
  split at h
  ·rename_i ha
   cases i with
   | zero => exact ha
   | succ i => exact span_lt (w := w) (by omega) (by simpa using hl)
  ·omega
theorem span_stop {f : Nat → Bool} : ∀ {w : Bytes} {i : Nat} (_ : i = spanN f w) (hl : i < w.length), f (w[i]).toNat = false
 | [], i, h, hl => by simp at hl
 | a :: w, i, h, hl => by
  unfold spanN at h
  split at h
  ·subst h
   exact span_stop (w := w) rfl (by simpa using hl)
  ·rename_i ha
   subst h
   simpa using ha
section
variable {n d p c : Nat} {h h0 : AHeap} {u : Bytes} {Q : ARes → AHeap → Prop}
theorem small_w (h : AHeap) : world n (d + 1) 16 [.int .u8 (c : Int)] h = some (.ret (.bool (smallB c)), h) := by
 have : lex_small (world n d) n (c : Int) h = some (.ret (.bool (smallB c)), h) := by
  apply Wp.eq
  unfold lex_small
  by_cases h1 : (97 : Int) ≤ c
  ·repeat (first | (with_reducible refine Wp.join1 (fun _ _ => ?_)) | (with_reducible refine Wp.lett ?_) | ((with_reducible refine Wp.ift ?_ ?_); ((with_reducible apply decide_eq_true); omega)) | (with_reducible refine Wp.go1 (by assumption) ?_))
   exact Wp.ret ⟨by simp [smallB]; omega, rfl⟩
  ·repeat (first | (with_reducible refine Wp.join1 (fun _ _ => ?_)) | (with_reducible refine Wp.lett ?_) | ((with_reducible refine Wp.iff ?_ ?_); ((with_reducible apply decide_eq_false); omega)) | (with_reducible refine Wp.go1 (by assumption) ?_))
   exact Wp.ret ⟨by simp [smallB]; omega, rfl⟩
 rw [w_lex_small, this, gcR_self]
theorem digit_w (h : AHeap) : world n (d + 1) 28 [.int .u8 (c : Int)] h = some (.ret (.bool (digB c)), h) := by
 have : lex_digit (world n d) n (c : Int) h = some (.ret (.bool (digB c)), h) := by
  apply Wp.eq
  unfold lex_digit
  by_cases h1 : (48 : Int) ≤ c
  ·repeat (first | (with_reducible refine Wp.join1 (fun _ _ => ?_)) | (with_reducible refine Wp.lett ?_) | ((with_reducible refine Wp.ift ?_ ?_); ((with_reducible apply decide_eq_true); omega)) | (with_reducible refine Wp.go1 (by assumption) ?_))
   exact Wp.ret ⟨by simp [digB]; omega, rfl⟩
  ·repeat (first | (with_reducible refine Wp.join1 (fun _ _ => ?_)) | (with_reducible refine Wp.lett ?_) | ((with_reducible refine Wp.iff ?_ ?_); ((with_reducible apply decide_eq_false); omega)) | (with_reducible refine Wp.go1 (by assumption) ?_))
   exact Wp.ret ⟨by simp [digB]; omega, rfl⟩
 rw [w_lex_digit, this, gcR_self]
theorem blank_w (h : AHeap) : world n (d + 1) 30 [.int .u8 (c : Int)] h = some (.ret (.bool (blankB c)), h) := by
 have : lex_blank (world n d) n (c : Int) h = some (.ret (.bool (blankB c)), h) := by
  apply Wp.eq
  unfold lex_blank
  by_cases h1 : (c : Int) = 32
  ·repeat (first | (with_reducible refine Wp.join1 (fun _ _ => ?_)) | (with_reducible refine Wp.lett ?_) | ((with_reducible refine Wp.ift ?_ ?_); ((with_reducible apply beq_t); omega)) | (with_reducible refine Wp.go1 (by assumption) ?_))
   exact Wp.ret ⟨by simp [blankB]; omega, rfl⟩
  ·repeat (first | (with_reducible refine Wp.join1 (fun _ _ => ?_)) | (with_reducible refine Wp.lett ?_) | ((with_reducible refine Wp.iff ?_ ?_); ((with_reducible apply beq_f); omega)) | (with_reducible refine Wp.go1 (by assumption) ?_))
   exact Wp.ret ⟨by simp [blankB]; omega, rfl⟩
 rw [w_lex_blank, this, gcR_self]
theorem rest_w (h : AHeap) : world n (d + 1) 31 [.int .u8 (c : Int)] h = some (.ret (.bool (restB c)), h) := by
 rw [w_lex_lexer_skipBlanks_1]
 unfold lex_lexer_skipBlanks_1
 rw [lett_eq, gcR_self]
 rfl
theorem word_w (h : AHeap) : world n (d + 2) 27 [.int .u8 (c : Int)] h = some (.ret (.bool (wordB c)), h) := by
 have : lex_wordEnd_1 (world n (d + 1)) n (c : Int) h = some (.ret (.bool (wordB c)), h) := by
  apply Wp.eq
  unfold lex_wordEnd_1
  have hs := small_w (n := n) (d := d) (c := c) h
  have hd := digit_w (n := n) (d := d) (c := c) h
  unfold wordB
  cases h1 : smallB c with
  | true =>
   rw [h1] at hs
   repeat (first | (with_reducible refine Wp.join1 (fun _ _ => ?_)) | ((with_reducible apply Wp.obind); (with_reducible exact avBool_bool _)) | ((with_reducible refine Wp.ift ?_ ?_); (with_reducible rfl)) | ((with_reducible apply Wp.callN); (with_reducible assumption)) | (with_reducible refine Wp.go1 (by assumption) ?_))
   exact Wp.ret ⟨rfl, rfl⟩
  | false =>
   rw [h1] at hs
   cases h2 : digB c with
   | true =>
    rw [h2] at hd
    repeat (first | (with_reducible refine Wp.join1 (fun _ _ => ?_)) | ((with_reducible apply Wp.obind); (with_reducible exact avBool_bool _)) | ((with_reducible refine Wp.ift ?_ ?_); (with_reducible rfl)) | ((with_reducible refine Wp.iff ?_ ?_); (with_reducible rfl)) | ((with_reducible apply Wp.callN); (with_reducible assumption)) | (with_reducible refine Wp.go1 (by assumption) ?_))
    exact Wp.ret ⟨rfl, rfl⟩
   | false =>
    rw [h2] at hd
    by_cases h3 : (c : Int) = 95
    ·repeat (first | (with_reducible refine Wp.join1 (fun _ _ => ?_)) | (with_reducible refine Wp.lett ?_) | ((with_reducible apply Wp.obind); (with_reducible exact avBool_bool _)) | ((with_reducible refine Wp.ift ?_ ?_); ((with_reducible apply beq_t); omega)) | ((with_reducible refine Wp.iff ?_ ?_); (with_reducible rfl)) | ((with_reducible apply Wp.callN); (with_reducible assumption)) | (with_reducible refine Wp.go1 (by assumption) ?_))
     exact Wp.ret ⟨by simp [h3], rfl⟩
    ·repeat (first | (with_reducible refine Wp.join1 (fun _ _ => ?_)) | (with_reducible refine Wp.lett ?_) | ((with_reducible apply Wp.obind); (with_reducible exact avBool_bool _)) | ((with_reducible refine Wp.iff ?_ ?_); first | (with_reducible rfl) | ((with_reducible apply beq_f); omega)) | ((with_reducible apply Wp.callN); (with_reducible assumption)) | (with_reducible refine Wp.go1 (by assumption) ?_))
     exact Wp.ret ⟨by simp; omega, rfl⟩
 rw [w_lex_wordEnd_1, this, gcR_self]
theorem run_loop {F : AV} {f : Nat → Bool} (hF : ∀ (c : Nat) (H : AHeap), dynC Tryd.prog (world n d) F [.int .u8 (c : Int)] H = some (.ret (.bool (f c)), H)) (hu : u.length ≤ 1000000) {most : Nat} {k5 : Int → AHeap → R}
  (hk : spanN f (u.drop p) ≤ most → Wp (k5 ((p + spanN f (u.drop p) : Nat) : Int) h) Q) (hq : most < spanN f (u.drop p) → Q (.ret (.tup [.int .i64 ((p + most : Nat) : Int), .int .i64 3])) h) :
  ∀ (fu i : Nat), spanN f (u.drop p) < fu + i → i ≤ spanN f (u.drop p) → i ≤ most → Wp (lex_run_L0 (world n d) u (p : Int) (most : Int) F k5 fu ((p + i : Nat) : Int) h) Q
 | 0, i, hf, hi, hm => by omega
 | fu + 1, i, hf, hi, hm => by
  rw [lex_run_L0_s]
  unfold lex_run_L0b
  have lu := lenS_nat u
  have hle := span_le f (u.drop p)
  rw [List.length_drop] at hle
  by_cases hlt : i < spanN f (u.drop p)
  ·have hl : p + i < u.length := by omega
   have hx : idxS u ((p + i : Nat) : Int) = some ((u[p + i]).toNat : Int) := idxS_nat hl
   have ht := span_lt hlt (by rw [List.length_drop]; omega)
   rw [List.getElem_drop] at ht
   have hc := hF (u[p + i]).toNat h
   rw [ht] at hc
   by_cases hmo : i = most
   ·repeat (first | (with_reducible refine Wp.join1 (fun _ _ => ?_)) | ((with_reducible refine Wp.lettw ?_ ?_ ?_); omega; omega) | (with_reducible refine Wp.lett ?_) | ((with_reducible apply Wp.obind); (with_reducible first | exact hx | exact avBool_bool _)) | ((with_reducible refine Wp.ift ?_ ?_); first | (with_reducible rfl) | ((with_reducible first | apply decide_eq_true | apply beq_t); omega)) | ((with_reducible apply Wp.callN); (with_reducible exact hc)) | (with_reducible refine Wp.go1 (by assumption) ?_))
    rw [hmo]
    exact Wp.ret (hq (by omega))
   ·repeat (first | (with_reducible refine Wp.join1 (fun _ _ => ?_)) | ((with_reducible refine Wp.lettw ?_ ?_ ?_); omega; omega) | (with_reducible refine Wp.lett ?_) | ((with_reducible apply Wp.obind); (with_reducible first | exact hx | exact avBool_bool _)) | ((with_reducible refine Wp.ift ?_ ?_); first | (with_reducible rfl) | ((with_reducible first | apply decide_eq_true | apply beq_t); omega)) | ((with_reducible refine Wp.iff ?_ ?_); ((with_reducible apply beq_f); omega)) | ((with_reducible apply Wp.callN); (with_reducible exact hc)) | (with_reducible refine Wp.go1 (by assumption) ?_))
    rw [show ((p + i : Nat) : Int) + 1 = ((p + (i + 1) : Nat) : Int) by omega]
    exact run_loop hF hu hk hq fu (i + 1) (by omega) (by omega) (by omega)
  ·have hi' : i = spanN f (u.drop p) := by omega
   have hk' := hk (by omega)
   rw [← hi'] at hk'
   by_cases hl : p + i < u.length
   ·have hx : idxS u ((p + i : Nat) : Int) = some ((u[p + i]).toNat : Int) := idxS_nat hl
    have ht := span_stop hi' (by rw [List.length_drop]; omega)
    rw [List.getElem_drop] at ht
    have hc := hF (u[p + i]).toNat h
    rw [ht] at hc
    repeat (first | (with_reducible refine Wp.join1 (fun _ _ => ?_)) | (with_reducible refine Wp.lett ?_) | ((with_reducible apply Wp.obind); (with_reducible first | exact hx | exact avBool_bool _)) | ((with_reducible refine Wp.ift ?_ ?_); ((with_reducible apply decide_eq_true); omega)) | ((with_reducible refine Wp.iff ?_ ?_); (with_reducible rfl)) | ((with_reducible apply Wp.callN); (with_reducible exact hc)) | (with_reducible refine Wp.go1 (by assumption) ?_))
    exact hk'
   ·repeat (first | (with_reducible refine Wp.join1 (fun _ _ => ?_)) | (with_reducible refine Wp.lett ?_) | ((with_reducible refine Wp.iff ?_ ?_); first | (with_reducible rfl) | ((with_reducible apply decide_eq_false); omega)) | (with_reducible refine Wp.go1 (by assumption) ?_))
    exact hk'
def runV (f : Nat → Bool) (u : Bytes) (p most : Nat) : AV := if spanN f (u.drop p) ≤ most then .tup [.int .i64 ((p + spanN f (u.drop p) : Nat) : Int), .int .i64 0] else .tup [.int .i64 ((p + most : Nat) : Int), .int .i64 3]
theorem run_w {F : AV} {f : Nat → Bool} (hF : ∀ (c : Nat) (H : AHeap), dynC Tryd.prog (world n d) F [.int .u8 (c : Int)] H = some (.ret (.bool (f c)), H)) (hu : u.length ≤ 1000000) (hn : u.length < n) (most : Nat) (h : AHeap) :
  world n (d + 1) 26 [strA u, .int .i64 (p : Int), .int .i64 (most : Int), F] h = some (.ret (runV f u p most), h) := by
 apply Wp.eq
 rw [w_lex_run]
 unfold lex_run
 have hle := span_le f (u.drop p)
 rw [List.length_drop] at hle
 repeat ((with_reducible refine Wp.join1 (fun _ _ => ?_)))
 refine run_loop (p := p) hF hu ?_ ?_ n 0 (by omega) (by omega) (by omega)
 ·intro hs
  repeat ((with_reducible refine Wp.go1 (by assumption) ?_))
  exact Wp.ret ⟨by unfold runV; rw [if_pos hs], rfl⟩
 ·intro hs
  exact ⟨by unfold runV; rw [if_neg (by omega)], rfl⟩
end
abbrev TLex : Nat := 41
theorem dynF (f : Nat) (call : CallF) (x : AV) (h : AHeap) (e : callV Tryd.prog h [x] (some (AV.fn f [] [])) = some (.call f [x], h)) : dynC Tryd.prog call (AV.fn f [] []) [x] h = call f [x] h := by
 unfold dynC
 rw [e]
section
variable {n d p c b : Nat} {h h0 : AHeap} {u : Bytes} {Q : ARes → AHeap → Prop} {v : AV} {S : List Nat} {ys : List RowT}
theorem dyn_blank (c : Nat) (h : AHeap) : dynC Tryd.prog (world n (d + 1)) (AV.fn 30 [] []) [.int .u8 (c : Int)] h = some (.ret (.bool (blankB c)), h) := (dynF _ _ _ _ (by kernel_rfl)).trans (blank_w h)
theorem dyn_digit (c : Nat) (h : AHeap) : dynC Tryd.prog (world n (d + 1)) (AV.fn 28 [] []) [.int .u8 (c : Int)] h = some (.ret (.bool (digB c)), h) := (dynF _ _ _ _ (by kernel_rfl)).trans (digit_w h)
theorem dyn_rest (c : Nat) (h : AHeap) : dynC Tryd.prog (world n (d + 1)) (AV.fn 31 [] []) [.int .u8 (c : Int)] h = some (.ret (.bool (restB c)), h) := (dynF _ _ _ _ (by kernel_rfl)).trans (rest_w h)
theorem dyn_word (c : Nat) (h : AHeap) : dynC Tryd.prog (world n (d + 2)) (AV.fn 27 [] []) [.int .u8 (c : Int)] h = some (.ret (.bool (wordB c)), h) := (dynF _ _ _ _ (by kernel_rfl)).trans (word_w h)
def endsB (u : Bytes) (p : Nat) : Bool := match at? u p with
 | none => true
 | some c => (c : Int) == 10
theorem lineEnds_w (Mx : Mem S h0 h ((b, TLex, [strA u, .int .i64 (p : Int), v]) :: ys)) : world n (d + 1) 20 [.ptr b 0] h = some (.ret (.bool (endsB u p)), h) := by
 apply Wp.eq
 rw [w_lex_lexer_lineEnds]
 unfold lex_lexer_lineEnds
 have lu := lenS_nat u
 by_cases hl : p < u.length
 ·have hx : idxS u (p : Int) = some ((u[p]).toNat : Int) := idxS_nat hl
  repeat (first | ((with_reducible apply Wp.obind); (with_reducible first | exact avInt_int _ _ | exact avStr_str _ | exact nilC_ptr _ _ | exact fldP_ptr _ _ _)) | ((with_reducible apply Wp.ld0 Mx); rfl) | (with_reducible refine Wp.join1 (fun _ _ => ?_)) | (with_reducible refine Wp.lett ?_) | ((with_reducible apply Wp.obind); (with_reducible exact hx)) | ((with_reducible refine Wp.iff ?_ ?_); ((with_reducible apply decide_eq_false); omega)) | (with_reducible refine Wp.go1 (by assumption) ?_))
  exact Wp.ret ⟨by unfold endsB; rw [at?_lt hl], rfl⟩
 ·repeat (first | ((with_reducible apply Wp.obind); (with_reducible first | exact avInt_int _ _ | exact avStr_str _ | exact nilC_ptr _ _ | exact fldP_ptr _ _ _)) | ((with_reducible apply Wp.ld0 Mx); rfl) | (with_reducible refine Wp.join1 (fun _ _ => ?_)) | (with_reducible refine Wp.lett ?_) | ((with_reducible refine Wp.ift ?_ ?_); ((with_reducible apply decide_eq_true); omega)) | (with_reducible refine Wp.go1 (by assumption) ?_))
  exact Wp.ret ⟨by unfold endsB; rw [at?_ge (by omega)], rfl⟩
theorem skip_w {F : AV} {f : Nat → Bool} (Mx : Mem S h0 h ((b, TLex, [strA u, .int .i64 (p : Int), v]) :: ys)) (hF : ∀ (c : Nat) (H : AHeap), dynC Tryd.prog (world n d) F [.int .u8 (c : Int)] H = some (.ret (.bool (f c)), H)) (hu : u.length ≤ 1000000) (hn : u.length < n) (hp : p ≤ u.length) :
  ∃ h', world n (d + 2) 29 [.ptr b 0, F] h = some (.ret (.tup []), h') ∧ Mem S h0 h' ((b, TLex, [strA u, .int .i64 ((p + spanN f (u.drop p) : Nat) : Int), v]) :: ys) := by
 apply Wp.ex
 rw [w_lex_lexer_skip]
 unfold lex_lexer_skip
 have lu := lenS_nat u
 have hr := run_w (p := p) hF hu hn u.length h
 have hle := span_le f (u.drop p)
 rw [List.length_drop] at hle
 unfold runV at hr
 rw [if_pos (by omega), ← lu] at hr
 repeat (first | ((with_reducible apply Wp.obind); (with_reducible first | exact avInt_int _ _ | exact avStr_str _ | exact nilC_ptr _ _ | exact fldP_ptr _ _ _)) | ((with_reducible apply Wp.ld0 Mx); rfl) | ((with_reducible apply Wp.ms0 Mx); exact Nat.le_of_ble_eq_true rfl; rfl; intro _ Mz; clear Mx; have Mx := Mz; clear Mz) | ((with_reducible apply Wp.obind); (with_reducible first | exact extT_0 _ _ | exact extT_1 _ _ _)) | ((with_reducible apply Wp.callN); (with_reducible exact hr)))
 exact Wp.ret ⟨rfl, Mx⟩
def skipP (u : Bytes) (p : Nat) : Nat := if at? u (p + spanN blankB (u.drop p)) = some 35 then p + spanN blankB (u.drop p) + spanN restB (u.drop (p + spanN blankB (u.drop p))) else p + spanN blankB (u.drop p)
theorem skipP_le (hp : p ≤ u.length) : skipP u p ≤ u.length ∧ p ≤ skipP u p := by
 have h1 := span_le blankB (u.drop p)
 have h2 := span_le restB (u.drop (p + spanN blankB (u.drop p)))
 rw [List.length_drop] at h1 h2
 unfold skipP
 split <;> omega
theorem skipBlanks_w (Mx : Mem S h0 h ((b, TLex, [strA u, .int .i64 (p : Int), v]) :: ys)) (hu : u.length ≤ 1000000) (hn : u.length < n) (hp : p ≤ u.length) :
  ∃ h', world n (d + 4) 19 [.ptr b 0] h = some (.ret (.tup []), h') ∧ Mem S h0 h' ((b, TLex, [strA u, .int .i64 (skipP u p : Int), v]) :: ys) := by
 apply Wp.ex
 rw [w_lex_lexer_skipBlanks]
 unfold lex_lexer_skipBlanks
 have lu := lenS_nat u
 obtain ⟨h1, e1, M1⟩ := skip_w (d := d + 1) Mx (fun c H => dyn_blank c H) hu hn hp
 clear Mx
 have Mx := M1
 have h1 := span_le blankB (u.drop p)
 rw [List.length_drop] at h1
 have le := lineEnds_w (n := n) (d := d + 2) Mx
 unfold skipP
 obtain ⟨q, hq⟩ : ∃ q, q = p + spanN blankB (u.drop p) := ⟨_, rfl⟩
 rw [← hq] at Mx le ⊢
 by_cases hl : q < u.length
 ·have hx : idxS u (q : Int) = some ((u[q]).toNat : Int) := idxS_nat hl
  unfold endsB at le
  rw [at?_lt hl] at le
  dsimp only at le
  by_cases h35 : (u[q]).toNat = 35
  ·rw [if_pos (by rw [at?_lt hl, h35])]
   have lf : (((u[q]).toNat : Int) == 10) = false := by rw [h35]; rfl
   rw [lf] at le
   obtain ⟨h2, e2, M2⟩ := skip_w (d := d + 1) Mx (fun c H => dyn_rest c H) hu hn (by omega)
   clear M1
   repeat (first | ((with_reducible apply Wp.obind); (with_reducible first | exact avInt_int _ _ | exact avBool_bool _ | exact avStr_str _ | exact nilC_ptr _ _ | exact fldP_ptr _ _ _)) | ((with_reducible apply Wp.ld0 Mx); rfl) | (with_reducible first | refine Wp.join0 (fun _ _ => ?_) | refine Wp.join1 (fun _ _ => ?_)) | (with_reducible refine Wp.lett ?_) | ((with_reducible apply Wp.obind); (with_reducible exact hx)) | ((with_reducible refine Wp.ift ?_ ?_); first | (with_reducible exact Bool.not_false) | ((with_reducible apply beq_t); omega)) | ((with_reducible apply Wp.callN); (with_reducible first | exact e1 | exact le | exact e2)) | (with_reducible first | refine Wp.go0 (by assumption) ?_ | refine Wp.go1 (by assumption) ?_))
   exact Wp.ret ⟨rfl, M2⟩
  ·rw [if_neg (by rw [at?_lt hl]; simp; exact h35)]
   cases lf : (((u[q]).toNat : Int) == 10) with
   | true =>
    rw [lf] at le
    repeat (first | ((with_reducible apply Wp.obind); (with_reducible exact avBool_bool _)) | (with_reducible first | refine Wp.join0 (fun _ _ => ?_) | refine Wp.join1 (fun _ _ => ?_)) | (with_reducible refine Wp.lett ?_) | ((with_reducible refine Wp.iff ?_ ?_); (with_reducible first | rfl | exact Bool.not_true)) | ((with_reducible apply Wp.callN); (with_reducible first | exact e1 | exact le)) | (with_reducible first | refine Wp.go0 (by assumption) ?_ | refine Wp.go1 (by assumption) ?_))
    exact Wp.ret ⟨rfl, Mx⟩
   | false =>
    rw [lf] at le
    repeat (first | ((with_reducible apply Wp.obind); (with_reducible first | exact avInt_int _ _ | exact avBool_bool _ | exact avStr_str _ | exact nilC_ptr _ _ | exact fldP_ptr _ _ _)) | ((with_reducible apply Wp.ld0 Mx); rfl) | (with_reducible first | refine Wp.join0 (fun _ _ => ?_) | refine Wp.join1 (fun _ _ => ?_)) | (with_reducible refine Wp.lett ?_) | ((with_reducible apply Wp.obind); (with_reducible exact hx)) | ((with_reducible refine Wp.ift ?_ ?_); (with_reducible exact Bool.not_false)) | ((with_reducible refine Wp.iff ?_ ?_); ((with_reducible apply beq_f); omega)) | ((with_reducible apply Wp.callN); (with_reducible first | exact e1 | exact le)) | (with_reducible first | refine Wp.go0 (by assumption) ?_ | refine Wp.go1 (by assumption) ?_))
    exact Wp.ret ⟨rfl, Mx⟩
 ·unfold endsB at le
  rw [at?_ge (by omega)] at le
  dsimp only at le
  rw [if_neg (by rw [at?_ge (by omega)]; simp)]
  repeat (first | ((with_reducible apply Wp.obind); (with_reducible exact avBool_bool _)) | (with_reducible first | refine Wp.join0 (fun _ _ => ?_) | refine Wp.join1 (fun _ _ => ?_)) | (with_reducible refine Wp.lett ?_) | ((with_reducible refine Wp.iff ?_ ?_); (with_reducible first | rfl | exact Bool.not_true)) | ((with_reducible apply Wp.callN); (with_reducible first | exact e1 | exact le)) | (with_reducible first | refine Wp.go0 (by assumption) ?_ | refine Wp.go1 (by assumption) ?_))
  exact Wp.ret ⟨rfl, Mx⟩
end
theorem Wp.panK {Q : ARes → AHeap → Prop} {h : AHeap} {t : TypeId} {v : AV} (hq : Q (.panic (.ifc t v)) h) : Wp (panK (.ifc t v) h) Q := ⟨_, _, rfl, hq⟩
noncomputable def rdP (u : Bytes) (p : Nat) : List AV := [strA u, .int .i64 (p : Int)]
abbrev Rd (h : AHeap) (b : Nat) (u : Bytes) (p : Nat) : Prop := RowH h b 87 (rdP u p)
def PanA (e : Int) (q : Nat) : AV := .ifc 91 (.agg [.int .i64 e, .int .i64 (q : Int)])
theorem bldWrong (e q : Int) : bldS Tryd.prog 91 [(0, .agg [.int .i64 e, .int .i64 q])] = some [.int .i64 e, .int .i64 q] := by kernel_rfl
def Step (b : Nat) (u : Bytes) (h : AHeap) (x : R) : Except (Int × Nat) (AV × Nat) → Prop
 | .ok (v, p) => ∃ h', x = some (.ret v, h') ∧ Rd h' b u p ∧ Tch [b] h h'
 | .error (e, q) => ∃ h' p, x = some (.panic (PanA e q), h') ∧ Rd h' b u p ∧ Tch [b] h h'
section
variable {n d b p : Nat} {h : AHeap} {u : Bytes} {Q : ARes → AHeap → Prop}
theorem ended_r (k : Rd h b u p) : world n (d + 1) 67 [.ptr b 0] h = some (.ret (.bool (decide (p = u.length))), h) := by
 apply Wp.eq
 rw [w_pattern_reader_ended]
 unfold pattern_reader_ended
 have ll := lenS_nat u
 repeat (first | (with_reducible refine Wp.lett ?_) | ((with_reducible apply Wp.obind); first | (with_reducible first | exact avInt_int _ _ | exact avStr_str _ | exact nilC_ptr _ _ | exact fldP_ptr _ _ _) | ((with_reducible apply RowH.cell'); (with_reducible assumption); rfl)))
 refine Wp.ret ⟨?_, rfl⟩
 by_cases hp : p = u.length
 ·rw [beq_t (by omega), decide_eq_true hp]
 ·rw [beq_f (by omega), decide_eq_false hp]
theorem refuse_r (e : Int) (q : Nat) : world n (d + 1) 61 [.int .i64 e, .int .i64 (q : Int)] h = some (.panic (PanA e q), h) := by
 rw [w_pattern_refuse]
 refine (congrArg (gcR h) ?_).trans gcR_self
 unfold pattern_refuse
 rw [bldWrong, obind_val]
 rfl
theorem refuseLast_r (k : Rd h b u (p + 1)) (hp : p + 1 ≤ u.length) (hu : u.length ≤ 1000000) : world n (d + 2) 65 [.ptr b 0] h = some (.panic (PanA 6 p), h) := by
 apply Wp.eq
 rw [w_pattern_reader_refuseLast]
 unfold pattern_reader_refuseLast
 have k0 : RowH h b 87 [strA u, .int .i64 ((p + 1 : Nat) : Int)] := k
 clear k
 have hr := refuse_r (n := n) (d := d) (h := h) 6 p
 rw [show (p : Int) = ((p + 1 : Nat) : Int) - 1 by omega] at hr
 repeat (first | ((with_reducible refine Wp.lettw ?_ ?_ ?_); omega; omega) | ((with_reducible apply Wp.obind); first | (with_reducible first | exact avInt_int _ _ | exact nilC_ptr _ _ | exact fldP_ptr _ _ _) | ((with_reducible apply RowH.cell'); (with_reducible assumption); rfl)))
 exact Wp.callP hr ⟨rfl, rfl⟩
theorem sees_r (k : Rd h b u p) (hp : p ≤ u.length) (c : Nat) : world n (d + 2) 63 [.ptr b 0, .int .u8 (c : Int)] h = some (.ret (.bool (decide (at? u p = some c))), h) := by
 apply Wp.eq
 rw [w_pattern_reader_sees]
 unfold pattern_reader_sees
 have he := ended_r (n := n) (d := d) k
 by_cases hl : p = u.length
 ·rw [decide_eq_true hl] at he
  rw [at?_ge (by omega)]
  repeat (first | (with_reducible refine Wp.join1 (fun _ _ => ?_)) | (with_reducible refine Wp.lett ?_) | ((with_reducible apply Wp.obind); (with_reducible exact avBool_bool _)) | ((with_reducible refine Wp.iff ?_ ?_); (with_reducible exact Bool.not_true)) | ((with_reducible apply Wp.callN); (with_reducible assumption)) | (with_reducible refine Wp.go1 (by assumption) ?_))
  exact Wp.ret ⟨rfl, rfl⟩
 ·rw [decide_eq_false hl] at he
  have hx := idxS_nat (l := u) (i := p) (by omega)
  rw [at?_lt (by omega)]
  repeat (first | (with_reducible refine Wp.join1 (fun _ _ => ?_)) | (with_reducible refine Wp.lett ?_) | ((with_reducible apply Wp.obind); first | (with_reducible first | exact hx | exact avInt_int _ _ | exact avBool_bool _ | exact avStr_str _ | exact nilC_ptr _ _ | exact fldP_ptr _ _ _) | ((with_reducible apply RowH.cell'); (with_reducible assumption); rfl)) | ((with_reducible refine Wp.ift ?_ ?_); (with_reducible exact Bool.not_false)) | ((with_reducible apply Wp.callN); (with_reducible assumption)) | (with_reducible refine Wp.go1 (by assumption) ?_))
  refine Wp.ret ⟨?_, rfl⟩
  by_cases hc : (u[p]'(by omega)).toNat = c
  ·rw [beq_t (by omega), decide_eq_true (by rw [hc])]
  ·rw [beq_f (by omega), decide_eq_false (fun hh => hc (by simpa using hh))]
theorem skips_r (k : Rd h b u p) (hb : b < h.next) (hp : p ≤ u.length) (hu : u.length ≤ 1000000) (c : Nat) : Step b u h (world n (d + 3) 59 [.ptr b 0, .int .u8 (c : Int)] h) (.ok (.bool (decide (at? u p = some c)), if at? u p = some c then p + 1 else p)) := by
 apply Wp.ex
 rw [w_pattern_reader_skips]
 unfold pattern_reader_skips
 have hs := sees_r (n := n) (d := d) k hp c
 have Mx := Mem.one k hb
 by_cases hc : at? u p = some c
 ·rw [decide_eq_true hc] at hs ⊢
  rw [if_pos hc]
  repeat (first | ((with_reducible apply Wp.obind); (with_reducible first | exact avInt_int _ _ | exact avBool_bool _ | exact nilC_ptr _ _ | exact fldP_ptr _ _ _)) | ((with_reducible apply Wp.ld0 Mx); rfl) | ((with_reducible apply Wp.ms0 Mx); exact Nat.le_of_ble_eq_true rfl; rfl; intro _ Mz; clear Mx; have Mx := Mz; clear Mz) | ((with_reducible refine Wp.lettw ?_ ?_ ?_); omega; omega) | (with_reducible refine Wp.lett ?_) | ((with_reducible refine Wp.iff ?_ ?_); (with_reducible exact Bool.not_true)) | ((with_reducible apply Wp.callN); (with_reducible assumption)))
  have e : (rdP u p).set (0 + 1) (.int .i64 ((p : Int) + 1)) = rdP u (p + 1) := by
   rw [show (p : Int) + 1 = ((p + 1 : Nat) : Int) by omega]
   rfl
  rw [e] at Mx
  exact Wp.ret ⟨rfl, Mx.at0.1, Mx.tch⟩
 ·rw [decide_eq_false hc] at hs ⊢
  rw [if_neg hc]
  repeat (first | (with_reducible refine Wp.lett ?_) | ((with_reducible apply Wp.obind); (with_reducible exact avBool_bool _)) | ((with_reducible refine Wp.ift ?_ ?_); (with_reducible exact Bool.not_false)) | ((with_reducible apply Wp.callN); (with_reducible assumption)))
  exact Wp.ret ⟨rfl, k, Tch.refl _ _⟩
theorem next_r (k : Rd h b u p) (hb : b < h.next) (hp : p ≤ u.length) (hu : u.length ≤ 1000000) : Step b u h (world n (d + 2) 64 [.ptr b 0] h) (match at? u p with
  | some c => .ok (.int .u8 (c : Int), p + 1)
  | none => .error (6, p)) := by
 have he := ended_r (n := n) (d := d) k
 by_cases hl : p = u.length
 ·rw [at?_ge (by omega)]
  rw [decide_eq_true hl] at he
  refine ⟨h, p, ?_, k, Tch.refl _ _⟩
  have hr := refuse_r (n := n) (d := d) (h := h) 6 p
  have : Wp (world n (d + 2) 64 [.ptr b 0] h) fun r h' => r = .panic (PanA 6 p) ∧ h' = h := by
   rw [w_pattern_reader_next]
   unfold pattern_reader_next
   repeat (first | (with_reducible refine Wp.join0 (fun _ _ => ?_)) | ((with_reducible apply Wp.obind); first | (with_reducible first | exact avInt_int _ _ | exact avBool_bool _ | exact nilC_ptr _ _ | exact fldP_ptr _ _ _) | ((with_reducible apply RowH.cell'); (with_reducible assumption); rfl)) | ((with_reducible refine Wp.ift ?_ ?_); (with_reducible rfl)) | ((with_reducible first | apply Wp.callN | apply Wp.callK); (with_reducible assumption)))
   exact Wp.callP hr ⟨rfl, rfl⟩
  exact this.eq
 ·rw [decide_eq_false hl] at he
  rw [at?_lt (by omega)]
  show ∃ h', _ ∧ _
  apply Wp.ex
  rw [w_pattern_reader_next]
  unfold pattern_reader_next
  have Mx := Mem.one k hb
  have hx := idxS_nat (l := u) (i := p) (by omega)
  repeat (first | ((with_reducible apply Wp.obind); (with_reducible first | exact avInt_int _ _ | exact avBool_bool _ | exact avStr_str _ | exact nilC_ptr _ _ | exact fldP_ptr _ _ _)) | ((with_reducible apply Wp.ld0 Mx); rfl) | ((with_reducible apply Wp.ms0 Mx); exact Nat.le_of_ble_eq_true rfl; rfl; intro _ Mz; clear Mx; have Mx := Mz; clear Mz) | (with_reducible refine Wp.join0 (fun _ _ => ?_)) | ((with_reducible refine Wp.lettw ?_ ?_ ?_); omega; omega) | ((with_reducible refine Wp.iff ?_ ?_); (with_reducible rfl)) | ((with_reducible apply Wp.callN); (with_reducible assumption)) | (with_reducible refine Wp.go0 (by assumption) ?_))
  have e : (rdP u p).set (0 + 1) (.int .i64 ((p : Int) + 1)) = rdP u (p + 1) := by
   rw [show (p : Int) + 1 = ((p + 1 : Nat) : Int) by omega]
   rfl
  rw [e] at Mx
  have e2 : ((p : Int) + 1) - 1 = (p : Int) := by omega
  rw [e2]
  repeat (((with_reducible apply Wp.obind); (with_reducible exact hx)))
  exact Wp.ret ⟨rfl, Mx.at0.1, Mx.tch⟩
theorem plain_w (c : Nat) : world n (d + 1) 36 [.int .u8 (c : Int)] h = some (.ret (.bool (plainB c)), h) := by
 rw [w_pattern_plain]
 refine (congrArg (gcR h) ?_).trans gcR_self
 apply Wp.eq
 unfold pattern_plain plainB
 by_cases h1 : 32 ≤ c
 ·rw [decide_eq_true h1, Bool.true_and]
  repeat (first | (with_reducible refine Wp.join1 (fun _ _ => ?_)) | (with_reducible refine Wp.lett ?_) | ((with_reducible refine Wp.ift ?_ ?_); ((with_reducible apply decide_eq_true); omega)) | (with_reducible refine Wp.go1 (by assumption) ?_))
  refine Wp.ret ⟨?_, rfl⟩
  by_cases h2 : c ≤ 126
  ·rw [decide_eq_true h2, decide_eq_true (by omega)]
  ·rw [decide_eq_false h2, decide_eq_false (by omega)]
 ·rw [decide_eq_false h1, Bool.false_and]
  repeat (first | (with_reducible refine Wp.join1 (fun _ _ => ?_)) | (with_reducible refine Wp.lett ?_) | ((with_reducible refine Wp.iff ?_ ?_); ((with_reducible apply decide_eq_false); omega)) | (with_reducible refine Wp.go1 (by assumption) ?_))
  exact Wp.ret ⟨rfl, rfl⟩
theorem short_w (c : Nat) : world n (d + 1) 35 [.int .u8 (c : Int)] h = some (.ret (.int .u8 (shortB c : Int)), h) := by
 rw [w_pattern_short]
 refine (congrArg (gcR h) ?_).trans gcR_self
 apply Wp.eq
 unfold pattern_short shortB
 by_cases h1 : c = 34
 ·rw [if_pos (.inl h1)]
  repeat (first | (with_reducible refine Wp.join1 (fun _ _ => ?_)) | (with_reducible refine Wp.lett ?_) | ((with_reducible refine Wp.ift ?_ ?_); first | (with_reducible rfl) | ((with_reducible apply beq_t); omega)) | (with_reducible refine Wp.go1 (by assumption) ?_))
  exact Wp.ret ⟨rfl, rfl⟩
 by_cases h2 : c = 92
 ·rw [if_pos (.inr h2)]
  have q : ((c : Int) == 92) = true := beq_t (by omega)
  repeat (first | (with_reducible refine Wp.join1 (fun _ _ => ?_)) | (with_reducible refine Wp.lett ?_) | ((with_reducible refine Wp.ift ?_ ?_); (with_reducible assumption)) | ((with_reducible refine Wp.iff ?_ ?_); ((with_reducible apply beq_f); omega)) | (with_reducible refine Wp.go1 (by assumption) ?_))
  exact Wp.ret ⟨rfl, rfl⟩
 have q : ((c : Int) == 92) = false := beq_f (by omega)
 rw [if_neg (by omega)]
 by_cases h3 : c = 10
 ·rw [if_pos h3]
  repeat (first | (with_reducible refine Wp.join1 (fun _ _ => ?_)) | (with_reducible refine Wp.lett ?_) | ((with_reducible refine Wp.ift ?_ ?_); ((with_reducible apply beq_t); omega)) | ((with_reducible refine Wp.iff ?_ ?_); first | (with_reducible assumption) | ((with_reducible apply beq_f); omega)) | (with_reducible refine Wp.go1 (by assumption) ?_))
  exact Wp.ret ⟨rfl, rfl⟩
 rw [if_neg h3]
 by_cases h4 : c = 13
 ·rw [if_pos h4]
  repeat (first | (with_reducible refine Wp.join1 (fun _ _ => ?_)) | (with_reducible refine Wp.lett ?_) | ((with_reducible refine Wp.ift ?_ ?_); ((with_reducible apply beq_t); omega)) | ((with_reducible refine Wp.iff ?_ ?_); first | (with_reducible assumption) | ((with_reducible apply beq_f); omega)) | (with_reducible refine Wp.go1 (by assumption) ?_))
  exact Wp.ret ⟨rfl, rfl⟩
 rw [if_neg h4]
 by_cases h5 : c = 9
 ·rw [if_pos h5]
  repeat (first | (with_reducible refine Wp.join1 (fun _ _ => ?_)) | (with_reducible refine Wp.lett ?_) | ((with_reducible refine Wp.ift ?_ ?_); ((with_reducible apply beq_t); omega)) | ((with_reducible refine Wp.iff ?_ ?_); first | (with_reducible assumption) | ((with_reducible apply beq_f); omega)) | (with_reducible refine Wp.go1 (by assumption) ?_))
  exact Wp.ret ⟨rfl, rfl⟩
 rw [if_neg h5]
 repeat (first | (with_reducible refine Wp.join1 (fun _ _ => ?_)) | (with_reducible refine Wp.lett ?_) | ((with_reducible refine Wp.iff ?_ ?_); first | (with_reducible assumption) | ((with_reducible apply beq_f); omega)) | (with_reducible refine Wp.go1 (by assumption) ?_))
 exact Wp.ret ⟨rfl, rfl⟩
theorem byDigits_w (c : Nat) : world n (d + 2) 70 [.int .u8 (c : Int)] h = some (.ret (.bool (byD c)), h) := by
 rw [w_pattern_byDigits]
 refine (congrArg (gcR h) ?_).trans gcR_self
 apply Wp.eq
 unfold pattern_byDigits byD
 have e1 := short_w (n := n) (d := d) (h := h) c
 have e2 := plain_w (n := n) (d := d) (h := h) c
 by_cases h1 : shortB c = 0
 ·rw [decide_eq_true h1, Bool.true_and]
  repeat (first | (with_reducible refine Wp.join1 (fun _ _ => ?_)) | (with_reducible refine Wp.lett ?_) | ((with_reducible apply Wp.obind); (with_reducible first | exact avInt_int _ _ | exact avBool_bool _)) | ((with_reducible refine Wp.ift ?_ ?_); ((with_reducible apply beq_t); omega)) | ((with_reducible apply Wp.callN); (with_reducible assumption)) | (with_reducible refine Wp.go1 (by assumption) ?_))
  exact Wp.ret ⟨rfl, rfl⟩
 ·rw [decide_eq_false h1, Bool.false_and]
  repeat (first | (with_reducible refine Wp.join1 (fun _ _ => ?_)) | (with_reducible refine Wp.lett ?_) | ((with_reducible apply Wp.obind); (with_reducible exact avInt_int _ _)) | ((with_reducible refine Wp.iff ?_ ?_); ((with_reducible apply beq_f); omega)) | ((with_reducible apply Wp.callN); (with_reducible assumption)) | (with_reducible refine Wp.go1 (by assumption) ?_))
  exact Wp.ret ⟨rfl, rfl⟩
end
theorem Step.ok_of {b p : Nat} {u : Bytes} {h : AHeap} {x : R} {v : AV} (k : Wp x fun r h' => r = .ret v ∧ Rd h' b u p ∧ Tch [b] h h') : Step b u h x (.ok (v, p)) := k.ex
theorem Step.err_of {b q : Nat} {e : Int} {u : Bytes} {h : AHeap} {x : R} (k : Wp x fun r h' => r = .panic (PanA e q) ∧ ∃ p, Rd h' b u p ∧ Tch [b] h h') : Step b u h x (.error (e, q)) := by
 obtain ⟨_, h', e1, rfl, p, k1, k2⟩ := k
 exact ⟨h', p, e1, k1, k2⟩
theorem Wp.stepK {b : Nat} {u : Bytes} {h : AHeap} {x : R} {k : AV → AHeap → R} {Q : ARes → AHeap → Prop} {v : AV} {p : Nat} (hx : Step b u h x (.ok (v, p))) (hk : ∀ h', Rd h' b u p → Tch [b] h h' → Wp (k v h') Q) : Wp (callK x k) Q := by
 obtain ⟨h', e, k1, k2⟩ := hx
 exact Wp.callK e (hk h' k1 k2)
theorem Wp.stepN {b : Nat} {u : Bytes} {h : AHeap} {x : R} {k : AV → AHeap → R} {Q : ARes → AHeap → Prop} {v : AV} {p : Nat} (hx : Step b u h x (.ok (v, p))) (hk : ∀ h', Rd h' b u p → Tch [b] h h' → Wp (k v h') Q) : Wp (callN x k) Q := by
 obtain ⟨h', e, k1, k2⟩ := hx
 exact Wp.callN e (hk h' k1 k2)
theorem Wp.stepE {b q : Nat} {e : Int} {u : Bytes} {h : AHeap} {x : R} {k : AV → AHeap → R} {Q : ARes → AHeap → Prop} (hx : Step b u h x (.error (e, q))) (hk : ∀ h' p, Rd h' b u p → Tch [b] h h' → Q (.panic (PanA e q)) h') : Wp (callK x k) Q := by
 obtain ⟨h', p, e1, k1, k2⟩ := hx
 exact Wp.callP e1 (hk h' p k1 k2)
theorem lt_tch {S : List Nat} {h h' : AHeap} {b : Nat} (t : Tch S h h') (hb : b < h.next) : b < h'.next := Nat.lt_of_lt_of_le hb t.1
theorem or4 {v c : Nat} (h1 : v < 16) (h2 : c < 16) : orI .u8 ((v : Int) * 16) (c : Int) = ((v * 16 + c : Nat) : Int) := by
 show IntKind.u8.wrap (((BitVec.ofInt 8 ((v : Int) * 16)) ||| (BitVec.ofInt 8 (c : Int))).toNat : Int) = _
 have e1 : (BitVec.ofInt 8 ((v : Int) * 16)) = BitVec.ofNat 8 (v * 16) := by
  rw [show ((v : Int) * 16) = ((v * 16 : Nat) : Int) by omega]
  exact BitVec.ofInt_natCast ..
 have e2 : (BitVec.ofInt 8 (c : Int)) = BitVec.ofNat 8 c := BitVec.ofInt_natCast ..
 rw [e1, e2, BitVec.toNat_or, BitVec.toNat_ofNat, BitVec.toNat_ofNat, Nat.mod_eq_of_lt (by omega), Nat.mod_eq_of_lt (by omega)]
 have e3 : v * 16 ||| c = v * 16 + c := by
  have := Nat.shiftLeft_add_eq_or_of_lt (i := 4) (b := c) (by omega) v
  rw [Nat.shiftLeft_eq] at this
  exact this.symm
 rw [e3, wrap_u8_mod, Int.emod_eq_of_lt (by omega) (by omega)]
theorem shl4 {v : Nat} (h1 : v < 16) : shlI .u8 (v : Int) 4 = some ((v : Int) * 16) := by
 have : shlI .u8 (v : Int) 4 = some (IntKind.u8.wrap ((v : Int) * 16)) := rfl
 rw [this, wrap_u8_mod, Int.emod_eq_of_lt (by omega) (by omega)]
theorem mayB_any : ∀ hi : Fin 16, mayB hi.val = (List.range 16).any fun lo => byD (hi.val * 16 + lo) := by decide
section
variable {n d b p : Nat} {h : AHeap} {u : Bytes} {Q : ARes → AHeap → Prop}
theorem mb_loop {hi : Nat} (hh : hi < 16) {k5 : AHeap → R} (hk : k5 = fun h_6 => some (.ret (.bool false), h_6)) : ∀ (f i : Nat), 16 < f + i → i ≤ 16 → (∀ j, j < i → byD (hi * 16 + j) = false) → Wp (pattern_mayBegin_L0 (world n (d + 2)) ((hi : Int) * 16) k5 f (i : Int) h) fun r h' => r = .ret (.bool (mayB hi)) ∧ h' = h
 | 0, i, h1, h2, _ => by omega
 | f + 1, i, h1, h2, hj => by
  rw [pattern_mayBegin_L0_s]
  unfold pattern_mayBegin_L0b
  have ha := mayB_any ⟨hi, hh⟩
  by_cases hi16 : i < 16
  ·have hb := byDigits_w (n := n) (d := d) (h := h) (hi * 16 + i)
   rw [← or4 hh hi16] at hb
   cases hd : byD (hi * 16 + i) with
   | true =>
    rw [hd] at hb
    repeat (first | ((with_reducible refine Wp.lettu8 ?_ ?_ ?_); omega; omega) | (with_reducible refine Wp.lett ?_) | ((with_reducible apply Wp.obind); (with_reducible exact avBool_bool _)) | ((with_reducible refine Wp.ift ?_ ?_); first | (with_reducible rfl) | ((with_reducible apply decide_eq_true); omega)) | ((with_reducible apply Wp.callN); (with_reducible assumption)))
    have : mayB hi = true := by
     show mayB (⟨hi, hh⟩ : Fin 16).val = true
     rw [ha, List.any_eq_true]
     exact ⟨i, List.mem_range.2 hi16, hd⟩
    rw [this]
    exact Wp.ret ⟨rfl, rfl⟩
   | false =>
    rw [hd] at hb
    repeat (first | ((with_reducible first | refine Wp.lettw ?_ ?_ ?_ | refine Wp.lettu8 ?_ ?_ ?_); omega; omega) | (with_reducible refine Wp.lett ?_) | ((with_reducible apply Wp.obind); (with_reducible exact avBool_bool _)) | ((with_reducible refine Wp.ift ?_ ?_); ((with_reducible apply decide_eq_true); omega)) | ((with_reducible refine Wp.iff ?_ ?_); (with_reducible rfl)) | ((with_reducible apply Wp.callN); (with_reducible assumption)))
    rw [show (i : Int) + 1 = ((i + 1 : Nat) : Int) by omega]
    refine mb_loop hh hk f (i + 1) (by omega) (by omega) fun j hj2 => ?_
    by_cases hji : j < i
    ·exact hj j hji
    ·have : j = i := by omega
     rw [this]
     exact hd
  ·repeat (first | (with_reducible refine Wp.lett ?_) | ((with_reducible refine Wp.iff ?_ ?_); ((with_reducible apply decide_eq_false); omega)) | (with_reducible refine Wp.go0 (by assumption) ?_))
   have : mayB hi = false := by
    show mayB (⟨hi, hh⟩ : Fin 16).val = false
    rw [ha, List.any_eq_false]
    intro j hjm
    rw [hj j (by have := List.mem_range.1 hjm; omega)]
    simp
   rw [this]
   exact Wp.ret ⟨rfl, rfl⟩
theorem mayBegin_w (hn : 16 < n) {hi : Nat} (hh : hi < 16) : world n (d + 3) 69 [.int .u8 ((hi : Int) * 16)] h = some (.ret (.bool (mayB hi)), h) := by
 rw [w_pattern_mayBegin]
 refine (congrArg (gcR h) ?_).trans gcR_self
 apply Wp.eq
 unfold pattern_mayBegin
 repeat ((with_reducible refine Wp.join0 (fun _ _ => ?_)))
 rename_i k5 hk5
 exact mb_loop hh hk5 n 0 (by omega) (by omega) (fun j hj => absurd hj (by omega))
theorem digit_r (k : Rd h b u p) (hb : b < h.next) (hp : p ≤ u.length) (hu : u.length ≤ 1000000) : Step b u h (world n (d + 3) 68 [.ptr b 0] h) (match (at? u p).bind hexV with
  | some v => .ok (.int .u8 (v : Int), p + 1)
  | none => .error (6, p)) := by
 have hnx := next_r (n := n) (d := d) k hb hp hu
 cases ha : at? u p with
 | none =>
  rw [ha] at hnx
  refine Step.err_of ?_
  rw [w_pattern_reader_digit]
  unfold pattern_reader_digit
  exact Wp.stepE hnx fun h' p' k1 k2 => ⟨rfl, p', k1, k2⟩
 | some c =>
  rw [ha] at hnx
  obtain ⟨hpl, hpc⟩ := at?_some ha
  have hc := (u[p]).toNat_lt
  have hib : ∀ H, world n (d + 2) 71 [strA digitsB, .int .u8 (c : Int)] H = some (.ret (.int .i64 (ibV c)), H) := fun H => (w_ibF n (d + 1) _ H).trans (ibF_eq (by omega) H)
  show Step b u h _ (match hexV c with | some v => _ | none => _)
  cases hv : hexV c with
  | none =>
   have hi : ibV c = -1 := by unfold ibV; rw [hv]
   refine Step.err_of ?_
   rw [w_pattern_reader_digit]
   unfold pattern_reader_digit
   refine Wp.stepK hnx fun h' k1 k2 => ?_
   have hr := refuseLast_r (n := n) (d := d) k1 (by omega) hu
   have hib' := hib h'
   rw [hi] at hib'
   repeat (first | (with_reducible refine Wp.join0 (fun _ _ => ?_)) | (with_reducible refine Wp.lett ?_) | ((with_reducible apply Wp.obind); (with_reducible exact avInt_int _ _)) | ((with_reducible refine Wp.ift ?_ ?_); ((with_reducible apply decide_eq_true); omega)) | ((with_reducible first | apply Wp.callN | apply Wp.callK); (with_reducible assumption)))
   exact Wp.callP hr ⟨rfl, _, k1, k2⟩
  | some v =>
   have hv16 := hexV_lt hv
   have hi : ibV c = (v : Int) := by unfold ibV; rw [hv]
   refine Step.ok_of ?_
   rw [w_pattern_reader_digit]
   unfold pattern_reader_digit
   refine Wp.stepK hnx fun h' k1 k2 => ?_
   have hib' := hib h'
   rw [hi] at hib'
   repeat (first | (with_reducible refine Wp.join0 (fun _ _ => ?_)) | ((with_reducible refine Wp.lettu8 ?_ ?_ ?_); omega; omega) | (with_reducible refine Wp.lett ?_) | ((with_reducible apply Wp.obind); (with_reducible exact avInt_int _ _)) | ((with_reducible refine Wp.iff ?_ ?_); ((with_reducible apply decide_eq_false); omega)) | ((with_reducible apply Wp.callN); (with_reducible assumption)) | (with_reducible refine Wp.go0 (by assumption) ?_))
   exact Wp.ret ⟨rfl, k1, k2⟩
def stepF : FR → Except (Int × Nat) (AV × Nat)
 | .ok c q => .ok (.int .u8 (c : Int), q)
 | .bad q => .error (6, q)
theorem two_r (k : Rd h b u p) (hb : b < h.next) (hp : p ≤ u.length) (hu : u.length ≤ 1000000) (hn : 16 < n) : Step b u h (world n (d + 4) 66 [.ptr b 0] h) (stepF (hexAt u p)) := by
 have h1 := digit_r (n := n) (d := d) k hb hp hu
 unfold hexAt
 cases ha : (at? u p).bind hexV with
 | none =>
  rw [ha] at h1
  dsimp only
  refine Step.err_of ?_
  rw [w_pattern_reader_twoDigits]
  unfold pattern_reader_twoDigits
  exact Wp.stepE h1 fun h' p' k1 k2 => ⟨rfl, p', k1, k2⟩
 | some hi =>
  rw [ha] at h1
  dsimp only
  obtain ⟨c, hc0, hc⟩ := Option.bind_eq_some_iff.1 ha
  obtain ⟨hpl, _⟩ := at?_some hc0
  have hh := (hexV_lt hc).1
  have hmb : ∀ H, world n (d + 3) 69 [.int .u8 ((hi : Int) * 16)] H = some (.ret (.bool (mayB hi)), H) := fun H => mayBegin_w hn hh
  by_cases hm : mayB hi = false
  ·rw [if_pos hm]
   refine Step.err_of ?_
   rw [w_pattern_reader_twoDigits]
   unfold pattern_reader_twoDigits
   refine Wp.stepK h1 fun h' k1 k2 => ?_
   have hmb' := hmb h'
   rw [hm] at hmb'
   have hr := refuseLast_r (n := n) (d := d + 1) k1 (by omega) hu
   repeat (first | (with_reducible refine Wp.join0 (fun _ _ => ?_)) | (with_reducible refine Wp.lett ?_) | ((with_reducible apply Wp.obind); (with_reducible first | exact shl4 hh | exact avInt_int _ _ | exact avBool_bool _)) | ((with_reducible refine Wp.ift ?_ ?_); (with_reducible exact Bool.not_false)) | ((with_reducible first | apply Wp.callN | apply Wp.callK); (with_reducible assumption)))
   exact Wp.callP hr ⟨rfl, _, k1, k2⟩
  ·rw [if_neg hm]
   have hm : mayB hi = true := by simpa using hm
   cases hb2 : (at? u (p + 1)).bind hexV with
   | none =>
    dsimp only
    refine Step.err_of ?_
    rw [w_pattern_reader_twoDigits]
    unfold pattern_reader_twoDigits
    refine Wp.stepK h1 fun h' k1 k2 => ?_
    have hmb' := hmb h'
    rw [hm] at hmb'
    have h2 := digit_r (n := n) (d := d) k1 (lt_tch k2 hb) (by omega) hu
    rw [hb2] at h2
    repeat (first | (with_reducible refine Wp.join0 (fun _ _ => ?_)) | (with_reducible refine Wp.lett ?_) | ((with_reducible apply Wp.obind); (with_reducible first | exact shl4 hh | exact avInt_int _ _ | exact avBool_bool _)) | ((with_reducible refine Wp.iff ?_ ?_); (with_reducible exact Bool.not_true)) | ((with_reducible first | apply Wp.callN | apply Wp.callK); (with_reducible assumption)) | (with_reducible refine Wp.go0 (by assumption) ?_))
    exact Wp.stepE h2 fun h'' p' k3 k4 => ⟨rfl, p', k3, k2.trans k4⟩
   | some lo =>
    dsimp only
    obtain ⟨c2, hc20, hc2⟩ := Option.bind_eq_some_iff.1 hb2
    obtain ⟨hpl2, _⟩ := at?_some hc20
    have hl := (hexV_lt hc2).1
    have hbd : ∀ H, world n (d + 3) 70 [.int .u8 (orI .u8 ((hi : Int) * 16) (lo : Int))] H = some (.ret (.bool (byD (hi * 16 + lo))), H) := fun H => by
     rw [or4 hh hl]
     exact byDigits_w (n := n) (d := d + 1) (h := H) _
    by_cases hd : byD (hi * 16 + lo) = true
    ·rw [if_pos hd]
     refine Step.ok_of ?_
     rw [w_pattern_reader_twoDigits]
     unfold pattern_reader_twoDigits
     refine Wp.stepK h1 fun h' k1 k2 => ?_
     have hmb' := hmb h'
     rw [hm] at hmb'
     have h2 := digit_r (n := n) (d := d) k1 (lt_tch k2 hb) (by omega) hu
     rw [hb2] at h2
     repeat (first | (with_reducible refine Wp.join0 (fun _ _ => ?_)) | (with_reducible refine Wp.lett ?_) | ((with_reducible apply Wp.obind); (with_reducible first | exact shl4 hh | exact avInt_int _ _ | exact avBool_bool _)) | ((with_reducible refine Wp.iff ?_ ?_); (with_reducible exact Bool.not_true)) | ((with_reducible first | apply Wp.callN | apply Wp.callK); (with_reducible assumption)) | (with_reducible refine Wp.go0 (by assumption) ?_))
     refine Wp.stepK h2 fun h'' k3 k4 => ?_
     have hbd' := hbd h''
     rw [hd] at hbd'
     repeat (first | (with_reducible refine Wp.join0 (fun _ _ => ?_)) | (with_reducible refine Wp.lett ?_) | ((with_reducible apply Wp.obind); (with_reducible first | exact avInt_int _ _ | exact avBool_bool _)) | ((with_reducible refine Wp.iff ?_ ?_); (with_reducible exact Bool.not_true)) | ((with_reducible apply Wp.callN); (with_reducible assumption)) | (with_reducible refine Wp.go0 (by assumption) ?_))
     rw [or4 hh hl]
     exact Wp.ret ⟨rfl, k3, k2.trans k4⟩
    ·rw [if_neg hd]
     have hd : byD (hi * 16 + lo) = false := by simpa using hd
     refine Step.err_of ?_
     rw [w_pattern_reader_twoDigits]
     unfold pattern_reader_twoDigits
     refine Wp.stepK h1 fun h' k1 k2 => ?_
     have hmb' := hmb h'
     rw [hm] at hmb'
     have h2 := digit_r (n := n) (d := d) k1 (lt_tch k2 hb) (by omega) hu
     rw [hb2] at h2
     repeat (first | (with_reducible refine Wp.join0 (fun _ _ => ?_)) | (with_reducible refine Wp.lett ?_) | ((with_reducible apply Wp.obind); (with_reducible first | exact shl4 hh | exact avInt_int _ _ | exact avBool_bool _)) | ((with_reducible refine Wp.iff ?_ ?_); (with_reducible exact Bool.not_true)) | ((with_reducible first | apply Wp.callN | apply Wp.callK); (with_reducible assumption)) | (with_reducible refine Wp.go0 (by assumption) ?_))
     refine Wp.stepK h2 fun h'' k3 k4 => ?_
     have hbd' := hbd h''
     rw [hd] at hbd'
     have hr := refuseLast_r (n := n) (d := d + 1) k3 (by omega) hu
     repeat (first | (with_reducible refine Wp.join0 (fun _ _ => ?_)) | (with_reducible refine Wp.lett ?_) | ((with_reducible apply Wp.obind); (with_reducible first | exact avInt_int _ _ | exact avBool_bool _)) | ((with_reducible refine Wp.ift ?_ ?_); (with_reducible exact Bool.not_false)) | ((with_reducible first | apply Wp.callN | apply Wp.callK); (with_reducible assumption)))
     exact Wp.callP hr ⟨rfl, _, k3, k2.trans k4⟩
theorem form_r (k : Rd h b u p) (hb : b < h.next) (hp : p ≤ u.length) (hu : u.length ≤ 1000000) (hn : 16 < n) (hq : at? u p ≠ some 34) : Step b u h (world n (d + 5) 62 [.ptr b 0] h) (stepF (formAt u p)) := by
 have h1 := next_r (n := n) (d := d + 2) k hb hp hu
 unfold formAt
 cases ha : at? u p with
 | none =>
  rw [ha] at h1
  dsimp only
  refine Step.err_of ?_
  rw [w_pattern_reader_form]
  unfold pattern_reader_form
  exact Wp.stepE h1 fun h' p' k1 k2 => ⟨rfl, p', k1, k2⟩
 | some a =>
  rw [ha] at h1
  dsimp only
  obtain ⟨hpl, hpa⟩ := at?_some ha
  have ha34 : a ≠ 34 := fun e => hq (by rw [ha, e])
  have hp1 : ∀ H, world n (d + 4) 36 [.int .u8 (a : Int)] H = some (.ret (.bool (plainB a)), H) := fun H => plain_w a
  by_cases h92 : a = 92
  case neg =>
   rw [if_neg h92]
   by_cases hpb : plainB a = true
   ·rw [if_pos ⟨hpb, ha34⟩]
    refine Step.ok_of ?_
    rw [w_pattern_reader_form]
    unfold pattern_reader_form
    refine Wp.stepK h1 fun h' k1 k2 => ?_
    have hp2 := hp1 h'
    rw [hpb] at hp2
    repeat (first | (with_reducible refine Wp.join0 (fun _ _ => ?_)) | (with_reducible refine Wp.lett ?_) | ((with_reducible apply Wp.obind); (with_reducible first | exact avInt_int _ _ | exact avBool_bool _)) | ((with_reducible refine Wp.ift ?_ ?_); ((with_reducible apply bne_t); omega)) | ((with_reducible refine Wp.iff ?_ ?_); (with_reducible exact Bool.not_true)) | ((with_reducible apply Wp.callN); (with_reducible assumption)) | (with_reducible refine Wp.go0 (by assumption) ?_))
    exact Wp.ret ⟨rfl, k1, k2⟩
   ·rw [if_neg (fun hh => hpb hh.1)]
    have hpb : plainB a = false := by simpa using hpb
    refine Step.err_of ?_
    rw [w_pattern_reader_form]
    unfold pattern_reader_form
    refine Wp.stepK h1 fun h' k1 k2 => ?_
    have hp2 := hp1 h'
    rw [hpb] at hp2
    have hr := refuseLast_r (n := n) (d := d + 2) k1 (by omega) hu
    repeat (first | (with_reducible refine Wp.join0 (fun _ _ => ?_)) | (with_reducible refine Wp.lett ?_) | ((with_reducible apply Wp.obind); (with_reducible first | exact avInt_int _ _ | exact avBool_bool _)) | ((with_reducible refine Wp.ift ?_ ?_); first | (with_reducible exact Bool.not_false) | ((with_reducible apply bne_t); omega)) | ((with_reducible first | apply Wp.callN | apply Wp.callK); (with_reducible assumption)))
    exact Wp.callP hr ⟨rfl, _, k1, k2⟩
  case pos =>
   rw [if_pos h92]
   unfold escAt
   cases hd : at? u (p + 1) with
   | none =>
    dsimp only
    refine Step.err_of ?_
    rw [w_pattern_reader_form]
    unfold pattern_reader_form
    refine Wp.stepK h1 fun h' k1 k2 => ?_
    have h2 := next_r (n := n) (d := d + 2) k1 (lt_tch k2 hb) (by omega) hu
    rw [hd] at h2
    repeat (first | (with_reducible refine Wp.lett ?_) | ((with_reducible apply Wp.obind); (with_reducible exact avInt_int _ _)) | ((with_reducible refine Wp.iff ?_ ?_); ((with_reducible apply bne_f); omega)))
    exact Wp.stepE h2 fun h'' p' k3 k4 => ⟨rfl, p', k3, k2.trans k4⟩
   | some c =>
    dsimp only
    obtain ⟨hpl2, hpc⟩ := at?_some hd
    by_cases c1 : c = 34
    ·rw [if_pos (.inl c1)]
     refine Step.ok_of ?_
     rw [w_pattern_reader_form]
     unfold pattern_reader_form
     refine Wp.stepK h1 fun h' k1 k2 => ?_
     have h2 := next_r (n := n) (d := d + 2) k1 (lt_tch k2 hb) (by omega) hu
     rw [hd] at h2
     repeat (first | (with_reducible refine Wp.lett ?_) | ((with_reducible apply Wp.obind); (with_reducible exact avInt_int _ _)) | ((with_reducible refine Wp.iff ?_ ?_); ((with_reducible apply bne_f); omega)))
     refine Wp.stepK h2 fun h'' k3 k4 => ?_
     repeat (first | (with_reducible refine Wp.join1 (fun _ _ => ?_)) | (with_reducible refine Wp.lett ?_) | ((with_reducible apply Wp.obind); (with_reducible exact avInt_int _ _)) | ((with_reducible refine Wp.ift ?_ ?_); first | (with_reducible rfl) | ((with_reducible apply beq_t); omega)) | (with_reducible refine Wp.go1 (by assumption) ?_))
     exact Wp.ret ⟨rfl, k3, k2.trans k4⟩
    by_cases c2 : c = 92
    ·rw [if_pos (.inr c2)]
     have q92 : ((c : Int) == 92) = true := beq_t (by omega)
     refine Step.ok_of ?_
     rw [w_pattern_reader_form]
     unfold pattern_reader_form
     refine Wp.stepK h1 fun h' k1 k2 => ?_
     have h2 := next_r (n := n) (d := d + 2) k1 (lt_tch k2 hb) (by omega) hu
     rw [hd] at h2
     repeat (first | (with_reducible refine Wp.lett ?_) | ((with_reducible apply Wp.obind); (with_reducible exact avInt_int _ _)) | ((with_reducible refine Wp.iff ?_ ?_); ((with_reducible apply bne_f); omega)))
     refine Wp.stepK h2 fun h'' k3 k4 => ?_
     repeat (first | (with_reducible refine Wp.join1 (fun _ _ => ?_)) | (with_reducible refine Wp.lett ?_) | ((with_reducible apply Wp.obind); (with_reducible exact avInt_int _ _)) | ((with_reducible refine Wp.ift ?_ ?_); (with_reducible assumption)) | ((with_reducible refine Wp.iff ?_ ?_); ((with_reducible apply beq_f); omega)) | (with_reducible refine Wp.go1 (by assumption) ?_))
     exact Wp.ret ⟨rfl, k3, k2.trans k4⟩
    have q92 : ((c : Int) == 92) = false := beq_f (by omega)
    rw [if_neg (by omega)]
    by_cases c3 : c = 110
    ·rw [if_pos c3]
     refine Step.ok_of ?_
     rw [w_pattern_reader_form]
     unfold pattern_reader_form
     refine Wp.stepK h1 fun h' k1 k2 => ?_
     have h2 := next_r (n := n) (d := d + 2) k1 (lt_tch k2 hb) (by omega) hu
     rw [hd] at h2
     repeat (first | (with_reducible refine Wp.lett ?_) | ((with_reducible apply Wp.obind); (with_reducible exact avInt_int _ _)) | ((with_reducible refine Wp.iff ?_ ?_); ((with_reducible apply bne_f); omega)))
     refine Wp.stepK h2 fun h'' k3 k4 => ?_
     repeat (first | (with_reducible refine Wp.join1 (fun _ _ => ?_)) | (with_reducible refine Wp.lett ?_) | ((with_reducible apply Wp.obind); (with_reducible exact avInt_int _ _)) | ((with_reducible refine Wp.ift ?_ ?_); ((with_reducible apply beq_t); omega)) | ((with_reducible refine Wp.iff ?_ ?_); first | (with_reducible assumption) | ((with_reducible apply beq_f); omega)) | (with_reducible refine Wp.go1 (by assumption) ?_))
     exact Wp.ret ⟨rfl, k3, k2.trans k4⟩
    rw [if_neg c3]
    by_cases c4 : c = 114
    ·rw [if_pos c4]
     refine Step.ok_of ?_
     rw [w_pattern_reader_form]
     unfold pattern_reader_form
     refine Wp.stepK h1 fun h' k1 k2 => ?_
     have h2 := next_r (n := n) (d := d + 2) k1 (lt_tch k2 hb) (by omega) hu
     rw [hd] at h2
     repeat (first | (with_reducible refine Wp.lett ?_) | ((with_reducible apply Wp.obind); (with_reducible exact avInt_int _ _)) | ((with_reducible refine Wp.iff ?_ ?_); ((with_reducible apply bne_f); omega)))
     refine Wp.stepK h2 fun h'' k3 k4 => ?_
     repeat (first | (with_reducible refine Wp.join1 (fun _ _ => ?_)) | (with_reducible refine Wp.lett ?_) | ((with_reducible apply Wp.obind); (with_reducible exact avInt_int _ _)) | ((with_reducible refine Wp.ift ?_ ?_); ((with_reducible apply beq_t); omega)) | ((with_reducible refine Wp.iff ?_ ?_); first | (with_reducible assumption) | ((with_reducible apply beq_f); omega)) | (with_reducible refine Wp.go1 (by assumption) ?_))
     exact Wp.ret ⟨rfl, k3, k2.trans k4⟩
    rw [if_neg c4]
    by_cases c5 : c = 116
    ·rw [if_pos c5]
     refine Step.ok_of ?_
     rw [w_pattern_reader_form]
     unfold pattern_reader_form
     refine Wp.stepK h1 fun h' k1 k2 => ?_
     have h2 := next_r (n := n) (d := d + 2) k1 (lt_tch k2 hb) (by omega) hu
     rw [hd] at h2
     repeat (first | (with_reducible refine Wp.lett ?_) | ((with_reducible apply Wp.obind); (with_reducible exact avInt_int _ _)) | ((with_reducible refine Wp.iff ?_ ?_); ((with_reducible apply bne_f); omega)))
     refine Wp.stepK h2 fun h'' k3 k4 => ?_
     repeat (first | (with_reducible refine Wp.join1 (fun _ _ => ?_)) | (with_reducible refine Wp.lett ?_) | ((with_reducible apply Wp.obind); (with_reducible exact avInt_int _ _)) | ((with_reducible refine Wp.ift ?_ ?_); ((with_reducible apply beq_t); omega)) | ((with_reducible refine Wp.iff ?_ ?_); first | (with_reducible assumption) | ((with_reducible apply beq_f); omega)) | (with_reducible refine Wp.go1 (by assumption) ?_))
     exact Wp.ret ⟨rfl, k3, k2.trans k4⟩
    rw [if_neg c5]
    by_cases c6 : c = 120
    ·rw [if_pos c6]
     have h3 : ∀ H, Rd H b u (p + 1 + 1) → b < H.next → Step b u H (world n (d + 4) 66 [.ptr b 0] H) (stepF (hexAt u (p + 1 + 1))) := fun H k3 hb3 => two_r k3 hb3 (by omega) hu hn
     cases hx : hexAt u (p + 1 + 1) with
     | ok v q =>
      rw [hx] at h3
      refine Step.ok_of ?_
      rw [w_pattern_reader_form]
      unfold pattern_reader_form
      refine Wp.stepK h1 fun h' k1 k2 => ?_
      have h2 := next_r (n := n) (d := d + 2) k1 (lt_tch k2 hb) (by omega) hu
      rw [hd] at h2
      repeat (first | (with_reducible refine Wp.lett ?_) | ((with_reducible apply Wp.obind); (with_reducible exact avInt_int _ _)) | ((with_reducible refine Wp.iff ?_ ?_); ((with_reducible apply bne_f); omega)))
      refine Wp.stepK h2 fun h'' k3 k4 => ?_
      have h3' := h3 h'' k3 (lt_tch k4 (lt_tch k2 hb))
      repeat (first | (with_reducible refine Wp.join1 (fun _ _ => ?_)) | (with_reducible refine Wp.lett ?_) | ((with_reducible apply Wp.obind); (with_reducible exact avInt_int _ _)) | ((with_reducible refine Wp.ift ?_ ?_); ((with_reducible apply beq_t); omega)) | ((with_reducible refine Wp.iff ?_ ?_); first | (with_reducible assumption) | ((with_reducible apply beq_f); omega)) | (with_reducible refine Wp.go1 (by assumption) ?_))
      refine Wp.stepK h3' fun h''' k5 k6 => ?_
      repeat (((with_reducible apply Wp.obind); (with_reducible exact avInt_int _ _)))
      exact Wp.ret ⟨rfl, k5, (k2.trans k4).trans k6⟩
     | bad q =>
      rw [hx] at h3
      refine Step.err_of ?_
      rw [w_pattern_reader_form]
      unfold pattern_reader_form
      refine Wp.stepK h1 fun h' k1 k2 => ?_
      have h2 := next_r (n := n) (d := d + 2) k1 (lt_tch k2 hb) (by omega) hu
      rw [hd] at h2
      repeat (first | (with_reducible refine Wp.lett ?_) | ((with_reducible apply Wp.obind); (with_reducible exact avInt_int _ _)) | ((with_reducible refine Wp.iff ?_ ?_); ((with_reducible apply bne_f); omega)))
      refine Wp.stepK h2 fun h'' k3 k4 => ?_
      have h3' := h3 h'' k3 (lt_tch k4 (lt_tch k2 hb))
      repeat (first | (with_reducible refine Wp.join1 (fun _ _ => ?_)) | (with_reducible refine Wp.lett ?_) | ((with_reducible apply Wp.obind); (with_reducible exact avInt_int _ _)) | ((with_reducible refine Wp.ift ?_ ?_); ((with_reducible apply beq_t); omega)) | ((with_reducible refine Wp.iff ?_ ?_); first | (with_reducible assumption) | ((with_reducible apply beq_f); omega)) | (with_reducible refine Wp.go1 (by assumption) ?_))
      exact Wp.stepE h3' fun h''' p' k5 k6 => ⟨rfl, p', k5, (k2.trans k4).trans k6⟩
    rw [if_neg c6]
    refine Step.err_of ?_
    rw [w_pattern_reader_form]
    unfold pattern_reader_form
    refine Wp.stepK h1 fun h' k1 k2 => ?_
    have h2 := next_r (n := n) (d := d + 2) k1 (lt_tch k2 hb) (by omega) hu
    rw [hd] at h2
    repeat (first | (with_reducible refine Wp.lett ?_) | ((with_reducible apply Wp.obind); (with_reducible exact avInt_int _ _)) | ((with_reducible refine Wp.iff ?_ ?_); ((with_reducible apply bne_f); omega)))
    refine Wp.stepK h2 fun h'' k3 k4 => ?_
    have hr := refuseLast_r (n := n) (d := d + 2) k3 (by omega) hu
    repeat (first | (with_reducible refine Wp.join1 (fun _ _ => ?_)) | (with_reducible refine Wp.lett ?_) | ((with_reducible apply Wp.obind); (with_reducible exact avInt_int _ _)) | ((with_reducible refine Wp.iff ?_ ?_); first | (with_reducible assumption) | ((with_reducible apply beq_f); omega)) | (with_reducible refine Wp.go1 (by assumption) ?_))
    exact Wp.callP hr ⟨rfl, _, k3, k2.trans k4⟩
end
abbrev TBld : Nat := 52
abbrev TU8 : Nat := 5
abbrev BldW (h : AHeap) (b c : Nat) (l : Bytes) : Prop := BldR TBld TU8 h b c l
theorem eql_nil_nil (h : AHeap) : opBin Tryd.prog h .eql 49 true (some .nilp) (some .nilp) = some (.val (.bool true), h) := by kernel_rfl
theorem eql_ptr_nil (h : AHeap) (b : Nat) : opBin Tryd.prog h .eql 49 true (some (.ptr b 0)) (some .nilp) = some (.val (.bool false), h) := by kernel_rfl
theorem noEscape_ptr (h : AHeap) (b : Nat) : externA Tryd.prog h 45 [.ptr b 0] = some (.val (.ptr b 0), h) := by kernel_rfl
theorem binV_same (P : Program) (h : AHeap) (op : BinOp) (t : TypeId) (lit : Bool) (b o o' : Nat) : opBinV P h op t lit (some (.ptr b o)) (some (.ptr b o')) = opBin P h op t lit (some (.ptr b o)) (some (.ptr b o')) := by
 have hb : Nat.beq b b = true := Nat.beq_refl b
 simp only [opBinV, apartPtr, hb, Bool.not_true, Bool.false_and, Bool.and_false]
theorem conv_there {h : AHeap} {b : Nat} {t : T AV} (hb : h.get b = some (.row 2 t TBld)) : opConv Tryd.prog h 49 74 (some (.ptr b 0)) = some (.val (.ptr b 0), h) :=
 conv_unsafe (k := 1) (by kernel_rfl) (by kernel_rfl) hb
theorem conv_back {h : AHeap} {b : Nat} {t : T AV} (hb : h.get b = some (.row 2 t TBld)) (hx : memB TBld h.ex = true) : opConv Tryd.prog h 74 49 (some (.ptr b 0)) = some (.val (.ptr b 0), h) :=
 conv_safe (u := TBld) (by kernel_rfl) (by kernel_rfl) hb hx (by kernel_rfl)
theorem neq_same (h : AHeap) (b : Nat) : opBin Tryd.prog h .neq 49 false (some (.ptr b 0)) (some (.ptr b 0)) = some (.val (.bool false), h) :=
 neq_self (u := TBld) (by kernel_rfl)
theorem bldSl_byte (h : AHeap) (v : Int) : bldSl Tryd.prog h 50 1 [(0, .int .u8 v)] = outNewS h TU8 [.int .u8 v] 1 1 := by kernel_rfl
theorem out_news {h : AHeap} {e : TypeId} {l : List AV} {n sz : Nat} (h1 : l.all AV.one = true) (hex : memB e h.ex = false) : outNewS h e l n sz = some (.val (.sl h.next 0 n sz), newH h e l) := by
 unfold outNewS
 rw [if_pos ⟨h1, hex⟩]
 rfl
section
variable {n d b c : Nat} {h : AHeap} {l : Bytes} {Q : ARes → AHeap → Prop}
theorem copyCheck_r (k : BldW h b c l) (hx : memB TBld h.ex = true) : ∃ h', world n (d + 1) 34 [.ptr b 0] h = some (.ret (.tup []), h') ∧ BldW h' b c l ∧ Tch [b] h h' := by
 obtain ⟨a, buf, k1, k2, k3, k4⟩ := k
 apply Wp.ex
 rw [w_strings_Builder_copyCheck]
 unfold strings_Builder_copyCheck
 repeat (((with_reducible apply Wp.obind); first | (with_reducible first | exact nilC_ptr _ _ | exact fldP_ptr _ _ _) | ((with_reducible apply RowH.cell'); (with_reducible assumption); rfl)))
 rcases k3 with rfl | rfl
 ·refine Wp.outK (eql_nil_nil h) ?_
  repeat (first | (with_reducible refine Wp.join0 (fun _ _ => ?_)) | ((with_reducible apply Wp.obind); (with_reducible exact avBool_bool _)) | ((with_reducible refine Wp.ift ?_ ?_); (with_reducible rfl)))
  have k1' := k1
  obtain ⟨t, g1, _⟩ := k1'
  refine Wp.outK (conv_there g1) ?_
  refine Wp.outK (noEscape_ptr h b) ?_
  refine Wp.outK (conv_back g1 hx) ?_
  repeat (((with_reducible apply Wp.obind); (with_reducible first | exact nilC_ptr _ _ | exact fldP_ptr _ _ _)))
  refine Wp.st1 k1 (by simp) rfl (fun h' q1 q2 q3 => ?_)
  repeat ((with_reducible refine Wp.go0 (by assumption) ?_))
  exact Wp.ret ⟨rfl, ⟨_, buf, q1, by omega, .inr rfl, k4.tch q2 (fun hc => by simpa using hc)⟩, q2⟩
 ·refine Wp.outK (eql_ptr_nil h b) ?_
  repeat (first | (with_reducible refine Wp.join0 (fun _ _ => ?_)) | ((with_reducible apply Wp.obind); first | (with_reducible first | exact avBool_bool _ | exact nilC_ptr _ _ | exact fldP_ptr _ _ _) | ((with_reducible apply RowH.cell'); (with_reducible assumption); rfl)) | ((with_reducible refine Wp.iff ?_ ?_); (with_reducible rfl)))
  refine Wp.outK ((binV_same _ _ _ _ _ _ _ _).trans (neq_same h b)) ?_
  repeat (first | ((with_reducible apply Wp.obind); (with_reducible exact avBool_bool _)) | ((with_reducible refine Wp.iff ?_ ?_); (with_reducible rfl)) | (with_reducible refine Wp.go0 (by assumption) ?_))
  exact Wp.ret ⟨rfl, ⟨_, buf, k1, k2, .inr rfl, k4⟩, Tch.refl _ _⟩
theorem writeByte_r (k : BldW h b c l) (hx : memB TBld h.ex = true) (hu : memB TU8 h.ex = false) {y : Nat} (hy : y < 256) (hbig : l.length + 1 ≤ 1000000000) :
  ∃ c' h', world n (d + 2) 23 [.ptr b 0, .int .u8 (y : Int)] h = some (.ret .nifc, h') ∧ BldW h' b c' (l ++ [UInt8.ofNat y]) ∧ (c' = c ∨ h.next ≤ c') ∧ Tch [b, c] h h' := by
 obtain ⟨h1, e1, q1, t1⟩ := copyCheck_r (n := n) (d := d) k hx
 suffices hK : Wp (world n (d + 2) 23 [.ptr b 0, .int .u8 (y : Int)] h) fun r h' => ∃ c', r = .ret .nifc ∧ BldW h' b c' (l ++ [UInt8.ofNat y]) ∧ (c' = c ∨ h.next ≤ c') ∧ Tch [b, c] h h' by
  obtain ⟨_, h', e, c', rfl, q⟩ := hK
  exact ⟨c', h', e, q⟩
 rw [w_strings_Builder_WriteByte]
 unfold strings_Builder_WriteByte
 refine Wp.callN e1 ?_
 have hlt := q1.lt
 obtain ⟨a, buf, k1, k2, k3, k4⟩ := q1
 repeat (((with_reducible apply Wp.obind); first | (with_reducible first | exact nilC_ptr _ _ | exact fldP_ptr _ _ _) | ((with_reducible apply RowH.cell'); (with_reducible assumption); rfl)))
 refine Wp.outK ((bldSl_byte _ _).trans (out_news rfl (by rw [t1.2.1]; exact hu))) ?_
 have tN : Tch [] h1 (newH h1 TU8 [.int .u8 (y : Int)]) := Tch.newH _ _ _ _
 have kN := RowH.new h1 TU8 [.int .u8 (y : Int)]
 have nN := next_newH h1 TU8 [.int .u8 (y : Int)]
 have hyb : bytesC [UInt8.ofNat y] = [.int .u8 (y : Int)] := by
  show [AV.int .u8 ((UInt8.ofNat y).toNat : Int)] = _
  rw [UInt8.toNat_ofNat']
  rw [Nat.mod_eq_of_lt (by omega)]
 obtain ⟨buf', c', h2, a1, a2, a3, a4, a5⟩ := (k4.tch tN (by simp)).append1 (P := Tryd.prog) (t := 50) (u := 50) (x := .sl h1.next 0 1 1) (by omega) (UInt8.ofNat y) (by kernel_rfl) (by kernel_rfl) (by kernel_rfl) (by kernel_rfl) (by rw [tN.2.1, t1.2.1]; exact hu) rfl (by rw [hyb]; exact first_one kN rfl) hbig
 refine Wp.outK a1 ?_
 have k2' : RowH h2 b TBld [a, buf] := (k1.tch tN k2 (by simp)).same a5
 obtain ⟨o1, o2, _⟩ := a2.one
 rw [o2]
 repeat (((with_reducible apply Wp.obind); (with_reducible first | exact nilC_ptr _ _ | exact fldP_ptr _ _ _)))
 refine Wp.st1 k2' (by simp) o1 (fun h3 r1 r2 r3 => ?_)
 have n1 := t1.1
 have n2 := a4.1
 refine Wp.ret ⟨c', rfl, ⟨a, buf', r1, by omega, k3, a2.tch r2 (fun hc => by simpa using hc)⟩, by omega, ?_⟩
 exact (t1.mono (by simp)).trans ((tN.mono (by simp)).trans ((a4.mono (by simp)).trans (r2.mono (by simp))))
theorem len_r (k : BldW h b c l) : world n (d + 1) 60 [.ptr b 0] h = some (.ret (.int .i64 (l.length : Int)), h) := by
 obtain ⟨a, buf, k1, k2, k3, k4⟩ := k
 apply Wp.eq
 rw [w_strings_Builder_Len]
 unfold strings_Builder_Len
 repeat (((with_reducible apply Wp.obind); first | (with_reducible first | exact k4.one.2.2 | exact nilC_ptr _ _ | exact fldP_ptr _ _ _) | ((with_reducible apply RowH.cell'); (with_reducible assumption); rfl)))
 exact Wp.ret ⟨rfl, rfl⟩
theorem string_r (k : BldW h b c l) (hbig : l.length ≤ 1000000000) : ∃ h', world n (d + 1) 25 [.ptr b 0] h = some (.ret (strA l), h') ∧ Tch [b, c] h h' := by
 obtain ⟨a, buf, k1, k2, k3, k4⟩ := k
 apply Wp.ex
 rw [w_strings_Builder_String]
 unfold strings_Builder_String
 repeat (((with_reducible apply Wp.obind); first | (with_reducible first | exact nilC_ptr _ _ | exact fldP_ptr _ _ _) | ((with_reducible apply RowH.cell'); (with_reducible assumption); rfl)))
 refine Wp.obind k4.one.2.2 ?_
 rcases k4 with ⟨rfl, rfl, rfl⟩ | ⟨rfl, g0, g1, g2, g3⟩
 ·refine Wp.outK (show opSliceData h .nsl = some (.val .nilp, h) from rfl) ?_
  refine Wp.chk (by rw [reLoad_cell (P := Tryd.prog) (ty := 50) (by kernel_rfl) (k1.cell' rfl) same_nsl]; rfl) ?_
  refine Wp.outK (show opUnsafeStr Tryd.prog h 67 .nilp (.int .i64 0) = some (.val (strA []), h) from rfl) ?_
  repeat (((with_reducible apply Wp.obind); (with_reducible exact avStr_str _)))
  exact Wp.ret ⟨rfl, Tch.refl _ _⟩
 ·have d1 : opSliceData h (.sl c 0 l.length 1) = some (.val (.ptr c 0), h) := by
   cases l with
   | nil => exact absurd rfl g0
   | cons x l => rfl
  refine Wp.outK d1 ?_
  refine Wp.chk (by rw [reLoad_cell (P := Tryd.prog) (ty := 50) (by kernel_rfl) (k1.cell' rfl) (same_sl _ _ _ _)]; rfl) ?_
  have g4 := g3.part (o := 0) (n := (bytesC l).length) (by omega)
  rw [List.drop_zero, List.take_length, bytesC_length] at g4
  refine Wp.outK (unsafeStr_row (by kernel_rfl) g0 hbig g4 g3.type) ?_
  repeat (((with_reducible apply Wp.obind); (with_reducible exact avStr_str _)))
  exact Wp.ret ⟨rfl, Tch.put (.inl (by simp)) _⟩
end
end Go.Proofs.YtjopejiooipmkaaDoor
namespace Go.Proofs.YtjopejiooipmkaaDoor
open Go.RowKit Abs
section
variable {n d b p : Nat} {h : AHeap} {u : Bytes} {Q : ARes → AHeap → Prop}
theorem take_r (k : Rd h b u p) (hb : b < h.next) (hp : p ≤ u.length) (hu : u.length ≤ 1000000) (c : Nat) : Step b u h (world n (d + 4) 58 [.ptr b 0, .int .u8 (c : Int)] h) (if at? u p = some c then .ok (.tup [], p + 1) else .error (6, p)) := by
 have hs := skips_r (n := n) (d := d) k hb hp hu c
 by_cases hc : at? u p = some c
 ·rw [if_pos hc, decide_eq_true hc] at hs
  rw [if_pos hc]
  refine Step.ok_of ?_
  rw [w_pattern_reader_take]
  unfold pattern_reader_take
  refine Wp.stepN hs fun h' k1 k2 => ?_
  repeat (first | (with_reducible refine Wp.join0 (fun _ _ => ?_)) | (with_reducible refine Wp.lett ?_) | ((with_reducible apply Wp.obind); (with_reducible exact avBool_bool _)) | ((with_reducible refine Wp.iff ?_ ?_); (with_reducible exact Bool.not_true)) | (with_reducible refine Wp.go0 (by assumption) ?_))
  exact Wp.ret ⟨rfl, k1, k2⟩
 ·rw [if_neg hc, decide_eq_false hc] at hs
  rw [if_neg hc]
  refine Step.err_of ?_
  rw [w_pattern_reader_take]
  unfold pattern_reader_take
  refine Wp.stepN hs fun h' k1 k2 => ?_
  have hr := refuse_r (n := n) (d := d + 2) (h := h') 6 p
  repeat (first | (with_reducible refine Wp.join0 (fun _ _ => ?_)) | (with_reducible refine Wp.lett ?_) | ((with_reducible apply Wp.obind); first | (with_reducible first | exact avInt_int _ _ | exact avBool_bool _ | exact nilC_ptr _ _ | exact fldP_ptr _ _ _) | ((with_reducible apply RowH.cell'); (with_reducible assumption); rfl)) | ((with_reducible refine Wp.ift ?_ ?_); (with_reducible exact Bool.not_false)))
  exact Wp.callP hr ⟨rfl, p, k1, k2⟩
theorem quoted_loop {most : Int} {bb : Nat} {hp0 : AHeap} (ebb : newP hp0 = .ptr bb 0) {H0 : AHeap} (hb : b < H0.next) (hbb : bb < H0.next) (hne : b ≠ bb) (hu : u.length ≤ 1000000) (hn : 16 < n) (hxB : memB TBld H0.ex = true) (hx8 : memB TU8 H0.ex = false) {k10 : AHeap → R} :
  ∀ (fuel f p c : Nat) (acc : Bytes) (H : AHeap), fuel < f → u.length + 1 ≤ fuel + p → p ≤ u.length → acc.length ≤ p → Rd H b u p → BldW H bb c acc → (c = bb ∨ H0.next ≤ c) → Tch [b, bb] H0 H →
   (∀ l q c' H', scanQ u most fuel p acc = .ok l q → l.length ≤ u.length → Rd H' b u q → BldW H' bb c' l → (c' = bb ∨ H0.next ≤ c') → Tch [b, bb] H0 H' → Wp (k10 H') Q) →
   (∀ e q p' H', scanQ u most fuel p acc = .bad e q → Rd H' b u p' → Tch [b, bb] H0 H' → Q (.panic (PanA e q)) H') →
   Wp (pattern_reader_quoted_L0 (world n (d + 5)) (.ptr b 0) most hp0 k10 f H) Q
 | 0, f, p, c, acc, H, hf, hfu, hp, _, _, _, _, _, _, _ => by omega
 | fuel + 1, f + 1, p, c, acc, H, hf, hfu, hp, hacc, k, B, hc, t, hok, hbad => by
  rw [pattern_reader_quoted_L0_s]
  unfold pattern_reader_quoted_L0b
  have n0 := t.1
  have hs := skips_r (n := n) (d := d + 2) k (by omega) hp hu 34
  by_cases hq : at? u p = some 34
  ·rw [if_pos hq, decide_eq_true hq] at hs
   have hok' := hok acc (p + 1) 
   refine Wp.stepN hs fun h1 k1 t1 => ?_
   obtain ⟨hpl, _⟩ := at?_some hq
   repeat (first | (with_reducible refine Wp.lett ?_) | ((with_reducible apply Wp.obind); (with_reducible exact avBool_bool _)) | ((with_reducible refine Wp.iff ?_ ?_); (with_reducible exact Bool.not_true)))
   exact hok acc (p + 1) c h1 (by rw [scanQ, if_pos hq]) (by omega) k1 (B.tch t1 (by simpa using Ne.symm hne) (by simp; omega)) hc (t.trans (t1.mono (by simp)))
  ·rw [if_neg hq, decide_eq_false hq] at hs
   refine Wp.stepN hs fun h1 k1 t1 => ?_
   have B1 := B.tch t1 (by simpa using Ne.symm hne) (by simp; omega)
   have tt1 : Tch [b, bb] H0 h1 := t.trans (t1.mono (by simp))
   have n1 := t1.1
   have hl := len_r (n := n) (d := d + 4) B1
   rw [ebb]
   by_cases hm : (acc.length : Int) = most
   ·have hr := refuse_r (n := n) (d := d + 4) (h := h1) 3 p
    repeat (first | (with_reducible refine Wp.join0 (fun _ _ => ?_)) | (with_reducible refine Wp.lett ?_) | ((with_reducible apply Wp.obind); first | (with_reducible first | exact avInt_int _ _ | exact avBool_bool _ | exact nilC_ptr _ _ | exact fldP_ptr _ _ _) | ((with_reducible apply RowH.cell'); (with_reducible assumption); rfl)) | ((with_reducible refine Wp.ift ?_ ?_); first | (with_reducible exact Bool.not_false) | ((with_reducible apply beq_t); omega)) | ((with_reducible first | apply Wp.callN | apply Wp.callK); (with_reducible assumption)))
    exact Wp.callP hr (hbad 3 p p h1 (by rw [scanQ, if_neg hq, if_pos hm]) k1 tt1)
   ·have hfo := form_r (n := n) (d := d) k1 (by omega) hp hu hn hq
    cases hx : formAt u p with
    | bad q =>
     rw [hx] at hfo
     repeat (first | (with_reducible refine Wp.join0 (fun _ _ => ?_)) | (with_reducible refine Wp.lett ?_) | ((with_reducible apply Wp.obind); (with_reducible first | exact avInt_int _ _ | exact avBool_bool _)) | ((with_reducible refine Wp.ift ?_ ?_); (with_reducible exact Bool.not_false)) | ((with_reducible refine Wp.iff ?_ ?_); ((with_reducible apply beq_f); omega)) | ((with_reducible first | apply Wp.callN | apply Wp.callK); (with_reducible assumption)) | (with_reducible refine Wp.go0 (by assumption) ?_))
     exact Wp.stepE hfo fun h2 p2 k2 t2 => hbad 6 q p2 h2 (by rw [scanQ, if_neg hq, if_neg hm, hx]) k2 (tt1.trans (t2.mono (by simp)))
    | ok v q =>
     rw [hx] at hfo
     obtain ⟨hv, hq1, hq2⟩ := formAt_ok hx
     repeat (first | (with_reducible refine Wp.join0 (fun _ _ => ?_)) | (with_reducible refine Wp.lett ?_) | ((with_reducible apply Wp.obind); (with_reducible first | exact avInt_int _ _ | exact avBool_bool _)) | ((with_reducible refine Wp.ift ?_ ?_); (with_reducible exact Bool.not_false)) | ((with_reducible refine Wp.iff ?_ ?_); ((with_reducible apply beq_f); omega)) | ((with_reducible first | apply Wp.callN | apply Wp.callK); (with_reducible assumption)) | (with_reducible refine Wp.go0 (by assumption) ?_))
     refine Wp.stepK hfo fun h2 k2 t2 => ?_
     have B2 := B1.tch t2 (by simpa using Ne.symm hne) (by simp; omega)
     have tt2 : Tch [b, bb] H0 h2 := tt1.trans (t2.mono (by simp))
     have n2 := t2.1
     obtain ⟨c', h3, e3, B3, hc', t3⟩ := writeByte_r (n := n) (d := d + 3) B2 (by rw [tt2.2.1]; exact hxB) (by rw [tt2.2.1]; exact hx8) hv (by omega)
     have hbc : b ≠ c := by omega
     repeat (first | ((with_reducible apply Wp.obind); (with_reducible exact avInt_int _ _)) | ((with_reducible apply Wp.callN); (with_reducible assumption)))
     refine quoted_loop ebb hb hbb hne hu hn hxB hx8 fuel f q c' (acc ++ [UInt8.ofNat v]) h3 (by omega) (by omega) hq2 (by simp; omega) (k2.tch t3 (by omega) (by simp; exact ⟨hne, hbc⟩)) B3 (by omega) (tt2.trans' t3 (by intro x hx; simp only [List.mem_cons, List.not_mem_nil, or_false] at hx ⊢; omega)) ?_ ?_
     ·intro l q' c'' H' hsc
      exact hok l q' c'' H' (by rw [scanQ, if_neg hq, if_neg hm, hx]; exact hsc)
     ·intro e q' p' H' hsc
      exact hbad e q' p' H' (by rw [scanQ, if_neg hq, if_neg hm, hx]; exact hsc)
theorem quoted_r (k : Rd h b u 0) (hb : b < h.next) (hu : u.length ≤ 1000000) (hn : u.length + 20 < n) (most : Int) (hxB : memB TBld h.ex = true) (hx8 : memB TU8 h.ex = false) : Step b u h (world n (d + 6) 54 [.ptr b 0, .int .i64 most] h) (match quotedQ u most with
  | .ok l q => .ok (strA l, q)
  | .bad e q => .error (e, q)) := by
 have ht := take_r (n := n) (d := d + 1) k hb (Nat.zero_le _) hu 34
 unfold quotedQ
 by_cases hq : at? u 0 = some 34
 case neg =>
  rw [if_neg hq] at ht
  rw [if_neg hq]
  refine Step.err_of ?_
  rw [w_pattern_reader_quoted]
  unfold pattern_reader_quoted
  exact Wp.stepE ht fun h' p' k1 k2 => ⟨rfl, p', k1, k2⟩
 rw [if_pos hq] at ht
 rw [if_pos hq]
 obtain ⟨hpl, _⟩ := at?_some hq
 have main : ∀ Q : ARes → AHeap → Prop, (∀ l q h', scanQ u most (u.length + 1) 1 [] = .ok l q → Rd h' b u q → Tch [b] h h' → Q (.ret (strA l)) h') → (∀ e q p' h', scanQ u most (u.length + 1) 1 [] = .bad e q → Rd h' b u p' → Tch [b] h h' → Q (.panic (PanA e q)) h') → Wp (world n (d + 6) 54 [.ptr b 0, .int .i64 most] h) Q := by
  intro Q h1 h2
  rw [w_pattern_reader_quoted]
  unfold pattern_reader_quoted
  refine Wp.stepK ht fun h3 k3 t3 => ?_
  have n3 := t3.1
  have tN : Tch [] h3 (newH h3 TBld [.nilp, .nsl]) := Tch.newH _ _ _ _
  have B0 := BldR.new TBld TU8 h3
  have nN := next_newH h3 TBld [.nilp, .nsl]
  have k4 := k3.tch tN (by omega) (by simp)
  ((with_reducible refine Wp.lett ?_))
  generalize newH h3 TBld [.nilp, .nsl] = h4 at *
  ((with_reducible refine Wp.join0 (fun _ _ => ?_)))
  rename_i k10 hk10
  have tb : ∀ {h' : AHeap}, Tch [b, h3.next] h4 h' → Tch [b] h h' := fun t => (t3.trans (tN.mono (by simp))).trans' t (by intro x hx; simp only [List.mem_cons, List.not_mem_nil, or_false] at hx ⊢; omega)
  refine quoted_loop (newP_eq h3) (H0 := h4) (by omega) (by omega) (by omega) hu (by omega) (by rw [tN.2.1, t3.2.1]; exact hxB) (by rw [tN.2.1, t3.2.1]; exact hx8) (u.length + 1) n 1 h3.next [] h4 (by omega) (by omega) (by omega) (by simp) k4 B0 (.inl rfl) (Tch.refl _ _) ?_ ?_
  ·intro l q c' H' hsc hl k5 B5 hc5 t5
   obtain ⟨h6, e6, t6⟩ := string_r (n := n) (d := d + 4) B5 (by omega)
   have hbc : b ≠ c' := by omega
   repeat (first | ((with_reducible apply Wp.obind); (with_reducible exact avStr_str _)) | ((with_reducible apply Wp.callN); (with_reducible assumption)) | (with_reducible refine Wp.go0 (by assumption) ?_) | rw [newP_eq])
   refine Wp.ret (h1 l q h6 hsc (k5.tch t6 (lt_tch (tb t5) hb) (by simp; omega)) ?_)
   exact (tb t5).trans' t6 (by intro x hx; simp only [List.mem_cons, List.not_mem_nil, or_false] at hx ⊢; omega)
  ·intro e q p' H' hsc k5 t5
   exact h2 e q p' H' hsc k5 (tb t5)
 cases hsc : scanQ u most (u.length + 1) 1 [] with
 | ok l q =>
  rw [hsc] at main
  refine Step.ok_of (main _ (fun l' q' h' e k1 k2 => ?_) (fun e q p' h' hh => by cases hh))
  cases e
  exact ⟨rfl, k1, k2⟩
 | bad e q =>
  rw [hsc] at main
  refine Step.err_of (main _ (fun l' q' h' e k1 k2 => by cases e) (fun e q p' h' hh k1 k2 => ?_))
  cases hh
  exact ⟨rfl, p', k1, k2⟩
end
theorem callKd_eq_ret {x : R} {v : AV} {h : AHeap} {kp k : AV → AHeap → R} {Q : ARes → AHeap → Prop} (e : x = some (.ret v, h)) (hk : Wp (k v h) Q) : Wp (callKd x kp k) Q := by rw [e, callKd_ret]; exact hk
theorem callKd_eq_pan {x : R} {v : AV} {h : AHeap} {kp k : AV → AHeap → R} {Q : ARes → AHeap → Prop} (e : x = some (.panic v, h)) (hk : Wp (kp v h) Q) : Wp (callKd x kp k) Q := by rw [e, callKd_panic]; exact hk
theorem dynQ (call : CallF) (a b c : Nat) (h : AHeap) : dynC Tryd.prog call (AV.fn 53 [] [.ptr a 0, .ptr b 0, .ptr c 0]) [] h = call 53 [.ptr a 0, .ptr b 0, .ptr c 0] h := by
 have e : callV Tryd.prog h [] (some (AV.fn 53 [] [.ptr a 0, .ptr b 0, .ptr c 0])) = some (.call 53 [.ptr a 0, .ptr b 0, .ptr c 0], h) := by kernel_rfl
 unfold dynC
 rw [e]
theorem neqNil (h : AHeap) : opBin Tryd.prog h .neq 20 true (some .nifc) (some .nifc) = some (.val (.bool false), h) := by kernel_rfl
theorem neqPan (h : AHeap) (e : Int) (q : Nat) : opBin Tryd.prog h .neq 20 true (some (PanA e q)) (some .nifc) = some (.val (.bool true), h) := by kernel_rfl
theorem assertPan (h : AHeap) (e : Int) (q : Nat) : opAssert Tryd.prog h 91 true (some (PanA e q)) = some (.val (.tup [.agg [.int .i64 e, .int .i64 (q : Int)], .bool true]), h) := by kernel_rfl
abbrev TPtr : Nat := 85
abbrev TSpot : Nat := 27
section
variable {n d pc rd ft tx mo : Nat} {h h0 : AHeap} {u t : Bytes} {most : Int} {fc : List AV} {S : List Nat} {Q : ARes → AHeap → Prop} {ys : List RowT}
noncomputable abbrev rowsQ (pc rd ft tx mo p : Nat) (u t : Bytes) (most : Int) (fc : List AV) : List RowT := [(pc, TPtr, [.ptr rd 0]), (rd, 87, rdP u p), (ft, TSpot, fc), (tx, 9, [strA t]), (mo, 3, [.int .i64 most])]
theorem q1_r (Mx : Mem S h0 h (rowsQ pc rd ft tx mo 0 u t most fc)) (hu : u.length ≤ 1000000) (hn : u.length + 20 < n) (hxB : memB TBld h0.ex = true) (hx8 : memB TU8 h0.ex = false) : match quotedQ u most with
  | .ok l q => ∃ h', world n (d + 7) 53 [.ptr pc 0, .ptr mo 0, .ptr tx 0] h = some (.ret (.tup []), h') ∧ Mem S h0 h' (rowsQ pc rd ft tx mo q u l most fc)
  | .bad e q => ∃ h' p, world n (d + 7) 53 [.ptr pc 0, .ptr mo 0, .ptr tx 0] h = some (.panic (PanA e q), h') ∧ Mem S h0 h' (rowsQ pc rd ft tx mo p u t most fc) := by
 have hq := quoted_r (n := n) (d := d) Mx.at1.1 Mx.at1.2.1 hu hn most (by rw [Mx.ex]; exact hxB) (by rw [Mx.ex]; exact hx8)
 cases hs : quotedQ u most with
 | ok l q =>
  rw [hs] at hq
  apply Wp.ex
  rw [w_pattern_Quoted_1]
  unfold pattern_Quoted_1
  repeat (first | ((with_reducible apply Wp.obind); (with_reducible exact avInt_int _ _)) | ((with_reducible apply Wp.ld0 Mx); rfl) | ((with_reducible apply Wp.ld4 Mx); rfl))
  refine Wp.stepK hq fun h1 k1 t1 => ?_
  have Mz : Mem S h0 h1 (rowsQ pc rd ft tx mo q u t most fc) := Mem.upd (xs := [_]) Mx t1 k1
  clear Mx
  have Mx := Mz
  clear Mz
  repeat (first | ((with_reducible apply Wp.obind); (with_reducible exact avStr_str _)) | ((with_reducible apply Wp.ms3 Mx); exact Nat.le_of_ble_eq_true rfl; rfl; intro _ Mz; clear Mx; have Mx := Mz; clear Mz))
  exact Wp.ret ⟨rfl, Mx⟩
 | bad e q =>
  rw [hs] at hq
  suffices hK : Wp (world n (d + 7) 53 [.ptr pc 0, .ptr mo 0, .ptr tx 0] h) fun r h' => r = .panic (PanA e q) ∧ ∃ p, Mem S h0 h' (rowsQ pc rd ft tx mo p u t most fc) by
   obtain ⟨_, h', e1, rfl, p, k⟩ := hK
   exact ⟨h', p, e1, k⟩
  rw [w_pattern_Quoted_1]
  unfold pattern_Quoted_1
  repeat (first | ((with_reducible apply Wp.obind); (with_reducible exact avInt_int _ _)) | ((with_reducible apply Wp.ld0 Mx); rfl) | ((with_reducible apply Wp.ld4 Mx); rfl))
  exact Wp.stepE hq fun h1 p k1 t1 => ⟨rfl, p, Mem.upd (xs := [_]) Mx t1 k1⟩
theorem recov_nil {call : CallF} {b : Nat} {H : AHeap} : pattern_guard_1_d call n (.ptr b 0) .nifc H = some (.ret (.tup []), H) := by
 apply Wp.eq
 unfold pattern_guard_1_d
 repeat (first | (with_reducible refine Wp.join0 (fun _ _ => ?_)) | ((with_reducible apply Wp.obind); (with_reducible exact avBool_bool _)) | ((with_reducible refine Wp.iff ?_ ?_); (with_reducible rfl)) | ((with_reducible apply Wp.outK); (with_reducible exact neqNil _)) | (with_reducible refine Wp.go0 (by assumption) ?_))
 exact Wp.ret ⟨rfl, rfl⟩
theorem recov_pan {call : CallF} {b : Nat} {H : AHeap} {l : List AV} (hl : l.length = 2) (Mx : Mem S h0 H ((b, TSpot, l) :: ys)) (e : Int) (q : Nat) : ∃ H', pattern_guard_1_d call n (.ptr b 0) (PanA e q) H = some (.ret (.tup []), H') ∧ Mem S h0 H' ((b, TSpot, [.int .i64 e, .int .i64 (q : Int)]) :: ys) := by
 apply Wp.ex
 unfold pattern_guard_1_d
 repeat (first | ((with_reducible apply Wp.obind); (with_reducible exact avBool_bool _)) | ((with_reducible apply Wp.lr0 Mx); rfl) | ((with_reducible apply Wp.sa0 Mx); rfl; rfl; (rfl); intro _ Mz; clear Mx; have Mx := Mz; clear Mz) | ((with_reducible apply Wp.mnew Mx); intro _ Mz; clear Mx; have Mx := Mz; clear Mz) | (with_reducible refine Wp.join0 (fun _ _ => ?_)) | (with_reducible refine Wp.lett ?_) | ((with_reducible apply Wp.obind); (with_reducible first | exact avAgg_agg _ | exact extT_0 _ _ | exact extT_1 _ _ _)) | ((with_reducible refine Wp.ift ?_ ?_); (with_reducible rfl)) | ((with_reducible refine Wp.iff ?_ ?_); (with_reducible exact Bool.not_true)) | ((with_reducible apply Wp.outK); (with_reducible first | exact neqPan _ _ _ | exact assertPan _ _ _)) | (with_reducible refine Wp.go0 (by assumption) ?_) | rw [newP_eq])
 refine Wp.sa1 Mx rfl hl rfl (fun h' M' => ?_)
 repeat ((with_reducible refine Wp.go0 (by assumption) ?_))
 exact Wp.ret ⟨rfl, M'.pop⟩
theorem guard_r (Mx : Mem S h0 h (rowsQ pc rd ft tx mo 0 u t most fc)) (hu : u.length ≤ 1000000) (hn : u.length + 20 < n) (hxB : memB TBld h0.ex = true) (hx8 : memB TU8 h0.ex = false) : match quotedQ u most with
  | .ok l q => ∃ h', world n (d + 8) 52 [AV.fn 53 [] [.ptr pc 0, .ptr mo 0, .ptr tx 0]] h = some (.ret (.agg [.int .i64 0, .int .i64 0]), h') ∧ Mem S h0 h' (rowsQ pc rd ft tx mo q u l most fc)
  | .bad e q => ∃ h', world n (d + 8) 52 [AV.fn 53 [] [.ptr pc 0, .ptr mo 0, .ptr tx 0]] h = some (.ret (.agg [.int .i64 e, .int .i64 (q : Int)]), h') ∧ ∃ p, Mem S h0 h' (rowsQ pc rd ft tx mo p u t most fc) := by
 have Mb := (Mx.newH TSpot [.int .i64 0, .int .i64 0])
 have M1 : Mem (S := (rowsQ pc rd ft tx mo 0 u t most fc).map (·.1)) (newH h TSpot [.int .i64 0, .int .i64 0]) (newH h TSpot [.int .i64 0, .int .i64 0]) (rowsQ pc rd ft tx mo 0 u t most fc) := Mb.pop.base
 have hq := q1_r (n := n) (d := d) M1 hu hn (by show memB TBld h.ex = true; rw [Mx.ex]; exact hxB) (by show memB TU8 h.ex = false; rw [Mx.ex]; exact hx8)
 have back : ∀ {h' : AHeap} {rs : List RowT}, Mem ((rowsQ pc rd ft tx mo 0 u t most fc).map (·.1)) (newH h TSpot [.int .i64 0, .int .i64 0]) h' rs → Mem S h0 h' ((h.next, TSpot, [.int .i64 0, .int .i64 0]) :: rs) := fun M2 => by
  have := Mem.frame (xs := rowsQ pc rd ft tx mo 0 u t most fc) (rs := [(h.next, TSpot, [AV.int .i64 0, AV.int .i64 0])]) (Mb.perm List.perm_append_comm) M2
  exact this.perm (by simpa using (List.perm_append_comm (l₁ := [(h.next, TSpot, [AV.int .i64 0, AV.int .i64 0])])))
 cases hs : quotedQ u most with
 | ok l q =>
  rw [hs] at hq
  obtain ⟨h1, e1, M2⟩ := hq
  have Mx := back M2
  apply Wp.ex
  rw [w_pattern_guard]
  unfold pattern_guard
  refine Wp.lett ?_
  refine callKd_eq_ret ((dynQ _ _ _ _ _).trans e1) ?_
  repeat (first | ((with_reducible apply Wp.lr0 Mx); rfl) | ((with_reducible apply Wp.sa0 Mx); rfl; rfl; (rfl); intro _ Mz; clear Mx; have Mx := Mz; clear Mz) | ((with_reducible apply Wp.callN); (with_reducible exact recov_nil)) | rw [newP_eq])
  exact Wp.ret ⟨rfl, Mx.pop⟩
 | bad e q =>
  rw [hs] at hq
  obtain ⟨h1, p, e1, M2⟩ := hq
  have Mx := back M2
  apply Wp.ex
  rw [w_pattern_guard]
  unfold pattern_guard
  refine Wp.lett ?_
  refine callKd_eq_pan ((dynQ _ _ _ _ _).trans e1) ?_
  rw [newP_eq]
  obtain ⟨h2, e2, M3⟩ := recov_pan (n := n) (call := world n (d + 7)) rfl Mx e q
  refine Wp.callN e2 ?_
  clear Mx
  have Mx := M3
  repeat (((with_reducible apply Wp.lr0 Mx); rfl))
  exact Wp.ret ⟨rfl, p, Mx.pop⟩
def quotedV (u : Bytes) (most : Int) : Bytes × Int × Int × Int := match quotedQ u most with
 | .ok l q => (l, (q : Int), 0, 0)
 | .bad e q => ([], 0, e, (q : Int))
theorem scanQ_err : ∀ (fuel p : Nat) (acc : Bytes) {e : Int} {q : Nat}, scanQ u most fuel p acc = .bad e q → e ≠ 0
 | 0, p, acc, e, q, hh => by
  rw [scanQ] at hh
  cases hh
  decide
 | fuel + 1, p, acc, e, q, hh => by
  rw [scanQ] at hh
  split at hh
  ·cases hh
  ·split at hh
   ·cases hh
    decide
   ·split at hh
    ·exact scanQ_err fuel _ _ hh
    ·cases hh
     decide
theorem quotedQ_err {e : Int} {q : Nat} (hh : quotedQ u most = .bad e q) : e ≠ 0 := by
 unfold quotedQ at hh
 split at hh
 ·exact scanQ_err _ _ _ hh
 ·cases hh
  decide
set_option maxRecDepth 100000 in
theorem pQuoted_w (hu : u.length ≤ 1000000) (hn : u.length + 20 < n) (hxB : memB TBld h.ex = true) (hx8 : memB TU8 h.ex = false) : world n (d + 9) 46 [strA u, .int .i64 most] h = some (.ret (.tup [strA (quotedV u most).1, .int .i64 (quotedV u most).2.1, .agg [.int .i64 (quotedV u most).2.2.1, .int .i64 (quotedV u most).2.2.2]]), h) := by
 apply Wp.eq
 rw [w_pattern_Quoted]
 refine Wp.gc ?_
 suffices hK : Wp (pattern_Quoted (world n (d + 8)) n u most h) fun r h' => r = .ret (.tup [strA (quotedV u most).1, .int .i64 (quotedV u most).2.1, .agg [.int .i64 (quotedV u most).2.2.1, .int .i64 (quotedV u most).2.2.2]]) ∧ Tch [] h h' from hK.mono fun r h' ⟨e, t⟩ => ⟨t.above, by rw [e]; rfl, e, rfl⟩
 unfold pattern_Quoted
 have Mx := Mem.nil [] h
 repeat (first | ((with_reducible apply Wp.sa0 Mx); rfl; rfl; (rfl); intro _ Mz; clear Mx; have Mx := Mz; clear Mz) | ((with_reducible apply Wp.mnew Mx); intro _ Mz; clear Mx; have Mx := Mz; clear Mz) | ((with_reducible apply Wp.mbox Mx); (rfl); intro _ Mz; clear Mx; have Mx := Mz; clear Mz) | rw [newP_eq])
 have Mz : Mem [] h _ (rowsQ _ _ _ _ _ 0 u [] most [.int .i64 0, .int .i64 0]) := Mx
 have hg := guard_r (n := n) (d := d) Mz hu hn hxB hx8
 unfold quotedV
 cases hs : quotedQ u most with
 | ok l q =>
  rw [hs] at hg
  obtain ⟨h1, e1, M1⟩ := hg
  refine Wp.callN e1 ?_
  clear Mx
  have Mx := M1
  repeat (first | ((with_reducible apply Wp.obind); (with_reducible first | exact avInt_int _ _ | exact avStr_str _ | exact nilC_ptr _ _ | exact fldP_ptr _ _ _)) | ((with_reducible apply Wp.ld0 Mx); rfl) | ((with_reducible apply Wp.ld1 Mx); rfl) | ((with_reducible apply Wp.ld2 Mx); rfl) | ((with_reducible apply Wp.lr2 Mx); rfl) | ((with_reducible apply Wp.sa2 Mx); rfl; rfl; (rfl); intro _ Mz; clear Mx; have Mx := Mz; clear Mz) | ((with_reducible apply Wp.ld3 Mx); rfl) | ((with_reducible apply Wp.ms3 Mx); exact Nat.le_of_ble_eq_true rfl; rfl; intro _ Mz; clear Mx; have Mx := Mz; clear Mz) | ((with_reducible refine Wp.chk ?_ ?_); focus ((repeat' (first | (with_reducible exact rfl) | (with_reducible apply and_t) | ((with_reducible apply Mem.re0 Mx); kernel_rfl; rfl) | ((with_reducible apply Mem.re1 Mx); kernel_rfl; rfl) | ((with_reducible apply Mem.rr2 Mx); kernel_rfl; kernel_rfl))); done)) | (with_reducible refine Wp.lett ?_) | ((with_reducible apply Wp.obind); (with_reducible exact avAgg_agg _)) | ((with_reducible refine Wp.iff ?_ ?_); ((with_reducible apply bne_f); omega)))
  exact Wp.ret ⟨rfl, Mx.tch⟩
 | bad e q =>
  rw [hs] at hg
  have he := quotedQ_err hs
  obtain ⟨h1, e1, p, M1⟩ := hg
  refine Wp.callN e1 ?_
  clear Mx
  have Mx := M1
  repeat (first | ((with_reducible apply Wp.obind); (with_reducible exact avInt_int _ _)) | ((with_reducible apply Wp.ld2 Mx); rfl) | ((with_reducible apply Wp.lr2 Mx); rfl) | ((with_reducible apply Wp.sa2 Mx); rfl; rfl; (rfl); intro _ Mz; clear Mx; have Mx := Mz; clear Mz) | ((with_reducible apply Wp.ld3 Mx); rfl) | ((with_reducible apply Wp.ms3 Mx); exact Nat.le_of_ble_eq_true rfl; rfl; intro _ Mz; clear Mx; have Mx := Mz; clear Mz) | ((with_reducible refine Wp.chk ?_ ?_); focus ((repeat' (first | (with_reducible exact rfl) | (with_reducible apply and_t) | ((with_reducible apply Mem.rr2 Mx); kernel_rfl; kernel_rfl))); done)) | (with_reducible refine Wp.lett ?_) | ((with_reducible apply Wp.obind); (with_reducible exact avAgg_agg _)) | ((with_reducible refine Wp.ift ?_ ?_); ((with_reducible apply bne_t); omega)))
  exact Wp.ret ⟨rfl, Mx.tch⟩
end
section
variable {n d : Nat} {h h0 : AHeap} {u : Bytes} {Q : ARes → AHeap → Prop} {S : List Nat}
theorem scan_fact {m : Int} : ∀ (fuel p : Nat) (acc : Bytes) {l : Bytes} {q : Nat}, scanQ u m fuel p acc = .ok l q → p + 1 ≤ q ∧ q ≤ u.length ∧ ((acc.length : Int) ≤ m → (l.length : Int) ≤ m)
 | 0, p, acc, l, q, hh => by rw [scanQ] at hh; cases hh
 | fuel + 1, p, acc, l, q, hh => by
  rw [scanQ] at hh
  split at hh
  ·rename_i h34
   obtain ⟨hp, _⟩ := at?_some h34
   cases hh
   exact ⟨Nat.le_refl _, hp, id⟩
  ·split at hh
   ·cases hh
   ·rename_i hne
    cases hF : formAt u p with
    | bad q => rw [hF] at hh; cases hh
    | ok c q' =>
     rw [hF] at hh
     obtain ⟨_, hpq, _⟩ := formAt_ok hF
     obtain ⟨a1, a2, a3⟩ := scan_fact fuel q' _ hh
     refine ⟨by omega, a2, fun hle => a3 ?_⟩
     simp
     omega
theorem form_take {p c q' q : Nat} (hF : formAt u p = .ok c q') (hq : q' ≤ q) : formAt (u.take q) p = .ok c q' := by
 rw [formAt_W] at hF ⊢
 cases hW : formW (u.drop p) with
 | bad k => rw [hW] at hF; cases hF
 | ok c' k =>
  rw [hW] at hF
  simp only [shiftF, FR.ok.injEq] at hF
  obtain ⟨rfl, rfl⟩ := hF
  obtain ⟨hc, hk, r, hr⟩ := formW_ok hW
  rw [List.drop_take, hr, List.take_append, List.take_of_length_le (by omega), formW_sign hc]
  rw [shiftF, hk]
theorem scan_take {m : Int} {q : Nat} {l : Bytes} : ∀ (fuel f2 p : Nat) (acc : Bytes), fuel ≤ f2 + p ∨ True → q ≤ f2 + p → scanQ u m fuel p acc = .ok l q → scanQ (u.take q) (-1) f2 p acc = .ok l q
 | 0, f2, p, acc, _, hf, hh => by rw [scanQ] at hh; cases hh
 | fuel + 1, f2, p, acc, _, hf, hh => by
  have hb := scan_fact _ _ _ hh
  obtain ⟨f2, rfl⟩ : ∃ k, f2 = k + 1 := ⟨f2 - 1, by omega⟩
  have hat : at? (u.take q) p = at? u p := by
   unfold at?
   rw [List.getElem?_take, if_pos (by omega)]
  rw [scanQ] at hh ⊢
  rw [hat]
  split at hh
  ·rename_i h34
   rw [if_pos h34]
   exact hh
  ·rename_i h34
   rw [if_neg h34, if_neg (by omega)]
   split at hh
   ·cases hh
   ·cases hF : formAt u p with
    | bad q' => rw [hF] at hh; cases hh
    | ok c q' =>
     rw [hF] at hh
     obtain ⟨_, hpq, _⟩ := formAt_ok hF
     have hb2 := scan_fact _ _ _ hh
     rw [form_take hF (by omega)]
     exact scan_take fuel f2 q' _ (.inr trivial) (by omega) hh
theorem quoted_fact {m : Int} {l : Bytes} {q : Nat} (hh : quotedQ u m = .ok l q) : 2 ≤ q ∧ q ≤ u.length ∧ (0 ≤ m → (l.length : Int) ≤ m) ∧ quotedQ (u.take q) (-1) = .ok l q := by
 unfold quotedQ at hh
 split at hh
 ·rename_i h34
  obtain ⟨a1, a2, a3⟩ := scan_fact _ _ _ hh
  refine ⟨a1, a2, fun hm => a3 (by simpa using hm), ?_⟩
  have hat : at? (u.take q) 0 = some 34 := by
   rw [← h34]
   unfold at?
   rw [List.getElem?_take, if_pos (by omega)]
  unfold quotedQ
  rw [if_pos hat]
  exact scan_take _ _ _ _ (.inr trivial) (by rw [List.length_take]; omega) hh
 ·cases hh
end
abbrev TTok : Nat := 37
inductive TR where
 | ok (k : Int) (t : Bytes) (m : Int) (p q : Nat)
 | bad (e : Int) (q : Nat)
noncomputable def tokC (k : Int) (t : Bytes) (m : Int) (p : Nat) : List AV := [.int .i64 k, strA t, .int .i64 m, .int .i64 (p : Int)]
noncomputable def TRV : TR → ARes
 | .ok k t m p q => .ret (.tup [.agg (tokC k t m p), .int .i64 (q : Int), .agg [.int .i64 0, .int .i64 0]])
 | .bad e q => .ret (.tup [.agg [.int .i64 0, .str 0 0, .int .i64 0, .int .i64 0], .int .i64 0, .agg [.int .i64 e, .int .i64 (q : Int)]])
theorem TRV_scal (x : TR) : (TRV x).val.scal = true := by cases x <;> rfl
def readWordQ (u : Bytes) (p : Nat) : TR := if spanN wordB (u.drop p) ≤ 16 then
  (if at? u (p + spanN wordB (u.drop p)) = some 58 then .ok 2 ((u.drop p).take (spanN wordB (u.drop p))) 0 p (p + spanN wordB (u.drop p) + 1) else .ok 1 ((u.drop p).take (spanN wordB (u.drop p))) 0 p (p + spanN wordB (u.drop p)))
 else .bad 3 (p + 16)
def readTextQ (u : Bytes) (p : Nat) : TR := match quotedQ (u.drop p) 64 with
 | .ok l q => .ok 4 l 0 p (p + q)
 | .bad e q => .bad e (p + q)
section
variable {n d p c b : Nat} {h h0 : AHeap} {u : Bytes} {Q : ARes → AHeap → Prop} {v : AV} {S : List Nat} {ys : List RowT}
theorem wordEnd_w (hu : u.length ≤ 1000000) (hn : u.length < n) (h : AHeap) : world n (d + 4) 18 [strA u, .int .i64 (p : Int)] h = some (.ret (runV wordB u p 16), h) := by
 have hr := run_w (p := p) (d := d + 2) (fun c H => dyn_word (n := n) (d := d) c H) hu hn 16 h
 rw [show ((16 : Nat) : Int) = 16 from rfl] at hr
 have : lex_wordEnd (world n (d + 3)) n u (p : Int) h = some (.ret (runV wordB u p 16), h) := by
  apply Wp.eq
  unfold lex_wordEnd
  unfold runV at hr ⊢
  by_cases hs : spanN wordB (u.drop p) ≤ 16
  ·rw [if_pos hs] at hr ⊢
   repeat (first | ((with_reducible apply Wp.obind); (with_reducible first | exact avInt_int _ _ | exact extT_0 _ _ | exact extT_1 _ _ _)) | ((with_reducible apply Wp.callN); (with_reducible exact hr)))
   exact Wp.ret ⟨rfl, rfl⟩
  ·rw [if_neg hs] at hr ⊢
   repeat (first | ((with_reducible apply Wp.obind); (with_reducible first | exact avInt_int _ _ | exact extT_0 _ _ | exact extT_1 _ _ _)) | ((with_reducible apply Wp.callN); (with_reducible exact hr)))
   exact Wp.ret ⟨rfl, rfl⟩
 rw [w_lex_wordEnd, this, gcR_scal (Above.refl _) (by unfold runV; split <;> rfl)]
theorem scan_bad {m : Int} {e : Int} {q : Nat} : ∀ (fuel p : Nat) (acc : Bytes), p ≤ u.length → scanQ u m fuel p acc = .bad e q → q ≤ u.length
 | 0, p, acc, hp, hh => by
  rw [scanQ] at hh
  cases hh
  exact hp
 | fuel + 1, p, acc, hp, hh => by
  rw [scanQ] at hh
  split at hh
  ·cases hh
  ·split at hh
   ·cases hh
    exact hp
   ·cases hF : formAt u p with
    | bad q' =>
     rw [hF] at hh
     cases hh
     exact (formAt_bad hF hp).2
    | ok c q' =>
     rw [hF] at hh
     exact scan_bad fuel q' _ (formAt_ok hF).2.2 hh
theorem quoted_bad {m : Int} {e : Int} {q : Nat} (hh : quotedQ u m = .bad e q) : q ≤ u.length := by
 unfold quotedQ at hh
 split at hh
 ·rename_i h34
  obtain ⟨hp, _⟩ := at?_some h34
  exact scan_bad _ _ _ hp hh
 ·cases hh
  omega
theorem sl_nat {a b : Nat} (h1 : a ≤ b) (h2 : b ≤ u.length) : sliceS u (a : Int) (b : Int) = some ((u.drop a).take (b - a)) := by
 have := sliceS_int (l := u) (a := (a : Int)) (b := (b : Int)) (by omega) (by omega) (by omega)
 simpa using this
theorem readWord_w (hu : u.length ≤ 1000000) (hn : u.length < n) (hp : p ≤ u.length) (h : AHeap) : world n (d + 5) 38 [strA u, .int .i64 (p : Int)] h = some (TRV (readWordQ u p), h) := by
 apply Wp.eq
 rw [w_lex_readWord]
 refine Wp.gc ?_
 suffices hK : Wp (lex_readWord (world n (d + 4)) n u (p : Int) h) fun r h' => r = TRV (readWordQ u p) ∧ Tch [] h h' from hK.mono fun r h' ⟨e, t⟩ => ⟨t.above, by rw [e]; exact TRV_scal _, e, rfl⟩
 unfold lex_readWord
 have Mx := Mem.nil [] h
 have lu := lenS_nat u
 have hr := fun H => wordEnd_w (n := n) (d := d) (p := p) hu hn H
 unfold readWordQ
 unfold runV at hr
 have hle := span_le wordB (u.drop p)
 rw [List.length_drop] at hle
 by_cases hs : spanN wordB (u.drop p) ≤ 16
 ·rw [if_pos hs]
  rw [if_pos hs] at hr
  have hsl := sl_nat (u := u) (a := p) (b := p + spanN wordB (u.drop p)) (by omega) (by omega)
  rw [Nat.add_sub_cancel_left] at hsl
  obtain ⟨k, hk⟩ : ∃ k, k = spanN wordB (u.drop p) := ⟨_, rfl⟩
  rw [← hk] at hr hsl hs hle ⊢
  by_cases hl : p + k < u.length
  ·have hx : idxS u ((p + k : Nat) : Int) = some ((u[p + k]).toNat : Int) := idxS_nat hl
   by_cases h58 : (u[p + k]).toNat = 58
   ·rw [if_pos (by rw [at?_lt hl, h58])]
    repeat (first | ((with_reducible apply Wp.obind); (with_reducible exact avInt_int _ _)) | ((with_reducible apply Wp.lr0 Mx); rfl) | ((with_reducible apply Wp.sa0 Mx); rfl; rfl; (rfl); intro _ Mz; clear Mx; have Mx := Mz; clear Mz) | ((with_reducible apply Wp.lr1 Mx); rfl) | ((with_reducible apply Wp.ms1 Mx); exact Nat.le_of_ble_eq_true rfl; rfl; intro _ Mz; clear Mx; have Mx := Mz; clear Mz) | ((with_reducible apply Wp.sa1 Mx); rfl; rfl; (rfl); intro _ Mz; clear Mx; have Mx := Mz; clear Mz) | ((with_reducible apply Wp.mnew Mx); intro _ Mz; clear Mx; have Mx := Mz; clear Mz) | (with_reducible refine Wp.join1 (fun _ _ => ?_)) | ((with_reducible refine Wp.lettw ?_ ?_ ?_); omega; omega) | (with_reducible refine Wp.lett ?_) | ((with_reducible apply Wp.obind); (with_reducible first | exact hsl | exact hx | exact extT_0 _ _ | exact extT_1 _ _ _)) | ((with_reducible refine Wp.ift ?_ ?_); ((with_reducible first | apply decide_eq_true | apply bne_t | apply beq_t); omega)) | ((with_reducible refine Wp.iff ?_ ?_); ((with_reducible apply bne_f); omega)) | ((with_reducible apply Wp.callN); (with_reducible exact hr _)) | (with_reducible refine Wp.go1 (by assumption) ?_) | rw [newP_eq])
    exact Wp.ret ⟨rfl, Mx.tch⟩
   ·rw [if_neg (by rw [at?_lt hl]; simp; exact h58)]
    repeat (first | ((with_reducible apply Wp.obind); (with_reducible exact avInt_int _ _)) | ((with_reducible apply Wp.lr0 Mx); rfl) | ((with_reducible apply Wp.sa0 Mx); rfl; rfl; (rfl); intro _ Mz; clear Mx; have Mx := Mz; clear Mz) | ((with_reducible apply Wp.lr1 Mx); rfl) | ((with_reducible apply Wp.sa1 Mx); rfl; rfl; (rfl); intro _ Mz; clear Mx; have Mx := Mz; clear Mz) | ((with_reducible apply Wp.mnew Mx); intro _ Mz; clear Mx; have Mx := Mz; clear Mz) | (with_reducible refine Wp.join1 (fun _ _ => ?_)) | (with_reducible refine Wp.lett ?_) | ((with_reducible apply Wp.obind); (with_reducible first | exact hsl | exact hx | exact extT_0 _ _ | exact extT_1 _ _ _)) | ((with_reducible refine Wp.ift ?_ ?_); ((with_reducible first | apply decide_eq_true | apply bne_t | apply beq_t); omega)) | ((with_reducible refine Wp.iff ?_ ?_); ((with_reducible first | apply bne_f | apply beq_f); omega)) | ((with_reducible apply Wp.callN); (with_reducible exact hr _)) | (with_reducible refine Wp.go1 (by assumption) ?_) | rw [newP_eq])
    exact Wp.ret ⟨rfl, Mx.tch⟩
  ·rw [if_neg (by rw [at?_ge (by omega)]; simp)]
   repeat (first | ((with_reducible apply Wp.obind); (with_reducible exact avInt_int _ _)) | ((with_reducible apply Wp.lr0 Mx); rfl) | ((with_reducible apply Wp.sa0 Mx); rfl; rfl; (rfl); intro _ Mz; clear Mx; have Mx := Mz; clear Mz) | ((with_reducible apply Wp.lr1 Mx); rfl) | ((with_reducible apply Wp.sa1 Mx); rfl; rfl; (rfl); intro _ Mz; clear Mx; have Mx := Mz; clear Mz) | ((with_reducible apply Wp.mnew Mx); intro _ Mz; clear Mx; have Mx := Mz; clear Mz) | (with_reducible refine Wp.join1 (fun _ _ => ?_)) | (with_reducible refine Wp.lett ?_) | ((with_reducible apply Wp.obind); (with_reducible first | exact hsl | exact extT_0 _ _ | exact extT_1 _ _ _)) | ((with_reducible refine Wp.iff ?_ ?_); first | (with_reducible rfl) | ((with_reducible first | apply decide_eq_false | apply bne_f); omega)) | ((with_reducible apply Wp.callN); (with_reducible exact hr _)) | (with_reducible refine Wp.go1 (by assumption) ?_) | rw [newP_eq])
   exact Wp.ret ⟨rfl, Mx.tch⟩
 ·rw [if_neg hs]
  rw [if_neg hs] at hr
  repeat (first | ((with_reducible apply Wp.obind); (with_reducible exact avInt_int _ _)) | ((with_reducible apply Wp.lr0 Mx); rfl) | ((with_reducible apply Wp.sa0 Mx); rfl; rfl; (rfl); intro _ Mz; clear Mx; have Mx := Mz; clear Mz) | ((with_reducible apply Wp.lr1 Mx); rfl) | ((with_reducible apply Wp.sa1 Mx); rfl; rfl; (rfl); intro _ Mz; clear Mx; have Mx := Mz; clear Mz) | ((with_reducible apply Wp.mnew Mx); intro _ Mz; clear Mx; have Mx := Mz; clear Mz) | (with_reducible refine Wp.lett ?_) | ((with_reducible apply Wp.obind); (with_reducible first | exact extT_0 _ _ | exact extT_1 _ _ _)) | ((with_reducible refine Wp.ift ?_ ?_); ((with_reducible apply bne_t); omega)) | ((with_reducible apply Wp.callN); (with_reducible exact hr _)) | rw [newP_eq])
  exact Wp.ret ⟨rfl, Mx.tch⟩
set_option maxRecDepth 100000 in
theorem readText_w (hu : u.length ≤ 1000000) (hn : u.length + 20 < n) (hp : p ≤ u.length) (hxB : memB TBld h.ex = true) (hx8 : memB TU8 h.ex = false) : world n (d + 10) 40 [strA u, .int .i64 (p : Int)] h = some (TRV (readTextQ u p), h) := by
 apply Wp.eq
 rw [w_lex_readText]
 refine Wp.gc ?_
 suffices hK : Wp (lex_readText (world n (d + 9)) n u (p : Int) h) fun r h' => r = TRV (readTextQ u p) ∧ Tch [] h h' from hK.mono fun r h' ⟨e, t⟩ => ⟨t.above, by rw [e]; exact TRV_scal _, e, rfl⟩
 unfold lex_readText
 have Mx := Mem.nil [] h
 have lu := lenS_nat u
 have hsl := sl_nat (u := u) (a := p) (b := u.length) hp (Nat.le_refl _)
 rw [List.take_of_length_le (by rw [List.length_drop]; omega), ← lu] at hsl
 have hq := fun (H : AHeap) (e : H.ex = h.ex) => pQuoted_w (n := n) (d := d) (h := H) (u := u.drop p) (most := 64) (by rw [List.length_drop]; omega) (by rw [List.length_drop]; omega) (by rw [e]; exact hxB) (by rw [e]; exact hx8)
 unfold quotedV at hq
 unfold readTextQ
 cases hs : quotedQ (u.drop p) 64 with
 | ok l q =>
  rw [hs] at hq
  dsimp only at hq ⊢
  have hql : q ≤ 1000000 := by
   have := (quoted_fact hs).2.1
   rw [List.length_drop] at this
   omega
  repeat (first | ((with_reducible apply Wp.obind); (with_reducible first | exact avInt_int _ _ | exact avStr_str _)) | ((with_reducible apply Wp.ld0 Mx); rfl) | ((with_reducible apply Wp.lr0 Mx); rfl) | ((with_reducible apply Wp.sa0 Mx); rfl; rfl; (rfl); intro _ Mz; clear Mx; have Mx := Mz; clear Mz) | ((with_reducible apply Wp.lr1 Mx); rfl) | ((with_reducible apply Wp.sa1 Mx); rfl; rfl; (rfl); intro _ Mz; clear Mx; have Mx := Mz; clear Mz) | ((with_reducible apply Wp.mnew Mx); intro _ Mz; clear Mx; have Mx := Mz; clear Mz) | ((with_reducible refine Wp.lettw ?_ ?_ ?_); omega; omega) | (with_reducible refine Wp.lett ?_) | ((with_reducible apply Wp.obind); (with_reducible first | exact hsl | exact avAgg_agg _ | exact extT_0 _ _ | exact extT_1 _ _ _ | exact extT_2 _ _ _ _)) | ((with_reducible refine Wp.iff ?_ ?_); ((with_reducible apply bne_f); omega)) | ((with_reducible apply Wp.callN); (with_reducible exact hq _ Mx.ex)) | rw [newP_eq])
  exact Wp.ret ⟨rfl, Mx.tch⟩
 | bad e q =>
  rw [hs] at hq
  dsimp only at hq ⊢
  have he := quotedQ_err hs
  have hql : q ≤ 1000000 := by
   have := quoted_bad hs
   rw [List.length_drop] at this
   omega
  repeat (first | ((with_reducible apply Wp.obind); (with_reducible first | exact avInt_int _ _ | exact avStr_str _)) | ((with_reducible apply Wp.ld0 Mx); rfl) | ((with_reducible apply Wp.lr0 Mx); rfl) | ((with_reducible apply Wp.sa0 Mx); rfl; rfl; (rfl); intro _ Mz; clear Mx; have Mx := Mz; clear Mz) | ((with_reducible apply Wp.lr1 Mx); rfl) | ((with_reducible apply Wp.sa1 Mx); rfl; rfl; (rfl); intro _ Mz; clear Mx; have Mx := Mz; clear Mz) | ((with_reducible apply Wp.mnew Mx); intro _ Mz; clear Mx; have Mx := Mz; clear Mz) | ((with_reducible refine Wp.chk ?_ ?_); focus ((repeat' (first | (with_reducible exact rfl) | (with_reducible apply and_t) | ((with_reducible apply Mem.re0 Mx); kernel_rfl; rfl))); done)) | ((with_reducible refine Wp.lettw ?_ ?_ ?_); omega; omega) | (with_reducible refine Wp.lett ?_) | ((with_reducible apply Wp.obind); (with_reducible first | exact hsl | exact avAgg_agg _ | exact extT_0 _ _ | exact extT_1 _ _ _ | exact extT_2 _ _ _ _)) | ((with_reducible refine Wp.ift ?_ ?_); ((with_reducible apply bne_t); omega)) | ((with_reducible apply Wp.callN); (with_reducible exact hq _ Mx.ex)) | rw [newP_eq])
  exact Wp.ret ⟨rfl, Mx.tch⟩
end
def numA : Bytes → Nat → Nat
 | [], a => a
 | c :: w, a => numA w (10 * a + (c.toNat - 48))
def readNumQ (u : Bytes) (p : Nat) : TR := if at? u p = some 48 then .ok 3 [] 0 p (p + 1) else if spanN digB (u.drop p) ≤ 4 then .ok 3 [] (numA ((u.drop p).take (spanN digB (u.drop p))) 0 : Nat) p (p + spanN digB (u.drop p)) else .bad 3 (p + 4)
theorem conv_str8 (h : AHeap) (w : Bytes) : opConv Tryd.prog h 9 50 (some (strA w)) = outNewS h TU8 (bytesC w) w.length 1 := by
 rw [← strCells_enc]
 kernel_rfl
theorem bytesC_get {w : Bytes} {i : Nat} (hi : i < w.length) : (bytesC w)[i]? = some (.int .u8 ((w[i]).toNat : Int)) := by
 unfold bytesC
 rw [List.getElem?_map, List.getElem?_eq_getElem hi]
 rfl
section
variable {n d p c b : Nat} {h h0 : AHeap} {u : Bytes} {Q : ARes → AHeap → Prop} {v : AV} {S : List Nat} {ys : List RowT}
theorem num_loop {w : Bytes} {sb fb : Nat} {k48 : AHeap → R} (hw : w.length ≤ 4) (hd : ∀ i (hi : i < w.length), 48 ≤ (w[i]).toNat ∧ (w[i]).toNat ≤ 57) :
  ∀ (f i a : Nat) (H : AHeap), w.length < f + i → i ≤ w.length → a < 10 ^ i → Mem [] h H [(sb, TU8, bytesC w), (fb, TSpot, [.int .i64 0, .int .i64 0]), (h.next, TTok, [.int .i64 3, .str 0 0, .int .i64 (a : Int), .int .i64 (p : Int)])] →
   (∀ H', Mem [] h H' [(sb, TU8, bytesC w), (fb, TSpot, [.int .i64 0, .int .i64 0]), (h.next, TTok, [.int .i64 3, .str 0 0, .int .i64 (numA (w.drop i) a : Nat), .int .i64 (p : Int)])] → Wp (k48 H') Q) →
   Wp (lex_readNumber_L0 h (.sl sb 0 w.length 1) (w.length : Int) k48 f (i : Int) H) Q
 | 0, i, a, H, hf, hi, ha, Mx, hk => by omega
 | f + 1, i, a, H, hf, hi, ha, Mx, hk => by
  rw [lex_readNumber_L0_s]
  unfold lex_readNumber_L0b
  by_cases hl : i < w.length
  ·have hx : idxP 1 (.sl sb 0 w.length 1) (i : Int) = some (.ptr sb i) := by rw [idxP_sl hl, Nat.zero_add, Nat.mul_one]
   have hc := Mx.at0.1.cell' (bytesC_get hl)
   obtain ⟨d1, d2⟩ := hd i hl
   have hp4 : 10 ^ i ≤ 10 ^ 4 := Nat.pow_le_pow_right (by decide) (by omega)
   have hp5 : (10 : Nat) ^ 4 = 10000 := rfl
   have hdr : numA (w.drop i) a = numA (w.drop (i + 1)) (10 * a + ((w[i]).toNat - 48)) := by
    rw [List.drop_eq_getElem_cons hl]
    rfl
   repeat (first | ((with_reducible apply Wp.obind); (with_reducible exact avInt_int _ _)) | ((with_reducible apply Wp.ld2 Mx); rfl) | ((with_reducible apply Wp.ms2 Mx); exact Nat.le_of_ble_eq_true rfl; rfl; intro _ Mz; clear Mx; have Mx := Mz; clear Mz) | ((with_reducible first | refine Wp.lettw ?_ ?_ ?_ | refine Wp.lettu8 ?_ ?_ ?_); omega; omega) | (with_reducible refine Wp.lett ?_) | ((with_reducible apply Wp.obind); (with_reducible first | exact hx | exact hc)) | ((with_reducible refine Wp.ift ?_ ?_); ((with_reducible apply decide_eq_true); omega)))
   rw [show (i : Int) + 1 = ((i + 1 : Nat) : Int) by omega]
   refine num_loop (sb := sb) (fb := fb) hw hd f (i + 1) (10 * a + ((w[i]).toNat - 48)) _ (by omega) (by omega) (by rw [Nat.pow_succ]; omega) ?_ ?_
   ·rw [show ((10 * a + ((w[i]).toNat - 48) : Nat) : Int) = 10 * (a : Int) + (((w[i]).toNat : Int) - 48) by omega]
    exact Mx
   ·intro H' M'
    exact hk H' (by rw [hdr]; exact M')
  ·have hdr : numA (w.drop i) a = a := by rw [List.drop_eq_nil_of_le (by omega)]; rfl
   repeat (first | (with_reducible refine Wp.lett ?_) | ((with_reducible refine Wp.iff ?_ ?_); ((with_reducible apply decide_eq_false); omega)))
   exact hk _ (by rw [hdr]; exact Mx)
theorem readNumber_w (hu : u.length ≤ 1000000) (hn : u.length + 10 < n) (hp : p < u.length) (hx8 : memB TU8 h.ex = false) : world n (d + 5) 39 [strA u, .int .i64 (p : Int)] h = some (TRV (readNumQ u p), h) := by
 apply Wp.eq
 rw [w_lex_readNumber]
 refine Wp.gc ?_
 suffices hK : Wp (lex_readNumber (world n (d + 4)) n u (p : Int) h) fun r h' => r = TRV (readNumQ u p) ∧ Tch [] h h' from hK.mono fun r h' ⟨e, t⟩ => ⟨t.above, by rw [e]; exact TRV_scal _, e, rfl⟩
 unfold lex_readNumber
 have Mx := Mem.nil [] h
 have lu := lenS_nat u
 have hx : idxS u (p : Int) = some ((u[p]).toNat : Int) := idxS_nat hp
 have hr := fun H => run_w (p := p) (d := d + 3) (fun c H => dyn_digit (n := n) (d := d + 2) c H) hu (by omega) 4 H
 rw [show ((4 : Nat) : Int) = 4 from rfl] at hr
 unfold readNumQ
 have hle := span_le digB (u.drop p)
 rw [List.length_drop] at hle
 by_cases h48 : (u[p]).toNat = 48
 ·rw [if_pos (by rw [at?_lt hp, h48])]
  repeat (first | ((with_reducible apply Wp.lr0 Mx); rfl) | ((with_reducible apply Wp.sa0 Mx); rfl; rfl; (rfl); intro _ Mz; clear Mx; have Mx := Mz; clear Mz) | ((with_reducible apply Wp.lr1 Mx); rfl) | ((with_reducible apply Wp.sa1 Mx); rfl; rfl; (rfl); intro _ Mz; clear Mx; have Mx := Mz; clear Mz) | ((with_reducible apply Wp.mnew Mx); intro _ Mz; clear Mx; have Mx := Mz; clear Mz) | ((with_reducible refine Wp.lettw ?_ ?_ ?_); omega; omega) | (with_reducible refine Wp.lett ?_) | ((with_reducible apply Wp.obind); (with_reducible exact hx)) | ((with_reducible refine Wp.ift ?_ ?_); ((with_reducible apply beq_t); omega)) | rw [newP_eq])
  exact Wp.ret ⟨rfl, Mx.tch⟩
 ·rw [if_neg (by rw [at?_lt hp]; simp; exact h48)]
  unfold runV at hr
  by_cases hs : spanN digB (u.drop p) ≤ 4
  ·rw [if_pos hs]
   rw [if_pos hs] at hr
   have hsl := sl_nat (u := u) (a := p) (b := p + spanN digB (u.drop p)) (by omega) (by omega)
   rw [Nat.add_sub_cancel_left] at hsl
   have hwl : ((u.drop p).take (spanN digB (u.drop p))).length = spanN digB (u.drop p) := by rw [List.length_take, List.length_drop]; omega
   have hdg : ∀ i (hi : i < ((u.drop p).take (spanN digB (u.drop p))).length), 48 ≤ (((u.drop p).take (spanN digB (u.drop p)))[i]).toNat ∧ (((u.drop p).take (spanN digB (u.drop p)))[i]).toNat ≤ 57 := by
    intro i hi
    have := span_lt (f := digB) (w := u.drop p) (i := i) (by omega) (by rw [List.length_drop]; omega)
    rw [List.getElem_take]
    simp [digB] at this
    simp
    omega
   obtain ⟨w, hw⟩ : ∃ w, w = (u.drop p).take (spanN digB (u.drop p)) := ⟨_, rfl⟩
   rw [← hw] at hsl hwl hdg ⊢
   repeat (first | ((with_reducible apply Wp.obind); (with_reducible exact avInt_int _ _)) | ((with_reducible apply Wp.sa1 Mx); rfl; rfl; (rfl); intro _ Mz; clear Mx; have Mx := Mz; clear Mz) | ((with_reducible apply Wp.mnew Mx); intro _ Mz; clear Mx; have Mx := Mz; clear Mz) | (with_reducible refine Wp.lett ?_) | ((with_reducible apply Wp.obind); (with_reducible first | exact hx | exact hsl | exact extT_0 _ _ | exact extT_1 _ _ _)) | ((with_reducible refine Wp.iff ?_ ?_); ((with_reducible first | apply bne_f | apply beq_f); omega)) | ((with_reducible apply Wp.callN); (with_reducible exact hr _)) | rw [newP_eq])
   refine Wp.mnews Mx (conv_str8 _ _) (bytesC_one _) hx8 (fun h1 M1 => ?_)
   clear Mx
   have Mx := M1
   clear M1
   have hll : ∀ sb, lenL (.sl sb 0 w.length 1) = some (w.length : Int) := fun _ => rfl
   repeat (first | (with_reducible refine Wp.join0 (fun _ _ => ?_)) | ((with_reducible apply Wp.obind); (with_reducible exact hll _)))
   refine num_loop (p := p) (by omega) hdg n 0 0 _ (by omega) (by omega) (by decide) Mx (fun H' M' => ?_)
   clear Mx
   have Mx := M'
   clear M'
   repeat (first | ((with_reducible apply Wp.lr1 Mx); rfl) | ((with_reducible apply Wp.sa1 Mx); rfl; rfl; (rfl); intro _ Mz; clear Mx; have Mx := Mz; clear Mz) | ((with_reducible apply Wp.lr2 Mx); rfl) | ((with_reducible apply Wp.sa2 Mx); rfl; rfl; (rfl); intro _ Mz; clear Mx; have Mx := Mz; clear Mz) | (with_reducible refine Wp.go0 (by assumption) ?_))
   exact Wp.ret ⟨by rw [← hwl]; rfl, Mx.tch⟩
  ·rw [if_neg hs]
   rw [if_neg hs] at hr
   repeat (first | ((with_reducible apply Wp.obind); (with_reducible exact avInt_int _ _)) | ((with_reducible apply Wp.lr0 Mx); rfl) | ((with_reducible apply Wp.sa0 Mx); rfl; rfl; (rfl); intro _ Mz; clear Mx; have Mx := Mz; clear Mz) | ((with_reducible apply Wp.lr1 Mx); rfl) | ((with_reducible apply Wp.sa1 Mx); rfl; rfl; (rfl); intro _ Mz; clear Mx; have Mx := Mz; clear Mz) | ((with_reducible apply Wp.mnew Mx); intro _ Mz; clear Mx; have Mx := Mz; clear Mz) | (with_reducible refine Wp.lett ?_) | ((with_reducible apply Wp.obind); (with_reducible first | exact hx | exact extT_0 _ _ | exact extT_1 _ _ _)) | ((with_reducible refine Wp.ift ?_ ?_); ((with_reducible first | apply bne_t | apply beq_t); omega)) | ((with_reducible refine Wp.iff ?_ ?_); ((with_reducible apply beq_f); omega)) | ((with_reducible apply Wp.callN); (with_reducible exact hr _)) | rw [newP_eq])
   exact Wp.ret ⟨rfl, Mx.tch⟩
end
def readQ (u : Bytes) (p : Nat) : TR := match at? u p with
 | none => .bad 6 p
 | some c => if smallB c = true then readWordQ u p else if digB c = true then readNumQ u p else if c = 34 then readTextQ u p else if c = 60 ∨ c = 123 ∨ c = 125 then .ok 5 ((u.drop p).take 1) 0 p (p + 1) else .bad 6 p
section
variable {n d p c b : Nat} {h h0 : AHeap} {u : Bytes} {Q : ARes → AHeap → Prop} {v : AV} {S : List Nat} {ys : List RowT}
set_option maxRecDepth 100000 in
theorem read_w (hu : u.length ≤ 1000000) (hn : u.length + 20 < n) (hp : p < u.length) (hxB : memB TBld h.ex = true) (hx8 : memB TU8 h.ex = false) : world n (d + 11) 32 [strA u, .int .i64 (p : Int)] h = some (TRV (readQ u p), h) := by
 apply Wp.eq
 rw [w_lex_read]
 refine Wp.gc ?_
 suffices hK : Wp (lex_read (world n (d + 10)) n u (p : Int) h) fun r h' => r = TRV (readQ u p) ∧ Tch [] h h' from hK.mono fun r h' ⟨e, t⟩ => ⟨t.above, by rw [e]; exact TRV_scal _, e, rfl⟩
 unfold lex_read
 have Mx := Mem.nil [] h
 have lu := lenS_nat u
 have hx : idxS u (p : Int) = some ((u[p]).toNat : Int) := idxS_nat hp
 have hs := fun H => small_w (n := n) (d := d + 9) (c := (u[p]).toNat) H
 have hd := fun H => digit_w (n := n) (d := d + 9) (c := (u[p]).toNat) H
 unfold readQ
 rw [at?_lt hp]
 dsimp only
 cases e1 : smallB (u[p]).toNat with
 | true =>
  rw [e1] at hs
  rw [if_pos rfl]
  have hr := fun H => readWord_w (n := n) (d := d + 5) (p := p) hu (by omega) (by omega) H
  cases hW : readWordQ u p with
  | ok k t m a q =>
   rw [hW] at hr
   unfold TRV tokC at hr
   repeat (first | ((with_reducible apply Wp.obind); (with_reducible first | exact avInt_int _ _ | exact avBool_bool _)) | ((with_reducible apply Wp.lr0 Mx); rfl) | ((with_reducible apply Wp.sa0 Mx); rfl; rfl; (rfl); intro _ Mz; clear Mx; have Mx := Mz; clear Mz) | ((with_reducible apply Wp.lr1 Mx); rfl) | ((with_reducible apply Wp.sa1 Mx); rfl; rfl; (rfl); intro _ Mz; clear Mx; have Mx := Mz; clear Mz) | ((with_reducible apply Wp.mnew Mx); intro _ Mz; clear Mx; have Mx := Mz; clear Mz) | ((with_reducible apply Wp.obind); (with_reducible first | exact hx | exact avAgg_agg _ | exact extT_0 _ _ | exact extT_1 _ _ _ | exact extT_2 _ _ _ _)) | ((with_reducible refine Wp.ift ?_ ?_); (with_reducible rfl)) | ((with_reducible apply Wp.callN); (with_reducible first | exact hs _ | exact hr _)) | rw [newP_eq])
   exact Wp.ret ⟨rfl, Mx.tch⟩
  | bad e q =>
   rw [hW] at hr
   unfold TRV at hr
   repeat (first | ((with_reducible apply Wp.obind); (with_reducible first | exact avInt_int _ _ | exact avBool_bool _)) | ((with_reducible apply Wp.lr0 Mx); rfl) | ((with_reducible apply Wp.sa0 Mx); rfl; rfl; (rfl); intro _ Mz; clear Mx; have Mx := Mz; clear Mz) | ((with_reducible apply Wp.lr1 Mx); rfl) | ((with_reducible apply Wp.sa1 Mx); rfl; rfl; (rfl); intro _ Mz; clear Mx; have Mx := Mz; clear Mz) | ((with_reducible apply Wp.mnew Mx); intro _ Mz; clear Mx; have Mx := Mz; clear Mz) | ((with_reducible apply Wp.obind); (with_reducible first | exact hx | exact avAgg_agg _ | exact extT_0 _ _ | exact extT_1 _ _ _ | exact extT_2 _ _ _ _)) | ((with_reducible refine Wp.ift ?_ ?_); (with_reducible rfl)) | ((with_reducible apply Wp.callN); (with_reducible first | exact hs _ | exact hr _)) | rw [newP_eq])
   exact Wp.ret ⟨rfl, Mx.tch⟩
 | false =>
  rw [e1] at hs
  rw [if_neg (by decide)]
  cases e2 : digB (u[p]).toNat with
  | true =>
   rw [e2] at hd
   rw [if_pos rfl]
   have hr := fun (H : AHeap) (hH : H.ex = h.ex) => readNumber_w (n := n) (d := d + 5) (h := H) (p := p) hu (by omega) hp (by rw [hH]; exact hx8)
   cases hW : readNumQ u p with
   | ok k t m a q =>
    rw [hW] at hr
    unfold TRV tokC at hr
    repeat (first | ((with_reducible apply Wp.obind); (with_reducible first | exact avInt_int _ _ | exact avBool_bool _)) | ((with_reducible apply Wp.lr0 Mx); rfl) | ((with_reducible apply Wp.sa0 Mx); rfl; rfl; (rfl); intro _ Mz; clear Mx; have Mx := Mz; clear Mz) | ((with_reducible apply Wp.lr1 Mx); rfl) | ((with_reducible apply Wp.sa1 Mx); rfl; rfl; (rfl); intro _ Mz; clear Mx; have Mx := Mz; clear Mz) | ((with_reducible apply Wp.mnew Mx); intro _ Mz; clear Mx; have Mx := Mz; clear Mz) | ((with_reducible apply Wp.obind); (with_reducible first | exact hx | exact avAgg_agg _ | exact extT_0 _ _ | exact extT_1 _ _ _ | exact extT_2 _ _ _ _)) | ((with_reducible refine Wp.ift ?_ ?_); (with_reducible rfl)) | ((with_reducible refine Wp.iff ?_ ?_); (with_reducible rfl)) | ((with_reducible apply Wp.callN); (with_reducible first | exact hs _ | exact hd _ | exact hr _ Mx.ex)) | rw [newP_eq])
    exact Wp.ret ⟨rfl, Mx.tch⟩
   | bad e q =>
    rw [hW] at hr
    unfold TRV at hr
    repeat (first | ((with_reducible apply Wp.obind); (with_reducible first | exact avInt_int _ _ | exact avBool_bool _)) | ((with_reducible apply Wp.lr0 Mx); rfl) | ((with_reducible apply Wp.sa0 Mx); rfl; rfl; (rfl); intro _ Mz; clear Mx; have Mx := Mz; clear Mz) | ((with_reducible apply Wp.lr1 Mx); rfl) | ((with_reducible apply Wp.sa1 Mx); rfl; rfl; (rfl); intro _ Mz; clear Mx; have Mx := Mz; clear Mz) | ((with_reducible apply Wp.mnew Mx); intro _ Mz; clear Mx; have Mx := Mz; clear Mz) | ((with_reducible apply Wp.obind); (with_reducible first | exact hx | exact avAgg_agg _ | exact extT_0 _ _ | exact extT_1 _ _ _ | exact extT_2 _ _ _ _)) | ((with_reducible refine Wp.ift ?_ ?_); (with_reducible rfl)) | ((with_reducible refine Wp.iff ?_ ?_); (with_reducible rfl)) | ((with_reducible apply Wp.callN); (with_reducible first | exact hs _ | exact hd _ | exact hr _ Mx.ex)) | rw [newP_eq])
    exact Wp.ret ⟨rfl, Mx.tch⟩
  | false =>
   rw [e2] at hd
   rw [if_neg (by decide)]
   by_cases h34 : (u[p]).toNat = 34
   ·rw [if_pos h34]
    have hr := fun (H : AHeap) (hH : H.ex = h.ex) => readText_w (n := n) (d := d) (h := H) (p := p) hu (by omega) (by omega) (by rw [hH]; exact hxB) (by rw [hH]; exact hx8)
    cases hW : readTextQ u p with
    | ok k t m a q =>
     rw [hW] at hr
     unfold TRV tokC at hr
     repeat (first | ((with_reducible apply Wp.obind); (with_reducible first | exact avInt_int _ _ | exact avBool_bool _)) | ((with_reducible apply Wp.lr0 Mx); rfl) | ((with_reducible apply Wp.sa0 Mx); rfl; rfl; (rfl); intro _ Mz; clear Mx; have Mx := Mz; clear Mz) | ((with_reducible apply Wp.lr1 Mx); rfl) | ((with_reducible apply Wp.sa1 Mx); rfl; rfl; (rfl); intro _ Mz; clear Mx; have Mx := Mz; clear Mz) | ((with_reducible apply Wp.mnew Mx); intro _ Mz; clear Mx; have Mx := Mz; clear Mz) | (with_reducible refine Wp.lett ?_) | ((with_reducible apply Wp.obind); (with_reducible first | exact hx | exact avAgg_agg _ | exact extT_0 _ _ | exact extT_1 _ _ _ | exact extT_2 _ _ _ _)) | ((with_reducible refine Wp.ift ?_ ?_); ((with_reducible apply beq_t); omega)) | ((with_reducible refine Wp.iff ?_ ?_); (with_reducible rfl)) | ((with_reducible apply Wp.callN); (with_reducible first | exact hs _ | exact hd _ | exact hr _ Mx.ex)) | rw [newP_eq])
     exact Wp.ret ⟨rfl, Mx.tch⟩
    | bad e q =>
     rw [hW] at hr
     unfold TRV at hr
     repeat (first | ((with_reducible apply Wp.obind); (with_reducible first | exact avInt_int _ _ | exact avBool_bool _)) | ((with_reducible apply Wp.lr0 Mx); rfl) | ((with_reducible apply Wp.sa0 Mx); rfl; rfl; (rfl); intro _ Mz; clear Mx; have Mx := Mz; clear Mz) | ((with_reducible apply Wp.lr1 Mx); rfl) | ((with_reducible apply Wp.sa1 Mx); rfl; rfl; (rfl); intro _ Mz; clear Mx; have Mx := Mz; clear Mz) | ((with_reducible apply Wp.mnew Mx); intro _ Mz; clear Mx; have Mx := Mz; clear Mz) | (with_reducible refine Wp.lett ?_) | ((with_reducible apply Wp.obind); (with_reducible first | exact hx | exact avAgg_agg _ | exact extT_0 _ _ | exact extT_1 _ _ _ | exact extT_2 _ _ _ _)) | ((with_reducible refine Wp.ift ?_ ?_); ((with_reducible apply beq_t); omega)) | ((with_reducible refine Wp.iff ?_ ?_); (with_reducible rfl)) | ((with_reducible apply Wp.callN); (with_reducible first | exact hs _ | exact hd _ | exact hr _ Mx.ex)) | rw [newP_eq])
     exact Wp.ret ⟨rfl, Mx.tch⟩
   ·rw [if_neg h34]
    have hsl := sl_nat (u := u) (a := p) (b := p + 1) (by omega) (by omega)
    rw [Nat.add_sub_cancel_left, show ((p + 1 : Nat) : Int) = (p : Int) + 1 by omega] at hsl
    by_cases h60 : (u[p]).toNat = 60
    ·rw [if_pos (.inl h60)]
     repeat (first | ((with_reducible apply Wp.obind); (with_reducible exact avBool_bool _)) | ((with_reducible apply Wp.lr0 Mx); rfl) | ((with_reducible apply Wp.sa0 Mx); rfl; rfl; (rfl); intro _ Mz; clear Mx; have Mx := Mz; clear Mz) | ((with_reducible apply Wp.lr1 Mx); rfl) | ((with_reducible apply Wp.sa1 Mx); rfl; rfl; (rfl); intro _ Mz; clear Mx; have Mx := Mz; clear Mz) | ((with_reducible apply Wp.mnew Mx); intro _ Mz; clear Mx; have Mx := Mz; clear Mz) | (with_reducible refine Wp.join1 (fun _ _ => ?_)) | ((with_reducible refine Wp.lettw ?_ ?_ ?_); omega; omega) | (with_reducible refine Wp.lett ?_) | ((with_reducible apply Wp.obind); (with_reducible first | exact hx | exact hsl)) | ((with_reducible refine Wp.ift ?_ ?_); first | (with_reducible rfl) | ((with_reducible apply beq_t); omega)) | ((with_reducible refine Wp.iff ?_ ?_); first | (with_reducible rfl) | ((with_reducible apply beq_f); omega)) | ((with_reducible apply Wp.callN); (with_reducible first | exact hs _ | exact hd _)) | (with_reducible refine Wp.go1 (by assumption) ?_) | rw [newP_eq])
     exact Wp.ret ⟨rfl, Mx.tch⟩
    ·by_cases h123 : (u[p]).toNat = 123
     ·rw [if_pos (.inr (.inl h123))]
      repeat (first | ((with_reducible apply Wp.obind); (with_reducible exact avBool_bool _)) | ((with_reducible apply Wp.lr0 Mx); rfl) | ((with_reducible apply Wp.sa0 Mx); rfl; rfl; (rfl); intro _ Mz; clear Mx; have Mx := Mz; clear Mz) | ((with_reducible apply Wp.lr1 Mx); rfl) | ((with_reducible apply Wp.sa1 Mx); rfl; rfl; (rfl); intro _ Mz; clear Mx; have Mx := Mz; clear Mz) | ((with_reducible apply Wp.mnew Mx); intro _ Mz; clear Mx; have Mx := Mz; clear Mz) | (with_reducible refine Wp.join1 (fun _ _ => ?_)) | ((with_reducible refine Wp.lettw ?_ ?_ ?_); omega; omega) | (with_reducible refine Wp.lett ?_) | ((with_reducible apply Wp.obind); (with_reducible first | exact hx | exact hsl)) | ((with_reducible refine Wp.ift ?_ ?_); first | (with_reducible rfl) | ((with_reducible apply beq_t); omega)) | ((with_reducible refine Wp.iff ?_ ?_); first | (with_reducible rfl) | ((with_reducible apply beq_f); omega)) | ((with_reducible apply Wp.callN); (with_reducible first | exact hs _ | exact hd _)) | (with_reducible refine Wp.go1 (by assumption) ?_) | rw [newP_eq])
      exact Wp.ret ⟨rfl, Mx.tch⟩
     ·by_cases h125 : (u[p]).toNat = 125
      ·rw [if_pos (.inr (.inr h125))]
       repeat (first | ((with_reducible apply Wp.obind); (with_reducible exact avBool_bool _)) | ((with_reducible apply Wp.lr0 Mx); rfl) | ((with_reducible apply Wp.sa0 Mx); rfl; rfl; (rfl); intro _ Mz; clear Mx; have Mx := Mz; clear Mz) | ((with_reducible apply Wp.lr1 Mx); rfl) | ((with_reducible apply Wp.sa1 Mx); rfl; rfl; (rfl); intro _ Mz; clear Mx; have Mx := Mz; clear Mz) | ((with_reducible apply Wp.mnew Mx); intro _ Mz; clear Mx; have Mx := Mz; clear Mz) | (with_reducible refine Wp.join1 (fun _ _ => ?_)) | ((with_reducible refine Wp.lettw ?_ ?_ ?_); omega; omega) | (with_reducible refine Wp.lett ?_) | ((with_reducible apply Wp.obind); (with_reducible first | exact hx | exact hsl)) | ((with_reducible refine Wp.ift ?_ ?_); ((with_reducible apply beq_t); omega)) | ((with_reducible refine Wp.iff ?_ ?_); first | (with_reducible rfl) | ((with_reducible apply beq_f); omega)) | ((with_reducible apply Wp.callN); (with_reducible first | exact hs _ | exact hd _)) | (with_reducible refine Wp.go1 (by assumption) ?_) | rw [newP_eq])
       exact Wp.ret ⟨rfl, Mx.tch⟩
      ·rw [if_neg (by omega)]
       repeat (first | ((with_reducible apply Wp.obind); (with_reducible exact avBool_bool _)) | ((with_reducible apply Wp.lr0 Mx); rfl) | ((with_reducible apply Wp.sa0 Mx); rfl; rfl; (rfl); intro _ Mz; clear Mx; have Mx := Mz; clear Mz) | ((with_reducible apply Wp.lr1 Mx); rfl) | ((with_reducible apply Wp.sa1 Mx); rfl; rfl; (rfl); intro _ Mz; clear Mx; have Mx := Mz; clear Mz) | ((with_reducible apply Wp.mnew Mx); intro _ Mz; clear Mx; have Mx := Mz; clear Mz) | (with_reducible refine Wp.join1 (fun _ _ => ?_)) | (with_reducible refine Wp.lett ?_) | ((with_reducible apply Wp.obind); (with_reducible exact hx)) | ((with_reducible refine Wp.iff ?_ ?_); first | (with_reducible rfl) | ((with_reducible apply beq_f); omega)) | ((with_reducible apply Wp.callN); (with_reducible first | exact hs _ | exact hd _)) | (with_reducible refine Wp.go1 (by assumption) ?_) | rw [newP_eq])
       exact Wp.ret ⟨rfl, Mx.tch⟩
end
def tokenQ (u : Bytes) (p : Nat) : TR := match readQ u p with
 | .ok k t m a q => if endsB u q = true ∨ ((at? u q).map blankB = some true) then .ok k t m a q else .bad 6 q
 | .bad e q => .bad e q
theorem elT : Abs.elemOf Tryd.prog 24 = some TTok := by kernel_rfl
theorem notT : notInt Tryd.prog 24 = true := by kernel_rfl
theorem cellsT : Tryd.prog.cellsOf TTok = 4 := by kernel_rfl
theorem bldSl_tok (h : AHeap) (a c e : Int) (t : Bytes) : bldSl Tryd.prog h 24 1 [(0, .agg [.int .i64 a, strA t, .int .i64 c, .int .i64 e])] = outNewS h TTok [.int .i64 a, strA t, .int .i64 c, .int .i64 e] 1 4 := by kernel_rfl
theorem rowSame_r {H : AHeap} {b : Nat} {e : TypeId} {l : List AV} (k : RowH H b e l) : rowSame H b e l = true := by
 obtain ⟨t, h1, h2⟩ := k
 unfold rowSame
 rw [h1]
 dsimp only
 have := take_of_get (t := t) (l := l) l.length 0 (fun i _ hi => h2 i (by omega)) (by omega)
 rw [List.drop_zero, List.take_length] at this
 rw [this]
 unfold sameLO
 simp [AV.sameL_self]
theorem and_rows {a c : Bool} (h1 : a = true) (h2 : c = true) : (a && (c && (true && (true && true)))) = true := by rw [h1, h2]; rfl
theorem readQ_le {u : Bytes} {p : Nat} {k m : Int} {t : Bytes} {a q : Nat} (hp : p < u.length) (hh : readQ u p = .ok k t m a q) : q ≤ u.length ∧ a = p := by
 unfold readQ at hh
 rw [at?_lt hp] at hh
 dsimp only at hh
 have hw := span_le wordB (u.drop p)
 have hd := span_le digB (u.drop p)
 rw [List.length_drop] at hw hd
 split at hh
 ·unfold readWordQ at hh
  split at hh
  ·split at hh
   ·rename_i h58
    obtain ⟨h1, _⟩ := at?_some h58
    simp only [TR.ok.injEq] at hh
    omega
   ·simp only [TR.ok.injEq] at hh
    omega
  ·cases hh
 ·split at hh
  ·unfold readNumQ at hh
   split at hh
   ·simp only [TR.ok.injEq] at hh
    omega
   ·split at hh
    ·simp only [TR.ok.injEq] at hh
     omega
    ·cases hh
  ·split at hh
   ·unfold readTextQ at hh
    cases hq : quotedQ (u.drop p) 64 with
    | ok l q' =>
     rw [hq] at hh
     have := (quoted_fact hq).2.1
     rw [List.length_drop] at this
     simp only [TR.ok.injEq] at hh
     omega
    | bad e q' => rw [hq] at hh; cases hh
   ·split at hh
    ·simp only [TR.ok.injEq] at hh
     omega
    ·cases hh
section
variable {n d p c b : Nat} {h h0 : AHeap} {u : Bytes} {Q : ARes → AHeap → Prop} {v : AV} {S : List Nat} {ys T : List RowT} {rows : List (List AV)}
set_option maxRecDepth 100000 in
theorem token_bad {e : Int} {q : Nat} (he : e ≠ 0) (hR : readQ u p = .bad e q) (Mx : Mem S h0 h ((b, TLex, [strA u, .int .i64 (p : Int), v]) :: T)) (hu : u.length ≤ 1000000) (hn : u.length + 20 < n) (hp : p < u.length) (hxB : memB TBld h0.ex = true) (hx8 : memB TU8 h0.ex = false) :
  ∃ h', world n (d + 12) 21 [.ptr b 0] h = some (.ret (.agg [.int .i64 e, .int .i64 (q : Int)]), h') ∧ Mem S h0 h' ((b, TLex, [strA u, .int .i64 (p : Int), v]) :: T) := by
 apply Wp.ex
 rw [w_lex_lexer_token]
 unfold lex_lexer_token
 have hr := fun (H : AHeap) (hH : H.ex = h0.ex) => read_w (n := n) (d := d) (h := H) hu hn hp (by rw [hH]; exact hxB) (by rw [hH]; exact hx8)
 rw [hR] at hr
 unfold TRV at hr
 repeat (first | ((with_reducible apply Wp.obind); (with_reducible first | exact avInt_int _ _ | exact avStr_str _ | exact nilC_ptr _ _ | exact fldP_ptr _ _ _)) | ((with_reducible apply Wp.ld0 Mx); rfl) | ((with_reducible apply Wp.lr0 Mx); rfl) | ((with_reducible apply Wp.sa0 Mx); rfl; rfl; (rfl); intro _ Mz; clear Mx; have Mx := Mz; clear Mz) | ((with_reducible apply Wp.ld1 Mx); rfl) | ((with_reducible apply Wp.sa1 Mx); rfl; rfl; (rfl); intro _ Mz; clear Mx; have Mx := Mz; clear Mz) | ((with_reducible apply Wp.lr2 Mx); rfl) | ((with_reducible apply Wp.sa2 Mx); rfl; rfl; (rfl); intro _ Mz; clear Mx; have Mx := Mz; clear Mz) | ((with_reducible apply Wp.mnew Mx); intro _ Mz; clear Mx; have Mx := Mz; clear Mz) | (with_reducible refine Wp.lett ?_) | ((with_reducible apply Wp.obind); (with_reducible first | exact avAgg_agg _ | exact extT_0 _ _ | exact extT_1 _ _ _ | exact extT_2 _ _ _ _)) | ((with_reducible refine Wp.ift ?_ ?_); ((with_reducible apply bne_t); omega)) | ((with_reducible apply Wp.callN); (with_reducible exact hr _ Mx.ex)) | ((with_reducible refine Wp.chk ?_ ?_); exact and_rows (rowSame_r Mx.at0.1) (rowSame_r Mx.pop.at0.1)) | rw [newP_eq])
 exact Wp.ret ⟨rfl, Mx.pop.pop.pop⟩
theorem fitT : fitB Tryd.prog TTok 40 = true := by kernel_rfl
set_option maxRecDepth 100000 in
theorem token_ok {k m : Int} {t : Bytes} {a q : Nat} (hR : readQ u p = .ok k t m a q) (g : GrowT TTok 4 rows v T) (hrow : rows.length ≤ 1000000) (Mx : Mem S h0 h ((b, TLex, [strA u, .int .i64 (p : Int), v]) :: T)) (hu : u.length ≤ 1000000) (hn : u.length + 20 < n) (hp : p < u.length) (hxB : memB TBld h0.ex = true) (hx8 : memB TU8 h0.ex = false) (hxT : memB TTok h0.ex = false) (hc : endsB u q = true ∨ ((at? u q).map blankB = some true)) :
  ∃ h', world n (d + 12) 21 [.ptr b 0] h = some (.ret (.agg [.int .i64 0, .int .i64 0]), h') ∧ ∃ v' T', GrowT TTok 4 (rows ++ [tokC k t m a]) v' T' ∧ Mem S h0 h' ((b, TLex, [strA u, .int .i64 (q : Int), v']) :: T') := by
 apply Wp.ex
 rw [w_lex_lexer_token]
 unfold lex_lexer_token
 have hr := fun (H : AHeap) (hH : H.ex = h0.ex) => read_w (n := n) (d := d) (h := H) hu hn hp (by rw [hH]; exact hxB) (by rw [hH]; exact hx8)
 rw [hR] at hr
 unfold TRV tokC at hr
 have hqu := (readQ_le hp hR).1
 cases he : endsB u q with
 | true =>
  have le := fun (H : AHeap) (ys : List RowT) (M : Mem S h0 H ((b, TLex, [strA u, .int .i64 (q : Int), v]) :: ys)) => lineEnds_w (n := n) (d := d + 10) M
  rw [he] at le
  repeat (first | ((with_reducible apply Wp.obind); (with_reducible first | exact avInt_int _ _ | exact avStr_str _ | exact nilC_ptr _ _ | exact fldP_ptr _ _ _)) | ((with_reducible apply Wp.ld0 Mx); rfl) | ((with_reducible apply Wp.sa0 Mx); rfl; rfl; (rfl); intro _ Mz; clear Mx; have Mx := Mz; clear Mz) | ((with_reducible apply Wp.ld1 Mx); rfl) | ((with_reducible apply Wp.sa1 Mx); rfl; rfl; (rfl); intro _ Mz; clear Mx; have Mx := Mz; clear Mz) | ((with_reducible apply Wp.ms3 Mx); exact Nat.le_of_ble_eq_true rfl; rfl; intro _ Mz; clear Mx; have Mx := Mz; clear Mz) | ((with_reducible apply Wp.mnew Mx); intro _ Mz; clear Mx; have Mx := Mz; clear Mz) | (with_reducible refine Wp.lett ?_) | ((with_reducible apply Wp.obind); (with_reducible first | exact avAgg_agg _ | exact extT_0 _ _ | exact extT_1 _ _ _ | exact extT_2 _ _ _ _)) | ((with_reducible refine Wp.iff ?_ ?_); ((with_reducible apply bne_f); omega)) | ((with_reducible apply Wp.callN); (with_reducible exact hr _ Mx.ex)) | ((with_reducible refine Wp.chk ?_ ?_); exact and_rows (rowSame_r Mx.at0.1) (rowSame_r Mx.pop.at0.1)) | rw [newP_eq])
  refine Wp.callN (le _ _ Mx.pop.pop.pop) ?_
  repeat (first | ((with_reducible apply Wp.obind); (with_reducible first | exact avBool_bool _ | exact nilC_ptr _ _ | exact fldP_ptr _ _ _)) | ((with_reducible apply Wp.lr1 Mx); rfl) | ((with_reducible apply Wp.ld3 Mx); rfl) | (with_reducible refine Wp.join1 (fun _ _ => ?_)) | (with_reducible refine Wp.lett ?_) | ((with_reducible refine Wp.iff ?_ ?_); (with_reducible first | rfl | exact Bool.not_true)) | (with_reducible refine Wp.go1 (by assumption) ?_))
  refine Wp.mnews Mx (bldSl_tok _ _ _ _ _) rfl hxT (fun h1 M1 => ?_)
  clear Mx
  have Mx := M1
  clear M1
  repeat (((with_reducible refine Wp.chk ?_ ?_); focus ((repeat' (first | (with_reducible exact rfl) | (with_reducible apply and_t) | ((with_reducible apply Mem.re4 Mx); kernel_rfl; rfl))); done)))
  refine Wp.grow (xs := [_, _, _, _]) (T := T) (sz := 4) (P := Tryd.prog) Mx g elT notT cellsT fitT hxT rfl rfl (by omega) (by omega) (fun v' h2 T' g' M2 => ?_)
  clear Mx
  have Mx := M2
  clear M2
  simp only [List.cons_append, List.nil_append, Nat.zero_add, List.set_cons_succ, List.set_cons_zero] at Mx
  have hv1 : AV.cells v' = [v'] := by rcases g'.2 with ⟨_, rfl, _⟩ | ⟨_, _, rfl, _⟩ <;> rfl
  have hv2 : v'.one = true := by rcases g'.2 with ⟨_, rfl, _⟩ | ⟨_, _, rfl, _⟩ <;> rfl
  rw [hv1]
  refine Wp.ms3 Mx (by simp) hv2 (fun h3 M3 => ?_)
  clear Mx
  have Mx := M3
  clear M3
  simp only [Nat.zero_add, List.set_cons_succ, List.set_cons_zero] at Mx
  repeat (first | ((with_reducible apply Wp.lr2 Mx); rfl) | ((with_reducible apply Wp.sa2 Mx); rfl; rfl; (rfl); intro _ Mz; clear Mx; have Mx := Mz; clear Mz))
  exact Wp.ret ⟨rfl, v', T', g', Mx.pop.pop.pop⟩
 | false =>
  have le := fun (H : AHeap) (ys : List RowT) (M : Mem S h0 H ((b, TLex, [strA u, .int .i64 (q : Int), v]) :: ys)) => lineEnds_w (n := n) (d := d + 10) M
  rw [he] at le hc
  have hb : (at? u q).map blankB = some true := by simpa using hc
  have hq : q < u.length := Decidable.byContradiction fun hh => by rw [at?_ge (by omega)] at hb; cases hb
  have hx : idxS u (q : Int) = some ((u[q]).toNat : Int) := idxS_nat hq
  have hbl := fun H => blank_w (n := n) (d := d + 10) (c := (u[q]).toNat) H
  rw [at?_lt hq] at hb
  simp only [Option.map_some, Option.some.injEq] at hb
  rw [hb] at hbl
  repeat (first | ((with_reducible apply Wp.obind); (with_reducible first | exact avInt_int _ _ | exact avStr_str _ | exact nilC_ptr _ _ | exact fldP_ptr _ _ _)) | ((with_reducible apply Wp.ld0 Mx); rfl) | ((with_reducible apply Wp.sa0 Mx); rfl; rfl; (rfl); intro _ Mz; clear Mx; have Mx := Mz; clear Mz) | ((with_reducible apply Wp.ld1 Mx); rfl) | ((with_reducible apply Wp.sa1 Mx); rfl; rfl; (rfl); intro _ Mz; clear Mx; have Mx := Mz; clear Mz) | ((with_reducible apply Wp.ms3 Mx); exact Nat.le_of_ble_eq_true rfl; rfl; intro _ Mz; clear Mx; have Mx := Mz; clear Mz) | ((with_reducible apply Wp.mnew Mx); intro _ Mz; clear Mx; have Mx := Mz; clear Mz) | (with_reducible refine Wp.lett ?_) | ((with_reducible apply Wp.obind); (with_reducible first | exact avAgg_agg _ | exact extT_0 _ _ | exact extT_1 _ _ _ | exact extT_2 _ _ _ _)) | ((with_reducible refine Wp.iff ?_ ?_); ((with_reducible apply bne_f); omega)) | ((with_reducible apply Wp.callN); (with_reducible exact hr _ Mx.ex)) | ((with_reducible refine Wp.chk ?_ ?_); exact and_rows (rowSame_r Mx.at0.1) (rowSame_r Mx.pop.at0.1)) | rw [newP_eq])
  refine Wp.callN (le _ _ Mx.pop.pop.pop) ?_
  repeat (first | ((with_reducible apply Wp.obind); (with_reducible first | exact avBool_bool _ | exact avStr_str _ | exact nilC_ptr _ _ | exact fldP_ptr _ _ _)) | ((with_reducible apply Wp.lr1 Mx); rfl) | ((with_reducible apply Wp.ld3 Mx); rfl) | (with_reducible refine Wp.join1 (fun _ _ => ?_)) | (with_reducible refine Wp.lett ?_) | ((with_reducible apply Wp.obind); (with_reducible exact hx)) | ((with_reducible refine Wp.ift ?_ ?_); (with_reducible exact Bool.not_false)) | ((with_reducible refine Wp.iff ?_ ?_); (with_reducible exact Bool.not_true)) | ((with_reducible apply Wp.callN); (with_reducible exact hbl _)) | (with_reducible refine Wp.go1 (by assumption) ?_))
  refine Wp.mnews Mx (bldSl_tok _ _ _ _ _) rfl hxT (fun h1 M1 => ?_)
  clear Mx
  have Mx := M1
  clear M1
  repeat (((with_reducible refine Wp.chk ?_ ?_); focus ((repeat' (first | (with_reducible exact rfl) | (with_reducible apply and_t) | ((with_reducible apply Mem.re4 Mx); kernel_rfl; rfl))); done)))
  refine Wp.grow (xs := [_, _, _, _]) (T := T) (sz := 4) (P := Tryd.prog) Mx g elT notT cellsT fitT hxT rfl rfl (by omega) (by omega) (fun v' h2 T' g' M2 => ?_)
  clear Mx
  have Mx := M2
  clear M2
  simp only [List.cons_append, List.nil_append, Nat.zero_add, List.set_cons_succ, List.set_cons_zero] at Mx
  have hv1 : AV.cells v' = [v'] := by rcases g'.2 with ⟨_, rfl, _⟩ | ⟨_, _, rfl, _⟩ <;> rfl
  have hv2 : v'.one = true := by rcases g'.2 with ⟨_, rfl, _⟩ | ⟨_, _, rfl, _⟩ <;> rfl
  rw [hv1]
  refine Wp.ms3 Mx (by simp) hv2 (fun h3 M3 => ?_)
  clear Mx
  have Mx := M3
  clear M3
  simp only [Nat.zero_add, List.set_cons_succ, List.set_cons_zero] at Mx
  repeat (first | ((with_reducible apply Wp.lr2 Mx); rfl) | ((with_reducible apply Wp.sa2 Mx); rfl; rfl; (rfl); intro _ Mz; clear Mx; have Mx := Mz; clear Mz))
  exact Wp.ret ⟨rfl, v', T', g', Mx.pop.pop.pop⟩
end
section
variable {n d p c b : Nat} {h h0 : AHeap} {u : Bytes} {Q : ARes → AHeap → Prop} {v : AV} {S : List Nat} {ys T : List RowT} {rows : List (List AV)}
theorem readQ_err {e : Int} {q : Nat} (hh : readQ u p = .bad e q) : e ≠ 0 := by
 unfold readQ at hh
 split at hh
 ·cases hh
  decide
 ·split at hh
  ·unfold readWordQ at hh
   split at hh
   ·split at hh <;> cases hh
   ·cases hh
    decide
  ·split at hh
   ·unfold readNumQ at hh
    split at hh
    ·cases hh
    ·split at hh
     ·cases hh
     ·cases hh
      decide
   ·split at hh
    ·unfold readTextQ at hh
     cases hq : quotedQ (u.drop p) 64 with
     | ok l q' => rw [hq] at hh; cases hh
     | bad e' q' =>
      rw [hq] at hh
      simp only [TR.bad.injEq] at hh
      rw [← hh.1]
      exact quotedQ_err hq
    ·split at hh
     ·cases hh
     ·cases hh
      decide
set_option maxRecDepth 100000 in
theorem token_odd {k m : Int} {t : Bytes} {a q : Nat} (hR : readQ u p = .ok k t m a q) (Mx : Mem S h0 h ((b, TLex, [strA u, .int .i64 (p : Int), v]) :: T)) (hu : u.length ≤ 1000000) (hn : u.length + 20 < n) (hp : p < u.length) (hxB : memB TBld h0.ex = true) (hx8 : memB TU8 h0.ex = false) (hc : ¬ (endsB u q = true ∨ ((at? u q).map blankB = some true))) :
  ∃ h', world n (d + 12) 21 [.ptr b 0] h = some (.ret (.agg [.int .i64 6, .int .i64 (q : Int)]), h') ∧ Mem S h0 h' ((b, TLex, [strA u, .int .i64 (q : Int), v]) :: T) := by
 apply Wp.ex
 rw [w_lex_lexer_token]
 unfold lex_lexer_token
 have hr := fun (H : AHeap) (hH : H.ex = h0.ex) => read_w (n := n) (d := d) (h := H) hu hn hp (by rw [hH]; exact hxB) (by rw [hH]; exact hx8)
 rw [hR] at hr
 unfold TRV tokC at hr
 have hqu := (readQ_le hp hR).1
 have le := fun (H : AHeap) (ys : List RowT) (M : Mem S h0 H ((b, TLex, [strA u, .int .i64 (q : Int), v]) :: ys)) => lineEnds_w (n := n) (d := d + 10) M
 have he : endsB u q = false := by
  cases he : endsB u q with
  | false => rfl
  | true => exact absurd (.inl he) hc
 rw [he] at le
 have hq : q < u.length := Decidable.byContradiction fun hh => by
  unfold endsB at he
  rw [at?_ge (by omega)] at he
  cases he
 have hx : idxS u (q : Int) = some ((u[q]).toNat : Int) := idxS_nat hq
 have hbl := fun H => blank_w (n := n) (d := d + 10) (c := (u[q]).toNat) H
 have hb : blankB (u[q]).toNat = false := by
  cases hb : blankB (u[q]).toNat with
  | false => rfl
  | true => exact absurd (.inr (by rw [at?_lt hq]; simp [hb])) hc
 rw [hb] at hbl
 repeat (first | ((with_reducible apply Wp.obind); (with_reducible first | exact avInt_int _ _ | exact avStr_str _ | exact nilC_ptr _ _ | exact fldP_ptr _ _ _)) | ((with_reducible apply Wp.ld0 Mx); rfl) | ((with_reducible apply Wp.sa0 Mx); rfl; rfl; (rfl); intro _ Mz; clear Mx; have Mx := Mz; clear Mz) | ((with_reducible apply Wp.ld1 Mx); rfl) | ((with_reducible apply Wp.sa1 Mx); rfl; rfl; (rfl); intro _ Mz; clear Mx; have Mx := Mz; clear Mz) | ((with_reducible apply Wp.ms3 Mx); exact Nat.le_of_ble_eq_true rfl; rfl; intro _ Mz; clear Mx; have Mx := Mz; clear Mz) | ((with_reducible apply Wp.mnew Mx); intro _ Mz; clear Mx; have Mx := Mz; clear Mz) | (with_reducible refine Wp.lett ?_) | ((with_reducible apply Wp.obind); (with_reducible first | exact avAgg_agg _ | exact extT_0 _ _ | exact extT_1 _ _ _ | exact extT_2 _ _ _ _)) | ((with_reducible refine Wp.iff ?_ ?_); ((with_reducible apply bne_f); omega)) | ((with_reducible apply Wp.callN); (with_reducible exact hr _ Mx.ex)) | ((with_reducible refine Wp.chk ?_ ?_); exact and_rows (rowSame_r Mx.at0.1) (rowSame_r Mx.pop.at0.1)) | rw [newP_eq])
 refine Wp.callN (le _ _ Mx.pop.pop.pop) ?_
 repeat (first | ((with_reducible apply Wp.obind); (with_reducible first | exact avBool_bool _ | exact avStr_str _ | exact nilC_ptr _ _ | exact fldP_ptr _ _ _)) | ((with_reducible apply Wp.lr2 Mx); rfl) | ((with_reducible apply Wp.sa2 Mx); rfl; rfl; (rfl); intro _ Mz; clear Mx; have Mx := Mz; clear Mz) | ((with_reducible apply Wp.ld3 Mx); rfl) | (with_reducible refine Wp.join1 (fun _ _ => ?_)) | (with_reducible refine Wp.lett ?_) | ((with_reducible apply Wp.obind); (with_reducible exact hx)) | ((with_reducible refine Wp.ift ?_ ?_); (with_reducible exact Bool.not_false)) | ((with_reducible apply Wp.callN); (with_reducible exact hbl _)) | (with_reducible refine Wp.go1 (by assumption) ?_))
 exact Wp.ret ⟨rfl, Mx.pop.pop.pop⟩
theorem token_w (g : GrowT TTok 4 rows v T) (hrow : rows.length ≤ 1000000) (Mx : Mem S h0 h ((b, TLex, [strA u, .int .i64 (p : Int), v]) :: T)) (hu : u.length ≤ 1000000) (hn : u.length + 20 < n) (hp : p < u.length) (hxB : memB TBld h0.ex = true) (hx8 : memB TU8 h0.ex = false) (hxT : memB TTok h0.ex = false) : match tokenQ u p with
  | .ok k t m a q => ∃ h', world n (d + 12) 21 [.ptr b 0] h = some (.ret (.agg [.int .i64 0, .int .i64 0]), h') ∧ ∃ v' T', GrowT TTok 4 (rows ++ [tokC k t m a]) v' T' ∧ Mem S h0 h' ((b, TLex, [strA u, .int .i64 (q : Int), v']) :: T')
  | .bad e q => e ≠ 0 ∧ ∃ h', world n (d + 12) 21 [.ptr b 0] h = some (.ret (.agg [.int .i64 e, .int .i64 (q : Int)]), h') ∧ ∃ p', Mem S h0 h' ((b, TLex, [strA u, .int .i64 (p' : Int), v]) :: T) := by
 unfold tokenQ
 cases hR : readQ u p with
 | bad e q =>
  dsimp only
  have he := readQ_err hR
  obtain ⟨h', e1, M⟩ := token_bad (d := d) he hR Mx hu hn hp hxB hx8
  exact ⟨he, h', e1, p, M⟩
 | ok k t m a q =>
  dsimp only
  by_cases hc : endsB u q = true ∨ ((at? u q).map blankB = some true)
  ·rw [if_pos hc]
   exact token_ok hR g hrow Mx hu hn hp hxB hx8 hxT hc
  ·rw [if_neg hc]
   obtain ⟨h', e1, M⟩ := token_odd (d := d) hR Mx hu hn hp hxB hx8 hc
   exact ⟨by decide, h', e1, q, M⟩
end
end Go.Proofs.YtjopejiooipmkaaDoor
namespace Go.Proofs.YtjopejiooipmkaaDoor
open Go.RowKit Abs
section
variable {n d p c b : Nat} {h h0 h' : AHeap} {u : Bytes} {Q : ARes → AHeap → Prop} {v : AV} {S : List Nat} {xs rs ys T : List RowT} {rows : List (List AV)}
theorem Mem.self (M : Mem S h0 h (xs ++ rs)) : Mem (xs.map (·.1)) h h xs := by
 have hap := M.apart
 rw [List.map_append, List.nodup_append] at hap
 refine ⟨fun x hx => ?_, hap.1, Tch.refl _ _⟩
 obtain ⟨h1, h2, _⟩ := M.row x (List.mem_append_left _ hx)
 exact ⟨h1, h2, .inl (List.mem_map_of_mem hx)⟩
inductive LR where
 | ok (l : List (List AV)) (p : Nat)
 | bad (e : Int) (q : Nat)
noncomputable def restQ (u : Bytes) : Nat → Nat → List (List AV) → LR
 | 0, p, _ => .bad 6 p
 | f + 1, p, l => if endsB u p = true then .ok l p else match tokenQ u p with
  | .ok k t m a q => restQ u f (skipP u q) (l ++ [tokC k t m a])
  | .bad e q => .bad e q
noncomputable def lineQ (u : Bytes) (p : Nat) (l : List (List AV)) : LR := match restQ u (u.length + 1) (skipP u p) l with
 | .ok l' q => .ok (if l.length < l'.length then l' ++ [tokC 6 [] 0 q] else l') (q + 1)
 | .bad e q => .bad e q
noncomputable def lexQ (u : Bytes) : Nat → Nat → List (List AV) → LR
 | 0, p, l => .ok l p
 | f + 1, p, l => if p < u.length then (match lineQ u p l with
  | .ok l' q => lexQ u f q l'
  | .bad e q => .bad e q) else .ok l p
end
section
variable {n d p c b : Nat} {h h0 h' : AHeap} {u : Bytes} {Q : ARes → AHeap → Prop} {v : AV} {S : List Nat} {xs rs ys T : List RowT} {rows : List (List AV)}
theorem endsB_lt (h : endsB u p = false) : p < u.length := Decidable.byContradiction fun hh => by
 unfold endsB at h
 rw [at?_ge (by omega)] at h
 cases h
theorem tokenQ_le {k m : Int} {t : Bytes} {a q : Nat} (hp : p < u.length) (hh : tokenQ u p = .ok k t m a q) : q ≤ u.length := by
 unfold tokenQ at hh
 cases hR : readQ u p with
 | bad e q' => rw [hR] at hh; cases hh
 | ok k' t' m' a' q' =>
  rw [hR] at hh
  dsimp only at hh
  split at hh
  ·simp only [TR.ok.injEq] at hh
   have := (readQ_le hp hR).1
   omega
  ·cases hh
theorem readQ_lt {k m : Int} {t : Bytes} {a q : Nat} (hp : p < u.length) (hh : readQ u p = .ok k t m a q) : p < q := by
 unfold readQ at hh
 rw [at?_lt hp] at hh
 dsimp only at hh
 split at hh
 ·rename_i hs
  have h1 : 1 ≤ spanN wordB (u.drop p) := by
   rw [List.drop_eq_getElem_cons hp]
   unfold spanN
   rw [if_pos (by unfold wordB; rw [hs]; rfl)]
   omega
  unfold readWordQ at hh
  split at hh
  ·split at hh <;> (simp only [TR.ok.injEq] at hh; omega)
  ·cases hh
 ·split at hh
  ·rename_i hs
   have h1 : 1 ≤ spanN digB (u.drop p) := by
    rw [List.drop_eq_getElem_cons hp]
    unfold spanN
    rw [if_pos hs]
    omega
   unfold readNumQ at hh
   split at hh
   ·simp only [TR.ok.injEq] at hh
    omega
   ·split at hh
    ·simp only [TR.ok.injEq] at hh
     omega
    ·cases hh
  ·split at hh
   ·unfold readTextQ at hh
    cases hq : quotedQ (u.drop p) 64 with
    | ok l q' =>
     rw [hq] at hh
     have := (quoted_fact hq).1
     simp only [TR.ok.injEq] at hh
     omega
    | bad e q' => rw [hq] at hh; cases hh
   ·split at hh
    ·simp only [TR.ok.injEq] at hh
     omega
    ·cases hh
theorem tokenQ_lt {k m : Int} {t : Bytes} {a q : Nat} (hp : p < u.length) (hh : tokenQ u p = .ok k t m a q) : p < q := by
 unfold tokenQ at hh
 cases hR : readQ u p with
 | bad e q' => rw [hR] at hh; cases hh
 | ok k' t' m' a' q' =>
  rw [hR] at hh
  dsimp only at hh
  split at hh
  ·simp only [TR.ok.injEq] at hh
   have := readQ_lt hp hR
   omega
  ·cases hh
set_option maxRecDepth 100000 in
theorem line_loop {hb : AHeap} {k14 : AHeap → R} (hu : u.length ≤ 1000000) (hn : u.length + 20 < n) (hxB : memB TBld h0.ex = true) (hx8 : memB TU8 h0.ex = false) (hxT : memB TTok h0.ex = false) :
  ∀ (fu f p : Nat) (rows : List (List AV)) (v : AV) (T : List RowT) (H : AHeap), fu < f → rows.length ≤ p → p ≤ u.length → GrowT TTok 4 rows v T → Mem S h0 H (((b, TLex, [strA u, .int .i64 (p : Int), v]) :: T) ++ [(hb.next, TSpot, [.int .i64 0, .int .i64 0])]) →
   (∀ l q v' T' H', restQ u fu p rows = .ok l q → GrowT TTok 4 l v' T' → Mem S h0 H' (((b, TLex, [strA u, .int .i64 (q : Int), v']) :: T') ++ [(hb.next, TSpot, [.int .i64 0, .int .i64 0])]) → Wp (k14 H') Q) →
   (∀ e q H' l' T', restQ u fu p rows = .bad e q → e ≠ 0 → Mem S h0 H' ((b, TLex, l') :: T') → Q (.ret (.agg [.int .i64 e, .int .i64 (q : Int)])) H') →
   1 ≤ fu → u.length + 1 ≤ fu + p →
   Wp (lex_lexer_line_L0 (world n (d + 12)) (.ptr b 0) hb k14 f H) Q
 | fu, 0, p, rows, v, T, H, hf, hrp, hp, g, Mx, hok, hbad, _, _ => by omega
 | 0, f + 1, p, rows, v, T, H, hf, hrp, hp, g, Mx, hok, hbad, h1, _ => by omega
 | fu + 1, f + 1, p, rows, v, T, H, hf, hrp, hp, g, Mx, hok, hbad, h1, hfu => by
  rw [lex_lexer_line_L0_s]
  unfold lex_lexer_line_L0b
  have le := lineEnds_w (n := n) (d := d + 11) (ys := T ++ [(hb.next, TSpot, [.int .i64 0, .int .i64 0])]) Mx
  cases he : endsB u p with
  | true =>
   rw [he] at le
   refine Wp.callN le ?_
   repeat (first | (with_reducible refine Wp.lett ?_) | ((with_reducible apply Wp.obind); (with_reducible exact avBool_bool _)) | ((with_reducible refine Wp.iff ?_ ?_); (with_reducible exact Bool.not_true)))
   exact hok rows p v T H (by rw [restQ, if_pos he]) g Mx
  | false =>
   rw [he] at le
   have hlt := endsB_lt he
   have tk := token_w (d := d) g (by omega) (Mem.self Mx) hu hn hlt (by rw [Mx.ex]; exact hxB) (by rw [Mx.ex]; exact hx8) (by rw [Mx.ex]; exact hxT)
   have hst : restQ u (fu + 1) p rows = match tokenQ u p with
    | .ok k t m a q => restQ u fu (skipP u q) (rows ++ [tokC k t m a])
    | .bad e q => .bad e q := by rw [restQ, if_neg (by rw [he]; decide)] <;> rfl
   refine Wp.callN le ?_
   cases hT : tokenQ u p with
   | bad e q =>
    rw [hT] at tk hst
    dsimp only at tk hst
    obtain ⟨hne, h1, e1, p', M1⟩ := tk
    have M2 := Mx.frame M1
    have M3 := M2.perm List.perm_append_comm
    clear Mx
    have Mx := M3
    simp only [List.cons_append, List.nil_append] at Mx
    repeat (first | ((with_reducible apply Wp.obind); (with_reducible first | exact avInt_int _ _ | exact avBool_bool _)) | ((with_reducible apply Wp.ld0 Mx); rfl) | ((with_reducible apply Wp.lr0 Mx); rfl) | ((with_reducible apply Wp.sa0 Mx); rfl; rfl; (rfl); intro _ Mz; clear Mx; have Mx := Mz; clear Mz) | ((with_reducible apply Wp.lr1 Mx); rfl) | ((with_reducible apply Wp.sa1 Mx); rfl; rfl; (rfl); intro _ Mz; clear Mx; have Mx := Mz; clear Mz) | ((with_reducible apply Wp.mnew Mx); intro _ Mz; clear Mx; have Mx := Mz; clear Mz) | (with_reducible refine Wp.lett ?_) | ((with_reducible apply Wp.obind); (with_reducible exact avAgg_agg _)) | ((with_reducible refine Wp.ift ?_ ?_); first | (with_reducible exact Bool.not_false) | ((with_reducible apply bne_t); omega)) | ((with_reducible apply Wp.callN); (with_reducible assumption)) | rw [newP_eq])
    exact Wp.ret (hbad e q _ _ _ hst hne Mx.pop.pop)
   | ok k t m a q =>
    rw [hT] at tk hst
    dsimp only at tk hst
    obtain ⟨h1, e1, v', T', g', M1⟩ := tk
    have M2 := Mx.frame M1
    have hq := tokenQ_le hlt hT
    clear Mx
    have Mx := M2
    simp only [List.cons_append] at Mx
    repeat (first | ((with_reducible apply Wp.obind); (with_reducible first | exact avInt_int _ _ | exact avBool_bool _)) | ((with_reducible apply Wp.ld0 Mx); rfl) | ((with_reducible apply Wp.sa0 Mx); rfl; rfl; (rfl); intro _ Mz; clear Mx; have Mx := Mz; clear Mz) | ((with_reducible apply Wp.mnew Mx); intro _ Mz; clear Mx; have Mx := Mz; clear Mz) | (with_reducible refine Wp.lett ?_) | ((with_reducible apply Wp.obind); (with_reducible exact avAgg_agg _)) | ((with_reducible refine Wp.ift ?_ ?_); (with_reducible exact Bool.not_false)) | ((with_reducible refine Wp.iff ?_ ?_); ((with_reducible apply bne_f); omega)) | ((with_reducible apply Wp.callN); (with_reducible assumption)) | rw [newP_eq])
    obtain ⟨h2, e2, M5⟩ := skipBlanks_w (n := n) (d := d + 8) (u := u) (p := q) (b := b) (v := v') (S := S) (h0 := h0) (ys := T' ++ [(hb.next, TSpot, [.int .i64 0, .int .i64 0])]) Mx.pop hu (by omega) hq
    refine Wp.callN e2 ?_
    have hsk := skipP_le (u := u) hq
    have hpq : p < q := tokenQ_lt hlt hT
    refine line_loop hu hn hxB hx8 hxT fu f (skipP u q) (rows ++ [tokC k t m a]) v' T' h2 (by omega) (by simp; omega) (by omega) g' M5 ?_ ?_ (by omega) (by omega)
    ·intro l q' v2 T2 H' hr
     exact hok l q' v2 T2 H' (by rw [hst]; exact hr)
    ·intro e q' H' l' T2 hr
     exact hbad e q' H' l' T2 (by rw [hst]; exact hr)
end
section
variable {n d p c b : Nat} {h h0 h' : AHeap} {u : Bytes} {Q : ARes → AHeap → Prop} {v : AV} {S : List Nat} {xs rs ys T : List RowT} {rows : List (List AV)}
theorem restQ_grows : ∀ (f p : Nat) (l l' : List (List AV)) (q : Nat), restQ u f p l = .ok l' q → l.length ≤ l'.length ∧ p ≤ q ∧ (p ≤ u.length → q ≤ u.length) ∧ l'.length + p ≤ l.length + q
 | 0, p, l, l', q, hh => by rw [restQ] at hh; cases hh
 | f + 1, p, l, l', q, hh => by
  rw [restQ] at hh
  split at hh
  ·cases hh
   exact ⟨Nat.le_refl _, Nat.le_refl _, id, Nat.le_refl _⟩
  ·rename_i he
   have hlt : p < u.length := endsB_lt (by simpa using he)
   cases hT : tokenQ u p with
   | bad e q' => rw [hT] at hh; cases hh
   | ok k t m a q' =>
    rw [hT] at hh
    dsimp only at hh
    have h1 := tokenQ_lt hlt hT
    have h2 := tokenQ_le hlt hT
    have h3 := skipP_le (u := u) h2
    obtain ⟨a1, a2, a3, a4⟩ := restQ_grows f _ _ _ _ hh
    simp only [List.length_append, List.length_cons, List.length_nil] at a1 a4
    exact ⟨by omega, by omega, fun _ => a3 h3.1, by omega⟩
end
section
variable {n d p c b : Nat} {h h0 h' : AHeap} {u : Bytes} {Q : ARes → AHeap → Prop} {v : AV} {S : List Nat} {xs rs ys T : List RowT} {rows : List (List AV)}
theorem bldSl_end (h : AHeap) (e : Int) : bldSl Tryd.prog h 24 1 [(0, .agg [.int .i64 6, .str 0 0, .int .i64 0, .int .i64 e])] = outNewS h TTok [.int .i64 6, .str 0 0, .int .i64 0, .int .i64 e] 1 4 := by kernel_rfl
set_option maxRecDepth 100000 in
theorem line_w (g : GrowT TTok 4 rows v T) (hrow : rows.length ≤ p) (Mx : Mem S h0 h ((b, TLex, [strA u, .int .i64 (p : Int), v]) :: T)) (hu : u.length ≤ 1000000) (hn : u.length + 20 < n) (hp : p ≤ u.length) (hxB : memB TBld h0.ex = true) (hx8 : memB TU8 h0.ex = false) (hxT : memB TTok h0.ex = false) : match lineQ u p rows with
  | .ok l q => ∃ h', world n (d + 13) 13 [.ptr b 0] h = some (.ret (.agg [.int .i64 0, .int .i64 0]), h') ∧ ∃ v' T', GrowT TTok 4 l v' T' ∧ Mem S h0 h' ((b, TLex, [strA u, .int .i64 (q : Int), v']) :: T')
  | .bad e q => e ≠ 0 ∧ ∃ h', world n (d + 13) 13 [.ptr b 0] h = some (.ret (.agg [.int .i64 e, .int .i64 (q : Int)]), h') ∧ Mem S h0 h' [] := by
 suffices hK : Wp (world n (d + 13) 13 [.ptr b 0] h) fun r h' => match lineQ u p rows with
   | .ok l q => r = .ret (.agg [.int .i64 0, .int .i64 0]) ∧ ∃ v' T', GrowT TTok 4 l v' T' ∧ Mem S h0 h' ((b, TLex, [strA u, .int .i64 (q : Int), v']) :: T')
   | .bad e q => e ≠ 0 ∧ r = .ret (.agg [.int .i64 e, .int .i64 (q : Int)]) ∧ Mem S h0 h' [] by
  obtain ⟨r, h', e, q⟩ := hK
  cases hl : lineQ u p rows with
  | ok l q' =>
   rw [hl] at q
   exact ⟨h', by rw [e, q.1], q.2⟩
  | bad e' q' =>
   rw [hl] at q
   exact ⟨q.1, h', by rw [e, q.2.1], q.2.2⟩
 rw [w_lex_lexer_line]
 unfold lex_lexer_line
 have hlen := g.len
 have hsk := skipP_le (u := u) hp
 iterate 5 (first | ((with_reducible apply Wp.obind); (with_reducible first | exact nilC_ptr _ _ | exact fldP_ptr _ _ _)) | ((with_reducible apply Wp.ld1 Mx); rfl) | ((with_reducible apply Wp.mnew Mx); intro _ Mz; clear Mx; have Mx := Mz; clear Mz) | ((with_reducible apply Wp.obind); (with_reducible exact hlen)))
 have M2 : Mem S h0 _ (((b, TLex, [strA u, .int .i64 (p : Int), v]) :: T) ++ [(h.next, TSpot, [.int .i64 0, .int .i64 0])]) := Mx.perm (List.perm_append_comm (l₁ := _ :: T) (l₂ := [_]))
 obtain ⟨h2, e2, M5⟩ := skipBlanks_w (n := n) (d := d + 8) M2 hu (by omega) hp
 refine Wp.callN e2 ?_
 refine Wp.join0 (fun k hk => ?_)
 refine line_loop hu hn hxB hx8 hxT (u.length + 1) n (skipP u p) rows v T h2 (by omega) (by omega) hsk.1 g M5 ?_ ?_ (by omega) (by omega)
 ·intro l q v' T' H' hr g' M6
  clear Mx M2 M5
  have hlen' := g'.len
  obtain ⟨a1, a2, a3, a4⟩ := restQ_grows _ _ _ _ _ hr
  have a5 := a3 hsk.1
  have Mx : Mem S h0 _ ([(h.next, TSpot, [.int .i64 0, .int .i64 0])] ++ ((b, TLex, [strA u, .int .i64 (q : Int), v']) :: T')) := M6.perm (List.perm_append_comm (l₁ := [_]) (l₂ := _ :: T'))
  simp only [List.cons_append, List.nil_append] at Mx
  clear M6
  rw [hk]
  clear hk
  unfold lineQ
  rw [hr]
  dsimp only
  by_cases hg : rows.length < l.length
  ·rw [if_pos hg]
   repeat (first | ((with_reducible apply Wp.obind); (with_reducible first | exact avInt_int _ _ | exact nilC_ptr _ _ | exact fldP_ptr _ _ _)) | ((with_reducible apply Wp.ld1 Mx); rfl) | (with_reducible refine Wp.join0 (fun _ _ => ?_)) | (with_reducible refine Wp.lett ?_) | ((with_reducible apply Wp.obind); (with_reducible exact hlen')) | ((with_reducible refine Wp.ift ?_ ?_); ((with_reducible apply decide_eq_true); omega)))
   refine Wp.mnews Mx (bldSl_end _ _) rfl hxT (fun h1 M1 => ?_)
   clear Mx
   have Mx := M1
   clear M1
   repeat (((with_reducible refine Wp.chk ?_ ?_); focus ((repeat' (first | (with_reducible exact rfl) | (with_reducible apply and_t) | ((with_reducible apply Mem.re2 Mx); kernel_rfl; rfl))); done)))
   refine Wp.grow (xs := [_, _]) (T := T') (sz := 4) (P := Tryd.prog) Mx g' elT notT cellsT fitT hxT rfl rfl (by omega) (by omega) (fun v2 h2 T2 g2 M2 => ?_)
   clear Mx
   have Mx := M2
   clear M2
   simp only [List.cons_append, List.nil_append] at Mx
   rw [g2.one.2]
   iterate 2 (((with_reducible apply Wp.obind); (with_reducible first | exact nilC_ptr _ _ | exact fldP_ptr _ _ _)))
   refine Wp.ms1 Mx (by simp) g2.one.1 (fun h3 M3 => ?_)
   clear Mx
   have Mx := M3
   clear M3
   simp only [Nat.zero_add, List.set_cons_succ, List.set_cons_zero] at Mx
   repeat (first | ((with_reducible apply Wp.obind); (with_reducible first | exact avInt_int _ _ | exact nilC_ptr _ _ | exact fldP_ptr _ _ _)) | ((with_reducible apply Wp.lr0 Mx); rfl) | ((with_reducible apply Wp.sa0 Mx); rfl; rfl; (rfl); intro _ Mz; (try simp only [List.set_cons_succ] at Mz); (try simp only [List.set_cons_zero] at Mz); clear Mx; have Mx := Mz; clear Mz) | ((with_reducible apply Wp.ld1 Mx); rfl) | ((with_reducible apply Wp.ms1 Mx); exact Nat.le_of_ble_eq_true rfl; rfl; intro _ Mz; (try simp only [List.set_cons_succ] at Mz); (try simp only [List.set_cons_zero] at Mz); clear Mx; have Mx := Mz; clear Mz) | ((with_reducible refine Wp.lettw ?_ ?_ ?_); omega; omega) | (with_reducible refine Wp.go0 (by assumption) ?_) | rw [newP_eq])
   exact Wp.ret ⟨rfl, v2, T2, g2, Mx.pop⟩
  ·rw [if_neg hg]
   repeat (first | ((with_reducible apply Wp.obind); (with_reducible first | exact avInt_int _ _ | exact nilC_ptr _ _ | exact fldP_ptr _ _ _)) | ((with_reducible apply Wp.lr0 Mx); rfl) | ((with_reducible apply Wp.sa0 Mx); rfl; rfl; (rfl); intro _ Mz; (try simp only [List.set_cons_succ] at Mz); (try simp only [List.set_cons_zero] at Mz); clear Mx; have Mx := Mz; clear Mz) | ((with_reducible apply Wp.ld1 Mx); rfl) | ((with_reducible apply Wp.ms1 Mx); exact Nat.le_of_ble_eq_true rfl; rfl; intro _ Mz; (try simp only [List.set_cons_succ] at Mz); (try simp only [List.set_cons_zero] at Mz); clear Mx; have Mx := Mz; clear Mz) | (with_reducible refine Wp.join0 (fun _ _ => ?_)) | ((with_reducible refine Wp.lettw ?_ ?_ ?_); omega; omega) | (with_reducible refine Wp.lett ?_) | ((with_reducible apply Wp.obind); (with_reducible exact hlen')) | ((with_reducible refine Wp.iff ?_ ?_); ((with_reducible apply decide_eq_false); omega)) | (with_reducible refine Wp.go0 (by assumption) ?_) | rw [newP_eq])
   exact Wp.ret ⟨rfl, v', T', g', Mx.pop⟩
 ·intro e q H' l' T' hr he M6
  unfold lineQ
  rw [hr]
  exact ⟨he, rfl, Mem.drop (xs := _ :: T') (by rw [List.append_nil]; exact M6)⟩
theorem lineQ_fact {l l' : List (List AV)} {q : Nat} (hh : lineQ u p l = .ok l' q) (hp : p ≤ u.length) : p < q ∧ q ≤ u.length + 1 ∧ l'.length + p ≤ l.length + q ∧ l.length ≤ l'.length := by
 unfold lineQ at hh
 have hsk := skipP_le (u := u) hp
 cases hr : restQ u (u.length + 1) (skipP u p) l with
 | bad e q' => rw [hr] at hh; cases hh
 | ok l2 q2 =>
  rw [hr] at hh
  dsimp only at hh
  obtain ⟨a1, a2, a3, a4⟩ := restQ_grows _ _ _ _ _ hr
  have a5 := a3 hsk.1
  simp only [LR.ok.injEq] at hh
  obtain ⟨rfl, rfl⟩ := hh
  split
  ·simp only [List.length_append, List.length_cons, List.length_nil]
   omega
  ·omega
end
noncomputable def lexAll (u : Bytes) : LR := if 2048 < u.length then .bad 3 2048 else lexQ u (u.length + 1) 0 []
section
variable {n d p c b : Nat} {h h0 h' : AHeap} {u : Bytes} {Q : ARes → AHeap → Prop} {v : AV} {S : List Nat} {xs rs ys T : List RowT} {rows : List (List AV)}
set_option maxRecDepth 100000 in
theorem lex_loop {hb H2 : AHeap} {k18 : AHeap → R} (hu : u.length ≤ 1000000) (hn : u.length + 20 < n) (hxB : memB TBld h0.ex = true) (hx8 : memB TU8 h0.ex = false) (hxT : memB TTok h0.ex = false) :
  ∀ (fu f p : Nat) (rows : List (List AV)) (v : AV) (T : List RowT) (H : AHeap), fu < f → rows.length ≤ p → p ≤ u.length + 1 → GrowT TTok 4 rows v T → Mem S h0 H (((H2.next, TLex, [strA u, .int .i64 (p : Int), v]) :: T) ++ [(hb.next, TSpot, [.int .i64 0, .int .i64 0])]) →
   (∀ l q v' T' H', lexQ u fu p rows = .ok l q → GrowT TTok 4 l v' T' → Mem S h0 H' (((H2.next, TLex, [strA u, .int .i64 (q : Int), v']) :: T') ++ [(hb.next, TSpot, [.int .i64 0, .int .i64 0])]) → Wp (k18 H') Q) →
   (∀ e q H', lexQ u fu p rows = .bad e q → e ≠ 0 → Mem S h0 H' [] → Q (.ret (.tup [.nsl, .agg [.int .i64 e, .int .i64 (q : Int)]])) H') →
   u.length + 1 ≤ fu + p →
   Wp (lex_Lex_L0 (world n (d + 13)) u hb H2 k18 f H) Q
 | fu, 0, p, rows, v, T, H, hf, hrp, hp, g, Mx, hok, hbad, _ => by omega
 | 0, f + 1, p, rows, v, T, H, hf, hrp, hp, g, Mx, hok, hbad, hfu => by
  rw [lex_Lex_L0_s]
  unfold lex_Lex_L0b
  have lu := lenS_nat u
  repeat (first | ((with_reducible apply Wp.obind); (with_reducible exact avInt_int _ _)) | ((with_reducible apply Wp.ld0 Mx); rfl) | (with_reducible refine Wp.lett ?_) | ((with_reducible refine Wp.iff ?_ ?_); ((with_reducible apply decide_eq_false); omega)))
  exact hok rows p v T H rfl g Mx
 | fu + 1, f + 1, p, rows, v, T, H, hf, hrp, hp, g, Mx, hok, hbad, hfu => by
  rw [lex_Lex_L0_s]
  unfold lex_Lex_L0b
  have lu := lenS_nat u
  by_cases hl : p < u.length
  ·have hst : lexQ u (fu + 1) p rows = match lineQ u p rows with
    | .ok l' q => lexQ u fu q l'
    | .bad e q => .bad e q := by rw [lexQ, if_pos hl] <;> rfl
   have le := line_w (d := d) g hrp (Mem.self Mx) hu hn (by omega) (by rw [Mx.ex]; exact hxB) (by rw [Mx.ex]; exact hx8) (by rw [Mx.ex]; exact hxT)
   iterate 3 (first | ((with_reducible apply Wp.obind); (with_reducible exact avInt_int _ _)) | ((with_reducible apply Wp.ld0 Mx); rfl) | (with_reducible refine Wp.lett ?_))
   (((with_reducible refine Wp.ift ?_ ?_); ((with_reducible apply decide_eq_true); omega)))
   cases hL : lineQ u p rows with
   | bad e q =>
    rw [hL] at le hst
    dsimp only at le hst
    obtain ⟨hne, h1, e1, M1⟩ := le
    refine Wp.callN e1 ?_
    have M2 := Mx.frame M1
    clear Mx
    have Mx := M2
    simp only [List.nil_append] at Mx
    repeat (first | ((with_reducible apply Wp.obind); (with_reducible exact avInt_int _ _)) | ((with_reducible apply Wp.ld0 Mx); rfl) | ((with_reducible apply Wp.lr0 Mx); rfl) | ((with_reducible apply Wp.sa0 Mx); rfl; rfl; (rfl); intro _ Mz; clear Mx; have Mx := Mz; clear Mz) | ((with_reducible apply Wp.lr1 Mx); rfl) | ((with_reducible apply Wp.sa1 Mx); rfl; rfl; (rfl); intro _ Mz; clear Mx; have Mx := Mz; clear Mz) | ((with_reducible apply Wp.mnew Mx); intro _ Mz; clear Mx; have Mx := Mz; clear Mz) | (with_reducible refine Wp.lett ?_) | ((with_reducible apply Wp.obind); (with_reducible exact avAgg_agg _)) | ((with_reducible refine Wp.ift ?_ ?_); ((with_reducible apply bne_t); omega)) | rw [newP_eq])
    exact Wp.ret (hbad e q _ hst hne (Mem.drop (xs := [_, _]) Mx))
   | ok l q =>
    rw [hL] at le hst
    dsimp only at le hst
    obtain ⟨h1, e1, v', T', g', M1⟩ := le
    refine Wp.callN e1 ?_
    have M2 := Mx.frame M1
    obtain ⟨a1, a2, a3, a4⟩ := lineQ_fact hL (by omega)
    clear Mx
    have Mx := M2
    repeat (first | ((with_reducible apply Wp.obind); (with_reducible exact avInt_int _ _)) | ((with_reducible apply Wp.ld0 Mx); rfl) | ((with_reducible apply Wp.sa0 Mx); rfl; rfl; (rfl); intro _ Mz; clear Mx; have Mx := Mz; clear Mz) | ((with_reducible apply Wp.mnew Mx); intro _ Mz; clear Mx; have Mx := Mz; clear Mz) | (with_reducible refine Wp.lett ?_) | ((with_reducible apply Wp.obind); (with_reducible exact avAgg_agg _)) | ((with_reducible refine Wp.iff ?_ ?_); ((with_reducible apply bne_f); omega)) | rw [newP_eq])
    refine lex_loop hu hn hxB hx8 hxT fu f q l v' T' _ (by omega) (by omega) (by omega) g' Mx.pop ?_ ?_ (by omega)
    ·intro l2 q2 v2 T2 H' hr
     exact hok l2 q2 v2 T2 H' (by rw [hst]; exact hr)
    ·intro e q' H' hr
     exact hbad e q' H' (by rw [hst]; exact hr)
  ·repeat (first | ((with_reducible apply Wp.obind); (with_reducible exact avInt_int _ _)) | ((with_reducible apply Wp.ld0 Mx); rfl) | (with_reducible refine Wp.lett ?_) | ((with_reducible refine Wp.iff ?_ ?_); ((with_reducible apply decide_eq_false); omega)))
   exact hok rows p v T H (by rw [lexQ, if_neg hl]) g Mx
set_option maxRecDepth 100000 in
theorem lex_w (hu : u.length ≤ 1000000) (hn : u.length + 20 < n) (hxB : memB TBld h.ex = true) (hx8 : memB TU8 h.ex = false) (hxT : memB TTok h.ex = false) : match lexAll u with
  | .ok l _ => ∃ h' v T, world n (d + 14) 8 [strA u] h = some (.ret (.tup [v, .agg [.int .i64 0, .int .i64 0]]), h') ∧ GrowT TTok 4 l v T ∧ Mem [] h h' T
  | .bad e q => e ≠ 0 ∧ ∃ h', world n (d + 14) 8 [strA u] h = some (.ret (.tup [.nsl, .agg [.int .i64 e, .int .i64 (q : Int)]]), h') ∧ Mem [] h h' [] := by
 suffices hK : Wp (world n (d + 14) 8 [strA u] h) fun r h' => match lexAll u with
   | .ok l _ => ∃ v T, r = .ret (.tup [v, .agg [.int .i64 0, .int .i64 0]]) ∧ GrowT TTok 4 l v T ∧ Mem [] h h' T
   | .bad e q => e ≠ 0 ∧ r = .ret (.tup [.nsl, .agg [.int .i64 e, .int .i64 (q : Int)]]) ∧ Mem [] h h' [] by
  obtain ⟨r, h', e, q⟩ := hK
  cases hl : lexAll u with
  | ok l q' =>
   rw [hl] at q
   obtain ⟨v, T, rfl, q2⟩ := q
   exact ⟨h', v, T, e, q2⟩
  | bad e' q' =>
   rw [hl] at q
   exact ⟨q.1, h', by rw [e, q.2.1], q.2.2⟩
 rw [w_lex_Lex]
 refine Wp.gc2 ?_
 suffices hK : Wp (lex_Lex (world n (d + 13)) n u h) fun r h' => match lexAll u with
   | .ok l _ => ∃ v T, r = .ret (.tup [v, .agg [.int .i64 0, .int .i64 0]]) ∧ GrowT TTok 4 l v T ∧ Mem [] h h' T
   | .bad e q => e ≠ 0 ∧ r = .ret (.tup [.nsl, .agg [.int .i64 e, .int .i64 (q : Int)]]) ∧ Mem [] h h' [] by
  refine hK.mono fun r h' q => ⟨q, fun _ hlo => ?_⟩
  cases hl : lexAll u with
  | ok l q' =>
   rw [hl] at q
   obtain ⟨v, T, rfl, g, M⟩ := q
   rcases g.2 with ⟨h1, h2, rfl⟩ | ⟨h1, c, rfl, rfl⟩
   ·exact ⟨v, [], rfl, g, Mem.nil [] h⟩
   ·have := (M.row _ (List.mem_singleton.2 rfl)).2.2
    exfalso
    rcases this with hh | hh
    ·cases hh
    ·exact absurd (blt_lt' (by simpa [ARes.val, AV.lo, AV.loL] using hlo)) (Nat.not_lt.2 hh)
  | bad e' q' =>
   rw [hl] at q
   exact ⟨q.1, q.2.1, Mem.nil [] h⟩
 unfold lex_Lex
 have Mx := Mem.nil [] h
 have lu := lenS_nat u
 by_cases hl : 2048 < u.length
 ·have hla : lexAll u = .bad 3 2048 := by unfold lexAll; rw [if_pos hl]
  rw [hla]
  repeat (first | ((with_reducible apply Wp.lr0 Mx); rfl) | ((with_reducible apply Wp.sa0 Mx); rfl; rfl; (rfl); intro _ Mz; clear Mx; have Mx := Mz; clear Mz) | ((with_reducible apply Wp.mnew Mx); intro _ Mz; clear Mx; have Mx := Mz; clear Mz) | (with_reducible refine Wp.lett ?_) | ((with_reducible refine Wp.ift ?_ ?_); ((with_reducible apply decide_eq_true); omega)) | rw [newP_eq])
  exact Wp.ret ⟨by decide, rfl, Mx.pop⟩
 ·have hla : lexAll u = lexQ u (u.length + 1) 0 [] := by unfold lexAll; rw [if_neg hl]
  rw [hla]
  repeat (first | ((with_reducible apply Wp.sa0 Mx); rfl; rfl; (rfl); intro _ Mz; clear Mx; have Mx := Mz; clear Mz) | ((with_reducible apply Wp.mnew Mx); intro _ Mz; clear Mx; have Mx := Mz; clear Mz) | (with_reducible refine Wp.join0 (fun _ _ => ?_)) | (with_reducible refine Wp.lett ?_) | ((with_reducible refine Wp.iff ?_ ?_); ((with_reducible apply decide_eq_false); omega)) | rw [newP_eq])
  refine lex_loop hu hn hxB hx8 hxT (u.length + 1) n 0 [] .nsl [] _ (by omega) (by simp) (by omega) (GrowT.nil _ _) Mx ?_ ?_ (by omega)
  ·intro l q v' T' H' hr g' M6
   rw [hr]
   have Mx : Mem [] h _ ([(h.next, TSpot, [.int .i64 0, .int .i64 0])] ++ ((_, TLex, [strA u, .int .i64 (q : Int), v']) :: T')) := M6.perm (List.perm_append_comm (l₁ := [_]) (l₂ := _ :: T'))
   clear M6
   simp only [List.cons_append, List.nil_append] at Mx
   repeat (first | ((with_reducible apply Wp.lr0 Mx); rfl) | ((with_reducible apply Wp.sa0 Mx); rfl; rfl; (rfl); intro _ Mz; clear Mx; have Mx := Mz; clear Mz) | ((with_reducible apply Wp.ld1 Mx); rfl) | (with_reducible refine Wp.go0 (by assumption) ?_) | rw [newP_eq])
   exact Wp.ret ⟨v', T', rfl, g', Mem.drop (xs := [_, _]) Mx⟩
  ·intro e q H' hr he M6
   rw [hr]
   exact ⟨he, rfl, M6⟩
end
inductive RefTo (u : Bytes) : Nat → Bool → List (List AV) → LR → Prop
 | done {p s l} (h : u.length < p) : RefTo u p s l (.ok l 0)
 | nl {p s l r} (h1 : p ≤ u.length) (h2 : endsB u p = true) (k : RefTo u (p + 1) false (if s = true then l ++ [tokC 6 [] 0 p] else l) r) : RefTo u p s l r
 | blank {p s l r} (h1 : p < u.length) (h2 : blankB (u[p]).toNat = true) (k : RefTo u (p + 1) s l r) : RefTo u p s l r
 | remark {p s l r} (h1 : p < u.length) (h2 : (u[p]).toNat = 35) (k : RefTo u (p + spanN restB (u.drop p)) s l r) : RefTo u p s l r
 | tok {p s l r k t m a q} (h1 : p < u.length) (h2 : endsB u p = false) (h3 : blankB (u[p]).toNat = false) (h4 : (u[p]).toNat ≠ 35) (h5 : tokenQ u p = .ok k t m a q) (hk : RefTo u q true (l ++ [tokC k t m a]) r) : RefTo u p s l r
 | bad {p s l e q} (h1 : p < u.length) (h2 : endsB u p = false) (h3 : blankB (u[p]).toNat = false) (h4 : (u[p]).toNat ≠ 35) (h5 : tokenQ u p = .bad e q) : RefTo u p s l (.bad e q)
def LR.norm : LR → LR
 | .ok l _ => .ok l 0
 | .bad e q => .bad e q
section
variable {p q : Nat} {u : Bytes} {s : Bool} {l l' : List (List AV)} {r : LR}
theorem blanks_to : ∀ (k p : Nat), k ≤ spanN blankB (u.drop p) → RefTo u (p + k) s l r → RefTo u p s l r
 | 0, p, _, h => h
 | k + 1, p, hk, h => by
  have hle := span_le blankB (u.drop p)
  rw [List.length_drop] at hle
  have hp : p < u.length := by omega
  have h0 := span_lt (f := blankB) (w := u.drop p) (i := 0) (by omega) (by rw [List.length_drop]; omega)
  rw [List.getElem_drop] at h0
  simp only [Nat.add_zero] at h0
  refine RefTo.blank hp h0 (blanks_to k (p + 1) ?_ (by rw [show p + 1 + k = p + (k + 1) by omega]; exact h))
  have e : spanN blankB (u.drop p) = spanN blankB (u.drop (p + 1)) + 1 := by
   rw [List.drop_eq_getElem_cons hp, spanN, if_pos h0]
  omega
def NB (u : Bytes) (p : Nat) : Prop := ∀ h : p < u.length, blankB (u[p]).toNat = false ∧ (u[p]).toNat ≠ 35
theorem skip_to (h : RefTo u (skipP u p) s l r) : RefTo u p s l r := by
 refine blanks_to (spanN blankB (u.drop p)) p (Nat.le_refl _) ?_
 unfold skipP at h
 split at h
 ·rename_i h35
  obtain ⟨h1, h2⟩ := at?_some h35
  exact RefTo.remark h1 h2 h
 ·exact h
theorem skip_nb : NB u (skipP u p) := by
 intro h
 have h1 := span_le blankB (u.drop p)
 rw [List.length_drop] at h1
 by_cases h35 : at? u (p + spanN blankB (u.drop p)) = some 35
 ·have e : skipP u p = p + spanN blankB (u.drop p) + spanN restB (u.drop (p + spanN blankB (u.drop p))) := by unfold skipP; rw [if_pos h35]
  have hh : p + spanN blankB (u.drop p) + spanN restB (u.drop (p + spanN blankB (u.drop p))) < u.length := by omega
  have h2 := span_stop (f := restB) (w := u.drop (p + spanN blankB (u.drop p))) rfl (by rw [List.length_drop]; omega)
  rw [List.getElem_drop] at h2
  have h3 : (u[skipP u p]).toNat = 10 := Decidable.byContradiction fun hh => by
   simp only [e] at hh
   unfold restB at h2
   refine absurd h2 ?_
   rw [bne_t]
   ·decide
   ·intro h4
    exact hh (by exact_mod_cast h4)
  rw [h3]
  decide
 ·have e : skipP u p = p + spanN blankB (u.drop p) := by unfold skipP; rw [if_neg h35]
  have hh : p + spanN blankB (u.drop p) < u.length := by omega
  have h2 := span_stop (f := blankB) (w := u.drop p) rfl (by rw [List.length_drop]; omega)
  rw [List.getElem_drop] at h2
  rw [at?_lt hh] at h35
  simp only [e]
  exact ⟨h2, by simpa using h35⟩
theorem rest_to : ∀ (f p : Nat) (s : Bool) (l : List (List AV)), u.length + 1 ≤ f + p → p ≤ u.length → NB u p → (match restQ u f p l with
  | .ok l' q => ∀ r, RefTo u q (s || decide (l.length < l'.length)) l' r → RefTo u p s l r
  | .bad e q => RefTo u p s l (.bad e q))
 | 0, p, s, l, hf, hp, hn => by omega
 | f + 1, p, s, l, hf, hp, hn => by
  rw [restQ]
  cases he : endsB u p with
  | true =>
   rw [if_pos rfl]
   intro r h
   simpa using h
  | false =>
   rw [if_neg (by decide)]
   have hlt := endsB_lt he
   obtain ⟨n1, n2⟩ := hn hlt
   cases hT : tokenQ u p with
   | bad e q => exact RefTo.bad hlt he n1 n2 hT
   | ok k t m a q =>
    dsimp only
    have hq := tokenQ_le hlt hT
    have hq2 := tokenQ_lt hlt hT
    have hsk := skipP_le (u := u) hq
    have ih := rest_to f (skipP u q) true (l ++ [tokC k t m a]) (by omega) hsk.1 skip_nb
    cases hR : restQ u f (skipP u q) (l ++ [tokC k t m a]) with
    | bad e q' =>
     rw [hR] at ih
     exact RefTo.tok hlt he n1 n2 hT (skip_to ih)
    | ok l' q' =>
     rw [hR] at ih
     obtain ⟨a1, _⟩ := restQ_grows _ _ _ _ _ hR
     simp only [List.length_append, List.length_cons, List.length_nil] at a1
     intro r h
     rw [decide_eq_true (show l.length < l'.length by omega), Bool.or_true] at h
     exact RefTo.tok hlt he n1 n2 hT (skip_to (ih r (by simpa using h)))
theorem restQ_ends : ∀ (f p : Nat) (l l' : List (List AV)) (q : Nat), restQ u f p l = .ok l' q → endsB u q = true
 | 0, p, l, l', q, hh => by rw [restQ] at hh; cases hh
 | f + 1, p, l, l', q, hh => by
  rw [restQ] at hh
  split at hh
  ·cases hh
   assumption
  ·cases hT : tokenQ u p with
   | bad e q' => rw [hT] at hh; cases hh
   | ok k t m a q' =>
    rw [hT] at hh
    exact restQ_ends f _ _ _ _ hh
theorem line_to (hp : p ≤ u.length) : (match lineQ u p l with
  | .ok l' q => ∀ r, RefTo u q false l' r → RefTo u p false l r
  | .bad e q => RefTo u p false l (.bad e q)) := by
 unfold lineQ
 have hsk := skipP_le (u := u) hp
 have ih := rest_to (u := u) (u.length + 1) (skipP u p) false l (by omega) hsk.1 skip_nb
 cases hR : restQ u (u.length + 1) (skipP u p) l with
 | bad e q =>
  rw [hR] at ih
  exact skip_to ih
 | ok l' q =>
  rw [hR] at ih
  obtain ⟨a1, a2, a3, a4⟩ := restQ_grows _ _ _ _ _ hR
  have hen := restQ_ends _ _ _ _ _ hR
  intro r h
  refine skip_to (ih r (RefTo.nl (a3 hsk.1) hen ?_))
  simpa using h
theorem lex_to : ∀ (f p : Nat) (l : List (List AV)), u.length + 1 ≤ f + p → p ≤ u.length + 1 → RefTo u p false l (lexQ u f p l).norm
 | 0, p, l, hf, hp => RefTo.done (by omega)
 | f + 1, p, l, hf, hp => by
  rw [lexQ]
  by_cases hl : p < u.length
  ·rw [if_pos hl]
   have ih := line_to (u := u) (l := l) (Nat.le_of_lt hl)
   cases hL : lineQ u p l with
   | bad e q =>
    rw [hL] at ih
    exact ih
   | ok l' q =>
    rw [hL] at ih
    obtain ⟨a1, a2, a3, a4⟩ := lineQ_fact hL (by omega)
    exact ih _ (lex_to f q l' (by omega) a2)
  ·rw [if_neg hl]
   by_cases h2 : p = u.length
   ·refine RefTo.nl (by omega) (by unfold endsB; rw [at?_ge (by omega)]) (RefTo.done (by omega))
   ·exact RefTo.done (by omega)
end
section
variable {n d b c c1 : Nat} {h h1 h2 : AHeap} {l u : Bytes} {Q : ARes → AHeap → Prop}
theorem tch2 (t1 : Tch [b, c] h h1) (hc : c1 = c ∨ h.next ≤ c1) (t2 : Tch [b, c1] h1 h2) : Tch [b, c] h h2 :=
 t1.trans' t2 (fun x hx => by
  rcases List.mem_cons.1 hx with rfl | hx
  ·exact .inl (by simp)
  ·rcases List.mem_cons.1 hx with rfl | hx
   ·rcases hc with rfl | hc
    ·exact .inl (by simp)
    ·exact .inr hc
   ·cases hx)
theorem writeString_r (k : BldW h b c l) (hx : memB TBld h.ex = true) (hu : memB TU8 h.ex = false) (s : Bytes) (hbig : l.length + s.length ≤ 1000000000) :
  ∃ c' h', world n (d + 2) 37 [.ptr b 0, strA s] h = some (.ret (.tup [.int .i64 (lenS s), .nifc]), h') ∧ BldW h' b c' (l ++ s) ∧ (c' = c ∨ h.next ≤ c') ∧ Tch [b, c] h h' := by
 obtain ⟨h1, e1, q1, t1⟩ := copyCheck_r (n := n) (d := d) k hx
 suffices hK : Wp (world n (d + 2) 37 [.ptr b 0, strA s] h) fun r h' => ∃ c', r = .ret (.tup [.int .i64 (lenS s), .nifc]) ∧ BldW h' b c' (l ++ s) ∧ (c' = c ∨ h.next ≤ c') ∧ Tch [b, c] h h' by
  obtain ⟨_, h', e, c', rfl, q⟩ := hK
  exact ⟨c', h', e, q⟩
 rw [w_strings_Builder_WriteString]
 unfold strings_Builder_WriteString
 refine Wp.callN e1 ?_
 obtain ⟨a, buf, k1, k2, k3, k4⟩ := q1
 repeat (((with_reducible apply Wp.obind); first | (with_reducible first | exact nilC_ptr _ _ | exact fldP_ptr _ _ _) | ((with_reducible apply RowH.cell'); (with_reducible assumption); rfl)))
 obtain ⟨buf', c', h2, a1, a2, a3, a4, a5⟩ := k4.append (P := Tryd.prog) (t := 50) (u := 9) k2 s (by kernel_rfl) (by kernel_rfl) (by kernel_rfl) (by kernel_rfl) (by rw [t1.2.1]; exact hu) hbig
 refine Wp.outK a1 ?_
 have k2' : RowH h2 b TBld [a, buf] := k1.same a5
 obtain ⟨o1, o2, _⟩ := a2.one
 rw [o2]
 repeat (((with_reducible apply Wp.obind); (with_reducible first | exact nilC_ptr _ _ | exact fldP_ptr _ _ _)))
 refine Wp.st1 k2' (by simp) o1 (fun h3 r1 r2 r3 => ?_)
 have n1 := t1.1
 have n2 := a4.1
 refine Wp.ret ⟨c', rfl, ⟨a, buf', r1, by omega, k3, a2.tch r2 (fun hc => by simpa using hc)⟩, by omega, ?_⟩
 exact (t1.mono (by simp)).trans ((a4.mono (by simp)).trans (r2.mono (by simp)))
theorem hx_idx (v : Nat) (hv : v < 16) : idxS ([48, 49, 50, 51, 52, 53, 54, 55, 56, 57, 97, 98, 99, 100, 101, 102] : Bytes) (v : Int) = some (((if v < 10 then 48 + v else 87 + v : Nat)) : Int) := by
 have h : ∀ v : Fin 16, idxS ([48, 49, 50, 51, 52, 53, 54, 55, 56, 57, 97, 98, 99, 100, 101, 102] : Bytes) (v.val : Int) = some (((if v.val < 10 then 48 + v.val else 87 + v.val : Nat)) : Int) := by decide
 exact h ⟨v, hv⟩
theorem shr4 (y : Nat) : shrI .u8 (y : Int) 4 = some ((y / 16 : Nat) : Int) := by
 rw [show shrI .u8 (y : Int) 4 = some ((y : Int).fdiv 16) from rfl, Int.fdiv_eq_ediv_of_nonneg _ (by decide)]
 rfl
theorem and15 {y : Nat} (hy : y < 256) : andI .u8 (y : Int) 15 = ((y % 16 : Nat) : Int) := by
 have h : (List.range 256).all (fun y => andI .u8 (y : Int) 15 == ((y % 16 : Nat) : Int)) = true := by kernel_rfl
 exact eq_of_beq (List.all_eq_true.1 h y (List.mem_range.2 hy))
theorem sign_short {y : Nat} (h : shortB y ≠ 0) : signB y = [92, UInt8.ofNat (shortB y)] ∧ shortB y < 256 := by
 unfold shortB at h ⊢
 unfold signB
 by_cases h1 : y = 34
 ·subst h1
  exact ⟨rfl, by decide⟩
 by_cases h2 : y = 92
 ·subst h2
  exact ⟨rfl, by decide⟩
 rw [if_neg (by omega)] at h ⊢
 by_cases h3 : y = 10
 ·subst h3
  exact ⟨rfl, by decide⟩
 rw [if_neg h3] at h ⊢
 by_cases h4 : y = 13
 ·subst h4
  exact ⟨rfl, by decide⟩
 rw [if_neg h4] at h ⊢
 by_cases h5 : y = 9
 ·subst h5
  exact ⟨rfl, by decide⟩
 rw [if_neg h5] at h
 exact absurd rfl h
theorem sign_long {y : Nat} (h : shortB y = 0) : signB y = if plainB y = true then [UInt8.ofNat y] else [92, 120, hx (y / 16), hx (y % 16)] := by
 unfold shortB at h
 unfold signB
 split at h
 ·omega
 ·split at h
  ·omega
  ·split at h
   ·omega
   ·split at h
    ·omega
    ·rw [if_neg (by omega), if_neg (by omega), if_neg (by omega), if_neg (by omega), if_neg (by omega)]
theorem writeForm_r (k : BldW h b c l) (hx' : memB TBld h.ex = true) (hu : memB TU8 h.ex = false) {y : Nat} (hy : y < 256) (hbig : l.length + 4 ≤ 1000000000) :
  ∃ c' h', world n (d + 3) 24 [.ptr b 0, .int .u8 (y : Int)] h = some (.ret (.tup []), h') ∧ BldW h' b c' (l ++ signB y) ∧ (c' = c ∨ h.next ≤ c') ∧ Tch [b, c] h h' := by
 suffices hK : Wp (world n (d + 3) 24 [.ptr b 0, .int .u8 (y : Int)] h) fun r h' => ∃ c', r = .ret (.tup []) ∧ BldW h' b c' (l ++ signB y) ∧ (c' = c ∨ h.next ≤ c') ∧ Tch [b, c] h h' by
  obtain ⟨_, h', e, c', rfl, q⟩ := hK
  exact ⟨c', h', e, q⟩
 rw [w_pattern_writeForm]
 unfold pattern_writeForm
 have hs := short_w (n := n) (d := d + 1) (h := h) y
 have hp := plain_w (n := n) (d := d + 1) (h := h) y
 by_cases h0 : shortB y = 0
 ·have hsg := sign_long h0
  rw [h0] at hs
  cases hpl : plainB y with
  | true =>
   rw [hpl] at hp hsg
   rw [if_pos rfl] at hsg
   obtain ⟨c1, h1, e1, q1, o1, t1⟩ := writeByte_r (n := n) (d := d) k hx' hu hy (by omega)
   repeat (first | (with_reducible refine Wp.lett ?_) | ((with_reducible apply Wp.obind); (with_reducible first | exact avInt_int _ _ | exact avBool_bool _)) | ((with_reducible refine Wp.ift ?_ ?_); (with_reducible rfl)) | ((with_reducible refine Wp.iff ?_ ?_); ((with_reducible apply bne_f); omega)) | ((with_reducible apply Wp.callN); (with_reducible first | exact hs | exact hp | exact e1)))
   exact Wp.ret ⟨c1, rfl, by rw [hsg]; exact q1, o1, t1⟩
  | false =>
   rw [hpl] at hp hsg
   rw [if_neg (by decide)] at hsg
   obtain ⟨c1, h1, e1, q1, o1, t1⟩ := writeString_r (n := n) (d := d) k hx' hu [92, 120] (by simp; omega)
   obtain ⟨c2, h2, e2, q2, o2, t2⟩ := writeByte_r (n := n) (d := d) (y := if y / 16 < 10 then 48 + y / 16 else 87 + y / 16) q1 (by rw [t1.2.1]; exact hx') (by rw [t1.2.1]; exact hu) (by split <;> omega) (by simp; omega)
   obtain ⟨c3, h3, e3, q3, o3, t3⟩ := writeByte_r (n := n) (d := d) (y := if y % 16 < 10 then 48 + y % 16 else 87 + y % 16) q2 (by rw [t2.2.1, t1.2.1]; exact hx') (by rw [t2.2.1, t1.2.1]; exact hu) (by split <;> omega) (by simp; omega)
   have i1 := hx_idx (y / 16) (by omega)
   have i2 := hx_idx (y % 16) (by omega)
   have s4 := shr4 y
   have a5 := and15 hy
   iterate 7 (first | (with_reducible refine Wp.lett ?_) | ((with_reducible apply Wp.obind); (with_reducible first | exact avInt_int _ _ | exact avBool_bool _)) | ((with_reducible refine Wp.iff ?_ ?_); first | (with_reducible rfl) | ((with_reducible apply bne_f); omega)) | ((with_reducible apply Wp.callN); (with_reducible first | exact hs | exact hp)))
   rw [a5]
   repeat (first | (with_reducible refine Wp.lett ?_) | ((with_reducible apply Wp.obind); (with_reducible first | exact i1 | exact i2 | exact s4)) | ((with_reducible apply Wp.callN); (with_reducible first | exact e1 | exact e2 | exact e3)))
   have n1 := t1.1
   have n2 := t2.1
   refine Wp.ret ⟨c3, rfl, ?_, by omega, tch2 t1 o1 (tch2 t2 o2 t3)⟩
   rw [hsg]
   simpa [hx] using q3
 ·obtain ⟨hsg, hlt⟩ := sign_short h0
  obtain ⟨c1, h1, e1, q1, o1, t1⟩ := writeByte_r (n := n) (d := d) (y := 92) k hx' hu (by decide) (by omega)
  obtain ⟨c2, h2, e2, q2, o2, t2⟩ := writeByte_r (n := n) (d := d) (y := shortB y) q1 (by rw [t1.2.1]; exact hx') (by rw [t1.2.1]; exact hu) hlt (by simp; omega)
  rw [show ((92 : Nat) : Int) = 92 from rfl] at e1
  repeat (first | (with_reducible refine Wp.lett ?_) | ((with_reducible apply Wp.obind); (with_reducible exact avInt_int _ _)) | ((with_reducible refine Wp.ift ?_ ?_); ((with_reducible apply bne_t); omega)) | ((with_reducible apply Wp.callN); (with_reducible first | exact hs | exact e1 | exact e2)))
  have n1 := t1.1
  refine Wp.ret ⟨c2, rfl, ?_, by omega, tch2 t1 o1 t2⟩
  rw [hsg]
  simpa using q2
def quoteB (u : Bytes) : Bytes := 34 :: (u.flatMap fun a => signB a.toNat) ++ [34]
theorem sign_len (c : Nat) : (signB c).length ≤ 4 := by
 rcases cls c with ⟨e, h, _⟩ | ⟨h, _⟩ | ⟨h, _⟩ <;> rw [h] <;> simp
theorem flat_len (w : Bytes) : (w.flatMap fun a => signB a.toNat).length ≤ 4 * w.length := by
 induction w with
 | nil => simp
 | cons a w ih =>
  rw [List.flatMap_cons, List.length_append, List.length_cons]
  have := sign_len a.toNat
  omega
theorem quote_loop {k11 : AHeap → R} {hb h0 : AHeap} (hu' : u.length ≤ 100000000) :
  ∀ (f i : Nat) (c : Nat) (H : AHeap), u.length < f + i → i ≤ u.length → BldW H hb.next c (34 :: ((u.take i).flatMap fun a => signB a.toNat)) → Tch [hb.next, c] h0 H → memB TBld H.ex = true → memB TU8 H.ex = false → h0.next ≤ hb.next → h0.next ≤ c →
   (∀ c' H', BldW H' hb.next c' (34 :: (u.flatMap fun a => signB a.toNat)) → Tch [] h0 H' → memB TBld H'.ex = true → memB TU8 H'.ex = false → h0.next ≤ c' → Wp (k11 H') Q) →
   Wp (pattern_Quote_L0 (world n (d + 3)) u hb k11 f (i : Int) H) Q
 | 0, i, c, H, hf, hi, k, t, hx', hu, hn1, hn2, hk => by omega
 | f + 1, i, c, H, hf, hi, k, t, hx', hu, hn1, hn2, hk => by
  rw [pattern_Quote_L0_s]
  unfold pattern_Quote_L0b
  have lu := lenS_nat u
  by_cases hl : i < u.length
  ·have hx : idxS u (i : Int) = some ((u[i]).toNat : Int) := idxS_nat hl
   have hfl := flat_len (u.take i)
   rw [List.length_take] at hfl
   obtain ⟨c1, h1, e1, q1, o1, t1⟩ := writeForm_r (n := n) (d := d) k hx' hu (y := (u[i]).toNat) (u[i]).toNat_lt (by simp only [List.length_cons]; omega)
   repeat (first | ((with_reducible refine Wp.lettw ?_ ?_ ?_); omega; omega) | (with_reducible refine Wp.lett ?_) | ((with_reducible apply Wp.obind); (with_reducible exact hx)) | ((with_reducible refine Wp.ift ?_ ?_); ((with_reducible apply decide_eq_true); omega)) | ((with_reducible apply Wp.callN); (with_reducible exact e1)) | rw [newP_eq])
   rw [show (i : Int) + 1 = ((i + 1 : Nat) : Int) by omega]
   have nt := t.1
   have nt1 := t1.1
   refine quote_loop hu' f (i + 1) c1 h1 (by omega) (by omega) ?_ ?_ (by rw [t1.2.1]; exact hx') (by rw [t1.2.1]; exact hu) hn1 (by omega) hk
   ·rw [List.take_succ_eq_append_getElem hl, List.flatMap_append]
    simpa using q1
   ·exact (t.mono (S' := []) (by intro b hb; simp at hb; omega)).trans' t1 (by intro b hb; simp at hb; omega)|>.mono (by simp)
  ·have hi' : i = u.length := by omega
   rw [hi', List.take_length] at k
   repeat (first | (with_reducible refine Wp.lett ?_) | ((with_reducible refine Wp.iff ?_ ?_); ((with_reducible apply decide_eq_false); omega)))
   exact hk c H k (t.mono (by intro b hb; simp at hb; omega)) hx' hu hn2
theorem quote_w (hu' : u.length ≤ 100000000) (hn : u.length < n) (hxB : memB TBld h.ex = true) (hx8 : memB TU8 h.ex = false) : world n (d + 4) 15 [strA u] h = some (.ret (strA (quoteB u)), h) := by
 apply Wp.eq
 rw [w_pattern_Quote]
 refine Wp.gc ?_
 suffices hK : Wp (pattern_Quote (world n (d + 3)) n u h) fun r h' => r = .ret (strA (quoteB u)) ∧ Tch [] h h' from hK.mono fun r h' ⟨e, t⟩ => ⟨t.above, by rw [e]; rfl, e, rfl⟩
 unfold pattern_Quote
 have k0 := BldR.new TBld TU8 h
 have t0 : Tch [] h (newH h TBld [.nilp, .nsl]) := Tch.newH _ _ _ _
 obtain ⟨c1, h1, e1, q1, o1, t1⟩ := writeByte_r (n := n) (d := d + 1) (y := 34) k0 (by rw [t0.2.1]; exact hxB) (by rw [t0.2.1]; exact hx8) (by decide) (by simp)
 rw [show ((34 : Nat) : Int) = 34 from rfl] at e1
 refine Wp.lett ?_
 rw [newP_eq]
 refine Wp.callN e1 ?_
 refine Wp.join0 (fun k hk => ?_)
 have n0 := next_newH h TBld [.nilp, .nsl]
 have n1 := t1.1
 refine quote_loop (h0 := h) hu' n 0 c1 h1 (by omega) (by omega) (by simpa using q1) ?_ (by rw [t1.2.1, t0.2.1]; exact hxB) (by rw [t1.2.1, t0.2.1]; exact hx8) (Nat.le_refl _) (by omega) ?_
 ·exact ((t0.trans' t1 (S := []) (by intro b hb; simp at hb; omega))).mono (by simp)
 ·intro c2 H2 q2 t2 hxB2 hx82 hc2
  rw [hk]
  have hfl := flat_len u
  obtain ⟨c3, h3, e3, q3, o3, t3⟩ := writeByte_r (n := n) (d := d + 1) (y := 34) q2 hxB2 hx82 (by decide) (by simp only [List.length_cons]; omega)
  rw [show ((34 : Nat) : Int) = 34 from rfl] at e3
  obtain ⟨h4, e4, t4⟩ := string_r (n := n) (d := d + 2) q3 (by simp only [List.length_cons, List.length_append, List.length_nil]; omega)
  repeat (first | ((with_reducible apply Wp.obind); (with_reducible exact avStr_str _)) | ((with_reducible apply Wp.callN); (with_reducible first | exact e3 | exact e4)))
  have nt2 := t2.1
  refine Wp.ret ⟨rfl, ?_⟩
  exact (t2.trans' t3 (by intro b hb; simp at hb; omega)).trans' t4 (by intro b hb; simp at hb; omega)
end
def wordQ (k : Int) (t : Bytes) (m : Int) : Bytes := if k = 2 then t ++ [58] else if k = 3 then digs m.toNat else if k = 4 then quoteB t else t
theorem un8 {m : Nat} {a : UInt8} (h : m = a.toNat) : UInt8.ofNat m = a := by
 subst h
 exact UInt8.ofNat_toNat
theorem digs_num : ∀ (w : Bytes), 1 ≤ w.length → w.length ≤ 4 → (∀ i (h : i < w.length), 48 ≤ (w[i]).toNat ∧ (w[i]).toNat ≤ 57) → (∀ h : 0 < w.length, (w[0]).toNat ≠ 48) → digs (numA w 0) = w ∧ numA w 0 < 10000
 | [], h, _, _, _ => by simp at h
 | [a], _, _, hd, hz => by
  have d0 := hd 0 (by simp)
  simp only [List.getElem_cons_zero] at d0
  have e : numA [a] 0 = a.toNat - 48 := by show 10 * 0 + (a.toNat - 48) = _; omega
  rw [e]
  refine ⟨?_, by omega⟩
  unfold digs
  rw [if_pos (by omega), un8 (a := a) (by omega)]
 | [a, b], _, _, hd, hz => by
  have d0 := hd 0 (by simp)
  have d1 := hd 1 (by simp)
  have z := hz (by simp)
  simp only [List.getElem_cons_zero, List.getElem_cons_succ] at d0 d1 z
  have e : numA [a, b] 0 = 10 * (a.toNat - 48) + (b.toNat - 48) := by show 10 * (10 * 0 + (a.toNat - 48)) + (b.toNat - 48) = _; omega
  rw [e]
  refine ⟨?_, by omega⟩
  unfold digs
  rw [if_neg (by omega), if_pos (by omega), un8 (a := a) (by omega), un8 (a := b) (by omega)]
 | [a, b, c], _, _, hd, hz => by
  have d0 := hd 0 (by simp)
  have d1 := hd 1 (by simp)
  have d2 := hd 2 (by simp)
  have z := hz (by simp)
  simp only [List.getElem_cons_zero, List.getElem_cons_succ] at d0 d1 d2 z
  have e : numA [a, b, c] 0 = 100 * (a.toNat - 48) + 10 * (b.toNat - 48) + (c.toNat - 48) := by show 10 * (10 * (10 * 0 + (a.toNat - 48)) + (b.toNat - 48)) + (c.toNat - 48) = _; omega
  rw [e]
  refine ⟨?_, by omega⟩
  unfold digs
  rw [if_neg (by omega), if_neg (by omega), if_pos (by omega), un8 (a := a) (by omega), un8 (a := b) (by omega), un8 (a := c) (by omega)]
 | [a, b, c, d], _, _, hd, hz => by
  have d0 := hd 0 (by simp)
  have d1 := hd 1 (by simp)
  have d2 := hd 2 (by simp)
  have d3 := hd 3 (by simp)
  have z := hz (by simp)
  simp only [List.getElem_cons_zero, List.getElem_cons_succ] at d0 d1 d2 d3 z
  have e : numA [a, b, c, d] 0 = 1000 * (a.toNat - 48) + 100 * (b.toNat - 48) + 10 * (c.toNat - 48) + (d.toNat - 48) := by show 10 * (10 * (10 * (10 * 0 + (a.toNat - 48)) + (b.toNat - 48)) + (c.toNat - 48)) + (d.toNat - 48) = _; omega
  rw [e]
  refine ⟨?_, by omega⟩
  unfold digs
  rw [if_neg (by omega), if_neg (by omega), if_neg (by omega), un8 (a := a) (by omega), un8 (a := b) (by omega), un8 (a := c) (by omega), un8 (a := d) (by omega)]
 | a :: b :: c :: d :: e :: w, _, h, _, _ => by simp at h
section
variable {u : Bytes} {p q a : Nat} {k m : Int} {t : Bytes}
theorem take_one {c : Nat} (h : at? u p = some c) : (u.drop p).take 1 = [UInt8.ofNat c] := by
 obtain ⟨hp, e⟩ := at?_some h
 rw [List.drop_eq_getElem_cons hp, List.take_succ_cons, List.take_zero, ← e]
 simp
theorem scan_quote {mm : Int} : ∀ (f p : Nat) (acc : Bytes) {l : Bytes} {q : Nat}, scanQ u mm f p acc = .ok l q → ∃ mid, l = acc ++ mid ∧ p < q ∧ q ≤ u.length ∧ (u.drop p).take (q - p) = (mid.flatMap fun a => signB a.toNat) ++ [34]
 | 0, p, acc, l, q, hh => by rw [scanQ] at hh; cases hh
 | f + 1, p, acc, l, q, hh => by
  rw [scanQ] at hh
  split at hh
  ·rename_i h34
   cases hh
   obtain ⟨hp, _⟩ := at?_some h34
   refine ⟨[], by simp, by omega, by omega, ?_⟩
   rw [Nat.add_sub_cancel_left, take_one h34]
   rfl
  ·split at hh
   ·cases hh
   ·cases hF : formAt u p with
    | bad q' => rw [hF] at hh; cases hh
    | ok c q' =>
     rw [hF] at hh
     obtain ⟨mid, h1, h2, h3, h4⟩ := scan_quote f q' _ hh
     obtain ⟨hc, hpq, hqu⟩ := formAt_ok hF
     rw [formAt_W] at hF
     cases hW : formW (u.drop p) with
     | bad k => rw [hW] at hF; cases hF
     | ok c' k =>
      rw [hW] at hF
      simp only [shiftF, FR.ok.injEq] at hF
      obtain ⟨rfl, rfl⟩ := hF
      obtain ⟨_, hk, r, hr⟩ := formW_ok hW
      refine ⟨UInt8.ofNat c' :: mid, by rw [h1]; simp, by omega, h3, ?_⟩
      have e1 : u.drop (p + k) = r := by
       rw [← List.drop_drop, hr, hk]
       simp
      rw [e1] at h4
      rw [hr, show q - p = (signB c').length + (q - (p + k)) by omega, List.take_length_add_append, h4, List.flatMap_cons, ofNat_toNat hc, List.append_assoc]
theorem quoted_word {w : Bytes} {mm : Int} {l : Bytes} (h : quotedQ w mm = .ok l q) : w.take q = quoteB l ∧ q ≤ w.length ∧ 2 ≤ q := by
 unfold quotedQ at h
 split at h
 ·rename_i h34
  obtain ⟨mid, h1, h2, h3, h4⟩ := scan_quote _ _ _ h
  refine ⟨?_, h3, by omega⟩
  rw [List.nil_append] at h1
  subst h1
  obtain ⟨hp, e⟩ := at?_some h34
  unfold quoteB
  rw [List.cons_append, ← h4]
  have e0 : w = w[0] :: w.drop 1 := by
   have := List.drop_eq_getElem_cons (l := w) hp
   simpa using this
  have e2 : w[0] = 34 := by
   have := un8 e.symm
   rw [← this]
   rfl
  rw [e2] at e0
  conv => lhs; rw [e0]
  rw [show q = (q - 1) + 1 by omega, List.take_succ_cons]
  simp
 ·cases h
theorem read_word (hp : p < u.length) (h : readQ u p = .ok k t m a q) : p < q ∧ (u.drop p).take (q - p) = wordQ k t m ∧ (k = 3 → ∃ x : Nat, m = x ∧ x < 10000) ∧ 1 ≤ k ∧ k ≤ 5 ∧ t.length ≤ u.length + 64 := by
 have hlt := readQ_lt hp h
 have hx : at? u p = some (u[p]).toNat := at?_lt hp
 unfold readQ at h
 rw [hx] at h
 dsimp only at h
 have hw := span_le wordB (u.drop p)
 have hd := span_le digB (u.drop p)
 rw [List.length_drop] at hw hd
 refine ⟨hlt, ?_⟩
 split at h
 ·unfold readWordQ at h
  split at h
  ·rename_i hs
   split at h
   ·rename_i h58
    simp only [TR.ok.injEq] at h
    obtain ⟨rfl, rfl, rfl, rfl, rfl⟩ := h
    refine ⟨?_, fun h => absurd h (by decide), by decide, by decide, by rw [List.length_take]; omega⟩
    unfold wordQ
    rw [if_pos rfl, show p + spanN wordB (u.drop p) + 1 - p = spanN wordB (u.drop p) + 1 by omega, List.take_add]
    congr 1
    rw [List.drop_drop, take_one h58]
    rfl
   ·simp only [TR.ok.injEq] at h
    obtain ⟨rfl, rfl, rfl, rfl, rfl⟩ := h
    refine ⟨?_, fun h => absurd h (by decide), by decide, by decide, by rw [List.length_take]; omega⟩
    unfold wordQ
    rw [if_neg (by decide), if_neg (by decide), if_neg (by decide), Nat.add_sub_cancel_left]
  ·cases h
 ·split at h
  ·rename_i hsm hdg
   unfold readNumQ at h
   split at h
   ·rename_i h48
    simp only [TR.ok.injEq] at h
    obtain ⟨rfl, rfl, rfl, rfl, rfl⟩ := h
    refine ⟨?_, fun _ => ⟨0, rfl, by decide⟩, by decide, by decide, by simp⟩
    rw [Nat.add_sub_cancel_left, take_one h48]
    rfl
   ·rename_i h48
    split at h
    ·rename_i hs
     simp only [TR.ok.injEq] at h
     obtain ⟨rfl, rfl, rfl, rfl, rfl⟩ := h
     have h1 : 1 ≤ spanN digB (u.drop p) := by
      rw [List.drop_eq_getElem_cons hp]
      unfold spanN
      rw [if_pos hdg]
      omega
     have hl : ((u.drop p).take (spanN digB (u.drop p))).length = spanN digB (u.drop p) := by rw [List.length_take, List.length_drop]; omega
     obtain ⟨g1, g2⟩ := digs_num ((u.drop p).take (spanN digB (u.drop p))) (by omega) (by omega) (fun i hi => by
      have h1 := span_lt (f := digB) (w := u.drop p) (i := i) (by omega) (by rw [List.length_drop]; omega)
      rw [List.getElem_take]
      unfold digB at h1
      simp at h1 ⊢
      omega) (fun h0 => by
      rw [List.getElem_take, List.getElem_drop]
      intro hh
      exact h48 (by rw [hx]; simpa using hh))
     refine ⟨?_, fun _ => ⟨_, rfl, g2⟩, by decide, by decide, by simp⟩
     rw [Nat.add_sub_cancel_left]
     unfold wordQ
     rw [if_neg (by decide), if_pos rfl]
     exact g1.symm
    ·cases h
  ·split at h
   ·unfold readTextQ at h
    cases hq : quotedQ (u.drop p) 64 with
    | bad e q' => rw [hq] at h; cases h
    | ok l q' =>
     rw [hq] at h
     simp only [TR.ok.injEq] at h
     obtain ⟨rfl, rfl, rfl, rfl, rfl⟩ := h
     have h3 := (quoted_fact hq).2.2.1 (by decide)
     refine ⟨?_, fun h => absurd h (by decide), by decide, by decide, by omega⟩
     rw [Nat.add_sub_cancel_left, (quoted_word hq).1]
     rfl
   ·split at h
    ·simp only [TR.ok.injEq] at h
     obtain ⟨rfl, rfl, rfl, rfl, rfl⟩ := h
     refine ⟨?_, fun h => absurd h (by decide), by decide, by decide, by rw [List.length_take]; omega⟩
     rw [Nat.add_sub_cancel_left]
     rfl
    ·cases h
theorem token_word (hp : p < u.length) (h : tokenQ u p = .ok k t m a q) : readQ u p = .ok k t m a q ∧ a = p ∧ p < q ∧ q ≤ u.length ∧ (endsB u q = true ∨ ((at? u q).map blankB = some true)) ∧ (u.drop p).take (q - p) = wordQ k t m ∧ (k = 3 → ∃ x : Nat, m = x ∧ x < 10000) ∧ 1 ≤ k ∧ k ≤ 5 ∧ t.length ≤ u.length + 64 := by
 have h0 := h
 unfold tokenQ at h
 cases hR : readQ u p with
 | bad e q' => rw [hR] at h; cases h
 | ok k' t' m' a' q' =>
  rw [hR] at h
  dsimp only at h
  split at h
  ·rename_i hc
   cases h
   obtain ⟨r1, r2⟩ := readQ_le hp hR
   obtain ⟨w1, w2, w3, w4, w5, w6⟩ := read_word hp hR
   exact ⟨rfl, r2, w1, r1, hc, w2, w3, w4, w5, w6⟩
  ·cases h
end
section
variable {n d p : Nat} {h h0 : AHeap} {Q : ARes → AHeap → Prop} {k m : Int} {t : Bytes}
theorem lword_w (hk : k = 3 → ∃ x : Nat, m = x ∧ x < 10000) (ht : t.length ≤ 1000000) (hn : t.length < n) (hn3 : 3 < n) (hP : HasPow h) (hxB : memB TBld h.ex = true) (hx8 : memB TU8 h.ex = false) : world n (d + 7) 11 [.agg (tokC k t m p)] h = some (.ret (strA (wordQ k t m)), h) := by
 apply Wp.eq
 rw [w_law12_word]
 refine Wp.gc ?_
 suffices hK : Wp (law12_word (world n (d + 6)) n (tokC k t m p) h) fun r h' => r = .ret (strA (wordQ k t m)) ∧ Tch [] h h' from hK.mono fun r h' ⟨e, t⟩ => ⟨t.above, by rw [e]; rfl, e, rfl⟩
 unfold law12_word wordQ
 have Mx := Mem.nil [] h
 refine Wp.mbox Mx (by unfold tokC; rfl) (fun h1 M1 => ?_)
 unfold tokC at M1
 clear Mx
 have Mx := M1
 clear M1
 by_cases h2 : k = 2
 ·have e := addS_val (a := t) (b := [58]) (by simp; omega)
  rw [if_pos h2]
  repeat (first | ((with_reducible apply Wp.obind); (with_reducible first | exact avInt_int _ _ | exact avStr_str _ | exact fldP_ptr _ _ _)) | ((with_reducible apply Wp.ld0 Mx); rfl) | (with_reducible refine Wp.lett ?_) | ((with_reducible apply Wp.obind); (with_reducible exact e)) | ((with_reducible refine Wp.ift ?_ ?_); ((with_reducible apply beq_t); omega)))
  exact Wp.ret ⟨rfl, Mx.tch⟩
 ·rw [if_neg h2]
  by_cases h3 : k = 3
  ·rw [if_pos h3]
   obtain ⟨x, rfl, hx⟩ := hk h3
   have hPH : HasPow h1 := hP.tch Mx.tch (by simp)
   have e := itoa_w (n := n) (d := d) (x := x) hx hPH hn3
   repeat (first | ((with_reducible apply Wp.obind); (with_reducible first | exact avInt_int _ _ | exact avStr_str _ | exact fldP_ptr _ _ _)) | ((with_reducible apply Wp.ld0 Mx); rfl) | (with_reducible refine Wp.lett ?_) | ((with_reducible refine Wp.ift ?_ ?_); ((with_reducible apply beq_t); omega)) | ((with_reducible refine Wp.iff ?_ ?_); ((with_reducible apply beq_f); omega)) | ((with_reducible apply Wp.callK); (with_reducible exact e)))
   exact Wp.ret ⟨rfl, Mx.tch⟩
  ·rw [if_neg h3]
   by_cases h4 : k = 4
   ·rw [if_pos h4]
    have e := quote_w (n := n) (d := d + 2) (u := t) (h := h1) (by omega) hn (by rw [Mx.ex]; exact hxB) (by rw [Mx.ex]; exact hx8)
    repeat (first | ((with_reducible apply Wp.obind); (with_reducible first | exact avInt_int _ _ | exact avStr_str _ | exact fldP_ptr _ _ _)) | ((with_reducible apply Wp.ld0 Mx); rfl) | (with_reducible refine Wp.lett ?_) | ((with_reducible refine Wp.ift ?_ ?_); ((with_reducible apply beq_t); omega)) | ((with_reducible refine Wp.iff ?_ ?_); ((with_reducible apply beq_f); omega)) | ((with_reducible apply Wp.callN); (with_reducible exact e)))
    exact Wp.ret ⟨rfl, Mx.tch⟩
   ·rw [if_neg h4]
    repeat (first | ((with_reducible apply Wp.obind); (with_reducible first | exact avInt_int _ _ | exact avStr_str _ | exact fldP_ptr _ _ _)) | ((with_reducible apply Wp.ld0 Mx); rfl) | (with_reducible refine Wp.lett ?_) | ((with_reducible refine Wp.iff ?_ ?_); ((with_reducible apply beq_f); omega)))
    exact Wp.ret ⟨rfl, Mx.tch⟩
end
end Go.Proofs.YtjopejiooipmkaaDoor
namespace Go.Proofs.YtjopejiooipmkaaDoor
open Go.RowKit Abs
inductive Gap (u : Bytes) (s : Bool) : Nat → Nat → Prop
 | here {p} : Gap u s p p
 | blank {p q} (h : p < u.length) (hb : blankB (u[p]).toNat = true) (k : Gap u s (p + 1) q) : Gap u s p q
 | remark {p q} (h : p < u.length) (hb : (u[p]).toNat = 35) (k : Gap u s (p + spanN restB (u.drop p)) q) : Gap u s p q
 | nl {p q} (h : p < u.length) (hb : (u[p]).toNat = 10) (hs : s = false) (k : Gap u s (p + 1) q) : Gap u s p q
inductive Places (u : Bytes) : Bool → Nat → List (List AV) → Prop
 | nil {p} : Places u false p []
 | tok {s p q k t m q' rest} (g : Gap u s p q) (hq : q < u.length) (ht : tokenQ u q = .ok k t m q q') (r : Places u true q' rest) : Places u s p (tokC k t m q :: rest)
 | eol {p q rest} (g : Gap u true p q) (hq : q ≤ u.length) (he : endsB u q = true) (r : Places u false q rest) : Places u true p (tokC 6 [] 0 q :: rest)
section
variable {u : Bytes} {p q : Nat} {s : Bool} {l rest : List (List AV)} {x : LR}
theorem Gap.le (g : Gap u s p q) : p ≤ q := by
 induction g with
 | here => exact Nat.le_refl _
 | blank _ _ _ ih => omega
 | remark _ _ _ ih => omega
 | nl _ _ _ _ ih => omega
theorem Places.blank (h : p < u.length) (hb : blankB (u[p]).toNat = true) (k : Places u s (p + 1) rest) : Places u s p rest := by
 cases k with
 | nil => exact .nil
 | tok g hq ht r => exact .tok (.blank h hb g) hq ht r
 | eol g hq he r => exact .eol (.blank h hb g) hq he r
theorem Places.remark (h : p < u.length) (hb : (u[p]).toNat = 35) (k : Places u s (p + spanN restB (u.drop p)) rest) : Places u s p rest := by
 cases k with
 | nil => exact .nil
 | tok g hq ht r => exact .tok (.remark h hb g) hq ht r
 | eol g hq he r => exact .eol (.remark h hb g) hq he r
theorem Places.line (h : p < u.length) (hb : (u[p]).toNat = 10) (k : Places u false (p + 1) rest) : Places u false p rest := by
 cases k with
 | nil => exact .nil
 | tok g hq ht r => exact .tok (.nl h hb rfl g) hq ht r
theorem ref_places (h : RefTo u p s l x) : (p = u.length + 1 → s = false) → p ≤ u.length + 1 → ∀ l' q', x = .ok l' q' → ∃ rest, l' = l ++ rest ∧ Places u s p rest ∧ (u.length < p → rest = []) := by
 induction h with
 | @done p s l h =>
  intro hs hp l' q' e
  cases e
  have := hs (by omega)
  subst this
  exact ⟨[], by simp, .nil, fun _ => rfl⟩
 | @nl p s l x h1 h2 k ih =>
  intro hs hp l' q' e
  obtain ⟨rest, e1, pl, hz⟩ := ih (fun _ => rfl) (by omega) l' q' e
  have pl2 : Places u false p rest := by
   by_cases hl : p < u.length
   ·exact pl.line hl (by
     unfold endsB at h2
     rw [at?_lt hl] at h2
     dsimp only at h2
     have : ((u[p]).toNat : Int) = 10 := by simpa using h2
     exact_mod_cast this)
   ·rw [hz (by omega)]
    exact .nil
  cases s with
  | false => exact ⟨rest, e1, pl2, fun hh => by omega⟩
  | true =>
   rw [if_pos rfl] at e1
   exact ⟨tokC 6 [] 0 p :: rest, by rw [e1]; simp, .eol .here h1 h2 pl2, fun hh => by omega⟩
 | @blank p s l x h1 h2 k ih =>
  intro hs hp l' q' e
  have hp1 : p + 1 = u.length + 1 → s = false := fun hh => by omega
  obtain ⟨rest, e1, pl, hz⟩ := ih hp1 (by omega) l' q' e
  exact ⟨rest, e1, pl.blank h1 h2, fun hh => by omega⟩
 | @remark p s l x h1 h2 k ih =>
  intro hs hp l' q' e
  have hle := span_le restB (u.drop p)
  rw [List.length_drop] at hle
  obtain ⟨rest, e1, pl, hz⟩ := ih (fun hh => by omega) (by omega) l' q' e
  exact ⟨rest, e1, pl.remark h1 h2, fun hh => by omega⟩
 | @tok p s l x k t m a q h1 h2 h3 h4 h5 _ ih =>
  intro hs hp l' q' e
  obtain ⟨_, ha, hpq, hq, _⟩ := token_word h1 h5
  subst ha
  obtain ⟨rest, e1, pl, hz⟩ := ih (fun hh => by omega) (by omega) l' q' e
  exact ⟨tokC k t m a :: rest, by rw [e1]; simp, .tok .here h1 h5 pl, fun hh => by omega⟩
 | @bad p s l e q h1 h2 h3 h4 h5 =>
  intro hs hp l' q' e
  cases e
theorem lexAll_places {q : Nat} (hu : u.length ≤ 2048) (hh : lexAll u = .ok l q) : Places u false 0 l := by
 have h1 : RefTo u 0 false [] (lexAll u).norm := by
  unfold lexAll
  rw [if_neg (by omega)]
  exact lex_to _ _ _ (by omega) (by omega)
 rw [hh] at h1
 obtain ⟨rest, e, pl, _⟩ := ref_places h1 (by omega) (by omega) l 0 rfl
 rw [e]
 exact pl
theorem Places.last (h : Places u s p l) : (s = true → l ≠ []) ∧ (l ≠ [] → ∃ l0 q, l = l0 ++ [tokC 6 [] 0 q]) := by
 induction h with
 | nil => exact ⟨by simp, by simp⟩
 | @tok s p q k t m q' rest g hq ht r ih =>
  refine ⟨by simp, fun _ => ?_⟩
  obtain ⟨l0, q0, e⟩ := ih.2 (ih.1 rfl)
  exact ⟨tokC k t m q :: l0, q0, by rw [e]; rfl⟩
 | @eol p q rest g hq he r ih =>
  refine ⟨by simp, fun _ => ?_⟩
  by_cases hr : rest = []
  ·exact ⟨[], q, by rw [hr]; rfl⟩
  ·obtain ⟨l0, q0, e⟩ := ih.2 hr
   exact ⟨tokC 6 [] 0 q :: l0, q0, by rw [e]; rfl⟩
end
section
variable {a r w : Bytes} {p q : Nat} {f : Nat → Bool}
end
def shR (k : Nat) : List AV → List AV
 | [a, b, c, .int .i64 x] => [a, b, c, .int .i64 (x + (k : Int))]
 | r => r
def TR.sh (k : Nat) : TR → TR
 | .ok kk t m a q => .ok kk t m (k + a) (k + q)
 | .bad e q => .bad e (k + q)
section
variable {pre b : Bytes} {p q : Nat} {f : Nat → Bool}
theorem at?_end : at? (pre ++ b) (pre.length + p) = at? b p := by
 unfold at?
 rw [List.getElem?_append_right (by omega), Nat.add_sub_cancel_left]
theorem drop_end : (pre ++ b).drop (pre.length + p) = b.drop p := by
 rw [List.drop_append]
 simp
theorem readQ_end : readQ (pre ++ b) (pre.length + p) = (readQ b p).sh pre.length := by
 unfold readQ
 rw [at?_end]
 cases h : at? b p with
 | none => rfl
 | some c =>
  dsimp only
  have e1 : readWordQ (pre ++ b) (pre.length + p) = (readWordQ b p).sh pre.length := by
   unfold readWordQ
   rw [drop_end, Nat.add_assoc, at?_end]
   split
   ·split
    ·rfl
    ·rfl
   ·show TR.bad 3 _ = TR.bad 3 _
    rw [Nat.add_assoc]
  have e2 : readNumQ (pre ++ b) (pre.length + p) = (readNumQ b p).sh pre.length := by
   unfold readNumQ
   rw [drop_end, at?_end]
   split
   ·rfl
   ·split
    ·show TR.ok _ _ _ _ _ = TR.ok _ _ _ _ _
     rw [Nat.add_assoc]
    ·show TR.bad 3 _ = TR.bad 3 _
     rw [Nat.add_assoc]
  have e3 : readTextQ (pre ++ b) (pre.length + p) = (readTextQ b p).sh pre.length := by
   unfold readTextQ
   rw [drop_end]
   cases quotedQ (b.drop p) 64 with
   | ok l q =>
    show TR.ok _ _ _ _ _ = TR.ok _ _ _ _ _
    rw [Nat.add_assoc]
   | bad e q =>
    show TR.bad _ _ = TR.bad _ _
    rw [Nat.add_assoc]
  rw [e1, e2, e3, drop_end]
  split
  ·rfl
  ·split
   ·rfl
   ·split
    ·rfl
    ·split
     ·rfl
     ·rfl
def LR.sh (l0 : List (List AV)) (k : Nat) : LR → LR
 | .ok l _ => .ok (l0 ++ l.map (shR k)) 0
 | .bad e q => .bad e (k + q)
end
section
variable {u : Bytes} {p : Nat} {s : Bool} {l : List (List AV)} {x y : LR}
theorem ends_some (h : p < u.length) (he : endsB u p = true) : (u[p]).toNat = 10 := by
 unfold endsB at he
 rw [at?_lt h] at he
 dsimp only at he
 have : ((u[p]).toNat : Int) = 10 := by simpa using he
 exact_mod_cast this
theorem ref_one (h : RefTo u p s l x) : RefTo u p s l y → x = y := by
 induction h with
 | @done p s l h =>
  intro k
  cases k with
  | done => rfl
  | nl => omega
  | blank => omega
  | remark => omega
  | tok => omega
  | bad => omega
 | @nl p s l x h1 h2 _ ih =>
  intro k
  cases k with
  | done => omega
  | nl _ _ k => exact ih k
  | blank h3 h4 k => rw [ends_some h3 h2] at h4; cases h4
  | remark h3 h4 k => rw [ends_some h3 h2] at h4; cases h4
  | tok h3 h4 => rw [h2] at h4; cases h4
  | bad h3 h4 => rw [h2] at h4; cases h4
 | @blank p s l x h1 h2 _ ih =>
  intro k
  cases k with
  | done => omega
  | nl h3 h4 k => rw [ends_some h1 h4] at h2; cases h2
  | blank h3 h4 k => exact ih k
  | remark h3 h4 k => rw [h4] at h2; cases h2
  | tok h3 h4 h5 => rw [h2] at h5; cases h5
  | bad h3 h4 h5 => rw [h2] at h5; cases h5
 | @remark p s l x h1 h2 _ ih =>
  intro k
  cases k with
  | done => omega
  | nl h3 h4 k => rw [ends_some h1 h4] at h2; cases h2
  | blank h3 h4 k => rw [h2] at h4; cases h4
  | remark h3 h4 k => exact ih k
  | tok h3 h4 h5 h6 => exact absurd h2 h6
  | bad h3 h4 h5 h6 => exact absurd h2 h6
 | @tok p s l x k t m a' q h1 h2 h3 h4 h5 _ ih =>
  intro k
  cases k with
  | done => omega
  | nl g3 g4 k => rw [h2] at g4; cases g4
  | blank g3 g4 k => rw [h3] at g4; cases g4
  | remark g3 g4 k => exact absurd g4 h4
  | tok g3 g4 g5 g6 g7 k =>
   rw [h5] at g7
   cases g7
   exact ih k
  | bad g3 g4 g5 g6 g7 => rw [h5] at g7; cases g7
 | @bad p s l e q h1 h2 h3 h4 h5 =>
  intro k
  cases k with
  | nl g3 g4 k => rw [h2] at g4; cases g4
  | blank g3 g4 k => rw [h3] at g4; cases g4
  | remark g3 g4 k => exact absurd g4 h4
  | tok g3 g4 g5 g6 g7 k => rw [h5] at g7; cases g7
  | bad g3 g4 g5 g6 g7 =>
   rw [h5] at g7
   cases g7
   rfl
  | done => omega
theorem lexAll_to (hu : u.length ≤ 2048) : RefTo u 0 false [] (lexAll u).norm := by
 unfold lexAll
 rw [if_neg (by omega)]
 exact lex_to _ _ _ (by omega) (by omega)
end
structure Tk where
 k : Int
 t : Bytes
 m : Int
 a : Nat
noncomputable def Tk.c (x : Tk) : List AV := tokC x.k x.t x.m x.a
noncomputable def Tk.w (x : Tk) : Bytes := wordQ x.k x.t x.m
def SameT : List Tk → List Tk → Prop
 | [], [] => True
 | x :: l, y :: r => x.k = y.k ∧ x.t = y.t ∧ x.m = y.m ∧ SameT l r
 | _, _ => False
inductive PlacesT (u : Bytes) : Bool → Nat → List Tk → Prop
 | nil {p} : PlacesT u false p []
 | tok {s p q' x rest} (g : Gap u s p x.a) (hq : x.a < u.length) (ht : tokenQ u x.a = .ok x.k x.t x.m x.a q') (r : PlacesT u true q' rest) : PlacesT u s p (x :: rest)
 | eol {p q rest} (g : Gap u true p q) (hq : q ≤ u.length) (he : endsB u q = true) (r : PlacesT u false q rest) : PlacesT u true p (⟨6, [], 0, q⟩ :: rest)
def Stop : Bytes → Prop
 | [] => True
 | c :: _ => c.toNat = 32 ∨ c.toNat = 9 ∨ c.toNat = 10
section
variable {u z r r1 r2 : Bytes} {p q q' : Nat} {s : Bool} {l : List (List AV)} {ts ts' : List Tk} {k m : Int} {t : Bytes} {f : Nat → Bool}
theorem places_t (h : Places u s p l) : ∃ ts, l = ts.map Tk.c ∧ PlacesT u s p ts := by
 induction h with
 | nil => exact ⟨[], rfl, .nil⟩
 | @tok s p q k t m q' rest g hq ht r ih =>
  obtain ⟨ts, e, h⟩ := ih
  exact ⟨⟨k, t, m, q⟩ :: ts, by rw [e]; rfl, .tok g hq ht h⟩
 | @eol p q rest g hq he r ih =>
  obtain ⟨ts, e, h⟩ := ih
  exact ⟨⟨6, [], 0, q⟩ :: ts, by rw [e]; rfl, .eol g hq he h⟩
theorem span_all : ∀ {z : Bytes}, (∀ i (h : i < z.length), f (z[i]).toNat = true) → (∀ c w, r = c :: w → f c.toNat = false) → spanN f (z ++ r) = z.length
 | [], _, hr => by
  cases r with
  | nil => rfl
  | cons c w =>
   show spanN f (c :: w) = 0
   unfold spanN
   rw [hr c w rfl]
   rfl
 | x :: z, hz, hr => by
  show spanN f (x :: (z ++ r)) = z.length + 1
  unfold spanN
  have h0 := hz 0 (by simp)
  simp only [List.getElem_cons_zero] at h0
  rw [if_pos h0, span_all (z := z) (fun i h => by have := hz (i + 1) (by simp; omega); simpa using this) hr]
theorem all_span (h : z.length ≤ spanN f (z ++ r)) : ∀ i (h : i < z.length), f (z[i]).toNat = true := by
 intro i hi
 have := span_lt (f := f) (w := z ++ r) (i := i) (by omega) (by simp; omega)
 rw [List.getElem_append_left hi] at this
 exact this
theorem stop_f (h : Stop r) (h1 : f 32 = false) (h2 : f 9 = false) (h3 : f 10 = false) : ∀ c w, r = c :: w → f c.toNat = false := by
 intro c w e
 subst e
 rcases h with h | h | h <;> rw [h] <;> assumption
theorem sign_head (c : Nat) (hc : c < 256) : ∃ x w, signB c = x :: w ∧ x.toNat ≠ 34 := by
 rcases cls c with ⟨e, h, _⟩ | ⟨h, hp, h1, h2⟩ | ⟨h, _⟩
 ·exact ⟨92, [e], h, by decide⟩
 ·exact ⟨UInt8.ofNat c, [], h, by rw [ofNat_toNat hc]; exact h1⟩
 ·exact ⟨92, _, h, by decide⟩
theorem scan_fwd : ∀ (mid : Bytes) (fuel : Nat) (pre acc : Bytes), mid.length < fuel → acc.length + mid.length ≤ 64 → scanQ (pre ++ ((mid.flatMap fun a => signB a.toNat) ++ 34 :: r)) 64 fuel pre.length acc = .ok (acc ++ mid) (pre.length + (mid.flatMap fun a => signB a.toNat).length + 1)
 | [], fuel, pre, acc, hf, _ => by
  cases fuel with
  | zero => simp at hf
  | succ fuel =>
   rw [scanQ, if_pos]
   ·simp
   ·rw [at?_lt (by simp)]
    simp
 | x :: mid, fuel, pre, acc, hf, hl => by
  cases fuel with
  | zero => simp at hf
  | succ fuel =>
   simp only [List.length_cons] at hf hl
   have hx := x.toNat_lt
   obtain ⟨y, w, e1, e2⟩ := sign_head x.toNat hx
   rw [scanQ, if_neg, if_neg (by omega), formAt_W]
   ·have e3 : (pre ++ (((x :: mid).flatMap fun a => signB a.toNat) ++ 34 :: r)).drop pre.length = signB x.toNat ++ ((mid.flatMap fun a => signB a.toNat) ++ 34 :: r) := by simp
    rw [e3, formW_sign hx]
    have ih := scan_fwd mid fuel (pre ++ signB x.toNat) (acc ++ [x]) (by omega) (by simp; omega)
    simp only [shiftF]
    rw [UInt8.ofNat_toNat]
    have e4 : pre ++ (((x :: mid).flatMap fun a => signB a.toNat) ++ 34 :: r) = (pre ++ signB x.toNat) ++ ((mid.flatMap fun a => signB a.toNat) ++ 34 :: r) := by simp
    rw [e4, show pre.length + (signB x.toNat).length = (pre ++ signB x.toNat).length by simp, ih]
    simp [Nat.add_assoc]
   ·rw [at?_lt (by simp; omega)]
    simp only [List.getElem_append_right (Nat.le_refl _), Nat.sub_self, List.flatMap_cons, e1, List.cons_append, List.getElem_cons_zero]
    simpa using e2
theorem flat_len1 (w : Bytes) : w.length ≤ (w.flatMap fun a => signB a.toNat).length := by
 induction w with
 | nil => simp
 | cons a w ih =>
  obtain ⟨x, v, e, _⟩ := sign_head a.toNat a.toNat_lt
  rw [List.flatMap_cons, List.length_append, List.length_cons, e, List.length_cons]
  omega
theorem quoted_fwd {l : Bytes} (hl : l.length ≤ 64) : quotedQ (quoteB l ++ r) 64 = .ok l (quoteB l).length := by
 unfold quotedQ quoteB
 have h := scan_fwd (r := r) l ((34 :: (l.flatMap fun (a : UInt8) => signB a.toNat) ++ [34] ++ r).length + 1) [34] [] (by
  have := flat_len1 l
  simp only [List.length_cons, List.length_append, List.length_nil]
  omega) (by simpa using hl)
 have e : (34 :: (l.flatMap fun (a : UInt8) => signB a.toNat) ++ [34] ++ r : Bytes) = [34] ++ ((l.flatMap fun a => signB a.toNat) ++ 34 :: r) := by simp
 rw [if_pos (by rw [e]; rfl)]
 rw [e] at h ⊢
 refine Eq.trans (show scanQ _ 64 _ 1 [] = _ from h) ?_
 simp [Nat.add_comm]
end
def StopAt (u : Bytes) (q : Nat) : Prop := endsB u q = true ∨ ((at? u q).map blankB = some true)
section
variable {u z r r1 r2 : Bytes} {p q q' : Nat} {s : Bool} {l : List (List AV)} {ts ts' : List Tk} {k m : Int} {t : Bytes} {f : Nat → Bool}
theorem at?_app (hp : p < z.length) : at? (z ++ r) p = at? z p := by
 rw [at?_lt hp, at?_lt (by rw [List.length_append]; omega), List.getElem_append_left hp]
theorem span_short : ∀ {z : Bytes}, spanN f (z ++ r1) < z.length → spanN f (z ++ r2) = spanN f (z ++ r1)
 | [], h => by simp at h
 | x :: z, h => by
  have h : spanN f (x :: (z ++ r1)) < (x :: z).length := h
  show spanN f (x :: (z ++ r2)) = spanN f (x :: (z ++ r1))
  unfold spanN at h ⊢
  split
  ·rename_i hx
   rw [if_pos hx] at h
   rw [span_short (z := z) (by simp at h; omega)]
  ·rfl
theorem take_app {n : Nat} (h : n ≤ z.length) : (z ++ r).take n = z.take n := List.take_append_of_le_length h
theorem stop_at (h : Stop r) : StopAt (z ++ r) z.length := by
 unfold StopAt endsB
 cases r with
 | nil =>
  left
  rw [at?_ge (by simp)]
 | cons c w =>
  rw [at?_lt (by simp)]
  simp only [List.getElem_append_right (Nat.le_refl _), Nat.sub_self, List.getElem_cons_zero]
  rcases h with h | h | h
  ·right
   rw [h]
   rfl
  ·right
   rw [h]
   rfl
  ·left
   rw [h]
   rfl
theorem stop_58 (h : Stop r) : at? (z ++ r) z.length ≠ some 58 := by
 cases r with
 | nil => rw [at?_ge (by simp)]; simp
 | cons c w =>
  rw [at?_lt (by simp)]
  simp only [List.getElem_append_right (Nat.le_refl _), Nat.sub_self, List.getElem_cons_zero]
  intro e
  simp only [Option.some.injEq] at e
  rcases h with h | h | h <;> omega
theorem read_stop (h : readQ (z ++ r1) 0 = .ok k t m 0 z.length) (s2 : Stop r2) : readQ (z ++ r2) 0 = .ok k t m 0 z.length := by
 have hz : 0 < z.length := by
  by_cases h0 : 0 < (z ++ r1).length
  ·exact readQ_lt h0 h
  ·exfalso
   unfold readQ at h
   rw [at?_ge (by omega)] at h
   cases h
 unfold readQ at h ⊢
 rw [at?_app hz] at h ⊢
 rw [at?_lt hz] at h ⊢
 dsimp only at h ⊢
 split at h
 ·rename_i hs
  rw [if_pos hs]
  unfold readWordQ at h ⊢
  simp only [List.drop_zero, Nat.zero_add] at h ⊢
  split at h
  ·rename_i h16
   split at h
   ·rename_i h58
    simp only [TR.ok.injEq] at h
    obtain ⟨rfl, rfl, rfl, _, e⟩ := h
    have e2 := span_short (r1 := r1) (r2 := r2) (f := wordB) (z := z) (by omega)
    rw [e2, if_pos h16, if_pos (by rw [at?_app (by omega)] at h58 ⊢; exact h58), take_app (by omega), take_app (by omega), e]
   ·simp only [TR.ok.injEq] at h
    obtain ⟨rfl, rfl, rfl, _, e⟩ := h
    have e2 := span_all (f := wordB) (r := r2) (all_span (f := wordB) (r := r1) (z := z) (by omega)) (stop_f s2 (by decide) (by decide) (by decide))
    rw [e2, if_pos (by omega), if_neg (stop_58 s2), take_app (Nat.le_refl _), e, take_app (Nat.le_refl _)]
  ·cases h
 ·rename_i hs
  rw [if_neg hs]
  split at h
  ·rename_i hd
   rw [if_pos hd]
   unfold readNumQ at h ⊢
   simp only [List.drop_zero, Nat.zero_add] at h ⊢
   rw [at?_app hz] at h ⊢
   split at h
   ·rename_i h48
    rw [if_pos h48]
    exact h
   ·rename_i h48
    rw [if_neg h48]
    split at h
    ·rename_i h4
     simp only [TR.ok.injEq] at h
     obtain ⟨rfl, rfl, rfl, _, e⟩ := h
     have e2 := span_all (f := digB) (r := r2) (all_span (f := digB) (r := r1) (z := z) (by omega)) (stop_f s2 (by decide) (by decide) (by decide))
     rw [e2, if_pos (by omega), take_app (Nat.le_refl _), e, take_app (Nat.le_refl _)]
    ·cases h
  ·rename_i hd
   rw [if_neg hd]
   split at h
   ·rename_i h34
    rw [if_pos h34]
    unfold readTextQ at h ⊢
    simp only [List.drop_zero, Nat.zero_add] at h ⊢
    cases hq : quotedQ (z ++ r1) 64 with
    | bad e q' => rw [hq] at h; cases h
    | ok l q' =>
     rw [hq] at h
     simp only [TR.ok.injEq] at h
     obtain ⟨rfl, rfl, rfl, _, e⟩ := h
     subst e
     have hw := (quoted_word hq).1
     rw [take_app (Nat.le_refl _), List.take_length] at hw
     have h3 := (quoted_fact hq).2.2.1 (by decide)
     have := quoted_fwd (r := r2) (l := l) (by omega)
     rw [← hw] at this
     rw [this]
   ·rename_i h34
    rw [if_neg h34]
    split at h
    ·rename_i hc
     rw [if_pos hc]
     simp only [List.drop_zero, Nat.zero_add] at h ⊢
     simp only [TR.ok.injEq] at h
     obtain ⟨rfl, rfl, rfl, _, e⟩ := h
     rw [take_app (r := r2) (by omega), take_app (r := r1) (by omega), ← e]
    ·cases h
theorem first_not (hp : p < u.length) (h : readQ u p = .ok k t m q q') : endsB u p = false ∧ blankB (u[p]).toNat = false ∧ (u[p]).toNat ≠ 35 := by
 unfold readQ at h
 rw [at?_lt hp] at h
 dsimp only at h
 unfold endsB
 rw [at?_lt hp]
 dsimp only
 generalize (u[p]).toNat = c at *
 refine ⟨?_, ?_, ?_⟩
 ·by_cases hc : c = 10
  ·subst hc
   cases h
  ·exact beq_f (by omega)
 ·by_cases hc : c = 32
  ·subst hc
   cases h
  ·by_cases hc2 : c = 9
   ·subst hc2
    cases h
   ·unfold blankB
    rw [beq_f (by omega), beq_f (by omega)]
    rfl
 ·intro hc
  subst hc
  cases h
theorem token_at (pre : Bytes) (hp : p < u.length) (h : tokenQ u p = .ok k t m p q) (hr : Stop r) : tokenQ (pre ++ (wordQ k t m ++ r)) pre.length = .ok k t m pre.length (pre.length + (wordQ k t m).length) ∧ 0 < (wordQ k t m).length ∧ readQ (pre ++ (wordQ k t m ++ r)) pre.length = .ok k t m pre.length (pre.length + (wordQ k t m).length) := by
 obtain ⟨hR, _, hpq, hqu, hst, hw, _⟩ := token_word hp h
 have hl : (wordQ k t m).length = q - p := by rw [← hw, List.length_take, List.length_drop]; omega
 have e1 : u = u.take p ++ u.drop p := (List.take_append_drop p u).symm
 have e2 : (u.take p).length = p := by rw [List.length_take]; omega
 have h0 : readQ (u.drop p) 0 = .ok k t m 0 (wordQ k t m).length := by
  have := readQ_end (pre := u.take p) (b := u.drop p) (p := 0)
  rw [← e1, e2, Nat.add_zero, hR] at this
  cases hx : readQ (u.drop p) 0 with
  | bad e q' => rw [hx] at this; cases this
  | ok k' t' m' a' q' =>
   rw [hx] at this
   simp only [TR.sh, TR.ok.injEq] at this
   obtain ⟨rfl, rfl, rfl, h4, h5⟩ := this
   rw [show a' = 0 by omega, show q' = (wordQ k t m).length by omega]
 have e3 : u.drop p = wordQ k t m ++ u.drop q := by
  rw [← hw]
  have := (List.take_append_drop (q - p) (u.drop p)).symm
  rw [List.drop_drop, show p + (q - p) = q by omega] at this
  exact this
 rw [e3] at h0
 have h1 := read_stop (r2 := r) h0 hr
 have h2 := readQ_end (pre := pre) (b := wordQ k t m ++ r) (p := 0)
 rw [h1, Nat.add_zero] at h2
 have h3 : readQ (pre ++ (wordQ k t m ++ r)) pre.length = .ok k t m pre.length (pre.length + (wordQ k t m).length) := h2
 refine ⟨?_, by omega, h3⟩
 unfold tokenQ
 rw [h3]
 dsimp only
 rw [if_pos]
 have := stop_at (z := pre ++ wordQ k t m) hr
 rw [List.append_assoc, List.length_append] at this
 exact this
end
end Go.Proofs.YtjopejiooipmkaaDoor
namespace Go.Proofs.YtjopejiooipmkaaDoor
open Go.RowKit Abs
theorem take_head {t : T AV} {o n : Nat} {x : AV} {xs : List AV} (h : t.take o (n + 1) = some (x :: xs)) : t.get o = some x := by
 unfold T.take at h
 cases e1 : t.get o with
 | none => rw [e1] at h; cases h
 | some y =>
  rw [e1] at h
  cases e2 : t.take (o + 1) n with
  | none => rw [e2] at h; cases h
  | some ys =>
   rw [e2] at h
   cases h
   rfl
theorem row_head {H : AHeap} {b o n : Nat} {x : AV} {xs : List AV} (h : ldRow H (n + 1) (.ptr b o) = some (x :: xs)) : ldCell H (.ptr b o) = some x := by
 simp only [ldRow, rowGet] at h
 simp only [ldCell, cellGet]
 split at h
 ·exact take_head h
 ·exact take_head h
 ·exact take_head h
 ·cases h
section
variable {n d p q a b c N i : Nat} {h h0 H : AHeap} {u : Bytes} {Q : ARes → AHeap → Prop} {v : AV} {S : List Nat} {ys T : List RowT} {rows ls l : List (List AV)} {s : Bool}
end
theorem works_w (n d : Nat) (h : AHeap) : world n (d + 1) 6 [] h = some (.ret (.bool true), h) := w_true n d [] h
theorem GrowT.slc' {S : List Nat} {h0 H : AHeap} {T rs : List RowT} {rows : List (List AV)} {v : AV} (g : GrowT TTok 4 rows v T) (M : Mem S h0 H rs) (hT : ∀ x ∈ T, x ∈ rs) : Slc H.next H 4 v rows := by
 refine ⟨fun l hl => (g.1 l hl).1, ?_⟩
 rcases g.2 with ⟨rfl, rfl, _⟩ | ⟨h1, c, rfl, rfl⟩
 ·exact .inl ⟨rfl, .inl rfl⟩
 ·obtain ⟨⟨t, h5, h6⟩, h3, _⟩ := M.row (c, TTok, rows.flatten) (hT _ (by simp))
  exact .inr ⟨c, h1, h3, rfl, t, .inr ⟨_, _, h5⟩, h6⟩
section
variable {u : Bytes}
theorem lex_le : ∀ (f p : Nat) (l l' : List (List AV)) (q : Nat), lexQ u f p l = .ok l' q → p ≤ u.length + 1 → l'.length + p ≤ l.length + q ∧ q ≤ u.length + 1
 | 0, p, l, l', q, hh, hp => by
  rw [lexQ] at hh
  cases hh
  omega
 | f + 1, p, l, l', q, hh, hp => by
  rw [lexQ] at hh
  split at hh
  ·rename_i hlt
   cases hL : lineQ u p l with
   | bad e q' => rw [hL] at hh; cases hh
   | ok l2 q2 =>
    rw [hL] at hh
    obtain ⟨a1, a2, a3, a4⟩ := lineQ_fact hL (by omega)
    have := lex_le f _ _ _ _ hh a2
    omega
  ·cases hh
   omega
end
def powG : Tabs := [(0, powT)]
theorem pow_of {h : AHeap} {X : List Nat} {G : Nat} (hG : 0 < G) (k : Keeps (startG powG X G) h) : HasPow h :=
 ⟨k.2.2 _ _ (by show (tabTree powG).get _ = _; unfold powG tabTree; rw [T.get_set_same]), Nat.lt_of_lt_of_le hG k.1⟩
end Go.Proofs.YtjopejiooipmkaaDoor
