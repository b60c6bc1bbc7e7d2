/- The functions, put together: any number of levels. -/
import Derived.Test.YtibddmlfoglfpaaWk
namespace Go.Proofs.Ytibddmlfoglfpaa
open Go.RowKit Abs

noncomputable def worldF (n : Nat) (call : CallF) : CallF := callOf [
  (7, (constF (.ret (.bool true)))),
  (5, gcF (law12_LexNames_fn call n)),
  (8, gcF (law12_great_fn call n)),
  (11, gcF (lex_Name_fn call n)),
  (17, gcF (lex_wordEnd_fn call n)),
  (28, gcF (lex_wordEnd_1_fn call n)),
  (27, gcF (lex_run_fn call n)),
  (15, gcF (lex_small_fn call n)),
  (29, gcF (lex_digit_fn call n)),
  (16, gcF (lex_ofLanguage_fn call n)),
  (12, gcF (ref12_Name_fn call n)),
  (18, gcF (ref12_first_fn call n)),
  (19, gcF (ref12_In_fn call n)),
  (24, gcF (ref12_number_fn call n)),
  (20, gcF (ref12_Words_fn call n))]
set_option maxRecDepth 20000 in
theorem worldF_ok (n : Nat) (call : CallF) (hc : SaysAll Try.prog call) : SaysAll Try.prog (worldF n call) := (callOf_cons works_holds
  (callOf_cons (gcF_holds (law12_LexNames_holds hc n))
  (callOf_cons (gcF_holds (law12_great_holds hc n))
  (callOf_cons (gcF_holds (lex_Name_holds hc n))
  (callOf_cons (gcF_holds (lex_wordEnd_holds hc n))
  (callOf_cons (gcF_holds (lex_wordEnd_1_holds hc n))
  (callOf_cons (gcF_holds (lex_run_holds hc n))
  (callOf_cons (gcF_holds (lex_small_holds hc n))
  (callOf_cons (gcF_holds (lex_digit_holds hc n))
  (callOf_cons (gcF_holds (lex_ofLanguage_holds hc n))
  (callOf_cons (gcF_holds (ref12_Name_holds hc n))
  (callOf_cons (gcF_holds (ref12_first_holds hc n))
  (callOf_cons (gcF_holds (ref12_In_holds hc n))
  (callOf_cons (gcF_holds (ref12_number_holds hc n))
  (callOf_cons (gcF_holds (ref12_Words_holds hc n))
  callOf_nil)))))))))))))))
noncomputable def world (n d : Nat) : CallF := iterW (worldF n) d
theorem world_ok (n d : Nat) : SaysAll Try.prog (world n d) := iterW_ok (worldF_ok n) d
theorem w_true (n d : Nat) (args : List AV) (h : AHeap) : world n (d + 1) 7 args h = (constF (.ret (.bool true))) args h := by kernel_rfl
theorem w_law12_LexNames (n d : Nat) (t0 : Bytes) (h : AHeap) : world n (d + 1) 5 [strA t0] h = gcR h (law12_LexNames (world n d) n t0 h) :=
  Eq.trans (b := gcR h (law12_LexNames_fn (world n d) n [strA t0] h)) (by kernel_rfl) (by rw [law12_LexNames_fn_eq])
theorem w_law12_great (n d : Nat) (t0 : Bytes) (h : AHeap) : world n (d + 1) 8 [strA t0] h = gcR h (law12_great (world n d) n t0 h) :=
  Eq.trans (b := gcR h (law12_great_fn (world n d) n [strA t0] h)) (by kernel_rfl) (by rw [law12_great_fn_eq])
theorem w_lex_Name (n d : Nat) (t0 : Bytes) (h : AHeap) : world n (d + 1) 11 [strA t0] h = gcR h (lex_Name (world n d) n t0 h) :=
  Eq.trans (b := gcR h (lex_Name_fn (world n d) n [strA t0] h)) (by kernel_rfl) (by rw [lex_Name_fn_eq])
theorem w_lex_wordEnd (n d : Nat) (t0 : Bytes) (t1 : Int) (h : AHeap) : world n (d + 1) 17 [strA t0, .int .i64 t1] h = gcR h (lex_wordEnd (world n d) n t0 t1 h) :=
  Eq.trans (b := gcR h (lex_wordEnd_fn (world n d) n [strA t0, .int .i64 t1] h)) (by kernel_rfl) (by rw [lex_wordEnd_fn_eq])
theorem w_lex_wordEnd_1 (n d : Nat) (t0 : Int) (h : AHeap) : world n (d + 1) 28 [.int .u8 t0] h = gcR h (lex_wordEnd_1 (world n d) n t0 h) :=
  Eq.trans (b := gcR h (lex_wordEnd_1_fn (world n d) n [.int .u8 t0] h)) (by kernel_rfl) (by rw [lex_wordEnd_1_fn_eq])
theorem w_lex_run (n d : Nat) (t0 : Bytes) (t1 : Int) (t2 : Int) (t3 : AV) (h : AHeap) : world n (d + 1) 27 [strA t0, .int .i64 t1, .int .i64 t2, t3] h = gcR h (lex_run (world n d) n t0 t1 t2 t3 h) :=
  Eq.trans (b := gcR h (lex_run_fn (world n d) n [strA t0, .int .i64 t1, .int .i64 t2, t3] h)) (by kernel_rfl) (by rw [lex_run_fn_eq])
theorem w_lex_small (n d : Nat) (t0 : Int) (h : AHeap) : world n (d + 1) 15 [.int .u8 t0] h = gcR h (lex_small (world n d) n t0 h) :=
  Eq.trans (b := gcR h (lex_small_fn (world n d) n [.int .u8 t0] h)) (by kernel_rfl) (by rw [lex_small_fn_eq])
theorem w_lex_digit (n d : Nat) (t0 : Int) (h : AHeap) : world n (d + 1) 29 [.int .u8 t0] h = gcR h (lex_digit (world n d) n t0 h) :=
  Eq.trans (b := gcR h (lex_digit_fn (world n d) n [.int .u8 t0] h)) (by kernel_rfl) (by rw [lex_digit_fn_eq])
theorem w_lex_ofLanguage (n d : Nat) (t0 : Bytes) (h : AHeap) : world n (d + 1) 16 [strA t0] h = gcR h (lex_ofLanguage (world n d) n t0 h) :=
  Eq.trans (b := gcR h (lex_ofLanguage_fn (world n d) n [strA t0] h)) (by kernel_rfl) (by rw [lex_ofLanguage_fn_eq])
theorem w_ref12_Name (n d : Nat) (t0 : Bytes) (h : AHeap) : world n (d + 1) 12 [strA t0] h = gcR h (ref12_Name (world n d) n t0 h) :=
  Eq.trans (b := gcR h (ref12_Name_fn (world n d) n [strA t0] h)) (by kernel_rfl) (by rw [ref12_Name_fn_eq])
theorem w_ref12_first (n d : Nat) (t0 : Int) (h : AHeap) : world n (d + 1) 18 [.int .u8 t0] h = gcR h (ref12_first (world n d) n t0 h) :=
  Eq.trans (b := gcR h (ref12_first_fn (world n d) n [.int .u8 t0] h)) (by kernel_rfl) (by rw [ref12_first_fn_eq])
theorem w_ref12_In (n d : Nat) (t0 : Int) (h : AHeap) : world n (d + 1) 19 [.int .u8 t0] h = gcR h (ref12_In (world n d) n t0 h) :=
  Eq.trans (b := gcR h (ref12_In_fn (world n d) n [.int .u8 t0] h)) (by kernel_rfl) (by rw [ref12_In_fn_eq])
theorem w_ref12_number (n d : Nat) (t0 : Int) (h : AHeap) : world n (d + 1) 24 [.int .u8 t0] h = gcR h (ref12_number (world n d) n t0 h) :=
  Eq.trans (b := gcR h (ref12_number_fn (world n d) n [.int .u8 t0] h)) (by kernel_rfl) (by rw [ref12_number_fn_eq])
theorem w_ref12_Words (n d : Nat)  (h : AHeap) : world n (d + 1) 20 [] h = gcR h (ref12_Words (world n d) n  h) :=
  Eq.trans (b := gcR h (ref12_Words_fn (world n d) n [] h)) (by kernel_rfl) (by rw [ref12_Words_fn_eq])
end Go.Proofs.Ytibddmlfoglfpaa
