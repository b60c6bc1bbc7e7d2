/- The functions, put together: any number of levels. -/
import Derived.Test.YtmibgiblejpgdaaWk
import Derived.Test.YtmibgiblejpgdaaGwA
import Derived.Test.YtmibgiblejpgdaaGwP
import Derived.Test.YtmibgiblejpgdaaGeA
import Derived.Test.YtmibgiblejpgdaaGeP
import Derived.Test.YtmibgiblejpgdaaGrS
import Derived.Test.YtmibgiblejpgdaaGrH
import Derived.Test.YtmibgiblejpgdaaGdP
import Derived.Test.YtmibgiblejpgdaaGbB
namespace Go.Proofs.Ytmibgiblejpgdaa
open Go.RowKit Abs

noncomputable def worldF (n : Nat) (call : CallF) : CallF := callOf [
  (8, (constF (.ret (.bool true)))),
  (32, gcF (message_within_fn call n)),
  (44, gcF (wire_number_fn call n)),
  (22, gcF (wire_U8_fn call n)),
  (26, gcF (wire_U32_fn call n)),
  (24, gcF (wire_U64_fn call n)),
  (25, gcF (wire_Bool_fn call n)),
  (54, gcF (wire_length_fn call n)),
  (45, gcF (wire_Text_fn call n)),
  (27, gcF (message_text_fn call n)),
  (23, message_numbers_fn call n),
  (33, message_numbersRight_fn call n),
  (12, gcF (message_Check_fn call n)),
  (9, gcF (message_Encode_fn call n)),
  (20, message_Encode_1_fn call n),
  (21, strings_Builder_WriteString_fn call n),
  (28, strings_Builder_String_fn call n),
  (43, strings_Builder_copyCheck_fn call n),
  (34, gcF (ref17_Numbers_fn call n)),
  (17, gcF (ref17_Same_fn call n)),
  (14, gcF (law17_heavy_fn call n)),
  (11, gcF (message_Decode_fn call n)),
  (30, message_read_fn call n),
  (29, gcF (wire_New_fn call n)),
  (31, wire_Reader_End_fn call n),
  (46, wire_Reader_U8_fn call n),
  (47, wire_Reader_U64_fn call n),
  (48, wire_Reader_Bool_fn call n),
  (49, wire_Reader_U32_fn call n),
  (50, wire_Reader_Text_fn call n),
  (51, wire_Reader_whole_fn call n),
  (52, wire_Reader_Fault_fn call n),
  (55, wire_Reader_number_fn call n),
  (56, wire_Reader_fail_fn call n),
  (57, wire_Reader_head_fn call n),
  (6, gcF (law17_MessageBack_fn call n))]
set_option maxRecDepth 20000 in
theorem worldF_ok (n : Nat) (call : CallF) (hc : SaysAll Try.prog call) : SaysAll Try.prog (worldF n call) := (callOf_cons works_holds
  (callOf_cons (gcF_holds (message_within_holds hc n))
  (callOf_cons (gcF_holds (wire_number_holds hc n))
  (callOf_cons (gcF_holds (wire_U8_holds hc n))
  (callOf_cons (gcF_holds (wire_U32_holds hc n))
  (callOf_cons (gcF_holds (wire_U64_holds hc n))
  (callOf_cons (gcF_holds (wire_Bool_holds hc n))
  (callOf_cons (gcF_holds (wire_length_holds hc n))
  (callOf_cons (gcF_holds (wire_Text_holds hc n))
  (callOf_cons (gcF_holds (message_text_holds hc n))
  (callOf_cons (message_numbers_holds hc n)
  (callOf_cons (message_numbersRight_holds hc n)
  (callOf_cons (gcF_holds (message_Check_holds hc n))
  (callOf_cons (gcF_holds (message_Encode_holds hc n))
  (callOf_cons (message_Encode_1_holds hc n)
  (callOf_cons (strings_Builder_WriteString_holds hc n)
  (callOf_cons (strings_Builder_String_holds hc n)
  (callOf_cons (strings_Builder_copyCheck_holds hc n)
  (callOf_cons (gcF_holds (ref17_Numbers_holds hc n))
  (callOf_cons (gcF_holds (ref17_Same_holds hc n))
  (callOf_cons (gcF_holds (law17_heavy_holds hc n))
  (callOf_cons (gcF_holds (message_Decode_holds hc n))
  (callOf_cons (message_read_holds hc n)
  (callOf_cons (gcF_holds (wire_New_holds hc n))
  (callOf_cons (wire_Reader_End_holds hc n)
  (callOf_cons (wire_Reader_U8_holds hc n)
  (callOf_cons (wire_Reader_U64_holds hc n)
  (callOf_cons (wire_Reader_Bool_holds hc n)
  (callOf_cons (wire_Reader_U32_holds hc n)
  (callOf_cons (wire_Reader_Text_holds hc n)
  (callOf_cons (wire_Reader_whole_holds hc n)
  (callOf_cons (wire_Reader_Fault_holds hc n)
  (callOf_cons (wire_Reader_number_holds hc n)
  (callOf_cons (wire_Reader_fail_holds hc n)
  (callOf_cons (wire_Reader_head_holds hc n)
  (callOf_cons (gcF_holds (law17_MessageBack_holds hc n))
  callOf_nil))))))))))))))))))))))))))))))))))))
noncomputable def world (n d : Nat) : CallF := iterW (worldF n) d
theorem world_ok (n d : Nat) : SaysAll Try.prog (world n d) := iterW_ok (worldF_ok n) d
theorem w_true (n d : Nat) (args : List AV) (h : AHeap) : world n (d + 1) 8 args h = (constF (.ret (.bool true))) args h := by kernel_rfl
theorem w_message_within (n d : Nat) (t0 : Int) (t1 : Int) (h : AHeap) : world n (d + 1) 32 [.int .i64 t0, .int .i64 t1] h = gcR h (message_within (world n d) n t0 t1 h) :=
  Eq.trans (b := gcR h (message_within_fn (world n d) n [.int .i64 t0, .int .i64 t1] h)) (by kernel_rfl) (by rw [message_within_fn_eq])
theorem w_wire_number (n d : Nat) (t0 : Int) (t1 : Int) (h : AHeap) : world n (d + 1) 44 [.int .u64 t0, .int .i64 t1] h = gcR h (wire_number (world n d) n t0 t1 h) :=
  Eq.trans (b := gcR h (wire_number_fn (world n d) n [.int .u64 t0, .int .i64 t1] h)) (by kernel_rfl) (by rw [wire_number_fn_eq])
theorem w_wire_U8 (n d : Nat) (t0 : Int) (h : AHeap) : world n (d + 1) 22 [.int .u8 t0] h = gcR h (wire_U8 (world n d) n t0 h) :=
  Eq.trans (b := gcR h (wire_U8_fn (world n d) n [.int .u8 t0] h)) (by kernel_rfl) (by rw [wire_U8_fn_eq])
theorem w_wire_U32 (n d : Nat) (t0 : Int) (h : AHeap) : world n (d + 1) 26 [.int .u32 t0] h = gcR h (wire_U32 (world n d) n t0 h) :=
  Eq.trans (b := gcR h (wire_U32_fn (world n d) n [.int .u32 t0] h)) (by kernel_rfl) (by rw [wire_U32_fn_eq])
theorem w_wire_U64 (n d : Nat) (t0 : Int) (h : AHeap) : world n (d + 1) 24 [.int .u64 t0] h = gcR h (wire_U64 (world n d) n t0 h) :=
  Eq.trans (b := gcR h (wire_U64_fn (world n d) n [.int .u64 t0] h)) (by kernel_rfl) (by rw [wire_U64_fn_eq])
theorem w_wire_Bool (n d : Nat) (t0 : Bool) (h : AHeap) : world n (d + 1) 25 [.bool t0] h = gcR h (wire_Bool (world n d) n t0 h) :=
  Eq.trans (b := gcR h (wire_Bool_fn (world n d) n [.bool t0] h)) (by kernel_rfl) (by rw [wire_Bool_fn_eq])
theorem w_wire_length (n d : Nat) (t0 : Bytes) (h : AHeap) : world n (d + 1) 54 [strA t0] h = gcR h (wire_length (world n d) n t0 h) :=
  Eq.trans (b := gcR h (wire_length_fn (world n d) n [strA t0] h)) (by kernel_rfl) (by rw [wire_length_fn_eq])
theorem w_wire_Text (n d : Nat) (t0 : Bytes) (h : AHeap) : world n (d + 1) 45 [strA t0] h = gcR h (wire_Text (world n d) n t0 h) :=
  Eq.trans (b := gcR h (wire_Text_fn (world n d) n [strA t0] h)) (by kernel_rfl) (by rw [wire_Text_fn_eq])
theorem w_message_text (n d : Nat) (t0 : Bytes) (h : AHeap) : world n (d + 1) 27 [strA t0] h = gcR h (message_text (world n d) n t0 h) :=
  Eq.trans (b := gcR h (message_text_fn (world n d) n [strA t0] h)) (by kernel_rfl) (by rw [message_text_fn_eq])
theorem w_message_numbers (n d : Nat) (t0 : AV) (h : AHeap) : world n (d + 1) 23 [t0] h = message_numbers (world n d) n t0 h :=
  Eq.trans (b := message_numbers_fn (world n d) n [t0] h) (by kernel_rfl) (by rw [message_numbers_fn_eq])
theorem w_message_numbersRight (n d : Nat) (t0 : AV) (h : AHeap) : world n (d + 1) 33 [t0] h = message_numbersRight (world n d) n t0 h :=
  Eq.trans (b := message_numbersRight_fn (world n d) n [t0] h) (by kernel_rfl) (by rw [message_numbersRight_fn_eq])
theorem w_message_Check (n d : Nat) (t0 : List AV) (h : AHeap) : world n (d + 1) 12 [.agg t0] h = gcR h (message_Check (world n d) n t0 h) :=
  Eq.trans (b := gcR h (message_Check_fn (world n d) n [.agg t0] h)) (by kernel_rfl) (by rw [message_Check_fn_eq])
theorem w_message_Encode (n d : Nat) (t0 : List AV) (h : AHeap) : world n (d + 1) 9 [.agg t0] h = gcR h (message_Encode (world n d) n t0 h) :=
  Eq.trans (b := gcR h (message_Encode_fn (world n d) n [.agg t0] h)) (by kernel_rfl) (by rw [message_Encode_fn_eq])
theorem w_message_Encode_1 (n d : Nat) (t0 : AV) (t1 : AV) (h : AHeap) : world n (d + 1) 20 [t0, t1] h = message_Encode_1 (world n d) n t0 t1 h :=
  Eq.trans (b := message_Encode_1_fn (world n d) n [t0, t1] h) (by kernel_rfl) (by rw [message_Encode_1_fn_eq])
theorem w_strings_Builder_WriteString (n d : Nat) (t0 : AV) (t1 : Bytes) (h : AHeap) : world n (d + 1) 21 [t0, strA t1] h = strings_Builder_WriteString (world n d) n t0 t1 h :=
  Eq.trans (b := strings_Builder_WriteString_fn (world n d) n [t0, strA t1] h) (by kernel_rfl) (by rw [strings_Builder_WriteString_fn_eq])
theorem w_strings_Builder_String (n d : Nat) (t0 : AV) (h : AHeap) : world n (d + 1) 28 [t0] h = strings_Builder_String (world n d) n t0 h :=
  Eq.trans (b := strings_Builder_String_fn (world n d) n [t0] h) (by kernel_rfl) (by rw [strings_Builder_String_fn_eq])
theorem w_strings_Builder_copyCheck (n d : Nat) (t0 : AV) (h : AHeap) : world n (d + 1) 43 [t0] h = strings_Builder_copyCheck (world n d) n t0 h :=
  Eq.trans (b := strings_Builder_copyCheck_fn (world n d) n [t0] h) (by kernel_rfl) (by rw [strings_Builder_copyCheck_fn_eq])
theorem w_ref17_Numbers (n d : Nat) (t0 : List AV) (h : AHeap) : world n (d + 1) 34 [.agg t0] h = gcR h (ref17_Numbers (world n d) n t0 h) :=
  Eq.trans (b := gcR h (ref17_Numbers_fn (world n d) n [.agg t0] h)) (by kernel_rfl) (by rw [ref17_Numbers_fn_eq])
theorem w_ref17_Same (n d : Nat) (t0 : List AV) (t1 : List AV) (h : AHeap) : world n (d + 1) 17 [.agg t0, .agg t1] h = gcR h (ref17_Same (world n d) n t0 t1 h) :=
  Eq.trans (b := gcR h (ref17_Same_fn (world n d) n [.agg t0, .agg t1] h)) (by kernel_rfl) (by rw [ref17_Same_fn_eq])
theorem w_law17_heavy (n d : Nat) (t0 : List AV) (h : AHeap) : world n (d + 1) 14 [.agg t0] h = gcR h (law17_heavy (world n d) n t0 h) :=
  Eq.trans (b := gcR h (law17_heavy_fn (world n d) n [.agg t0] h)) (by kernel_rfl) (by rw [law17_heavy_fn_eq])
theorem w_message_Decode (n d : Nat) (t0 : Bytes) (h : AHeap) : world n (d + 1) 11 [strA t0] h = gcR h (message_Decode (world n d) n t0 h) :=
  Eq.trans (b := gcR h (message_Decode_fn (world n d) n [strA t0] h)) (by kernel_rfl) (by rw [message_Decode_fn_eq])
theorem w_message_read (n d : Nat) (t0 : AV) (h : AHeap) : world n (d + 1) 30 [t0] h = message_read (world n d) n t0 h :=
  Eq.trans (b := message_read_fn (world n d) n [t0] h) (by kernel_rfl) (by rw [message_read_fn_eq])
theorem w_wire_New (n d : Nat) (t0 : Bytes) (h : AHeap) : world n (d + 1) 29 [strA t0] h = gcR h (wire_New (world n d) n t0 h) :=
  Eq.trans (b := gcR h (wire_New_fn (world n d) n [strA t0] h)) (by kernel_rfl) (by rw [wire_New_fn_eq])
theorem w_wire_Reader_End (n d : Nat) (t0 : AV) (h : AHeap) : world n (d + 1) 31 [t0] h = wire_Reader_End (world n d) n t0 h :=
  Eq.trans (b := wire_Reader_End_fn (world n d) n [t0] h) (by kernel_rfl) (by rw [wire_Reader_End_fn_eq])
theorem w_wire_Reader_U8 (n d : Nat) (t0 : AV) (h : AHeap) : world n (d + 1) 46 [t0] h = wire_Reader_U8 (world n d) n t0 h :=
  Eq.trans (b := wire_Reader_U8_fn (world n d) n [t0] h) (by kernel_rfl) (by rw [wire_Reader_U8_fn_eq])
theorem w_wire_Reader_U64 (n d : Nat) (t0 : AV) (h : AHeap) : world n (d + 1) 47 [t0] h = wire_Reader_U64 (world n d) n t0 h :=
  Eq.trans (b := wire_Reader_U64_fn (world n d) n [t0] h) (by kernel_rfl) (by rw [wire_Reader_U64_fn_eq])
theorem w_wire_Reader_Bool (n d : Nat) (t0 : AV) (h : AHeap) : world n (d + 1) 48 [t0] h = wire_Reader_Bool (world n d) n t0 h :=
  Eq.trans (b := wire_Reader_Bool_fn (world n d) n [t0] h) (by kernel_rfl) (by rw [wire_Reader_Bool_fn_eq])
theorem w_wire_Reader_U32 (n d : Nat) (t0 : AV) (h : AHeap) : world n (d + 1) 49 [t0] h = wire_Reader_U32 (world n d) n t0 h :=
  Eq.trans (b := wire_Reader_U32_fn (world n d) n [t0] h) (by kernel_rfl) (by rw [wire_Reader_U32_fn_eq])
theorem w_wire_Reader_Text (n d : Nat) (t0 : AV) (t1 : Int) (h : AHeap) : world n (d + 1) 50 [t0, .int .i64 t1] h = wire_Reader_Text (world n d) n t0 t1 h :=
  Eq.trans (b := wire_Reader_Text_fn (world n d) n [t0, .int .i64 t1] h) (by kernel_rfl) (by rw [wire_Reader_Text_fn_eq])
theorem w_wire_Reader_whole (n d : Nat) (t0 : AV) (h : AHeap) : world n (d + 1) 51 [t0] h = wire_Reader_whole (world n d) n t0 h :=
  Eq.trans (b := wire_Reader_whole_fn (world n d) n [t0] h) (by kernel_rfl) (by rw [wire_Reader_whole_fn_eq])
theorem w_wire_Reader_Fault (n d : Nat) (t0 : AV) (h : AHeap) : world n (d + 1) 52 [t0] h = wire_Reader_Fault (world n d) n t0 h :=
  Eq.trans (b := wire_Reader_Fault_fn (world n d) n [t0] h) (by kernel_rfl) (by rw [wire_Reader_Fault_fn_eq])
theorem w_wire_Reader_number (n d : Nat) (t0 : AV) (t1 : Int) (h : AHeap) : world n (d + 1) 55 [t0, .int .i64 t1] h = wire_Reader_number (world n d) n t0 t1 h :=
  Eq.trans (b := wire_Reader_number_fn (world n d) n [t0, .int .i64 t1] h) (by kernel_rfl) (by rw [wire_Reader_number_fn_eq])
theorem w_wire_Reader_fail (n d : Nat) (t0 : AV) (t1 : Int) (t2 : Int) (h : AHeap) : world n (d + 1) 56 [t0, .int .i64 t1, .int .i64 t2] h = wire_Reader_fail (world n d) n t0 t1 t2 h :=
  Eq.trans (b := wire_Reader_fail_fn (world n d) n [t0, .int .i64 t1, .int .i64 t2] h) (by kernel_rfl) (by rw [wire_Reader_fail_fn_eq])
theorem w_wire_Reader_head (n d : Nat) (t0 : AV) (t1 : Int) (h : AHeap) : world n (d + 1) 57 [t0, .int .i64 t1] h = wire_Reader_head (world n d) n t0 t1 h :=
  Eq.trans (b := wire_Reader_head_fn (world n d) n [t0, .int .i64 t1] h) (by kernel_rfl) (by rw [wire_Reader_head_fn_eq])
theorem w_law17_MessageBack (n d : Nat) (t0 : List AV) (t1 : List AV) (t2 : Int) (t3 : Bytes) (h : AHeap) : world n (d + 1) 6 [.agg t0, .agg t1, .int .i64 t2, strA t3] h = gcR h (law17_MessageBack (world n d) n t0 t1 t2 t3 h) :=
  Eq.trans (b := gcR h (law17_MessageBack_fn (world n d) n [.agg t0, .agg t1, .int .i64 t2, strA t3] h)) (by kernel_rfl) (by rw [law17_MessageBack_fn_eq])
end Go.Proofs.Ytmibgiblejpgdaa
