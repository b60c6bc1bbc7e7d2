/- The functions, put together: any number of levels. -/
import Derived.Test.YtpnccmlajhhpdaaGs
import Derived.Test.YtpnccmlajhhpdaaGc
import Derived.Test.YtpnccmlajhhpdaaWk
namespace Go.Proofs.Ytpnccmlajhhpdaa
open Go.RowKit Abs

noncomputable def worldF (n : Nat) (call : CallF) : CallF := callOf [
  (8, (constF (.ret (.bool true)))),
  (4, law19_SnapPieces_fn call n),
  (12, snap_Inbox_Put_fn call n),
  (18, ref19_Inbox_Put_fn call n),
  (10, gcF (snap_Piece_fn call n)),
  (37, gcF (snap_chunk_fn call n)),
  (11, gcF (snap_NewInbox_fn call n)),
  (6, law19_SnapComes_fn call n)]
set_option maxRecDepth 20000 in
theorem worldF_ok (n : Nat) (call : CallF) (hc : SaysAll Try.prog call) : SaysAll Try.prog (worldF n call) := (callOf_cons works_holds
  (callOf_cons (law19_SnapPieces_holds hc n)
  (callOf_cons (snap_Inbox_Put_holds hc n)
  (callOf_cons (ref19_Inbox_Put_holds hc n)
  (callOf_cons (gcF_holds (snap_Piece_holds hc n))
  (callOf_cons (gcF_holds (snap_chunk_holds hc n))
  (callOf_cons (gcF_holds (snap_NewInbox_holds hc n))
  (callOf_cons (law19_SnapComes_holds hc n)
  callOf_nil))))))))
noncomputable def world (n d : Nat) : CallF := iterW (worldF n) d
theorem world_ok (n d : Nat) : SaysAll Try.prog (world n d) := iterW_ok (worldF_ok n) d
theorem w_true (n d : Nat) (args : List AV) (h : AHeap) : world n (d + 1) 8 args h = (constF (.ret (.bool true))) args h := by kernel_rfl
theorem w_law19_SnapPieces (n d : Nat) (t0 : Bytes) (t1 : Int) (t2 : AV) (h : AHeap) : world n (d + 1) 4 [strA t0, .int .i64 t1, t2] h = law19_SnapPieces (world n d) n t0 t1 t2 h :=
  Eq.trans (b := law19_SnapPieces_fn (world n d) n [strA t0, .int .i64 t1, t2] h) (by kernel_rfl) (by rw [law19_SnapPieces_fn_eq])
theorem w_snap_Inbox_Put (n d : Nat) (t0 : AV) (t1 : List AV) (h : AHeap) : world n (d + 1) 12 [t0, .agg t1] h = snap_Inbox_Put (world n d) n t0 t1 h :=
  Eq.trans (b := snap_Inbox_Put_fn (world n d) n [t0, .agg t1] h) (by kernel_rfl) (by rw [snap_Inbox_Put_fn_eq])
theorem w_ref19_Inbox_Put (n d : Nat) (t0 : AV) (t1 : List AV) (h : AHeap) : world n (d + 1) 18 [t0, .agg t1] h = ref19_Inbox_Put (world n d) n t0 t1 h :=
  Eq.trans (b := ref19_Inbox_Put_fn (world n d) n [t0, .agg t1] h) (by kernel_rfl) (by rw [ref19_Inbox_Put_fn_eq])
theorem w_snap_Piece (n d : Nat) (t0 : Bytes) (t1 : Int) (h : AHeap) : world n (d + 1) 10 [strA t0, .int .i64 t1] h = gcR h (snap_Piece (world n d) n t0 t1 h) :=
  Eq.trans (b := gcR h (snap_Piece_fn (world n d) n [strA t0, .int .i64 t1] h)) (by kernel_rfl) (by rw [snap_Piece_fn_eq])
theorem w_snap_chunk (n d : Nat) (t0 : Bytes) (h : AHeap) : world n (d + 1) 37 [strA t0] h = gcR h (snap_chunk (world n d) n t0 h) :=
  Eq.trans (b := gcR h (snap_chunk_fn (world n d) n [strA t0] h)) (by kernel_rfl) (by rw [snap_chunk_fn_eq])
theorem w_snap_NewInbox (n d : Nat)  (h : AHeap) : world n (d + 1) 11 [] h = gcR h (snap_NewInbox (world n d) n  h) :=
  Eq.trans (b := gcR h (snap_NewInbox_fn (world n d) n [] h)) (by kernel_rfl) (by rw [snap_NewInbox_fn_eq])
theorem w_law19_SnapComes (n d : Nat) (t0 : Bytes) (t1 : List AV) (t2 : AV) (h : AHeap) : world n (d + 1) 6 [strA t0, .agg t1, t2] h = law19_SnapComes (world n d) n t0 t1 t2 h :=
  Eq.trans (b := law19_SnapComes_fn (world n d) n [strA t0, .agg t1, t2] h) (by kernel_rfl) (by rw [law19_SnapComes_fn_eq])
end Go.Proofs.Ytpnccmlajhhpdaa
