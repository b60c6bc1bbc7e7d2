/- Calls that the law LexLimits makes, looked up. -/
import Derived.Test.YtibddmlfoglfpaaRows
import Derived.Test.YtibddmlfoglfpaaAbs22
namespace Go.Proofs.Ytibddmlfoglfpaa
open Go.RowKit
def lexLimitsM0 : Abs.Memo := []
theorem lexLimitsM0_ok : lexLimitsM0.ok Try.prog := Abs.Memo.ok_nil
set_option maxRecDepth 100000 in
theorem lexLimitsC1 : Abs.came (.ret (.tup [.str 64 2418663391283762614040804509480270281819807167636274883824642456514514295621110435030926343983049245779378295986581797408912465134704087127591952369724974, .int .i64 (66), .agg [.int .i64 (0), .int .i64 (0)]])) (Abs.callA Try.prog (lexLimitsM0.spec Try.prog 5000) 5000 30 41 [.str 66 117320738050389008383886759538810633885726270737351078329964987275021949777439157157451431035304388041533558137427739526767755387069667191118422020755605564962, .int .i64 (64)] ⟨0, [70], .e⟩) = true := by kernel_rfl
def lexLimitsM1 : Abs.Memo := (41, [.str 66 117320738050389008383886759538810633885726270737351078329964987275021949777439157157451431035304388041533558137427739526767755387069667191118422020755605564962, .int .i64 (64)], .ret (.tup [.str 64 2418663391283762614040804509480270281819807167636274883824642456514514295621110435030926343983049245779378295986581797408912465134704087127591952369724974, .int .i64 (66), .agg [.int .i64 (0), .int .i64 (0)]])) :: lexLimitsM0
theorem lexLimitsM1_ok : lexLimitsM1.ok Try.prog := Abs.Memo.ok_cons (Abs.Memo.says (by kernel_rfl) lexLimitsM0_ok (by kernel_rfl) (by kernel_rfl) lexLimitsC1) lexLimitsM0_ok
set_option maxRecDepth 100000 in
theorem lexLimitsC2 : Abs.came (.ret (.tup [.str 0 0, .int .i64 (0), .agg [.int .i64 (3), .int .i64 (65)]])) (Abs.callA Try.prog (lexLimitsM1.spec Try.prog 5000) 5000 30 41 [.str 67 30034108940899586146275010441935522274745925308761876052471036742405619143024424232307566345037923338632590883181501318852545379089834800926316037313435024633378, .int .i64 (64)] ⟨0, [70], .e⟩) = true := by kernel_rfl
def lexLimitsM2 : Abs.Memo := (41, [.str 67 30034108940899586146275010441935522274745925308761876052471036742405619143024424232307566345037923338632590883181501318852545379089834800926316037313435024633378, .int .i64 (64)], .ret (.tup [.str 0 0, .int .i64 (0), .agg [.int .i64 (3), .int .i64 (65)]])) :: lexLimitsM1
theorem lexLimitsM2_ok : lexLimitsM2.ok Try.prog := Abs.Memo.ok_cons (Abs.Memo.says (by kernel_rfl) lexLimitsM1_ok (by kernel_rfl) (by kernel_rfl) lexLimitsC2) lexLimitsM1_ok
end Go.Proofs.Ytibddmlfoglfpaa
