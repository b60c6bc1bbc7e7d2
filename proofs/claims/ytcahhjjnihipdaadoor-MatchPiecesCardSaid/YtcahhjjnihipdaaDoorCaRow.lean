/- It makes no difference in which pieces a text comes: MatchPieces returns true for every input. Conditions: the table math/bits.deBruijn64tab holds what the program's text lays it to (tied). -/
import Derived.Test.YtcahhjjnihipdaaDoorCa10
import Derived.Test.YtcahhjjnihipdaaDoorCards
import Derived.Test.YtcahhjjnihipdaaDoorTie
namespace Go.Proofs.YtcahhjjnihipdaaDoor
open Go.ChangeShapes Go.WideShapes Go.ChangeAt Go.RowKit
open Go.ChangeMaps (open_string shut_string)

set_option maxRecDepth 100000 in
theorem z260{W:World}(h:laidMet Tryd.prog Rows.matchPiecesRow.laid W):Abs.Laid tzG W:=
  Abs.laid_put (Abs.laid_ints h (i:=0) (n:= "math/bits.deBruijn64tab") (g:=0) (t:=140) (e:=5) (len:=64) (k:=.u8) (zs:=[0,1,56,2,57,49,28,3,61,58,42,50,38,29,17,4,62,47,59,36,45,43,51,22,53,39,33,30,24,18,12,5,63,55,48,27,60,41,37,16,46,35,44,21,52,32,23,11,54,26,40,15,34,20,31,10,25,14,19,9,13,8,7,6]) (by kernel_rfl) (by kernel_rfl) (by kernel_rfl) (by kernel_rfl) (by kernel_rfl) (by kernel_rfl) (by decide)) (Abs.laid_nil W)
set_option maxRecDepth 100000 in
theorem z289(os:Os):laidMet Tryd.prog Rows.matchPiecesRow.laid ((z390 os [(0,z414 Rows.laid_math_bits_deBruijn64tab)]).forCall (fun _ _=>0) ⟨#[], #[.slice none 0 0,.slice none 0 0],[]⟩).memory:=
  laidMet_of_run' 8 (by kernel_rfl) (by kernel_rfl)
set_option maxRecDepth 100000 in
theorem z209(os:Os)(started:os.Started)(H:Type)(enc:TypeId×Value→H):
    ReturnsInHanded {} Tryd.checked os 5 .any (fun w args=>(Rows.matchPiecesSpec.pre enc Tryd.prog Tryd.f5 [] false w args∧laidMet Tryd.prog Rows.matchPiecesRow.laid w)∧sizedMet enc Tryd.prog Tryd.f5 (OpenSpec.ofChange Rows.matchPiecesSpec) false w args) (Rows.matchPiecesSpec.post enc Tryd.prog Tryd.f5 false true false false):=by
  refine z3d7 Rows.matchPiecesRow.laid Tryd.func5 (by kernel_rfl) rfl rfl (by kernel_rfl) ?_ rfl os started
    (ChangeSpec.witness_at (enc:=enc) (C:=Tryd.checked) (os:=os) (X:=fun w _=>laidMet Tryd.prog Rows.matchPiecesRow.laid w) false (z390 os [(0,z414 Rows.laid_math_bits_deBruijn64tab)]) #[.slice none 0 0,.slice none 0 0] 8 rfl (by kernel_rfl) (by kernel_rfl) (by kernel_rfl) (by kernel_rfl) (by kernel_rfl) (z289 os)) ?_
  · intro args ds W p hA
    rw[Tryd.params5] at hA;obtain⟨v0,vs0,d0,ds0,p0,q0,_,rfl,_,_,r0⟩:=trodAll_cons hA;obtain⟨v1,vs1,d1,ds1,p1,q1,_,rfl,_,_,r1⟩:=trodAll_cons r0;obtain⟨_,rfl,_⟩:=trodAll_nil r1;exact⟨rfl,rfl,rfl⟩
  · intro W args ds p hL hval hA hlt hsz
    obtain⟨m,h,xs,F,hX,hT,hr,hP⟩:=Abs.open_allG (n:=12) tzG (0+1) [] (z260 hL) (by kernel_rfl) hA hlt hsz (by kernel_rfl) (fun i t v h1 h2=>hval i t v (by simpa using h1) (by simpa using h2));rw[Tryd.params5] at hP;obtain⟨h2,hs⟩:=z288 h hX (tz_of (Nat.lt_succ_self _) hT) xs hP;exact Abs.says_in hs F hr

theorem z261:Rows.matchPiecesRow.holds Tryd.pinned (OpenSpec.ofChange Rows.matchPiecesSpec):=
  OpenClaim.holds_of_wide 5 Tryd.f5 rfl rfl rfl rfl rfl rfl rfl ⟨rfl,rfl,rfl,rfl,rfl⟩ rfl rfl rfl rfl rfl (by kernel_rfl) Tryd.func5 (by kernel_rfl)
    (of_decide_eq_true (by kernel_rfl)) (by unfold Func.isWrapper;first|(rw[if_pos (by decide+kernel)];kernel_rfl)|(rw[if_neg (by decide+kernel)];exact⟨rfl,rfl⟩))
    (fun os started H enc _=>z209 os started H enc)

theorem matchPieces_proved:Rows.MatchPiecesCardSaid:=
  Claim7.holds_tied_plain_at .later [] [.data] true (true, "6c9282fce0ce059766f879dfcf664683de3cf80c682fb784a1156b75e50fd8e1") true z261 (fun _ h=>by cases h) (by kernel_rfl) (fun _ h=>by cases h) matchPieces_row_tie rfl ⟨rfl,rfl⟩ (by kernel_rfl) rfl
    (fun f fn hf hfn=>by
      obtain rfl:f=5:=Option.some.inj ((show Tryd.prog.funcNamed "dragoman/dragomanlaw11.MatchPieces" =some 5 by kernel_rfl).symm.trans hf) |>.symm
      obtain rfl:fn=Tryd.f5:=(Option.some.inj (Tryd.func5.symm.trans hfn)).symm
      exact⟨by kernel_rfl,z3cf (by kernel_rfl)⟩)
    (by kernel_rfl)
#print axioms matchPieces_proved
end Go.Proofs.YtcahhjjnihipdaaDoor
