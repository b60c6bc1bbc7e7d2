/- Copy gives a matcher that stands there, too, and goes on by itself; nil is no matcher: MatchCopies returns true for every input. Conditions: the table math/bits.deBruijn64tab holds what the program's text lays it to (tied). -/
import Derived.Test.YtpdepoeanhibiaaDoorCc10
import Derived.Test.YtpdepoeanhibiaaDoorCards
import Derived.Test.YtpdepoeanhibiaaDoorTie
namespace Go.Proofs.YtpdepoeanhibiaaDoor
open Go.ChangeShapes Go.WideShapes Go.ChangeAt Go.RowKit
open Go.ChangeMaps (open_string shut_string)

set_option maxRecDepth 100000 in
theorem z271{W:World}(h:laidMet Tryd.prog Rows.matchCopiesRow.laid W):Abs.Laid tzG W:=
  Abs.laid_put (Abs.laid_ints h (i:=0) (n:= "math/bits.deBruijn64tab") (g:=0) (t:=110) (e:=5) (len:=64) (k:=.u8) (zs:=[0,1,56,2,57,49,28,3,61,58,42,50,38,29,17,4,62,47,59,36,45,43,51,22,53,39,33,30,24,18,12,5,63,55,48,27,60,41,37,16,46,35,44,21,52,32,23,11,54,26,40,15,34,20,31,10,25,14,19,9,13,8,7,6]) (by kernel_rfl) (by kernel_rfl) (by kernel_rfl) (by kernel_rfl) (by kernel_rfl) (by kernel_rfl) (by decide)) (Abs.laid_nil W)
set_option maxRecDepth 100000 in
theorem z299(os:Os):laidMet Tryd.prog Rows.matchCopiesRow.laid ((z3a2 os [(0,z424 Rows.laid_math_bits_deBruijn64tab)]).forCall (fun _ _=>0) ⟨#[], #[.slice none 0 0,.string .empty,.string .empty,.string .empty],[]⟩).memory:=
  laidMet_of_run' 8 (by kernel_rfl) (by kernel_rfl)
set_option maxRecDepth 100000 in
theorem z21e(os:Os)(started:os.Started)(H:Type)(enc:TypeId×Value→H):
    ReturnsInHanded {} Tryd.checked os 3 .any (fun w args=>(Rows.matchCopiesSpec.pre enc Tryd.prog Tryd.f3 [] false w args∧laidMet Tryd.prog Rows.matchCopiesRow.laid w)∧sizedMet enc Tryd.prog Tryd.f3 (OpenSpec.ofChange Rows.matchCopiesSpec) false w args) (Rows.matchCopiesSpec.post enc Tryd.prog Tryd.f3 false true false false):=by
  refine z3e8 Rows.matchCopiesRow.laid Tryd.func3 (by kernel_rfl) rfl rfl (by kernel_rfl) ?_ rfl os started
    (ChangeSpec.witness_at (enc:=enc) (C:=Tryd.checked) (os:=os) (X:=fun w _=>laidMet Tryd.prog Rows.matchCopiesRow.laid w) false (z3a2 os [(0,z424 Rows.laid_math_bits_deBruijn64tab)]) #[.slice none 0 0,.string .empty,.string .empty,.string .empty] 8 rfl (by kernel_rfl) (by kernel_rfl) (by kernel_rfl) (by kernel_rfl) (by kernel_rfl) (z299 os)) ?_
  · intro args ds W p hA
    rw[Tryd.params3] at hA;obtain⟨v0,vs0,d0,ds0,p0,q0,_,rfl,_,_,r0⟩:=trodAll_cons hA;obtain⟨v1,vs1,d1,ds1,p1,q1,_,rfl,_,_,r1⟩:=trodAll_cons r0;obtain⟨v2,vs2,d2,ds2,p2,q2,_,rfl,_,_,r2⟩:=trodAll_cons r1;obtain⟨v3,vs3,d3,ds3,p3,q3,_,rfl,_,_,r3⟩:=trodAll_cons r2;obtain⟨_,rfl,_⟩:=trodAll_nil r3;exact⟨rfl,rfl,rfl⟩
  · intro W args ds p hL hval hA hlt hsz
    obtain⟨m,h,xs,F,hX,hT,hr,hP⟩:=Abs.open_allG (n:=12) tzG (0+1) [49] (z271 hL) (by kernel_rfl) hA hlt hsz (by kernel_rfl) (fun i t v h1 h2=>hval i t v (by simpa using h1) (by simpa using h2));rw[Tryd.params3] at hP;obtain⟨h2,hs⟩:=z298 h hX (tz_of (Nat.lt_succ_self _) hT) xs hP;exact Abs.says_in hs F hr

theorem z272:Rows.matchCopiesRow.holds Tryd.pinned (OpenSpec.ofChange Rows.matchCopiesSpec):=
  OpenClaim.holds_of_wide 3 Tryd.f3 rfl rfl rfl rfl rfl rfl rfl ⟨rfl,rfl,rfl,rfl,rfl⟩ rfl rfl rfl rfl rfl (by kernel_rfl) Tryd.func3 (by kernel_rfl)
    (of_decide_eq_true (by kernel_rfl)) (by unfold Func.isWrapper;first|(rw[if_pos (by decide+kernel)];kernel_rfl)|(rw[if_neg (by decide+kernel)];exact⟨rfl,rfl⟩))
    (fun os started H enc _=>z21e os started H enc)

theorem matchCopies_proved:Rows.MatchCopiesCardSaid:=
  Claim7.holds_tied_plain_at .later [] [.data] true (true, "1714cfc5815abc90d5c1c10e2a944261f7d00bdd31da8ff39b49a4714cfe2491") true z272 (fun _ h=>by cases h) (by kernel_rfl) (fun _ h=>by cases h) matchCopies_row_tie rfl ⟨rfl,rfl⟩ (by kernel_rfl) rfl
    (fun f fn hf hfn=>by
      obtain rfl:f=3:=Option.some.inj ((show Tryd.prog.funcNamed "dragoman/dragomanlaw11.MatchCopies" =some 3 by kernel_rfl).symm.trans hf) |>.symm
      obtain rfl:fn=Tryd.f3:=(Option.some.inj (Tryd.func3.symm.trans hfn)).symm
      exact⟨by kernel_rfl,z3df (by kernel_rfl)⟩)
    (by kernel_rfl)
#print axioms matchCopies_proved
end Go.Proofs.YtpdepoeanhibiaaDoor
