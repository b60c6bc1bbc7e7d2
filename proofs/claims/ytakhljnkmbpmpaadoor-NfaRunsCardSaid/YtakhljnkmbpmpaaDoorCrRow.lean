/- Byte by byte it is known whether the pattern fits so far, and whether it still can: NfaRuns returns true for every input. Conditions: the table math/bits.deBruijn64tab holds what the program's text lays it to (tied). -/
import Derived.Test.YtakhljnkmbpmpaaDoorCr11
import Derived.Test.YtakhljnkmbpmpaaDoorCards
import Derived.Test.YtakhljnkmbpmpaaDoorTie
namespace Go.Proofs.YtakhljnkmbpmpaaDoor
open Go.ChangeShapes Go.WideShapes Go.ChangeAt Go.RowKit
open Go.ChangeMaps (open_string shut_string)

set_option maxRecDepth 100000 in
theorem z36a{W:World}(h:laidMet Tryd.prog Rows.nfaRunsRow.laid W):Abs.Laid tzG W:=
  Abs.laid_put (Abs.laid_ints h (i:=0) (n:= "math/bits.deBruijn64tab") (g:=0) (t:=94) (e:=5) (len:=64) (k:=.u8) (zs:=[0,1,56,2,57,49,28,3,61,58,42,50,38,29,17,4,62,47,59,36,45,43,51,22,53,39,33,30,24,18,12,5,63,55,48,27,60,41,37,16,46,35,44,21,52,32,23,11,54,26,40,15,34,20,31,10,25,14,19,9,13,8,7,6]) (by kernel_rfl) (by kernel_rfl) (by kernel_rfl) (by kernel_rfl) (by kernel_rfl) (by kernel_rfl) (by decide)) (Abs.laid_nil W)
set_option maxRecDepth 100000 in
theorem z3c6(os:Os):laidMet Tryd.prog Rows.nfaRunsRow.laid ((z3d1 os [(0,z45d Rows.laid_math_bits_deBruijn64tab)]).forCall (fun _ _=>0) ⟨#[], #[.agg #[.int .i64 0,.string .empty],.string .empty],[]⟩).memory:=
  laidMet_of_run' 8 (by kernel_rfl) (by kernel_rfl)
set_option maxRecDepth 100000 in
theorem z2d3(os:Os)(started:os.Started)(H:Type)(enc:TypeId×Value→H):
    ReturnsInHanded {} Tryd.checked os 4 .any (fun w args=>(Rows.nfaRunsSpec.pre enc Tryd.prog Tryd.f4 [] false w args∧laidMet Tryd.prog Rows.nfaRunsRow.laid w)∧sizedMet enc Tryd.prog Tryd.f4 (OpenSpec.ofChange Rows.nfaRunsSpec) false w args) (Rows.nfaRunsSpec.post enc Tryd.prog Tryd.f4 false true false false):=by
  refine z413 Rows.nfaRunsRow.laid Tryd.func4 (by kernel_rfl) rfl rfl (by kernel_rfl) ?_ rfl os started
    (ChangeSpec.witness_at (enc:=enc) (C:=Tryd.checked) (os:=os) (X:=fun w _=>laidMet Tryd.prog Rows.nfaRunsRow.laid w) false (z3d1 os [(0,z45d Rows.laid_math_bits_deBruijn64tab)]) #[.agg #[.int .i64 0,.string .empty],.string .empty] 8 rfl (by kernel_rfl) (by kernel_rfl) (by kernel_rfl) (by kernel_rfl) (by kernel_rfl) (z3c6 os)) ?_
  · intro args ds W p hA
    rw[Tryd.params4] at hA;obtain⟨v0,vs0,d0,ds0,p0,q0,_,rfl,_,_,r0⟩:=trodAll_cons hA;obtain⟨v1,vs1,d1,ds1,p1,q1,_,rfl,_,_,r1⟩:=trodAll_cons r0;obtain⟨_,rfl,_⟩:=trodAll_nil r1;exact⟨rfl,rfl,rfl⟩
  · intro W args ds p hL hval hA hlt hsz
    obtain⟨m,h,xs,F,hX,hT,hr,hP⟩:=Abs.open_allG (n:=12) tzG (0+1) [] (z36a hL) (by kernel_rfl) hA hlt hsz (by kernel_rfl) (fun i t v h1 h2=>hval i t v (by simpa using h1) (by simpa using h2));rw[Tryd.params4] at hP;obtain⟨h2,hs⟩:=z3c5 h hX (tz_of (Nat.lt_succ_self _) hT) xs hP;exact Abs.says_in hs F hr

theorem z36b:Rows.nfaRunsRow.holds Tryd.pinned (OpenSpec.ofChange Rows.nfaRunsSpec):=
  OpenClaim.holds_of_wide 4 Tryd.f4 rfl rfl rfl rfl rfl rfl rfl ⟨rfl,rfl,rfl,rfl,rfl⟩ rfl rfl rfl rfl rfl (by kernel_rfl) Tryd.func4 (by kernel_rfl)
    (of_decide_eq_true (by kernel_rfl)) (by unfold Func.isWrapper;first|(rw[if_pos (by decide+kernel)];kernel_rfl)|(rw[if_neg (by decide+kernel)];exact⟨rfl,rfl⟩))
    (fun os started H enc _=>z2d3 os started H enc)

theorem nfaRuns_proved:Rows.NfaRunsCardSaid:=
  Claim7.holds_tied_plain_at .later [] [.data] true (true, "d1daf630c730c6b78953c067b2127bfbbb6e2f017d12ea825fb01cfc1e7cf5cd") true z36b (fun _ h=>by cases h) (by kernel_rfl) (fun _ h=>by cases h) nfaRuns_row_tie rfl ⟨rfl,rfl⟩ (by kernel_rfl) rfl
    (fun f fn hf hfn=>by
      obtain rfl:f=4:=Option.some.inj ((show Tryd.prog.funcNamed "dragoman/dragomanlaw10.NfaRuns" =some 4 by kernel_rfl).symm.trans hf) |>.symm
      obtain rfl:fn=Tryd.f4:=(Option.some.inj (Tryd.func4.symm.trans hfn)).symm
      exact⟨by kernel_rfl,z40b (by kernel_rfl)⟩)
    (by kernel_rfl)
#print axioms nfaRuns_proved
end Go.Proofs.YtakhljnkmbpmpaaDoor
