/- Of literals it is the first place at which one of them stands whole: MatchLiterals returns true for every input. Conditions: the table math/bits.deBruijn64tab holds what the program's text lays it to (tied). -/
import Derived.Test.YtcahhjjnihipdaaDoorCb10
import Derived.Test.YtcahhjjnihipdaaDoorCards
import Derived.Test.YtcahhjjnihipdaaDoorTie
namespace Go.Proofs.YtcahhjjnihipdaaDoor
open Go.ChangeShapes Go.WideShapes Go.ChangeAt Go.RowKit
open Go.ChangeMaps (open_string shut_string)

set_option maxRecDepth 100000 in
theorem z1ff{W:World}(h:laidMet Tryd.prog Rows.matchLiteralsRow.laid W):Abs.Laid tzG W:=
  Abs.laid_put (Abs.laid_ints h (i:=0) (n:= "math/bits.deBruijn64tab") (g:=0) (t:=140) (e:=5) (len:=64) (k:=.u8) (zs:=[0,1,56,2,57,49,28,3,61,58,42,50,38,29,17,4,62,47,59,36,45,43,51,22,53,39,33,30,24,18,12,5,63,55,48,27,60,41,37,16,46,35,44,21,52,32,23,11,54,26,40,15,34,20,31,10,25,14,19,9,13,8,7,6]) (by kernel_rfl) (by kernel_rfl) (by kernel_rfl) (by kernel_rfl) (by kernel_rfl) (by kernel_rfl) (by decide)) (Abs.laid_nil W)
set_option maxRecDepth 100000 in
theorem z227(os:Os):laidMet Tryd.prog Rows.matchLiteralsRow.laid ((z3a8 os [(0,z432 Rows.laid_math_bits_deBruijn64tab)]).forCall (fun _ _=>0) ⟨#[], #[.slice none 0 0,.string .empty],[]⟩).memory:=
  laidMet_of_run' 8 (by kernel_rfl) (by kernel_rfl)
set_option maxRecDepth 100000 in
theorem z1c0(os:Os)(started:os.Started)(H:Type)(enc:TypeId×Value→H):
    ReturnsInHanded {} Tryd.checked os 8 .any (fun w args=>(Rows.matchLiteralsSpec.pre enc Tryd.prog Tryd.f8 [] false w args∧laidMet Tryd.prog Rows.matchLiteralsRow.laid w)∧sizedMet enc Tryd.prog Tryd.f8 (OpenSpec.ofChange Rows.matchLiteralsSpec) false w args) (Rows.matchLiteralsSpec.post enc Tryd.prog Tryd.f8 false true false false):=by
  refine z3ee Rows.matchLiteralsRow.laid Tryd.func8 (by kernel_rfl) rfl rfl (by kernel_rfl) ?_ rfl os started
    (ChangeSpec.witness_at (enc:=enc) (C:=Tryd.checked) (os:=os) (X:=fun w _=>laidMet Tryd.prog Rows.matchLiteralsRow.laid w) false (z3a8 os [(0,z432 Rows.laid_math_bits_deBruijn64tab)]) #[.slice none 0 0,.string .empty] 8 rfl (by kernel_rfl) (by kernel_rfl) (by kernel_rfl) (by kernel_rfl) (by kernel_rfl) (z227 os)) ?_
  · intro args ds W p hA
    rw[Tryd.params8] at hA;obtain⟨v0,vs0,d0,ds0,p0,q0,_,rfl,_,_,r0⟩:=trodAll_cons hA;obtain⟨v1,vs1,d1,ds1,p1,q1,_,rfl,_,_,r1⟩:=trodAll_cons r0;obtain⟨_,rfl,_⟩:=trodAll_nil r1;exact⟨rfl,rfl,rfl⟩
  · intro W args ds p hL hval hA hlt hsz
    obtain⟨m,h,xs,F,hX,hT,hr,hP⟩:=Abs.open_allG (n:=12) tzG (0+1) [] (z1ff hL) (by kernel_rfl) hA hlt hsz (by kernel_rfl) (fun i t v h1 h2=>hval i t v (by simpa using h1) (by simpa using h2));rw[Tryd.params8] at hP;obtain⟨h2,hs⟩:=z226 h hX (tz_of (Nat.lt_succ_self _) hT) xs hP;exact Abs.says_in hs F hr

theorem z200:Rows.matchLiteralsRow.holds Tryd.pinned (OpenSpec.ofChange Rows.matchLiteralsSpec):=
  OpenClaim.holds_of_wide 8 Tryd.f8 rfl rfl rfl rfl rfl rfl rfl ⟨rfl,rfl,rfl,rfl,rfl⟩ rfl rfl rfl rfl rfl (by kernel_rfl) Tryd.func8 (by kernel_rfl)
    (of_decide_eq_true (by kernel_rfl)) (by unfold Func.isWrapper;first|(rw[if_pos (by decide+kernel)];kernel_rfl)|(rw[if_neg (by decide+kernel)];exact⟨rfl,rfl⟩))
    (fun os started H enc _=>z1c0 os started H enc)

theorem matchLiterals_proved:Rows.MatchLiteralsCardSaid:=
  Claim7.holds_tied_plain_at .later [] [.data] true (true, "6c9282fce0ce059766f879dfcf664683de3cf80c682fb784a1156b75e50fd8e1") true z200 (fun _ h=>by cases h) (by kernel_rfl) (fun _ h=>by cases h) matchLiterals_row_tie rfl ⟨rfl,rfl⟩ (by kernel_rfl) rfl
    (fun f fn hf hfn=>by
      obtain rfl:f=8:=Option.some.inj ((show Tryd.prog.funcNamed "dragoman/dragomanlaw11.MatchLiterals" =some 8 by kernel_rfl).symm.trans hf) |>.symm
      obtain rfl:fn=Tryd.f8:=(Option.some.inj (Tryd.func8.symm.trans hfn)).symm
      exact⟨by kernel_rfl,z3e6 (by kernel_rfl)⟩)
    (by kernel_rfl)
#print axioms matchLiterals_proved
end Go.Proofs.YtcahhjjnihipdaaDoor
