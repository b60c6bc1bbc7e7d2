/- What comes behind the first match makes no difference, and nothing ends ahead of it: MatchEarly returns true for every input of bulk at most 1048576. Conditions: the table math/bits.deBruijn64tab holds what the program's text lays it to (tied). -/
import Derived.Test.YtcahhjjnihipdaaDoorCe11
import Derived.Test.YtcahhjjnihipdaaDoorCards
import Derived.Test.YtcahhjjnihipdaaDoorTie
namespace Go.Proofs.YtcahhjjnihipdaaDoor
open Go.ChangeShapes Go.WideShapes Go.ChangeAt Go.RowKit
open Go.ChangeMaps (open_string shut_string)

set_option maxRecDepth 100000 in
theorem z289{W:World}(h:laidMet Tryd.prog Rows.matchEarlyUptoRow.laid W):Abs.Laid tzG W:=
  Abs.laid_put (Abs.laid_ints h (i:=0) (n:= "math/bits.deBruijn64tab") (g:=0) (t:=140) (e:=5) (len:=64) (k:=.u8) (zs:=[0,1,56,2,57,49,28,3,61,58,42,50,38,29,17,4,62,47,59,36,45,43,51,22,53,39,33,30,24,18,12,5,63,55,48,27,60,41,37,16,46,35,44,21,52,32,23,11,54,26,40,15,34,20,31,10,25,14,19,9,13,8,7,6]) (by kernel_rfl) (by kernel_rfl) (by kernel_rfl) (by kernel_rfl) (by kernel_rfl) (by kernel_rfl) (by decide)) (Abs.laid_nil W)
set_option maxRecDepth 100000 in
theorem z2bb(os:Os):laidMet Tryd.prog Rows.matchEarlyUptoRow.laid ((z3a1 os [(0,z423 Rows.laid_math_bits_deBruijn64tab)]).forCall (fun _ _=>0) ⟨#[], #[.slice none 0 0,.string .empty,.string .empty],[]⟩).memory:=
  laidMet_of_run' 8 (by kernel_rfl) (by kernel_rfl)
set_option maxRecDepth 100000 in
theorem z229(os:Os)(started:os.Started)(H:Type)(enc:TypeId×Value→H)(Fi:Stop.Interp):
    ReturnsInHanded {} Tryd.checked os 7 .any (fun w args=>((Rows.OpenSpec.upto Rows.matchEarlySpec).pre enc Tryd.prog Tryd.f7 [] false w args∧laidMet Tryd.prog Rows.matchEarlyUptoRow.laid w)∧sizedMet enc Tryd.prog Tryd.f7 (Rows.OpenSpec.upto Rows.matchEarlySpec) false w args) (((Rows.OpenSpec.upto Rows.matchEarlySpec).at Fi).post enc Tryd.prog Tryd.f7 false true false false):=by
  refine z397 Rows.matchEarlyUptoRow.laid Tryd.func7 (by kernel_rfl) rfl rfl (by kernel_rfl) ?_ rfl os started Fi
    (z331 (z3a1 os [(0,z423 Rows.laid_math_bits_deBruijn64tab)]) #[.slice none 0 0,.string .empty,.string .empty] 8 rfl (by kernel_rfl) (by kernel_rfl) (by kernel_rfl) (x:=([.nil,.lit (.string []),.lit (.string [])],[],[])) (by kernel_rfl) (by kernel_rfl) (by kernel_rfl) (z2bb os)) ?_
  · intro args ds W p hA
    rw[Tryd.params7] at hA;obtain⟨v0,vs0,d0,ds0,p0,q0,_,rfl,_,_,r0⟩:=trodAll_cons hA;obtain⟨v1,vs1,d1,ds1,p1,q1,_,rfl,_,_,r1⟩:=trodAll_cons r0;obtain⟨v2,vs2,d2,ds2,p2,q2,_,rfl,_,_,r2⟩:=trodAll_cons r1;obtain⟨_,rfl,_⟩:=trodAll_nil r2;exact⟨rfl,rfl,rfl⟩
  · intro W args ds p hL hval hA hlt hsz hB
    obtain⟨m,h,xs,F,hX,hT,hr,hP⟩:=Abs.open_allG (n:=12) tzG (0+1) [] (z289 hL) (by kernel_rfl) hA hlt hsz (by kernel_rfl) (fun i t v h1 h2=>hval i t v (by simpa using h1) (by simpa using h2));rw[Tryd.params7] at hP hA;obtain⟨h2,hs⟩:=z2ba h hX (tz_of (Nat.lt_succ_self _) hT) xs hP (fun s hs=>Nat.le_trans (z43c hA hr (i:=1) rfl Tryd.underlying9 hs) hB);exact Abs.says_in hs F hr

theorem z28a:Rows.matchEarlyUptoRow.holds Tryd.pinned (Rows.OpenSpec.upto Rows.matchEarlySpec):=
  OpenClaim.holds_of_cond 7 Tryd.f7 rfl rfl rfl rfl rfl rfl rfl ⟨rfl,rfl,rfl,rfl,rfl⟩ rfl rfl rfl rfl rfl (by kernel_rfl) Tryd.func7 (by kernel_rfl)
    (of_decide_eq_true (by kernel_rfl)) (by unfold Func.isWrapper;first|(rw[if_pos (by decide+kernel)];kernel_rfl)|(rw[if_neg (by decide+kernel)];exact⟨rfl,rfl⟩))
    (fun os started H enc _ Fi=>z229 os started H enc Fi)

theorem matchEarlyUpto_proved:Rows.MatchEarlyUptoCardSaid:=
  Claim7.holds_tied_plain_at .later [] [.data] true (true, "6c9282fce0ce059766f879dfcf664683de3cf80c682fb784a1156b75e50fd8e1") true z28a (fun _ h=>by cases h) (by kernel_rfl) (fun _ h=>by cases h) matchEarlyUpto_row_tie rfl ⟨rfl,rfl⟩ (by kernel_rfl) rfl
    (fun f fn hf hfn=>by
      obtain rfl:f=7:=Option.some.inj ((show Tryd.prog.funcNamed "dragoman/dragomanlaw11.MatchEarly" =some 7 by kernel_rfl).symm.trans hf) |>.symm
      obtain rfl:fn=Tryd.f7:=(Option.some.inj (Tryd.func7.symm.trans hfn)).symm
      exact⟨by kernel_rfl,z3db (by kernel_rfl)⟩)
    (by kernel_rfl)
#print axioms matchEarlyUpto_proved
end Go.Proofs.YtcahhjjnihipdaaDoor
