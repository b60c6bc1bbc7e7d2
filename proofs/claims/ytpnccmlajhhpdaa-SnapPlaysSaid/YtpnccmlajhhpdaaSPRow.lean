/- Any saves and loads, power cuts, crashes, other people's bytes: each answer, each step on the disk is as the document says: SnapPlays returns true for every input. Conditions: none. -/
import Derived.Test.YtpnccmlajhhpdaaSP10
namespace Go.Proofs.Ytpnccmlajhhpdaa
open Go.ChangeShapes Go.WideShapes Go.ChangeAt Go.RowKit
open Go.ChangeMaps (open_string shut_string)

set_option maxRecDepth 100000 in
theorem z246(os:Os)(started:os.Started)(H:Type)(enc:TypeId×Value→H):
    ReturnsInHanded {} Try.checked os 5 .any (Rows.snapPlaysSpec.pre6 enc Try.prog Try.f5 [] false) (Rows.snapPlaysSpec.post enc Try.prog Try.f5 false true false false):=by
  refine lifted_of Try.func5 (by kernel_rfl) rfl rfl (by kernel_rfl) ?_ rfl os started
    (ChangeSpec.witness6 (enc:=enc) (C:=Try.checked) false ⟨#[], #[.slice none 0 0],[]⟩ 8 (by kernel_rfl) (by kernel_rfl) (by kernel_rfl) (by kernel_rfl)) ?_
  · intro args ds W p hA
    rw[Try.params5] at hA;obtain⟨v0,vs0,d0,ds0,p0,q0,_,rfl,_,_,r0⟩:=trodAll_cons hA;obtain⟨_,rfl,_⟩:=trodAll_nil r0;exact⟨rfl,rfl,rfl⟩
  · intro W args ds p hval hA hlt hsz
    obtain⟨m,h,xs,F,hX,hr,hP⟩:=Abs.open_all (n:=12) [89] hA hlt hsz (by kernel_rfl) (fun i t v h1 h2=>hval i t v (by simpa using h1) (by simpa using h2));rw[Try.params5] at hP;obtain⟨h2,hs⟩:=z2ed h hX xs hP;exact Abs.says_in hs F hr

theorem z2a0:Rows.snapPlaysRow.holds Try.pinned (OpenSpec.ofChange Rows.snapPlaysSpec):=
  OpenClaim.holds_of_wide 5 Try.f5 rfl rfl rfl rfl rfl rfl rfl ⟨rfl,rfl,rfl,rfl,rfl⟩ rfl rfl rfl rfl rfl (by kernel_rfl) Try.func5 (by kernel_rfl)
    (of_decide_eq_true (by kernel_rfl)) (by unfold Func.isWrapper;first|(rw[if_pos (by decide+kernel)];kernel_rfl)|(rw[if_neg (by decide+kernel)];exact⟨rfl,rfl⟩))
    (fun os started H enc _=>z246 os started H enc)

theorem snapPlays_proved:Rows.SnapPlaysSaid:=z2a0
#print axioms snapPlays_proved
end Go.Proofs.Ytpnccmlajhhpdaa
