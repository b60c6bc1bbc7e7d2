/- Whatever is asked, by whomever, and whatever crashes between: of each talk tokens never fall, numbers are 1, 2, 3; what is refused leaves all as it was; what was told to be taken is: GatewayFences returns true for every input. Conditions: none. -/
import Derived.Test.YtfcedccphhmdgaaGF8
namespace Go.Proofs.Ytfcedccphhmdgaa
open Go.ChangeShapes Go.WideShapes Go.ChangeAt Go.RowKit
open Go.ChangeMaps (open_string shut_string)

set_option maxRecDepth 100000 in
theorem gatewayFencesR_lifted(os:Os)(started:os.Started)(H:Type)(enc:TypeId×Value→H):
    ReturnsInHanded {} Try.checked os 4 .any (Rows.gatewayFencesSpec.pre6 enc Try.prog Try.f4 [] false) (Rows.gatewayFencesSpec.post enc Try.prog Try.f4 false true false false):=by
  refine lifted_of Try.func4 (by kernel_rfl) rfl rfl (by kernel_rfl) ?_ rfl os started
    (ChangeSpec.witness6 (enc:=enc) (C:=Try.checked) false ⟨#[], #[.slice none 0 0],[]⟩ 8 (by kernel_rfl) (by kernel_rfl) (by kernel_rfl) (by kernel_rfl)) ?_
  · intro args ds W p hA
    rw[Try.params4] at hA;obtain⟨v0,vs0,d0,ds0,p0,q0,_,rfl,_,_,r0⟩:=trodAll_cons hA;obtain⟨_,rfl,_⟩:=trodAll_nil r0;exact⟨rfl,rfl,rfl⟩
  · intro W args ds p hval hA hlt hsz
    obtain⟨m,h,xs,F,hX,hr,hP⟩:=Abs.open_all (n:=12) [] hA hlt hsz (by kernel_rfl) (fun i t v h1 h2=>hval i t v (by simpa using h1) (by simpa using h2));rw[Try.params4] at hP;obtain⟨h2,hs⟩:=gatewayFences_says h hX xs hP;exact Abs.says_in hs F hr

theorem gatewayFencesR_over:Rows.gatewayFencesRow.holds Try.pinned (OpenSpec.ofChange Rows.gatewayFencesSpec):=
  OpenClaim.holds_of_wide 4 Try.f4 rfl rfl rfl rfl rfl rfl rfl ⟨rfl,rfl,rfl,rfl,rfl⟩ rfl rfl rfl rfl rfl (by kernel_rfl) Try.func4 (by kernel_rfl)
    (of_decide_eq_true (by kernel_rfl)) (by unfold Func.isWrapper;first|(rw[if_pos (by decide+kernel)];kernel_rfl)|(rw[if_neg (by decide+kernel)];exact⟨rfl,rfl⟩))
    (fun os started H enc _=>gatewayFencesR_lifted os started H enc)

theorem gatewayFences_proved:Rows.GatewayFencesSaid:=gatewayFencesR_over
#print axioms gatewayFences_proved
end Go.Proofs.Ytfcedccphhmdgaa
