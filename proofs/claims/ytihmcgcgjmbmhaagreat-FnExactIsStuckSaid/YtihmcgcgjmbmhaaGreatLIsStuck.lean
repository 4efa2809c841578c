/- For every input the law FnExactIsStuck returns true, and each text reads behind the call as it read before. No conditions. -/
import Derived.Test.YtihmcgcgjmbmhaaGreatRows
import Derived.Test.YtihmcgcgjmbmhaaGreatDz
import Derived.WalkKit
import Derived.ProofKit
import Derived.OpenShut
import Derived.ShutString
import Derived.ChangeOld
import Derived.Below
namespace Go.Proofs.YtihmcgcgjmbmhaaGreat
open Go.Proofs.Tryz
set_option maxHeartbeats 1000000
namespace LawIsStuck
open Go.ChangeShapes Go.WideShapes Go.ChangeAt Go.RowKit Go.Proofs.YtihmcgcgjmbmhaaGreat.T1
open Go.ChangeMaps (open_string shut_string)
set_option linter.unusedVariables false
theorem own:ownKnob prog.godebug=none:=by kernel_rfl
theorem ayp:laidOutB prog=true:=by kernel_rfl
theorem ay9 (a0:ByteArray)(w0:a0.size<=maxLen)(w:World):Calls prog 5 #[.string a0] w fun e w'=>e=.returned (.bool true)/\Zb w w':=by
 unfold maxLen at w0
 by_cases hl0:1048576<a0.size
 ·go_enter func5,ntmps5
  go_wp2_with fail
  go_ret
  exact⟨rfl,Below.refl _ _⟩
 ·obtain⟨X,b,h1,h2⟩:=bothSk a0 w0
  have H1:=qz h1
  have H2:=qz h2
  clear h1 h2
  go_enter func5,ntmps5
  go_wp2_with fail
  refine(H1.out _).mono ?_
  rintro e w1 ⟨rfl,c1⟩
  go_wp2_with fail
  refine(H2.out _).mono ?_
  rintro e w2 ⟨rfl,c2⟩
  go_wp2_with fail
  go_ret
  exact⟨rfl,aab c1 c2 c1.size⟩
set_option maxRecDepth 100000 in
theorem axR (os:Os)(started:os.Started)(H:Type)(enc:TypeId × Value->H) : ReturnsInHanded {} Tryz.checked os 5 .any (Rows.fnExactIsStuckSpec.pre6 enc prog f5 Rows.fnExactIsStuckRow.domain false) (Rows.fnExactIsStuckSpec.post enc prog f5 false true false false):=by
 refine returnsInHanded_of_change (C:=Tryz.checked) own started (by kernel_rfl) func5
  (ChangeSpec.witness6 (enc:=enc) (C:=Tryz.checked) false ⟨#[],#[.string ByteArray.empty],[]⟩ 8 (by kernel_rfl) (by kernel_rfl) (by kernel_rfl) (by kernel_rfl)) ?_
 intro W base args ds gs before hval0 hW hcnd _
 have hval:∀(j:Nat) t v,f5.params[j]?=some t->args[j]?=some v->Value.okWide prog W .any base t v:=hval0
 have hW':=hW
 obtain⟨p,q,hA0,hV,rfl,hfz,hnd⟩:=hW
 have hA:DataW.TrodAll enc prog W 0 (fun _=>true) true f5.params.toList args.toList ds p:=hA0
 rw[Tryz.params5]at hA hval
 obtain⟨v0,vs0,d0,ds0,p0,q0,hargs,rfl,rfl,h0,r0⟩:=trodAll_cons hA
 obtain⟨rfl,rfl,rfl⟩:=trodAll_nil r0
 obtain rfl:args=#[v0]:=by cases args;simp_all
 obtain⟨rfl,rfl⟩:=trodVars_none hV
 obtain⟨a0,rfl,rfl,rfl,w0⟩:=open_string underlying9 (hval 0 9 v0 rfl rfl) h0
 clear hA0 hval0
 simp only[List.append_nil]at hW'
 refine(ay9 a0 w0 W).mono fun e W' ⟨he,bel⟩=>?_
 subst he
 exact⟨_,rfl,_,_,_,[],[],[],hW',trodAll_mk1 (shut_bool underlying4 _),(trodAll_cons_mk (shut_string underlying9 w0) trodAll_mk0),rfl,bel.frame _,fun h=>by cases h⟩
theorem over:Rows.fnExactIsStuckRow.holds Tryz.pinned (OpenSpec.ofChange Rows.fnExactIsStuckSpec):=
 OpenClaim.holds_of_wide 5 f5 rfl rfl rfl rfl rfl rfl rfl ⟨rfl,rfl,rfl,rfl,rfl⟩ rfl rfl rfl rfl rfl (by kernel_rfl) func5 (by kernel_rfl)
  (of_decide_eq_true (by kernel_rfl)) (by unfold Func.isWrapper;first|(rw[if_pos (by decide +kernel)];kernel_rfl)|(rw[if_neg (by decide +kernel)];exact⟨rfl,rfl⟩))
  (fun os started H enc _=>axR os started H enc)
end LawIsStuck
theorem fnExactIsStuck_holds:Rows.FnExactIsStuckSaid:=LawIsStuck.over
#print axioms fnExactIsStuck_holds
end Go.Proofs.YtihmcgcgjmbmhaaGreat
