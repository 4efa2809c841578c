/- For every input the law FnExactReceivesOf returns true, and each text reads behind the call as it read before. No conditions. -/
import Derived.Test.YtalegefnppbkdaaGreatRows
import Derived.Test.YtalegefnppbkdaaGreatQbz
import Derived.ProofKit
import Derived.OpenShut
import Derived.ShutString
namespace Go.Proofs.YtalegefnppbkdaaGreat
open Go.Proofs.Tryz
set_option maxHeartbeats 1000000
namespace LawReceivesOf
open Go.ChangeShapes Go.WideShapes Go.ChangeAt Go.RowKit Go.Proofs.YtalegefnppbkdaaGreat.T1
open Go.ChangeMaps (open_string shut_string)
set_option linter.unusedVariables false
theorem own:ownKnob prog.godebug=none:=by kernel_rfl
theorem apn:laidOutB prog=true:=by kernel_rfl
theorem awl (a0:ByteArray)(w0:a0.size<=maxLen)(w:World):Calls prog 16 #[.string a0] w fun e w'=>e=.returned (.bool true)/\Zb w w':=by
 unfold maxLen at w0
 by_cases hl0:1048576<a0.size
 ·go_enter func16,ntmps16
  go_wp2_with fail;go_ret;exact⟨rfl,Below.refl _ _⟩
 ·obtain⟨X,b,h1,h2⟩:=af2 a0 w0;have H1:=qz h1;have H2:=qz h2;clear h1 h2
  go_enter func16,ntmps16
  go_wp2_with fail;refine(H1.out _).mono ?_;rintro e w1 ⟨rfl,c1⟩;go_wp2_with fail;refine(H2.out _).mono ?_;rintro e w2 ⟨rfl,c2⟩;go_wp2_with fail;go_ret;exact⟨rfl,aab c1 c2 c1.size⟩
set_option maxRecDepth 100000 in
theorem lifted (os:Os)(started:os.Started)(H:Type)(enc:TypeId × Value->H) : ReturnsInHanded {} Tryz.checked os 16 .any (Rows.fnExactReceivesOfSpec.pre6 enc prog f16 Rows.fnExactReceivesOfRow.domain false) (Rows.fnExactReceivesOfSpec.post enc prog f16 false true false false):=by
 refine returnsInHanded_of_change (C:=Tryz.checked) own started (by kernel_rfl) func16
  (ChangeSpec.witness6 (enc:=enc) (C:=Tryz.checked) false ⟨#[],#[.string ByteArray.empty],[]⟩ 8 (by kernel_rfl) (by kernel_rfl) (by kernel_rfl) (by kernel_rfl)) ?_
 intro W base args ds gs before hval0 hW hcnd _;have hval:∀(j:Nat) t v,f16.params[j]?=some t->args[j]?=some v->Value.okWide prog W .any base t v:=hval0;have hW':=hW;obtain⟨p,q,hA0,hV,rfl,hfz,hnd⟩:=hW;have hA:DataW.TrodAll enc prog W 0 (fun _=>true) true f16.params.toList args.toList ds p:=hA0;rw[Tryz.params16]at hA hval;obtain⟨v0,vs0,d0,ds0,p0,q0,hargs,rfl,rfl,h0,r0⟩:=trodAll_cons hA;obtain⟨rfl,rfl,rfl⟩:=trodAll_nil r0;obtain rfl:args=#[v0]:=by cases args;simp_all
 obtain⟨rfl,rfl⟩:=trodVars_none hV;obtain⟨a0,rfl,rfl,rfl,w0⟩:=open_string underlying9 (hval 0 9 v0 rfl rfl) h0;clear hA0 hval0;simp only[List.append_nil]at hW';refine(awl a0 w0 W).mono fun e W' ⟨he,bel⟩=>?_;subst he;exact⟨_,rfl,_,_,_,[],[],[],hW',trodAll_mk1 (shut_bool underlying4 _),(trodAll_cons_mk (shut_string underlying9 w0) trodAll_mk0),rfl,bel.frame _,fun h=>by cases h⟩
theorem c1:(Rows.fnExactReceivesOfRow.wf (OpenSpec.ofChange Rows.fnExactReceivesOfSpec) && laidOutB prog && mapsRowed prog && f16.params.all (prog.readableRec ·) && namedTie prog Rows.fnExactReceivesOfRow.named Rows.fnExactReceivesOfSpec.vars && (Rows.fnExactReceivesOfRow.stops==[]) && (prog.stops==[]) && (Rows.fnExactReceivesOfRow.knobs==[]) && (prog.stopKnobs==[]))=true:=by kernel_rfl
theorem c2:(Rows.fnExactReceivesOfRow.inPlace==prog.inPlace 16)=true:=by kernel_rfl
theorem c3:(Rows.fnExactReceivesOfRow.unfollowed==prog.unfollowed 16)=true:=by kernel_rfl
theorem c4:(Rows.fnExactReceivesOfRow.recurses==prog.recurses 16)=true:=by kernel_rfl
theorem c5:(Rows.fnExactReceivesOfRow.named==prog.varsNamed 16)=true:=by kernel_rfl
theorem c6:(Rows.fnExactReceivesOfRow.maps==(f16.params.toList++Rows.fnExactReceivesOfSpec.plain.varTypes prog).any (prog.mapsRec ·))=true:=by kernel_rfl
theorem c7:(Rows.fnExactReceivesOfRow.ifaces==(f16.params.toList++Rows.fnExactReceivesOfSpec.plain.varTypes prog).any (prog.ifacesRec ·))=true:=by kernel_rfl
theorem c8:(Rows.fnExactReceivesOfRow.mapsOut==prog.mapsAmong f16.resultTypes.toList)=true:=by kernel_rfl
theorem c9:(Rows.fnExactReceivesOfRow.loops==(f16.params.toList++Rows.fnExactReceivesOfSpec.plain.varTypes prog).any (prog.loopsFrom ·))=true:=by kernel_rfl
theorem d1:(Rows.fnExactReceivesOfRow.wideKeys==(f16.params.toList++Rows.fnExactReceivesOfSpec.plain.varTypes prog++f16.resultTypes.toList).any (prog.wideKeysFrom ·))=true:=by kernel_rfl
theorem d2:Rows.fnExactReceivesOfSpec.vars.all (prog.varReadable ·)=true:=by kernel_rfl
theorem d3:f16.resultTypes.all (fun t=>prog.readableRec t && decide (t<prog.types.size))=true:=by kernel_rfl
theorem d4:(Rows.fnExactReceivesOfRow.ifacesOut==f16.resultTypes.toList.any (prog.ifacesRec ·))=true:=by kernel_rfl
theorem d5:(Rows.fnExactReceivesOfRow.loopsOut==f16.resultTypes.toList.any (prog.loopsFrom ·))=true:=by kernel_rfl
theorem d6:(Rows.fnExactReceivesOfRow.plainKeys==prog.plainKeys)=true:=by kernel_rfl
theorem d7:Rows.fnExactReceivesOfRow.shortTexts.isNone=true:=by kernel_rfl
theorem d8:prog.stopsHeard=true:=by kernel_rfl
theorem d9:prog.mayEnter=true:=by kernel_rfl
theorem e1:(Rows.fnExactReceivesOfRow.lifted==prog.liftsFinal)=true:=by kernel_rfl
theorem e2:(prog.make==some Rows.fnExactReceivesOfRow.make)=true:=by kernel_rfl
theorem e4:(Rows.fnExactReceivesOfRow.pinned==Rows.fnExactReceivesOfRow.pinnedBy)=true:=by kernel_rfl
theorem e5:(Rows.fnExactReceivesOfRow.veiled==(f16.params.toList++Rows.fnExactReceivesOfSpec.plain.varTypes prog++f16.resultTypes.toList).any (prog.veiledRec ·))=true:=by kernel_rfl
theorem e6:Rows.fnExactReceivesOfRow.veiledFits prog f16.params.toList (f16.params.toList++Rows.fnExactReceivesOfSpec.plain.varTypes prog++f16.resultTypes.toList)=true:=by kernel_rfl
theorem closed:joinedFacts prog 16 f16 Rows.fnExactReceivesOfSpec Rows.fnExactReceivesOfRow=true:=by
 unfold joinedFacts;rw[c1,c2,c3,c4,c5,c6,c7,c8,c9,d1,d2,d3,d4,d5,d6,d7,d8,d9,e1,e2,e4,e5,e6];rfl
theorem named:prog.funcNamed Rows.fnExactReceivesOfRow.func=some 16:=by kernel_rfl
theorem inst:f16.isInstance prog Rows.fnExactReceivesOfRow.origin Rows.fnExactReceivesOfRow.targs:=of_decide_eq_true (by kernel_rfl)
theorem wrap:f16.isWrapper prog Rows.fnExactReceivesOfRow.wrapper Rows.fnExactReceivesOfRow.mainSum:=by unfold Func.isWrapper;first|(rw[if_pos (by decide +kernel)];kernel_rfl)|(rw[if_neg (by decide +kernel)];exact⟨rfl,rfl⟩)
theorem over:Rows.fnExactReceivesOfRow.holds Tryz.pinned (OpenSpec.ofChange Rows.fnExactReceivesOfSpec):=
 OpenClaim.holds_of_wide 16 f16 rfl rfl rfl rfl rfl rfl rfl ⟨rfl,rfl,rfl,rfl,rfl⟩ rfl rfl rfl rfl rfl named func16 closed inst wrap
  (fun os started H enc _=>lifted os started H enc)
end LawReceivesOf
theorem fnExactReceivesOf_holds:Rows.FnExactReceivesOfSaid:=LawReceivesOf.over
#print axioms fnExactReceivesOf_holds
end Go.Proofs.YtalegefnppbkdaaGreat
