/- For every input the law FnExactComponentsOf returns true, and each text reads behind the call as it read before. No conditions. -/
import Derived.Test.YtalegefnppbkdaaGreatRows
import Derived.Test.YtalegefnppbkdaaGreatQbz
import Derived.ProofKit
import Derived.OpenShut
import Derived.ShutString
namespace Go.Proofs.YtalegefnppbkdaaGreat
open Go.Proofs.Tryz
set_option maxHeartbeats 4000000
namespace LawComponentsOf
open Go.ChangeShapes Go.WideShapes Go.ChangeAt Go.RowKit Go.Proofs.YtalegefnppbkdaaGreat.T1
open Go.ChangeMaps (open_string shut_string)
set_option linter.unusedVariables false
theorem own:ownKnob prog.godebug=none:=by kernel_rfl
theorem apn:laidOutB prog=true:=by kernel_rfl
theorem al1 {u v w:World}(h:Zb u v)(k:Zb v w):Zb u w:=aab h k h.size
def SOut (F:FuncId)(args:Array Value)(xs:List ByteArray)(b:Bool):Prop:=∀w,Calls prog F args w fun e w'=>∃v g,e=.returned (.tuple #[v,.bool b])/\SRow w' v g xs/\w.heap.size<=g/\Zb w w'
theorem arq (w:World)(g:Nat):SRow w (.slice none 0 0) g []:=⟨⟨_,_,rfl,fun h=>absurd rfl h⟩⟩
theorem arr {w:World}{base:Nat}{v:Value}{xs:List ByteArray}(h:w.ownsRow base 9 1 v xs.length (xs.map .string)):∃g,base<=g/\SRow w v g xs:=by
 rcases h.2 with⟨rfl,h4⟩|⟨g,cap,cur,rfl,h4,h5,h6,h7,h8,h9⟩
 ·obtain rfl:xs=[]:=List.length_eq_zero_iff.1 h4;exact⟨base,nl _,arq w base⟩
 ·refine⟨g,h4,⟨⟨_,_,rfl,fun _=>⟨rfl,cur,h5,fun j hj=>?_⟩⟩⟩⟩;have h10:=h.cellAt j (by omega);simp[World.cell?,h5]at h10;rw[h10];simp[hj]
theorem apo (b:Bool):(b != b)=false:=by cases b<;>rfl
theorem axy (a0:ByteArray)(xs:List ByteArray)(b:Bool)(hx:xs.length<=1000)(hl0:¬1048576<a0.size)(w0:a0.size<=9223372036854775807)(hS:SOut 40 #[.string a0] xs b)(hI:SOut 41 #[.string a0] xs b)(w:World) : Calls prog 13 #[.string a0] w fun e w'=>e=.returned (.bool true)/\Zb w w':=by
 have HS:=qz hS;have HI:=qz hI;have hbb:=apo b;obtain⟨N,hN⟩:∃N,N=1+xs.length:=⟨_,rfl⟩;have hN0:(((N:Nat):Int)<0)=False:=by simp
 have hNd:decide (((N:Nat):Int)<0)=false:=by simp
 have HX:=qz hx;have HN:=qz hN;clear hS hI hN hx
 go_enter func13,ntmps13
 go_wp2_with fail;refine(HS.out _).mono ?_;rintro e w1 ⟨v0,g0,rfl,r0,gl0,b1⟩;have R0:=qz r0;clear r0;go_wp2_with fail;refine(HI.out _).mono ?_;rintro e w2 ⟨v1,g1,rfl,r1,gl1,b2⟩;have R1:=qz r1;have R0b:=qz (R0.out.below b2);have bl:=al1 b1 b2;clear r1;go_wp2_with fail;refine(arP _ v1 v0 g1 g0 xs (by have:=HX.out;omega) R1.out R0b.out).mono ?_;rintro e w3 ⟨rfl,b3⟩;have R0c:=qz (R0b.out.below b3);have R1c:=qz (R1.out.below b3);have bl3:=al1 bl b3;go_wp2_with fail;refine(aqI _ v1 g1 xs (by have:=HX.out;omega) 1 (by omega) (by omega) R1c.out).mono ?_;rintro e w4 ⟨rfl,r4,o4⟩;have R4:=qz r4
 have R0d:Hid (SRow w4 v0 g0 xs):=R0c.out.only o4 (fun hne=>by
  have:=R0.out.lt hne
  omega)
 have bl4:Zb w w4:=Below.only bl3 o4 (by have:=b1.size;omega) bl3.size;rw[<-HN.out];clear r4 o4;go_wp2_with fail;refine(aki _ v1 g1 xs.length (by have:=HX.out;omega) 1 (by omega) (by omega) R4.out).mono ?_;rintro e w5 ⟨rfl,b5⟩;have R4b:=qz (R4.out.below b5);have R0e:=qz (R0d.out.below b5);have bl5:=al1 bl4 b5;rw[<-HN.out];go_wp2_with fail;refine(HI.out _).mono ?_;rintro e w6 ⟨v2,g2,rfl,r6,gl2,b6⟩;have R6:=qz r6;have R0f:=qz (R0e.out.below b6);have R4c:=qz (R4b.out.below b6);have bl6:=al1 bl5 b6;clear r6;go_wp2_with fail;refine(arP _ v2 v0 g2 g0 xs (by have:=HX.out;omega) R6.out R0f.out).mono ?_;rintro e w7 ⟨rfl,b7⟩;have R4d:=qz (R4c.out.below b7);have bl7:=al1 bl6 b7;go_wp2_with fail;refine(aki _ v1 g1 xs.length (by have:=HX.out;omega) 1 (by omega) (by omega) R4d.out).mono ?_;rintro e w8 ⟨rfl,b8⟩;have bl8:=al1 bl7 b8;rw[<-HN.out];go_wp2_with fail;go_ret;exact⟨rfl,bl8⟩
theorem aw_ (F:FuncId)(args:Array Value)(us:List Tm)(b:Bool)(h:∀w,Calls prog F args w fun e w'=>∃v',e=.returned (.tuple #[v',.bool b])/\w'.ownsRow w.heap.size 9 1 v' us.length (us.map sv)/\Zb w w'):SOut F args (us.map S) b:=fun w=>by
 refine(h w).mono ?_;rintro e w' ⟨v',rfl,o,bl⟩;obtain⟨g,hg,hs⟩:=arr (base:=w.heap.size) (w:=w') (v:=v') (xs:=us.map S) (by rw[List.length_map,List.map_map];exact o);exact⟨v',g,rfl,hs,hg,bl⟩
theorem awl (a0:ByteArray)(w0:a0.size<=maxLen)(w:World):Calls prog 13 #[.string a0] w fun e w'=>e=.returned (.bool true)/\Zb w w':=by
 unfold maxLen at w0
 by_cases hl:1048576<a0.size
 ·go_enter func13,ntmps13
  go_wp2_with fail;go_ret;exact⟨rfl,Below.refl _ _⟩
 ·obtain⟨us,b,hu,h1,h2⟩:=awk a0 w0;exact axy a0 (us.map S) b (by rw[List.length_map];omega) hl w0 (aw_ _ _ us b h1) (aw_ _ _ us b h2) w
set_option maxRecDepth 100000 in
theorem lifted (os:Os)(started:os.Started)(H:Type)(enc:TypeId × Value->H) : ReturnsInHanded {} Tryz.checked os 13 .any (Rows.fnExactComponentsOfSpec.pre6 enc prog f13 Rows.fnExactComponentsOfRow.domain false) (Rows.fnExactComponentsOfSpec.post enc prog f13 false true false false):=by
 refine returnsInHanded_of_change (C:=Tryz.checked) own started (by kernel_rfl) func13
  (ChangeSpec.witness6 (enc:=enc) (C:=Tryz.checked) false ⟨#[],#[.string ByteArray.empty],[]⟩ 8 (by kernel_rfl) (by kernel_rfl) (by kernel_rfl) (by kernel_rfl)) ?_
 intro W base args ds gs before hval0 hW hcnd _;have hval:∀(j:Nat) t v,f13.params[j]?=some t->args[j]?=some v->Value.okWide prog W .any base t v:=hval0;have hW':=hW;obtain⟨p,q,hA0,hV,rfl,hfz,hnd⟩:=hW;have hA:DataW.TrodAll enc prog W 0 (fun _=>true) true f13.params.toList args.toList ds p:=hA0;rw[Tryz.params13]at hA hval;obtain⟨v0,vs0,d0,ds0,p0,q0,hargs,rfl,rfl,h0,r0⟩:=trodAll_cons hA;obtain⟨rfl,rfl,rfl⟩:=trodAll_nil r0;obtain rfl:args=#[v0]:=by cases args;simp_all
 obtain⟨rfl,rfl⟩:=trodVars_none hV;obtain⟨a0,rfl,rfl,rfl,w0⟩:=open_string underlying9 (hval 0 9 v0 rfl rfl) h0;clear hA0 hval0;simp only[List.append_nil]at hW';refine(awl a0 w0 W).mono fun e W' ⟨he,bel⟩=>?_;subst he;exact⟨_,rfl,_,_,_,[],[],[],hW',trodAll_mk1 (shut_bool underlying4 _),(trodAll_cons_mk (shut_string underlying9 w0) trodAll_mk0),rfl,bel.frame _,fun h=>by cases h⟩
theorem c1:(Rows.fnExactComponentsOfRow.wf (OpenSpec.ofChange Rows.fnExactComponentsOfSpec) && laidOutB prog && mapsRowed prog && f13.params.all (prog.readableRec ·) && namedTie prog Rows.fnExactComponentsOfRow.named Rows.fnExactComponentsOfSpec.vars && (Rows.fnExactComponentsOfRow.stops==[]) && (prog.stops==[]) && (Rows.fnExactComponentsOfRow.knobs==[]) && (prog.stopKnobs==[]))=true:=by kernel_rfl
theorem c2:(Rows.fnExactComponentsOfRow.inPlace==prog.inPlace 13)=true:=by kernel_rfl
theorem c3:(Rows.fnExactComponentsOfRow.unfollowed==prog.unfollowed 13)=true:=by kernel_rfl
theorem c4:(Rows.fnExactComponentsOfRow.recurses==prog.recurses 13)=true:=by kernel_rfl
theorem c5:(Rows.fnExactComponentsOfRow.named==prog.varsNamed 13)=true:=by kernel_rfl
theorem c6:(Rows.fnExactComponentsOfRow.maps==(f13.params.toList++Rows.fnExactComponentsOfSpec.plain.varTypes prog).any (prog.mapsRec ·))=true:=by kernel_rfl
theorem c7:(Rows.fnExactComponentsOfRow.ifaces==(f13.params.toList++Rows.fnExactComponentsOfSpec.plain.varTypes prog).any (prog.ifacesRec ·))=true:=by kernel_rfl
theorem c8:(Rows.fnExactComponentsOfRow.mapsOut==prog.mapsAmong f13.resultTypes.toList)=true:=by kernel_rfl
theorem c9:(Rows.fnExactComponentsOfRow.loops==(f13.params.toList++Rows.fnExactComponentsOfSpec.plain.varTypes prog).any (prog.loopsFrom ·))=true:=by kernel_rfl
theorem d1:(Rows.fnExactComponentsOfRow.wideKeys==(f13.params.toList++Rows.fnExactComponentsOfSpec.plain.varTypes prog++f13.resultTypes.toList).any (prog.wideKeysFrom ·))=true:=by kernel_rfl
theorem d2:Rows.fnExactComponentsOfSpec.vars.all (prog.varReadable ·)=true:=by kernel_rfl
theorem d3:f13.resultTypes.all (fun t=>prog.readableRec t && decide (t<prog.types.size))=true:=by kernel_rfl
theorem d4:(Rows.fnExactComponentsOfRow.ifacesOut==f13.resultTypes.toList.any (prog.ifacesRec ·))=true:=by kernel_rfl
theorem d5:(Rows.fnExactComponentsOfRow.loopsOut==f13.resultTypes.toList.any (prog.loopsFrom ·))=true:=by kernel_rfl
theorem d6:(Rows.fnExactComponentsOfRow.plainKeys==prog.plainKeys)=true:=by kernel_rfl
theorem d7:Rows.fnExactComponentsOfRow.shortTexts.isNone=true:=by kernel_rfl
theorem d8:prog.stopsHeard=true:=by kernel_rfl
theorem d9:prog.mayEnter=true:=by kernel_rfl
theorem e1:(Rows.fnExactComponentsOfRow.lifted==prog.liftsFinal)=true:=by kernel_rfl
theorem e2:(prog.make==some Rows.fnExactComponentsOfRow.make)=true:=by kernel_rfl
theorem e4:(Rows.fnExactComponentsOfRow.pinned==Rows.fnExactComponentsOfRow.pinnedBy)=true:=by kernel_rfl
theorem e5:(Rows.fnExactComponentsOfRow.veiled==(f13.params.toList++Rows.fnExactComponentsOfSpec.plain.varTypes prog++f13.resultTypes.toList).any (prog.veiledRec ·))=true:=by kernel_rfl
theorem e6:Rows.fnExactComponentsOfRow.veiledFits prog f13.params.toList (f13.params.toList++Rows.fnExactComponentsOfSpec.plain.varTypes prog++f13.resultTypes.toList)=true:=by kernel_rfl
theorem closed:joinedFacts prog 13 f13 Rows.fnExactComponentsOfSpec Rows.fnExactComponentsOfRow=true:=by
 unfold joinedFacts;rw[c1,c2,c3,c4,c5,c6,c7,c8,c9,d1,d2,d3,d4,d5,d6,d7,d8,d9,e1,e2,e4,e5,e6];rfl
theorem named:prog.funcNamed Rows.fnExactComponentsOfRow.func=some 13:=by kernel_rfl
theorem inst:f13.isInstance prog Rows.fnExactComponentsOfRow.origin Rows.fnExactComponentsOfRow.targs:=of_decide_eq_true (by kernel_rfl)
theorem wrap:f13.isWrapper prog Rows.fnExactComponentsOfRow.wrapper Rows.fnExactComponentsOfRow.mainSum:=by unfold Func.isWrapper;first|(rw[if_pos (by decide +kernel)];kernel_rfl)|(rw[if_neg (by decide +kernel)];exact⟨rfl,rfl⟩)
theorem over:Rows.fnExactComponentsOfRow.holds Tryz.pinned (OpenSpec.ofChange Rows.fnExactComponentsOfSpec):=
 OpenClaim.holds_of_wide 13 f13 rfl rfl rfl rfl rfl rfl rfl ⟨rfl,rfl,rfl,rfl,rfl⟩ rfl rfl rfl rfl rfl named func13 closed inst wrap
  (fun os started H enc _=>lifted os started H enc)
end LawComponentsOf
theorem fnExactComponentsOf_holds:Rows.FnExactComponentsOfSaid:=LawComponentsOf.over
#print axioms fnExactComponentsOf_holds
end Go.Proofs.YtalegefnppbkdaaGreat
