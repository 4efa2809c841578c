/- How many reductions there are, and whether there are none: both sides. No conditions. -/
import Derived.Test.YtihmcgcgjmbmhaaGreatQbf
namespace Go.Proofs.YtihmcgcgjmbmhaaGreat.T1
open Go.Proofs.Tryz
set_option maxHeartbeats 1000000
open Go.RowKit Go.Maps
set_option maxRecDepth 100000
set_option linter.unusedVariables false
set_option linter.unusedSimpArgs false
theorem spCt (p:ByteArray)(us:List Tm)(b:Bool)(H0:∀w,Calls prog 39 #[.string p] w fun e w'=>∃v',e=.returned (.tuple #[v',.bool b])/\w'.ownsRow w.heap.size 9 1 v' us.length (us.map sv)/\Zb w w')(w:World) : Calls prog 18 #[.string p] w fun e w'=>e=.returned (.tuple #[.int .i64 (us.length:Int),.bool b])/\Zb w w':=by
 have H:=qz H0
 clear H0
 go_enter func18,ntmps18
 go_wp2_with fail
 with_reducible refine(H.out _).mono ?_
 rintro e w1 ⟨x,rfl,hx,b1⟩
 obtain⟨p1,c1,rfl⟩:=aaM hx
 have B1:=qz b1
 clear hx b1
 go_wp2_with fail
 go_ret2
 exact⟨rfl,B1.out⟩
theorem imCt (p:ByteArray)(us:List Tm)(b:Bool)(H0:∀w,Calls prog 14 #[.string p] w fun e w'=>∃v',e=.returned (.tuple #[v',.bool b])/\w'.ownsRow w.heap.size 9 1 v' us.length (us.map sv)/\Zb w w')(w:World) : Calls prog 19 #[.string p] w fun e w'=>e=.returned (.tuple #[.int .i64 (us.length:Int),.bool b])/\Zb w w':=by
 have H:=qz H0
 clear H0
 go_enter func19,ntmps19
 go_wp2_with fail
 with_reducible refine(H.out _).mono ?_
 rintro e w1 ⟨x,rfl,hx,b1⟩
 obtain⟨p1,c1,rfl⟩:=aaM hx
 have B1:=qz b1
 clear hx b1
 go_wp2_with fail
 go_ret2
 exact⟨rfl,B1.out⟩
theorem bothCr (s:ByteArray)(hs:s.size<=9223372036854775807):∃(y:Int) (b:Bool),(Zr 18 #[.string s] (.tuple #[.int .i64 y,.bool b]))/\(Zr 19 #[.string s] (.tuple #[.int .i64 y,.bool b])):=by
 obtain⟨us,b,hu,h1,h2⟩:=axP s hs
 exact⟨_,b,fun w=>spCt s us b h1 w,fun w=>imCt s us b h2 w⟩
def stk (n:Nat)(b:Bool):Bool:=b && decide (n=0)
theorem spSk (p:ByteArray)(n:Nat)(b:Bool)(H0:∀w,Calls prog 39 #[.string p] w fun e w'=>∃q c,e=.returned (.tuple #[.slice q n c,.bool b])/\Zb w w')(w:World) : Calls prog 20 #[.string p] w fun e w'=>e=.returned (.tuple #[.bool (stk n b),.bool b])/\Zb w w':=by
 have H:=qz H0
 clear H0
 go_enter func20,ntmps20
 go_wp2_with fail
 with_reducible refine(H.out _).mono ?_
 rintro e w1 ⟨q1,c1,rfl,b1⟩
 have B1:=qz b1
 clear b1 H
 cases b with
 | false=>
  go_wp2_with fail
  go_ret2
  exact⟨rfl,B1.out⟩
 | true=>
  by_cases h0:n=0
  ·subst h0
   go_wp2_with fail
   go_ret2
   exact⟨rfl,B1.out⟩
  ·have q:((n:Int)==0)=false:=by rw[beq_eq_false_iff_ne];omega
   have e0:false=stk n true:=by simp[stk,h0]
   have E0:=qz e0
   clear e0
   go_wp2_with fail
   go_ret2
   exact⟨by rw[<-E0.out];rfl,B1.out⟩
theorem imSk (p:ByteArray)(n:Nat)(b:Bool)(H0:Zr 19 #[.string p] (.tuple #[.int .i64 (n:Int),.bool b]))(w:World) : Calls prog 21 #[.string p] w fun e w'=>e=.returned (.tuple #[.bool (stk n b),.bool b])/\Zb w w':=by
 have H:=qz H0
 clear H0
 go_enter func21,ntmps21
 go_wp2_with fail
 with_reducible refine(H.out _).mono ?_
 rintro e w1 ⟨rfl,b1⟩
 have B1:=qz b1
 clear b1 H
 cases b with
 | false=>
  go_wp2_with fail
  go_ret2
  exact⟨rfl,B1.out⟩
 | true=>
  by_cases h0:n=0
  ·subst h0
   go_wp2_with fail
   go_ret2
   exact⟨rfl,B1.out⟩
  ·have q:((n:Int)==0)=false:=by rw[beq_eq_false_iff_ne];omega
   have e0:false=stk n true:=by simp[stk,h0]
   have E0:=qz e0
   clear e0
   go_wp2_with fail
   go_ret2
   exact⟨by rw[<-E0.out];rfl,B1.out⟩
theorem bothSk (s:ByteArray)(hs:s.size<=9223372036854775807):∃(y b:Bool),(Zr 20 #[.string s] (.tuple #[.bool y,.bool b]))/\(Zr 21 #[.string s] (.tuple #[.bool y,.bool b])):=by
 obtain⟨us,b,hu,h1,h2⟩:=axP s hs
 exact⟨_,b,fun w=>spSk s us.length b (fun w=>(h1 w).mono fun e w' ⟨v,h2,h3,h4⟩=>by obtain⟨q,c,rfl⟩:=aaM h3;exact⟨q,c,h2,h4⟩) w,fun w=>imSk s us.length b (fun w=>imCt s us b h2 w) w⟩
end Go.Proofs.YtihmcgcgjmbmhaaGreat.T1
