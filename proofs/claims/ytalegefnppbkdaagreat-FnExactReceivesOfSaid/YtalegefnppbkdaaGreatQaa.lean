/- Texts of the proof. No conditions. -/
import Derived.Lib.Hide
import Derived.KernelRfl
import Derived.Below
import Derived.OneCell
import Derived.Deep.Draws
import Derived.Test.YtalegefnppbkdaaGreatProg
namespace Go.Proofs.YtalegefnppbkdaaGreat.T1
open Go.Proofs.Tryz
abbrev Zr (F : FuncId) (a : Array Value) (v : Value) : Prop := ∀ w, Calls Tryz.prog F a w fun e w' => e = .returned v ∧ Go.RowKit.Below w.heap.size w w'
abbrev Ze (F : FuncId) (a : Array Value) (v : Value) : Prop := ∀ w, Calls Tryz.prog F a w fun e w' => e = .returned v ∧ w = w'
abbrev Zb (w w' : World) : Prop := Go.RowKit.Below w.heap.size w w'
theorem bra {w : World} {o : Obj} : Go.RowKit.Below w.heap.size w (w.alloc o) := (Go.RowKit.Below.refl _ _).alloc (Nat.le_refl _) _
theorem nl (n : Nat) : n ≤ n := Nat.le_refl n
theorem bae (a b : Bool) : ((a && b) = true) = (a = true ∧ b = true) := Bool.and_eq_true a b
theorem lla {α : Type} {s t : List α} : (s ++ t).length = s.length + t.length := List.length_append
theorem lma {α : Type} {a : α} {s t : List α} : a ∈ s ++ t ↔ a ∈ s ∨ a ∈ t := List.mem_append
theorem qz {p : Prop} (h : p) : Go.RowKit.Hid p := Lib.hid h
inductive Tm where
 | nil
 | snd (a b:UInt8) (p:Tm)
 | rcv (a x:UInt8) (p:Tm)
 | tau (p:Tm)
 | sum (p q:Tm)
 | par (p q:Tm)
 | own (x:UInt8) (p:Tm)
 | mat (a b:UInt8) (p:Tm)
 | rep (p:Tm)
 deriving DecidableEq
namespace Tm
def pr:Tm->List UInt8
 | nil=>[48]
 | snd a b p=>a::33::b::46::p.pr
 | rcv a x p=>a::63::x::46::p.pr
 | tau p=>126::46::p.pr
 | sum p q=>40::(p.pr++43::(q.pr++[41]))
 | par p q=>40::(p.pr++38::(q.pr++[41]))
 | own x p=>35::x::46::p.pr
 | mat a b p=>91::a::61::b::93::p.pr
 | rep p=>42::p.pr
def size:Tm->Nat
 | nil=>1
 | snd _ _ p=>p.size+1
 | rcv _ _ p=>p.size+1
 | tau p=>p.size+1
 | sum p q=>p.size+q.size+1
 | par p q=>p.size+q.size+1
 | own _ p=>p.size+1
 | mat _ _ p=>p.size+1
 | rep p=>p.size+1
def ok (nm:UInt8->Bool):Tm->Bool
 | nil=>true
 | snd a b p=>nm a && nm b && p.ok nm
 | rcv a x p=>nm a && nm x && p.ok nm
 | tau p=>p.ok nm
 | sum p q=>p.ok nm && q.ok nm
 | par p q=>p.ok nm && q.ok nm
 | own x p=>nm x && p.ok nm
 | mat a b p=>nm a && nm b && p.ok nm
 | rep p=>p.ok nm
def kind:Tm->UInt8
 | nil=>48
 | snd _ _ _=>33
 | rcv _ _ _=>63
 | tau _=>126
 | sum _ _=>43
 | par _ _=>38
 | own _ _=>35
 | mat _ _ _=>61
 | rep _=>42
def parts:Tm->List Tm
 | nil=>[]
 | snd _ _ p=>[p]
 | rcv _ _ p=>[p]
 | tau p=>[p]
 | sum p q=>[p,q]
 | par p q=>[p,q]
 | own _ p=>[p]
 | mat _ _ p=>[p]
 | rep p=>[p]
end Tm
def Nm (nm:UInt8->Bool):Prop:=∀c,nm c=true->c≠48/\c≠42/\c≠126/\c≠35/\c≠91/\c≠40
def nmL (c:UInt8):Bool:=decide (97<=c.toNat) && decide (c.toNat<=122)
def nmE (c:UInt8):Bool:=(decide (97<=c.toNat) && decide (c.toNat<=122)) || (decide (65<=c.toNat) && decide (c.toNat<=90)) || decide (128<=c.toNat)
theorem aa2:Nm nmL:=by
 intro c h;simp[nmL]at h;refine⟨?_,?_,?_,?_,?_,?_⟩<;>rintro rfl<;>simp at h
theorem nmE_nm:Nm nmE:=by
 intro c h;simp[nmE]at h;refine⟨?_,?_,?_,?_,?_,?_⟩<;>rintro rfl<;>simp at h
def Rd (nm:UInt8->Bool)(l:List UInt8)(t:Tm)(r:List UInt8):Prop:=l=t.pr++r/\t.ok nm=true
theorem acb {nm:UInt8->Bool}(hn:Nm nm):∀(t t':Tm) (r r':List UInt8),t.ok nm=true->t'.ok nm=true->t.pr++r=t'.pr++r'->t=t'/\r=r':=by
 have hq:∀c,nm c=true->c≠48/\c≠42/\c≠126/\c≠35/\c≠91/\c≠40:=hn;intro t
 induction t with
 | nil=>
  intro t' r r' h h' e
  cases t'<;>simp[Tm.pr,Tm.ok]at h' e
  ·exact⟨rfl,e⟩
  ·have:=hq _ h'.1.1;simp_all
  ·have:=hq _ h'.1.1;simp_all
 | snd a b p ih=>
  intro t' r r' h h' e;simp only[Tm.ok,bae]at h;have ha:=hq a h.1.1
  cases t'<;>simp[Tm.pr,Tm.ok]at h' e
  case snd=>
   obtain⟨rfl,rfl,e⟩:=e;obtain⟨rfl,rfl⟩:=ih _ _ _ h.2 h'.2 e;exact⟨rfl,rfl⟩
  all_goals simp_all
 | rcv a b p ih=>
  intro t' r r' h h' e;simp only[Tm.ok,bae]at h;have ha:=hq a h.1.1
  cases t'<;>simp[Tm.pr,Tm.ok]at h' e
  case rcv=>
   obtain⟨rfl,rfl,e⟩:=e;obtain⟨rfl,rfl⟩:=ih _ _ _ h.2 h'.2 e;exact⟨rfl,rfl⟩
  all_goals simp_all
 | tau p ih=>
  intro t' r r' h h' e;simp only[Tm.ok]at h
  cases t'<;>simp[Tm.pr,Tm.ok]at h' e
  case tau=>
   obtain⟨rfl,rfl⟩:=ih _ _ _ h h' e;exact⟨rfl,rfl⟩
  all_goals (have:=hq _ h'.1.1;simp_all)
 | sum p q ihp ihq=>
  intro t' r r' h h' e;simp only[Tm.ok,bae]at h
  cases t'<;>simp[Tm.pr,Tm.ok]at h' e
  case sum=>
   obtain⟨rfl,e⟩:=ihp _ _ _ h.1 h'.1 e;simp at e;obtain⟨rfl,e⟩:=ihq _ _ _ h.2 h'.2 e;simp at e;exact⟨rfl,e⟩
  case par=>
   obtain⟨rfl,e⟩:=ihp _ _ _ h.1 h'.1 e;simp at e
  all_goals (have:=hq _ h'.1.1;simp_all)
 | par p q ihp ihq=>
  intro t' r r' h h' e;simp only[Tm.ok,bae]at h
  cases t'<;>simp[Tm.pr,Tm.ok]at h' e
  case par=>
   obtain⟨rfl,e⟩:=ihp _ _ _ h.1 h'.1 e;simp at e;obtain⟨rfl,e⟩:=ihq _ _ _ h.2 h'.2 e;simp at e;exact⟨rfl,e⟩
  case sum=>
   obtain⟨rfl,e⟩:=ihp _ _ _ h.1 h'.1 e;simp at e
  all_goals (have:=hq _ h'.1.1;simp_all)
 | own x p ih=>
  intro t' r r' h h' e;simp only[Tm.ok,bae]at h
  cases t'<;>simp[Tm.pr,Tm.ok]at h' e
  case own=>
   obtain⟨rfl,e⟩:=e;obtain⟨rfl,rfl⟩:=ih _ _ _ h.2 h'.2 e;exact⟨rfl,rfl⟩
  all_goals (have:=hq _ h'.1.1;simp_all)
 | mat a b p ih=>
  intro t' r r' h h' e;simp only[Tm.ok,bae]at h
  cases t'<;>simp[Tm.pr,Tm.ok]at h' e
  case mat=>
   obtain⟨rfl,rfl,e⟩:=e;obtain⟨rfl,rfl⟩:=ih _ _ _ h.2 h'.2 e;exact⟨rfl,rfl⟩
  all_goals (have:=hq _ h'.1.1;simp_all)
 | rep p ih=>
  intro t' r r' h h' e;simp only[Tm.ok]at h
  cases t'<;>simp[Tm.pr,Tm.ok]at h' e
  case rep=>
   obtain⟨rfl,rfl⟩:=ih _ _ _ h h' e;exact⟨rfl,rfl⟩
  all_goals (have:=hq _ h'.1.1;simp_all)
open Classical in
noncomputable def E (nm:UInt8->Bool)(l:List UInt8):Option (Tm × List UInt8):=
 if h:∃x:Tm × List UInt8,Rd nm l x.1 x.2 then some h.choose else none
theorem aa9 {nm:UInt8->Bool}(hn:Nm nm){l:List UInt8}{t:Tm}{r:List UInt8}:E nm l=some (t,r)↔Rd nm l t r:=by
 unfold E;constructor
 ·intro h
  split at h
  ·rename_i hx
   have:=hx.choose_spec;simp only[Option.some.injEq]at h;rw[h]at this
   exact this
  ·cases h
 ·intro h;have hx:∃x:Tm × List UInt8,Rd nm l x.1 x.2:=⟨(t,r),h⟩;rw[dif_pos hx];have h2:=hx.choose_spec;obtain⟨e1,e2⟩:=acb hn _ _ _ _ h2.2 h.2 (h2.1.symm.trans h.1);rw[show hx.choose=(hx.choose.1,hx.choose.2) from rfl,e1,e2]
theorem adg {nm:UInt8->Bool}(hn:Nm nm){l:List UInt8}(h:∀t r,¬Rd nm l t r):E nm l=none:=by
 cases he:E nm l with
 | none=>rfl
 | some x=>exact absurd ((aa9 hn).1 he) (h _ _)
theorem ame {nm:UInt8->Bool}(hn:Nm nm){l:List UInt8}(h:E nm l=none)(t:Tm)(r:List UInt8):¬Rd nm l t r:=by
 intro hr;rw[(aa9 hn).2 hr]at h;cases h
theorem awY {nm:UInt8->Bool}(hn:Nm nm):E nm []=none:=by
 refine adg hn ?_;rintro t r ⟨h,_⟩
 cases t<;>simp[Tm.pr]at h
theorem ars {nm:UInt8->Bool}(hn:Nm nm)(l:List UInt8):E nm (48::l)=some (.nil,l):=(aa9 hn).2 ⟨rfl,rfl⟩
theorem akH {nm:UInt8->Bool}(hn:Nm nm){l l1:List UInt8}(f:Tm->Tm)(h1:∀p r,Rd nm l1 p r->Rd nm l (f p) r)(h2:∀t r,Rd nm l t r->∃p,t=f p/\Rd nm l1 p r) : E nm l=(E nm l1).map fun x=>(f x.1,x.2):=by
 cases he:E nm l1 with
 | none=>
  refine adg hn fun t r hr=>?_;obtain⟨p,_,hp⟩:=h2 t r hr;exact ame hn he p r hp
 | some x=>exact(aa9 hn).2 (h1 _ _ ((aa9 hn).1 he))
theorem auf {nm:UInt8->Bool}(hn:Nm nm)(l:List UInt8):E nm (42::l)=(E nm l).map fun x=>(.rep x.1,x.2):=by
 refine akH hn Tm.rep (fun p r h=>⟨by simp[Tm.pr,h.1],h.2⟩) ?_;rintro t r ⟨h,o⟩
 cases t<;>simp[Tm.pr,Tm.ok]at h o
 case rep p=>exact⟨p,rfl,h,o⟩
 all_goals (have:=hn _ o.1.1;simp_all)
theorem aug {nm:UInt8->Bool}(hn:Nm nm)(l:List UInt8):E nm (126::46::l)=(E nm l).map fun x=>(.tau x.1,x.2):=by
 refine akH hn Tm.tau (fun p r h=>⟨by simp[Tm.pr,h.1],h.2⟩) ?_;rintro t r ⟨h,o⟩
 cases t<;>simp[Tm.pr,Tm.ok]at h o
 case tau p=>exact⟨p,rfl,h,o⟩
 all_goals (have:=hn _ o.1.1;simp_all)
theorem ajt {nm:UInt8->Bool}(hn:Nm nm){l:List UInt8}(h:∀l',l≠46::l'):E nm (126::l)=none:=by
 refine adg hn ?_;rintro t r ⟨e,o⟩
 cases t<;>simp[Tm.pr,Tm.ok]at e o
 case tau p=>exact h _ e
 all_goals (have:=hn _ o.1.1;simp_all)
theorem auh {nm:UInt8->Bool}(hn:Nm nm){x:UInt8}(hx:nm x=true)(l:List UInt8):E nm (35::x::46::l)=(E nm l).map fun y=>(.own x y.1,y.2):=by
 refine akH hn (Tm.own x) (fun p r h=>⟨by simp[Tm.pr,h.1],by simp[Tm.ok,hx,h.2]⟩) ?_;rintro t r ⟨h,o⟩
 cases t<;>simp[Tm.pr,Tm.ok]at h o
 case own p=>exact⟨p,by rw[h.1],h.2,o.2⟩
 all_goals (have:=hn _ o.1.1;simp_all)
theorem aju {nm:UInt8->Bool}(hn:Nm nm){l:List UInt8}(h:∀x l',l=x::46::l'->nm x=false):E nm (35::l)=none:=by
 refine adg hn ?_;rintro t r ⟨e,o⟩
 cases t<;>simp[Tm.pr,Tm.ok]at e o
 case own x p=>have:=h _ _ e;rw[this]at o;simp at o
 all_goals (have:=hn _ o.1.1;simp_all)
theorem aui {nm:UInt8->Bool}(hn:Nm nm){a b:UInt8}(ha:nm a=true)(hb:nm b=true)(l:List UInt8):E nm (91::a::61::b::93::l)=(E nm l).map fun y=>(.mat a b y.1,y.2):=by
 refine akH hn (Tm.mat a b) (fun p r h=>⟨by simp[Tm.pr,h.1],by simp[Tm.ok,ha,hb,h.2]⟩) ?_;rintro t r ⟨h,o⟩
 cases t<;>simp[Tm.pr,Tm.ok]at h o
 case mat p=>exact⟨p,by rw[h.1,h.2.1],h.2.2,o.2⟩
 all_goals (have:=hn _ o.1.1;simp_all)
theorem ajv {nm:UInt8->Bool}(hn:Nm nm){l:List UInt8}(h:∀a b l',l=a::61::b::93::l'->nm a=true->nm b=false):E nm (91::l)=none:=by
 refine adg hn ?_;rintro t r ⟨e,o⟩
 cases t<;>simp[Tm.pr,Tm.ok]at e o
 case mat a b p=>have:=h _ _ _ e o.1.1;rw[this]at o;simp at o
 all_goals (have:=hn _ o.1.1;simp_all)
theorem auj {nm:UInt8->Bool}(hn:Nm nm){a b:UInt8}(ha:nm a=true)(hb:nm b=true)(l:List UInt8):E nm (a::33::b::46::l)=(E nm l).map fun y=>(.snd a b y.1,y.2):=by
 have hq:=hn a ha;refine akH hn (Tm.snd a b) (fun p r h=>⟨by simp[Tm.pr,h.1],by simp[Tm.ok,ha,hb,h.2]⟩) ?_;rintro t r ⟨h,o⟩
 cases t<;>simp[Tm.pr,Tm.ok]at h o
 case snd p=>exact⟨p,by rw[h.1,h.2.1],h.2.2,o.2⟩
 all_goals simp_all
theorem auk {nm:UInt8->Bool}(hn:Nm nm){a b:UInt8}(ha:nm a=true)(hb:nm b=true)(l:List UInt8):E nm (a::63::b::46::l)=(E nm l).map fun y=>(.rcv a b y.1,y.2):=by
 have hq:=hn a ha;refine akH hn (Tm.rcv a b) (fun p r h=>⟨by simp[Tm.pr,h.1],by simp[Tm.ok,ha,hb,h.2]⟩) ?_;rintro t r ⟨h,o⟩
 cases t<;>simp[Tm.pr,Tm.ok]at h o
 case rcv p=>exact⟨p,by rw[h.1,h.2.1],h.2.2,o.2⟩
 all_goals simp_all
theorem amf {nm:UInt8->Bool}(hn:Nm nm){c:UInt8}{l:List UInt8}(h0:c≠48)(h1:c≠42)(h2:c≠126)(h3:c≠35)(h4:c≠91)(h5:c≠40) (h6:∀m x l',l=m::x::46::l'->m=33\/m=63->nm c=true->nm x=false):E nm (c::l)=none:=by
 refine adg hn ?_;rintro t r ⟨e,o⟩
 cases t<;>simp[Tm.pr,Tm.ok]at e o
 case snd a b p=>have:=h6 _ _ _ e.2 (.inl rfl) (by rw[e.1];exact o.1.1);rw[this]at o;simp at o
 case rcv a b p=>have:=h6 _ _ _ e.2 (.inr rfl) (by rw[e.1];exact o.1.1);rw[this]at o;simp at o
 all_goals simp_all
theorem af3 {nm:UInt8->Bool}(hn:Nm nm){l:List UInt8}(h:E nm l=none):E nm (40::l)=none:=by
 refine adg hn ?_;rintro t r ⟨e,o⟩
 cases t<;>simp[Tm.pr,Tm.ok]at e o
 case sum p q=>exact ame hn h p _ ⟨e,o.1⟩
 case par p q=>exact ame hn h p _ ⟨e,o.1⟩
 all_goals (have:=hn _ o.1.1;simp_all)
theorem af4 {nm:UInt8->Bool}(hn:Nm nm){l r:List UInt8}{p:Tm}(h:E nm l=some (p,r))(h2:∀r',r≠43::r'/\r≠38::r'):E nm (40::l)=none:=by
 have hp:=(aa9 hn).1 h;refine adg hn ?_;rintro t s ⟨e,o⟩
 cases t<;>simp[Tm.pr,Tm.ok]at e o
 case sum p' q=>exact(h2 _).1 (acb hn _ _ _ _ hp.2 o.1 (hp.1.symm.trans e)).2
 case par p' q=>exact(h2 _).2 (acb hn _ _ _ _ hp.2 o.1 (hp.1.symm.trans e)).2
 all_goals (have:=hn _ o.1.1;simp_all)
theorem ad0 {nm:UInt8->Bool}(hn:Nm nm){l r:List UInt8}{p:Tm}{m:UInt8}(h:E nm l=some (p,m::r))(h2:E nm r=none):E nm (40::l)=none:=by
 have hp:=(aa9 hn).1 h;refine adg hn ?_;rintro t s ⟨e,o⟩
 cases t<;>simp[Tm.pr,Tm.ok]at e o
 case sum p' q=>
  have:=(acb hn _ _ _ _ hp.2 o.1 (hp.1.symm.trans e)).2;simp at this
  exact ame hn h2 q _ ⟨this.2,o.2⟩
 case par p' q=>
  have:=(acb hn _ _ _ _ hp.2 o.1 (hp.1.symm.trans e)).2;simp at this
  exact ame hn h2 q _ ⟨this.2,o.2⟩
 all_goals (have:=hn _ o.1.1;simp_all)
theorem ad1 {nm:UInt8->Bool}(hn:Nm nm){l r r2:List UInt8}{p q:Tm}{m:UInt8}(h:E nm l=some (p,m::r))(h2:E nm r=some (q,r2))(h3:∀r',r2≠41::r'):E nm (40::l)=none:=by
 have hp:=(aa9 hn).1 h;have hq:=(aa9 hn).1 h2;refine adg hn ?_;rintro t s ⟨e,o⟩
 cases t<;>simp[Tm.pr,Tm.ok]at e o
 case sum p' q'=>
  have:=(acb hn _ _ _ _ hp.2 o.1 (hp.1.symm.trans e)).2;simp at this
  exact h3 _ (acb hn _ _ _ _ hq.2 o.2 (hq.1.symm.trans this.2)).2
 case par p' q'=>
  have:=(acb hn _ _ _ _ hp.2 o.1 (hp.1.symm.trans e)).2;simp at this
  exact h3 _ (acb hn _ _ _ _ hq.2 o.2 (hq.1.symm.trans this.2)).2
 all_goals (have:=hn _ o.1.1;simp_all)
theorem aul {nm:UInt8->Bool}(hn:Nm nm){l r r2:List UInt8}{p q:Tm}(h:E nm l=some (p,43::r))(h2:E nm r=some (q,41::r2)):E nm (40::l)=some (.sum p q,r2):=by
 have hp:=(aa9 hn).1 h;have hq:=(aa9 hn).1 h2;exact(aa9 hn).2 ⟨by simp[Tm.pr,hp.1,hq.1],by simp[Tm.ok,hp.2,hq.2]⟩
theorem aum {nm:UInt8->Bool}(hn:Nm nm){l r r2:List UInt8}{p q:Tm}(h:E nm l=some (p,38::r))(h2:E nm r=some (q,41::r2)):E nm (40::l)=some (.par p q,r2):=by
 have hp:=(aa9 hn).1 h;have hq:=(aa9 hn).1 h2;exact(aa9 hn).2 ⟨by simp[Tm.pr,hp.1,hq.1],by simp[Tm.ok,hp.2,hq.2]⟩
theorem pr_pos (t:Tm):1<=t.pr.length:=by cases t<;>simp[Tm.pr]
theorem aaq (t:Tm):1<=t.size:=by cases t<;>simp[Tm.size]
theorem aaO (t:Tm):t.size<=t.pr.length:=by
 induction t<;>simp[Tm.pr,Tm.size]<;>omega
theorem axa {nm:UInt8->Bool}(hn:Nm nm){l r:List UInt8}{t:Tm}(h:E nm l=some (t,r)):r.length<l.length/\l.drop (l.length - r.length)=r:=by
 have hp:=(aa9 hn).1 h;have:=pr_pos t;obtain⟨rfl,_⟩:=hp;constructor
 ·simp;omega
 ·rw[lla,Nat.add_sub_cancel,List.drop_left]
noncomputable def aa5 (nm:UInt8->Bool)(s:ByteArray)(at_:Nat):Int:=match E nm (s.data.toList.drop at_) with
 | some (_,r)=>(s.size:Int) - r.length
 | none=>-1
theorem aav (s:ByteArray)(k:Nat)(h:k<s.size):s.data.toList.drop k=s[k]::s.data.toList.drop (k+1):=by
 rw[List.drop_eq_getElem_cons (by simpa using h)];rfl
section
variable {nm:UInt8->Bool} (hn:Nm nm) {s:ByteArray} {a:Nat}
theorem endOf_cases (nm:UInt8->Bool)(hn:Nm nm)(s:ByteArray)(a:Nat):(aa5 nm s a=-1/\E nm (s.data.toList.drop a)=none)\/∃t m,a<m/\m<=s.size/\aa5 nm s a=(m:Int)/\E nm (s.data.toList.drop a)=some (t,s.data.toList.drop m):=by
 unfold aa5
 cases he:E nm (s.data.toList.drop a) with
 | none=>exact .inl ⟨rfl,rfl⟩
 | some x=>
  obtain⟨t,r⟩:=x;obtain⟨h1,h2⟩:=axa hn he;have h3:(s.data.toList.drop a).length=s.size - a:=by simp
  have h4:a<=s.size:=by
   rcases Nat.lt_or_ge s.size a with h|h
   ·omega
   ·exact h
  refine .inr ⟨t,s.size - r.length,by omega,by omega,by simp only[];omega,?_⟩;rw[List.drop_drop]at h2;rw[show s.size - r.length=a+((s.data.toList.drop a).length - r.length) by omega,h2]
include hn
theorem apx (h:s.size<=a):aa5 nm s a=-1:=by
 rw[aa5,List.drop_of_length_le (by simpa using h),awY hn]
theorem akI (hlt:a<s.size)(h:s[a]=48):aa5 nm s a=(a:Int)+1:=by
 rw[aa5,aav s a hlt,h,ars hn];simp;omega
omit hn in
theorem acm {b:Nat}{f:Tm->Tm}(h:E nm (s.data.toList.drop a)=(E nm (s.data.toList.drop b)).map fun x=>(f x.1,x.2)):aa5 nm s b=aa5 nm s a:=by
 unfold aa5;rw[h];cases E nm (s.data.toList.drop b)<;>rfl
omit hn in
theorem abi (h:E nm (s.data.toList.drop a)=none):aa5 nm s a=-1:=by
 unfold aa5;rw[h]
theorem amg (hlt:a<s.size)(h:s[a]=42):aa5 nm s (a+1)=aa5 nm s a:=
 acm (by rw[aav s a hlt,h,auf hn])
theorem amh (hlt:a+1<s.size)(h:s[a]=126)(h1:s[a+1]=46):aa5 nm s (a+2)=aa5 nm s a:=
 acm (by rw[aav s a (by omega),aav s (a+1) hlt,h,h1,aug hn])
theorem ahH (hlt:a<s.size)(h:s[a]=126)(h1:∀_:a+1<s.size,s[a+1]=46->False):aa5 nm s a=-1:=by
 refine abi ?_;rw[aav s a hlt,h];refine ajt hn fun l' e=>?_
 have hb:a+1<s.size:=by
  rcases Nat.lt_or_ge (a+1) s.size with h|h
  ·exact h
  ·rw[List.drop_of_length_le (by simpa using h)]at e;cases e
 rw[aav s (a+1) hb]at e;simp only[List.cons.injEq]at e;exact h1 hb e.1
theorem ami (hlt:a+2<s.size)(h:s[a]=35)(h1:nm s[a+1]=true)(h2:s[a+2]=46):aa5 nm s (a+3)=aa5 nm s a:=
 acm (by rw[aav s a (by omega),aav s (a+1) (by omega),aav s (a+2) hlt,h,h2,auh hn h1])
omit hn in
theorem aar {s:ByteArray}{a:Nat}{c:UInt8}{l:List UInt8}(e:s.data.toList.drop a=c::l):∃h:a<s.size,s[a]=c/\s.data.toList.drop (a+1)=l:=by
 have hb:a<s.size:=by
  rcases Nat.lt_or_ge a s.size with h|h
  ·exact h
  ·rw[List.drop_of_length_le (by simpa using h)]at e;cases e
 rw[aav s a hb]at e;simp only[List.cons.injEq]at e;exact⟨hb,e⟩
theorem aeu (hlt:a<s.size)(h:s[a]=35)(h1:∀_:a+2<s.size,nm s[a+1]=true->s[a+2]=46->False):aa5 nm s a=-1:=by
 refine abi ?_;rw[aav s a hlt,h];refine aju hn fun x l' e=>?_;obtain⟨b1,e1,e⟩:=aar e;obtain⟨b2,e2,e⟩:=aar e
 cases hx:nm x with
 | false=>rfl
 | true=>exact(h1 b2 (by rw[e1];exact hx) e2).elim
theorem amj (hlt:a+4<s.size)(h:s[a]=91)(h1:nm s[a+1]=true)(h2:s[a+2]=61)(h3:nm s[a+3]=true)(h4:s[a+4]=93):aa5 nm s (a+5)=aa5 nm s a:=
 acm (by rw[aav s a (by omega),aav s (a+1) (by omega),aav s (a+2) (by omega),aav s (a+3) (by omega),aav s (a+4) (by omega),h,h2,h4,aui hn h1 h3])
theorem aev (hlt:a<s.size)(h:s[a]=91)(h1:∀_:a+4<s.size,nm s[a+1]=true->s[a+2]=61->nm s[a+3]=true->s[a+4]=93->False):aa5 nm s a=-1:=by
 refine abi ?_;rw[aav s a hlt,h];refine ajv hn fun x y l' e hx=>?_;obtain⟨b1,e1,e⟩:=aar e;obtain⟨b2,e2,e⟩:=aar e;obtain⟨b3,e3,e⟩:=aar e;obtain⟨b4,e4,e⟩:=aar e
 cases hy:nm y with
 | false=>rfl
 | true=>exact(h1 b4 (by rw[e1];exact hx) e2 (by rw[e3];exact hy) e4).elim
theorem amk (hlt:a+3<s.size)(h:nm s[a]=true)(h1:s[a+1]=33)(h2:nm s[a+2]=true)(h3:s[a+3]=46):aa5 nm s (a+4)=aa5 nm s a:=
 acm (by rw[aav s a (by omega),aav s (a+1) (by omega),aav s (a+2) (by omega),aav s (a+3) (by omega),h1,h3,auj hn h h2])
theorem aml (hlt:a+3<s.size)(h:nm s[a]=true)(h1:s[a+1]=63)(h2:nm s[a+2]=true)(h3:s[a+3]=46):aa5 nm s (a+4)=aa5 nm s a:=
 acm (by rw[aav s a (by omega),aav s (a+1) (by omega),aav s (a+2) (by omega),aav s (a+3) (by omega),h1,h3,auk hn h h2])
theorem adm (hlt:a<s.size)(h0:s[a]≠48)(h1:s[a]≠42)(h2:s[a]≠126)(h3:s[a]≠35)(h4:s[a]≠91)(h5:s[a]≠40) (h6:∀_:a+3<s.size,nm s[a]=true->(s[a+1]=33\/s[a+1]=63)->nm s[a+2]=true->s[a+3]=46->False):aa5 nm s a=-1:=by
 refine abi ?_;rw[aav s a hlt];refine amf hn h0 h1 h2 h3 h4 h5 fun m x l' e hm hc=>?_;obtain⟨b1,e1,e⟩:=aar e;obtain⟨b2,e2,e⟩:=aar e;obtain⟨b3,e3,e⟩:=aar e
 cases hx:nm x with
 | false=>rfl
 | true=>exact(h6 b3 hc (by rw[e1];exact hm) (by rw[e2];exact hx) e3).elim
theorem afL (hlt:a<s.size)(h:s[a]=40)(h1:E nm (s.data.toList.drop (a+1))=none):aa5 nm s a=-1:=by
 refine abi ?_;rw[aav s a hlt,h,af3 hn h1]
theorem adh {m:Nat}{t:Tm}(hlt:a<s.size)(h:s[a]=40)(h1:E nm (s.data.toList.drop (a+1))=some (t,s.data.toList.drop m))(h2:∀_:m<s.size,s[m]≠43/\s[m]≠38):aa5 nm s a=-1:=by
 refine abi ?_;rw[aav s a hlt,h,af4 hn h1];intro r';constructor
 ·intro e;obtain⟨b1,e1,e⟩:=aar e;exact(h2 b1).1 e1
 ·intro e;obtain⟨b1,e1,e⟩:=aar e;exact(h2 b1).2 e1
theorem afM {m:Nat}{t:Tm}(hlt:a<s.size)(hm:m<s.size)(h:s[a]=40)(h1:E nm (s.data.toList.drop (a+1))=some (t,s.data.toList.drop m))(h2:E nm (s.data.toList.drop (m+1))=none):aa5 nm s a=-1:=by
 refine abi ?_;rw[aav s m hm]at h1;rw[aav s a hlt,h,ad0 hn h1 h2]
theorem adi {m n:Nat}{t q:Tm}(hlt:a<s.size)(hm:m<s.size)(h:s[a]=40)(h1:E nm (s.data.toList.drop (a+1))=some (t,s.data.toList.drop m))(h2:E nm (s.data.toList.drop (m+1))=some (q,s.data.toList.drop n))(h3:∀_:n<s.size,s[n]≠41):aa5 nm s a=-1:=by
 refine abi ?_;rw[aav s m hm]at h1;rw[aav s a hlt,h,ad1 hn h1 h2];intro r' e;obtain⟨b1,e1,e⟩:=aar e;exact h3 b1 e1
theorem aun {m n:Nat}{t q:Tm}(hlt:a<s.size)(hm:m<s.size)(hn':n<s.size)(h:s[a]=40)(h1:E nm (s.data.toList.drop (a+1))=some (t,s.data.toList.drop m))(h2:E nm (s.data.toList.drop (m+1))=some (q,s.data.toList.drop n))(h3:s[m]=43\/s[m]=38)(h4:s[n]=41) : E nm (s.data.toList.drop a)=some (if s[m]=43 then .sum t q else .par t q,s.data.toList.drop (n+1)):=by
 rw[aav s m hm]at h1;rw[aav s n hn',h4]at h2;rw[aav s a hlt,h];rcases h3 with h3|h3
 ·rw[h3]at h1 ⊢;rw[aul hn h1 h2,if_pos rfl]
 ·rw[h3]at h1 ⊢;rw[aum hn h1 h2,if_neg (by decide)]
theorem akJ {m n:Nat}{t q:Tm}(hlt:a<s.size)(hm:m<s.size)(hn':n<s.size)(h:s[a]=40)(h1:E nm (s.data.toList.drop (a+1))=some (t,s.data.toList.drop m))(h2:E nm (s.data.toList.drop (m+1))=some (q,s.data.toList.drop n))(h3:s[m]=43\/s[m]=38)(h4:s[n]=41):aa5 nm s a=(n:Int)+1:=by
 unfold aa5;rw[aun hn hlt hm hn' h h1 h2 h3 h4];simp;omega
end
open Go.RowKit
structure Only (b:Nat) (w w':World):Prop where
 os:w'.os=w.os
 tape:w'.tape=w.tape
 output:w'.output=w.output
 size:w.heap.size<=w'.heap.size
 block:∀k,k<w.heap.size->k≠b->w'.heap[k]?=w.heap[k]?
theorem Only.refl (b:Nat)(w:World):Only b w w:=⟨rfl,rfl,rfl,nl _,fun _ _ _=>rfl⟩
theorem Only.trans {b:Nat}{u v w:World}(h:Only b u v)(k:Only b v w):Only b u w:=
 ⟨k.os.trans h.os,k.tape.trans h.tape,k.output.trans h.output,Nat.le_trans h.size k.size,fun i hi hb=>(k.block i (Nat.lt_of_lt_of_le hi h.size) hb).trans (h.block i hi hb)⟩
theorem Only.drewN {b:Nat}{u v:World}(h:Only b u v)(n:Nat):Only b u (v.drewN n):=h.trans ⟨rfl,rfl,rfl,nl _,fun _ _ _=>rfl⟩
theorem Only.drew {b:Nat}{u v:World}(h:Only b u v):Only b u v.drew:=h.trans ⟨rfl,rfl,rfl,nl _,fun _ _ _=>rfl⟩
theorem Only.setCell {b:Nat}{u v:World}(h:Only b u v)(o:Nat)(sp)(x:Value):Only b u (v.setCell ⟨b,o,sp⟩ x):=
 h.trans ⟨rfl,rfl,rfl,by simp[World.setCell],fun k _ hb=>Below.heap_setCell _ _ _ _ hb⟩
theorem Only.alloc {b:Nat}{u v:World}(h:Only b u v)(o:Obj):Only b u (v.alloc o):=
 h.trans ⟨rfl,rfl,rfl,by simp,fun k hk _=>Below.heap_alloc _ _ _ hk⟩
theorem Only.below {b:Nat}{u v w:World}(h:Only b u v)(k:Zb v w):Only b u w:=
 h.trans ⟨k.os,k.tape,k.output,k.size,fun i hi _=>k.block i hi⟩
theorem Below.only {B b:Nat}{u v w:World}(h:Below B u v)(k:Only b v w)(hb:B<=b)(hB:B<=v.heap.size):Below B u w:=
 h.trans ⟨k.os,k.tape,k.output,k.size,fun i hi=>k.block i (by omega) (by omega)⟩
theorem aab {B:Nat}{u v w:World}(h:Below B u v)(k:Zb v w)(hB:B<=v.heap.size):Below B u w:=h.trans (k.mono hB)
theorem aaj {B:Nat}{u v:World}(h:Below B u v)(n:Nat):Below B u (v.drewN n):=h.trans ⟨rfl,rfl,rfl,nl _,fun _ _=>rfl⟩
def RdAt (w:World)(b:Nat)(s:ByteArray)(a:Nat):Prop:=∃T,w.heap[b]?=some (.cells #[.string s,.int .i64 (a:Int)] T (0,0))
theorem RdAt.c0 {w:World}{b:Nat}{s:ByteArray}{a:Nat}(h:RdAt w b s a):w.cell? ⟨b,0,none⟩=some (.string s):=by obtain⟨T,h⟩:=h;simp[World.cell?,h]
theorem RdAt.c1 {w:World}{b:Nat}{s:ByteArray}{a:Nat}(h:RdAt w b s a):w.cell? ⟨b,1,none⟩=some (.int .i64 (a:Int)):=by obtain⟨T,h⟩:=h;simp[World.cell?,h]
theorem RdAt.f1 {w:World}{b:Nat}{s:ByteArray}{a:Nat}(h:RdAt w b s a):w.frozen? ⟨b,1,none⟩=false:=by obtain⟨T,h⟩:=h;simp[World.frozen?,h]
theorem RdAt.lt {w:World}{b:Nat}{s:ByteArray}{a:Nat}(h:RdAt w b s a):b<w.heap.size:=by obtain⟨T,h⟩:=h;exact lt_of_block h
theorem RdAt.drewN {w:World}{b:Nat}{s:ByteArray}{a:Nat}(h:RdAt w b s a)(n:Nat):RdAt (w.drewN n) b s a:=h
theorem RdAt.set {w:World}{b:Nat}{s:ByteArray}{a:Nat}(h:RdAt w b s a)(c:Nat):RdAt (w.setCell ⟨b,1,none⟩ (.int .i64 (c:Int))) b s c:=by
 obtain⟨T,h⟩:=h;have hlt:=lt_of_block h;have h':w.heap[b]=.cells #[.string s,.int .i64 (a:Int)] T (0,0):=by simpa [Array.getElem?_eq_getElem hlt] using h
 refine⟨T,?_⟩;show (w.heap.modify b _)[b]?=_;rw[Array.getElem?_eq_getElem (by simpa using hlt),Array.getElem_modify_self,h'];rfl
theorem RdAt.below {w w':World}{b:Nat}{s:ByteArray}{a:Nat}(h:RdAt w b s a)(k:Zb w w'):RdAt w' b s a:=by
 have hlt:=h.lt;obtain⟨T,h⟩:=h;exact⟨T,(k.block b hlt).trans h⟩
theorem RdAt.alloc {w:World}{b:Nat}{s:ByteArray}{a:Nat}(h:RdAt w b s a)(o:Obj):RdAt (w.alloc o) b s a:=h.below ((Below.refl _ _).alloc (nl _) o)
def ub (c:UInt8):Value:=.int .u8 (c.toNat:Int)
def aaB:Tm->TypeId
 | .nil=>90
 | .snd _ _ _=>108
 | .rcv _ _ _=>111
 | .tau _=>146
 | .sum _ _=>62
 | .par _ _=>55
 | .own _ _=>61
 | .mat _ _ _=>150
 | .rep _=>147
def pay:Tm->Value
 | .nil=>.agg #[]
 | .snd a b p=>.agg #[.int .u8 (a.toNat:Int),.int .u8 (b.toNat:Int),.iface (aaB p) (pay p)]
 | .rcv a x p=>.agg #[.int .u8 (a.toNat:Int),.int .u8 (x.toNat:Int),.iface (aaB p) (pay p)]
 | .tau p=>.agg #[.iface (aaB p) (pay p)]
 | .sum p q=>.agg #[.iface (aaB p) (pay p),.iface (aaB q) (pay q)]
 | .par p q=>.agg #[.iface (aaB p) (pay p),.iface (aaB q) (pay q)]
 | .own x p=>.agg #[.int .u8 (x.toNat:Int),.iface (aaB p) (pay p)]
 | .mat a b p=>.agg #[.int .u8 (a.toNat:Int),.int .u8 (b.toNat:Int),.iface (aaB p) (pay p)]
 | .rep p=>.agg #[.iface (aaB p) (pay p)]
def enc (t:Tm):Value:=.iface (aaB t) (pay t)
inductive Hd where
 | tau|rep
 | own (x:UInt8)
 | mat (a b:UInt8)
 | snd (a b:UInt8)
 | rcv (a b:UInt8)
def Hd.put:Hd->Tm->Tm
 | .tau,p=>.tau p
 | .rep,p=>.rep p
 | .own x,p=>.own x p
 | .mat a b,p=>.mat a b p
 | .snd a b,p=>.snd a b p
 | .rcv a b,p=>.rcv a b p
def Hd.enc:Hd->Value
 | .tau=>.iface 146 (.agg #[.nilIface])
 | .rep=>.iface 147 (.agg #[.nilIface])
 | .own x=>.iface 61 (.agg #[.int .u8 (x.toNat:Int),.nilIface])
 | .mat a b=>.iface 150 (.agg #[.int .u8 (a.toNat:Int),.int .u8 (b.toNat:Int),.nilIface])
 | .snd a b=>.iface 108 (.agg #[.int .u8 (a.toNat:Int),.int .u8 (b.toNat:Int),.nilIface])
 | .rcv a b=>.iface 111 (.agg #[.int .u8 (a.toNat:Int),.int .u8 (b.toNat:Int),.nilIface])
def one (k:UInt8):ByteArray:=⟨#[k]⟩
def addL:List UInt8->UInt8->List UInt8
 | [],c=>[c]
 | x::l,c=>if x<c then x::addL l c else if x=c then x::l else c::x::l
def abx (l:List UInt8)(c:UInt8):List UInt8:=l.filter fun x=>x != c
def bothL (l m:List UInt8):List UInt8:=m.foldl addL l
def Srt (l:List UInt8):Prop:=l.Pairwise (·<·)
theorem abO (a b:UInt8):a<b↔a.toNat<b.toNat:=UInt8.lt_iff_toNat_lt
theorem u8_ext {a b:UInt8}(h:a.toNat=b.toNat):a=b:=UInt8.toNat_inj.1 h
theorem mem_addL (l:List UInt8)(c x:UInt8):x∈addL l c↔x∈l\/x=c:=by
 induction l with
 | nil=>simp[addL]
 | cons y l ih=>
  unfold addL
  split
  ·simp[ih,or_assoc]
  ·split
   ·rename_i h;subst h;simp;intro h;exact .inl h
   ·simp;constructor
    ·rintro (h|h|h)
     ·exact .inr h
     ·exact .inl (.inl h)
     ·exact .inl (.inr h)
    ·rintro ((h|h)|h)
     ·exact .inr (.inl h)
     ·exact .inr (.inr h)
     ·exact .inl h
theorem srt_addL {l:List UInt8}(h:Srt l)(c:UInt8):Srt (addL l c):=by
 induction l with
 | nil=>simp[addL,Srt]
 | cons y l ih=>
  have h':=h;unfold Srt at h;rw[List.pairwise_cons]at h;unfold addL
  split
  ·rename_i hy
   unfold Srt;rw[List.pairwise_cons];refine⟨fun a ha=>?_,ih h.2⟩;rcases (mem_addL _ _ _).1 ha with ha|rfl
   ·exact h.1 a ha
   ·exact hy
  ·split
   ·exact h'
   ·rename_i h1 h2
    unfold Srt;rw[List.pairwise_cons];refine⟨fun a ha=>?_,h'⟩
    have hc:c<y:=by
     rw[abO]at h1 ⊢;have:y.toNat≠c.toNat:=fun e=>h2 (u8_ext e);omega
    rcases List.mem_cons.1 ha with rfl|ha
    ·exact hc
    ·have:=h.1 a ha;rw[abO]at this hc ⊢;omega
theorem mem_bothL (m:List UInt8):∀(l:List UInt8) (x:UInt8),x∈bothL l m↔x∈l\/x∈m:=by
 induction m with
 | nil=>intro l x;simp[bothL]
 | cons y m ih=>intro l x;show x∈bothL (addL l y) m↔_;rw[ih,mem_addL];simp[or_assoc]
theorem aam (m:List UInt8):∀{l:List UInt8},Srt l->Srt (bothL l m):=by
 induction m with
 | nil=>intro l h;exact h
 | cons y m ih=>intro l h;exact ih (srt_addL h y)
theorem abG (l:List UInt8)(c x:UInt8):x∈abx l c↔x∈l/\x≠c:=by simp[abx]
theorem ab3 {l:List UInt8}(h:Srt l)(c:UInt8):Srt (abx l c):=List.Pairwise.filter _ h
theorem srt_nil:Srt []:=List.Pairwise.nil
theorem acP:∀{l m:List UInt8},Srt l->Srt m->(∀x,x∈l↔x∈m)->l=m:=by
 intro l
 induction l with
 | nil=>
  intro m _ _ h
  cases m with
  | nil=>rfl
  | cons y m=>have:=(h y).2 (by simp);simp at this
 | cons x l ih=>
  intro m hl hm h
  cases m with
  | nil=>have:=(h x).1 (by simp);simp at this
  | cons y m=>
   unfold Srt at hl hm;rw[List.pairwise_cons]at hl hm
   have hxy:x=y:=by
    rcases List.mem_cons.1 ((h x).1 (by simp)) with e|hx
    ·exact e
    ·rcases List.mem_cons.1 ((h y).2 (by simp)) with e|hy
     ·exact e.symm
     ·have h1:=hm.1 x hx;have h2:=hl.1 y hy;rw[abO]at h1 h2;omega
   subst hxy;rw[ih hl.2 hm.2 fun z=>?_];constructor
   ·intro hz;rcases List.mem_cons.1 ((h z).1 (by simp[hz])) with rfl|hz'
    ·have:=hl.1 z hz;rw[abO]at this;omega
    ·exact hz'
   ·intro hz;rcases List.mem_cons.1 ((h z).2 (by simp[hz])) with rfl|hz'
    ·have:=hm.1 z hz;rw[abO]at this;omega
    ·exact hz'
theorem srt_lenA:∀(l:List UInt8) (b:Nat),Srt l->(∀x∈l,b<=x.toNat)->l.length+b<=256\/l=[]:=by
 intro l
 induction l with
 | nil=>intro _ _ _;exact .inr rfl
 | cons x l ih=>
  intro b h hb;unfold Srt at h;rw[List.pairwise_cons]at h;have h1:=x.toNat_lt;have h2:=hb x (by simp)
  left
  rcases ih (x.toNat+1) h.2 (fun y hy=>by have:=h.1 y hy;rw[abO]at this;omega) with h3|rfl
  ·simp;omega
  ·simp;omega
theorem abm {l:List UInt8}(h:Srt l):l.length<=256:=by
 rcases srt_lenA l 0 h (fun _ _=>Nat.zero_le _) with h|rfl
 ·omega
 ·simp
theorem amm (c:UInt8):∀(l:List UInt8) (k:Nat) (_:k<=l.length) (_:∀i (hi:i<l.length),i<k->l[i]<c) (_:∀hk:k<l.length,¬l[k]<c), addL l c=if h:k<l.length then (if l[k]=c then l else l.take k++c::l.drop k) else l++[c]:=by
 intro l
 induction l with
 | nil=>intro k hk _ _;simp[addL]
 | cons x l ih=>
  intro k hk h1 h2
  cases k with
  | zero=>
   have:=h2 (by simp);simp only[List.getElem_cons_zero]at this
   unfold addL;rw[if_neg this];simp
  | succ k=>
   have hx:=h1 0 (by simp) (by omega);simp only[List.getElem_cons_zero]at hx;unfold addL;rw[if_pos hx,ih k (by simpa using hk) (fun i hi hik=>by have:=h1 (i+1) (by simpa using hi) (by omega);rwa[List.getElem_cons_succ]at this) (fun hk'=>by have:=h2 (by simpa using hk');rwa[List.getElem_cons_succ]at this)]
   by_cases hlt:k<l.length
   ·rw[dif_pos hlt,dif_pos (by simpa using hlt)];simp only[List.getElem_cons_succ,List.take_succ_cons,List.drop_succ_cons,List.cons_append]
    split<;>rfl
   ·rw[dif_neg hlt,dif_neg (by simpa using hlt)];rfl
def Lets (l:List UInt8):Prop:=∀c∈l,97<=c.toNat/\c.toNat<=122
theorem nmL_iff (c:UInt8):nmL c=true↔97<=c.toNat/\c.toNat<=122:=by simp[nmL]
def setN:List UInt8->Nat
 | []=>0
 | c::l=>setN l ||| 2 ^ (c.toNat - 97)
theorem aaF (l:List UInt8)(h:Lets l)(i:Nat):(setN l).testBit i=true↔∃c∈l,c.toNat=97+i:=by
 induction l with
 | nil=>simp[setN]
 | cons c l ih=>
  have hc:=h c (by simp);rw[setN,Nat.testBit_or,Nat.testBit_two_pow,Bool.or_eq_true,ih (fun x hx=>h x (by simp[hx])),decide_eq_true_iff];constructor
  ·rintro (⟨d,hd,e⟩|e)
   ·exact⟨d,by simp[hd],e⟩
   ·exact⟨c,by simp,by omega⟩
  ·rintro⟨d,hd,e⟩;rcases List.mem_cons.1 hd with rfl|hd
   ·exact .inr (by omega)
   ·exact .inl ⟨d,hd,e⟩
theorem asa (l:List UInt8)(h:Lets l):setN l<2 ^ 26:=by
 induction l with
 | nil=>simp[setN]
 | cons c l ih=>
  have hc:=h c (by simp);exact Nat.or_lt_two_pow (ih fun x hx=>h x (by simp[hx])) (Nat.pow_lt_pow_right (by decide) (by omega))
theorem setN_lt32 (l:List UInt8)(h:Lets l):setN l<2 ^ 32:=Nat.lt_of_lt_of_le (asa l h) (by decide)
theorem lets_bothL {l m:List UInt8}(h:Lets l)(k:Lets m):Lets (bothL l m):=fun c hc=>by
 rcases (mem_bothL _ _ _).1 hc with hc|hc
 ·exact h c hc
 ·exact k c hc
theorem lets_addL {l:List UInt8}{c:UInt8}(h:Lets l)(k:97<=c.toNat/\c.toNat<=122):Lets (addL l c):=fun x hx=>by
 rcases (mem_addL _ _ _).1 hx with hx|rfl
 ·exact h x hx
 ·exact k
theorem lets_lessL {l:List UInt8}(h:Lets l)(c:UInt8):Lets (abx l c):=fun x hx=>h x ((abG _ _ _).1 hx).1
theorem lets_nil0:Lets []:=fun _ h=>by simp at h
theorem adx {a b:Nat}(h:∀i,a.testBit i=true↔b.testBit i=true):a=b:=
 Nat.eq_of_testBit_eq fun i=>Bool.eq_iff_iff.2 (h i)
theorem abH {l:List UInt8}{c:UInt8}(h:Lets l)(k:97<=c.toNat/\c.toNat<=122):setN (addL l c)=setN l ||| 2 ^ (c.toNat - 97):=by
 refine adx fun i=>?_;rw[aaF _ (lets_addL h k),Nat.testBit_or,Nat.testBit_two_pow,Bool.or_eq_true,aaF _ h,decide_eq_true_iff];constructor
 ·rintro⟨d,hd,e⟩;rcases (mem_addL _ _ _).1 hd with hd|rfl
  ·exact .inl ⟨d,hd,e⟩
  ·exact .inr (by omega)
 ·rintro (⟨d,hd,e⟩|e)
  ·exact⟨d,(mem_addL _ _ _).2 (.inl hd),e⟩
  ·exact⟨c,(mem_addL _ _ _).2 (.inr rfl),by omega⟩
theorem af5 {l m:List UInt8}(h:Lets l)(k:Lets m):setN (bothL l m)=setN l ||| setN m:=by
 refine adx fun i=>?_;rw[aaF _ (lets_bothL h k),Nat.testBit_or,Bool.or_eq_true,aaF _ h,aaF _ k];constructor
 ·rintro⟨d,hd,e⟩;rcases (mem_bothL _ _ _).1 hd with hd|hd
  ·exact .inl ⟨d,hd,e⟩
  ·exact .inr ⟨d,hd,e⟩
 ·rintro (⟨d,hd,e⟩|⟨d,hd,e⟩)
  ·exact⟨d,(mem_bothL _ _ _).2 (.inl hd),e⟩
  ·exact⟨d,(mem_bothL _ _ _).2 (.inr hd),e⟩
theorem af6 {l:List UInt8}{c:UInt8}(h:Lets l)(k:97<=c.toNat/\c.toNat<=122):setN (abx l c)=setN l &&& (4294967295 - 2 ^ (c.toNat - 97)):=by
 have hp:2 ^ (c.toNat - 97)<2 ^ 32:=Nat.pow_lt_pow_right (by decide) (by omega);refine adx fun i=>?_;rw[aaF _ (lets_lessL h c),Nat.testBit_and,bae,aaF _ h];rw[show (4294967295 - 2 ^ (c.toNat - 97):Nat)=2 ^ 32 - (2 ^ (c.toNat - 97)+1) by omega,Nat.testBit_two_pow_sub_succ hp,Nat.testBit_two_pow];simp only[bae,decide_eq_true_eq,Bool.not_eq_true',decide_eq_false_iff_not];constructor
 ·rintro⟨d,hd,e⟩;obtain⟨h1,h2⟩:=(abG _ _ _).1 hd;have h3:=h d h1;have:d.toNat≠c.toNat:=fun e=>h2 (u8_ext e);exact⟨⟨d,h1,e⟩,by omega,by omega⟩
 ·rintro⟨⟨d,hd,e⟩,h1,h2⟩;exact⟨d,(abG _ _ _).2 ⟨hd,fun e'=>h2 (by rw[<-e'];omega)⟩,e⟩
namespace Tm
def free:Tm->List UInt8
 | nil=>[]
 | snd a b p=>addL (addL (bothL [] p.free) a) b
 | rcv a x p=>addL (abx (bothL [] p.free) x) a
 | tau p=>bothL [] p.free
 | sum p q=>bothL (bothL [] p.free) q.free
 | par p q=>bothL (bothL [] p.free) q.free
 | own x p=>abx (bothL [] p.free) x
 | mat a b p=>addL (addL (bothL [] p.free) a) b
 | rep p=>bothL [] p.free
def bnd:Tm->List UInt8
 | nil=>[]
 | snd _ _ p=>p.bnd
 | rcv _ x p=>x::p.bnd
 | tau p=>p.bnd
 | sum p q=>p.bnd++q.bnd
 | par p q=>p.bnd++q.bnd
 | own x p=>x::p.bnd
 | mat _ _ p=>p.bnd
 | rep p=>p.bnd
def binds:Tm->Option UInt8
 | rcv _ x _=>some x
 | own x _=>some x
 | _=>none
end Tm
theorem srt_free (t:Tm):Srt t.free:=by
 induction t with
 | nil=>exact srt_nil
 | snd a b p=>exact srt_addL (srt_addL (aam _ srt_nil) a) b
 | rcv a x p=>exact srt_addL (ab3 (aam _ srt_nil) x) a
 | tau p=>exact aam _ srt_nil
 | sum p q=>exact aam _ (aam _ srt_nil)
 | par p q=>exact aam _ (aam _ srt_nil)
 | own x p=>exact ab3 (aam _ srt_nil) x
 | mat a b p=>exact srt_addL (srt_addL (aam _ srt_nil) a) b
 | rep p=>exact aam _ srt_nil
theorem abn {l:List UInt8}(h:Srt l):bothL [] l=l:=acP (aam _ srt_nil) h fun x=>by rw[mem_bothL];simp
theorem lets_free (t:Tm)(ho:t.ok nmL=true):Lets t.free:=by
 induction t with
 | nil=>exact lets_nil0
 | snd a b p ih=>
  simp only[Tm.ok,bae]at ho;exact lets_addL (lets_addL (lets_bothL lets_nil0 (ih ho.2)) ((nmL_iff a).1 ho.1.1)) ((nmL_iff b).1 ho.1.2)
 | rcv a x p ih=>
  simp only[Tm.ok,bae]at ho;exact lets_addL (lets_lessL (lets_bothL lets_nil0 (ih ho.2)) x) ((nmL_iff a).1 ho.1.1)
 | tau p ih=>exact lets_bothL lets_nil0 (ih ho)
 | sum p q ih ih2=>
  simp only[Tm.ok,bae]at ho;exact lets_bothL (lets_bothL lets_nil0 (ih ho.1)) (ih2 ho.2)
 | par p q ih ih2=>
  simp only[Tm.ok,bae]at ho;exact lets_bothL (lets_bothL lets_nil0 (ih ho.1)) (ih2 ho.2)
 | own x p ih=>
  simp only[Tm.ok,bae]at ho;exact lets_lessL (lets_bothL lets_nil0 (ih ho.2)) x
 | mat a b p ih=>
  simp only[Tm.ok,bae]at ho;exact lets_addL (lets_addL (lets_bothL lets_nil0 (ih ho.2)) ((nmL_iff a).1 ho.1.1)) ((nmL_iff b).1 ho.1.2)
 | rep p ih=>exact lets_bothL lets_nil0 (ih ho)
theorem apy (t:Tm)(ho:t.ok nmL=true):Lets t.bnd:=by
 induction t with
 | nil=>exact lets_nil0
 | snd a b p ih=>simp only[Tm.ok,bae]at ho;exact ih ho.2
 | rcv a x p ih=>
  simp only[Tm.ok,bae]at ho;intro c hc;rcases List.mem_cons.1 hc with rfl|hc
  ·exact(nmL_iff _).1 ho.1.2
  ·exact ih ho.2 c hc
 | tau p ih=>exact ih ho
 | sum p q ih ih2=>
  simp only[Tm.ok,bae]at ho;intro c hc;rcases lma.1 hc with hc|hc
  ·exact ih ho.1 c hc
  ·exact ih2 ho.2 c hc
 | par p q ih ih2=>
  simp only[Tm.ok,bae]at ho;intro c hc;rcases lma.1 hc with hc|hc
  ·exact ih ho.1 c hc
  ·exact ih2 ho.2 c hc
 | own x p ih=>
  simp only[Tm.ok,bae]at ho;intro c hc;rcases List.mem_cons.1 hc with rfl|hc
  ·exact(nmL_iff _).1 ho.1
  ·exact ih ho.2 c hc
 | mat a b p ih=>simp only[Tm.ok,bae]at ho;exact ih ho.2
 | rep p ih=>exact ih ho
theorem acQ (t:Tm):t.bnd.length<=t.size:=by
 induction t<;>simp_all [Tm.bnd,Tm.size]<;>omega
def fresh (s:List UInt8):UInt8:=
 match (List.range 26).find? (fun i=>decide (UInt8.ofNat (97+i)∉s)) with
 | some i=>UInt8.ofNat (97+i)
 | none=>match (List.range 63).find? (fun i=>decide (UInt8.ofNat (128+i)∉s)) with
  | some i=>UInt8.ofNat (128+i)
  | none=>191
theorem af7 (p:Nat->Bool)(n k:Nat)(hk:k<n)(h1:∀i,i<k->p i=false)(h2:p k=true):(List.range n).find? p=some k:=by
 rw[List.find?_eq_some_iff_append];refine⟨h2,List.range k,(List.range (n - k - 1)).map (k+1+·),?_,?_⟩
 ·have e:n=k+(1+(n - k - 1)):=by omega
  conv=>lhs;rw[e,List.range_add,List.range_add]
  simp[Nat.add_assoc]
 ·intro a ha;rw[List.mem_range]at ha;rw[h1 a ha];rfl
theorem agI (p:Nat->Bool)(n:Nat)(h1:∀i,i<n->p i=false):(List.range n).find? p=none:=by
 rw[List.find?_eq_none];intro x hx;rw[List.mem_range]at hx;rw[h1 x hx];decide
theorem ahI (s:List UInt8)(k:Nat)(hk:k<26)(h1:∀i,i<k->UInt8.ofNat (97+i)∈s)(h2:UInt8.ofNat (97+k)∉s):fresh s=UInt8.ofNat (97+k):=by
 unfold fresh;rw[af7 _ 26 k hk (fun i hi=>decide_eq_false (not_not_intro (h1 i hi))) (decide_eq_true h2)]
theorem af8 (s:List UInt8)(k:Nat)(hk:k<63)(h0:∀i,i<26->UInt8.ofNat (97+i)∈s)(h1:∀i,i<k->UInt8.ofNat (128+i)∈s)(h2:UInt8.ofNat (128+k)∉s):fresh s=UInt8.ofNat (128+k):=by
 unfold fresh;rw[agI _ 26 (fun i hi=>decide_eq_false (not_not_intro (h0 i hi))),af7 _ 63 k hk (fun i hi=>decide_eq_false (not_not_intro (h1 i hi))) (decide_eq_true h2)]
theorem af9 (s:List UInt8)(h0:∀i,i<26->UInt8.ofNat (97+i)∈s)(h1:∀i,i<63->UInt8.ofNat (128+i)∈s):fresh s=191:=by
 unfold fresh;rw[agI _ 26 (fun i hi=>decide_eq_false (not_not_intro (h0 i hi))),agI _ 63 (fun i hi=>decide_eq_false (not_not_intro (h1 i hi)))]
theorem find_cases (p:Nat->Bool)(n:Nat):(∃k,k<n/\(∀i,i<k->p i=false)/\p k=true)\/∀i,i<n->p i=false:=by
 induction n with
 | zero=>exact .inr fun i h=>by omega
 | succ n ih=>
  rcases ih with⟨k,h1,h2⟩|h
  ·exact .inl ⟨k,by omega,h2⟩
  ·cases hn:p n with
   | true=>exact .inl ⟨n,by omega,h,hn⟩
   | false=>
    refine .inr fun i hi=>?_;rcases Nat.lt_or_ge i n with h'|h'
    ·exact h i h'
    ·rw[show i=n by omega];exact hn
theorem fresh_cases (s:List UInt8):(∃k,k<26/\(∀i,i<k->UInt8.ofNat (97+i)∈s)/\UInt8.ofNat (97+k)∉s/\fresh s=UInt8.ofNat (97+k))\/ ((∀i,i<26->UInt8.ofNat (97+i)∈s)/\((∃k,k<63/\(∀i,i<k->UInt8.ofNat (128+i)∈s)/\UInt8.ofNat (128+k)∉s/\fresh s=UInt8.ofNat (128+k))\/((∀i,i<63->UInt8.ofNat (128+i)∈s)/\fresh s=191))):=by
 rcases find_cases (fun i=>decide (UInt8.ofNat (97+i)∉s)) 26 with⟨k,h1,h2,h3⟩|h
 ·have h2':∀i,i<k->UInt8.ofNat (97+i)∈s:=fun i hi=>Decidable.not_not.1 (of_decide_eq_false (h2 i hi));have h3':UInt8.ofNat (97+k)∉s:=of_decide_eq_true h3;exact .inl ⟨k,h1,h2',h3',ahI s k h1 h2' h3'⟩
 ·have h':∀i,i<26->UInt8.ofNat (97+i)∈s:=fun i hi=>Decidable.not_not.1 (of_decide_eq_false (h i hi));refine .inr ⟨h',?_⟩;rcases find_cases (fun i=>decide (UInt8.ofNat (128+i)∉s)) 63 with⟨k,h1,h2,h3⟩|h
  ·have h2':∀i,i<k->UInt8.ofNat (128+i)∈s:=fun i hi=>Decidable.not_not.1 (of_decide_eq_false (h2 i hi));have h3':UInt8.ofNat (128+k)∉s:=of_decide_eq_true h3;exact .inl ⟨k,h1,h2',h3',af8 s k h1 h' h2' h3'⟩
  ·have h'':∀i,i<63->UInt8.ofNat (128+i)∈s:=fun i hi=>Decidable.not_not.1 (of_decide_eq_false (h i hi));exact .inr ⟨h'',af9 s h' h''⟩
def sw (c o m:UInt8):UInt8:=if c=o then m else c
def capX (p:Tm)(x o m:UInt8):UInt8:=if x=m/\o∈p.free then fresh (bothL p.free [o,m]) else x
def ren:Nat->Tm->UInt8->UInt8->Tm
 | 0,t,_,_=>t
 | n+1,t,o,m=>
  if o=m\/o∉t.free then t else
  match t with
  | .nil=>.nil
  | .snd a b p=>.snd (sw a o m) (sw b o m) (ren n p o m)
  | .rcv a x p=>.rcv (sw a o m) (capX p x o m) (if capX p x o m=o then (if x=m/\o∈p.free then ren n p x (capX p x o m) else p) else ren n (if x=m/\o∈p.free then ren n p x (capX p x o m) else p) o m)
  | .tau p=>.tau (ren n p o m)
  | .sum p q=>.sum (ren n p o m) (ren n q o m)
  | .par p q=>.par (ren n p o m) (ren n q o m)
  | .own x p=>.own (capX p x o m) (if capX p x o m=o then (if x=m/\o∈p.free then ren n p x (capX p x o m) else p) else ren n (if x=m/\o∈p.free then ren n p x (capX p x o m) else p) o m)
  | .mat a b p=>.mat (sw a o m) (sw b o m) (ren n p o m)
  | .rep p=>.rep (ren n p o m)
theorem apz (n:Nat)(t:Tm)(o m:UInt8)(h:o=m\/o∉t.free):ren n t o m=t:=by
 cases n with
 | zero=>rfl
 | succ n=>unfold ren;rw[if_pos h]
def aiT (n:Nat)(p:Tm)(x o m:UInt8):Tm:=if capX p x o m=o then (if x=m/\o∈p.free then ren n p x (capX p x o m) else p) else ren n (if x=m/\o∈p.free then ren n p x (capX p x o m) else p) o m
theorem agJ (n:Nat):∀(t:Tm) (o m:UInt8),(ren n t o m).pr.length=t.pr.length/\(ren n t o m).size=t.size:=by
 induction n with
 | zero=>intro t o m;exact⟨rfl,rfl⟩
 | succ n ih=>
  intro t o m;unfold ren
  split
  ·exact⟨rfl,rfl⟩
  ·have hb:∀p x,(aiT n p x o m).pr.length=p.pr.length/\(aiT n p x o m).size=p.size:=by
    intro p x;unfold aiT
    split<;>split<;>simp[ih]
   cases t with
   | rcv a x p=>have h:=hb p x;unfold aiT at h;simp only[Tm.pr,Tm.size,List.length_cons];exact⟨by rw[h.1],by rw[h.2]⟩
   | own x p=>have h:=hb p x;unfold aiT at h;simp only[Tm.pr,Tm.size,List.length_cons];exact⟨by rw[h.1],by rw[h.2]⟩
   | nil=>exact⟨rfl,rfl⟩
   | snd a b p=>simp[Tm.pr,Tm.size,ih]
   | tau p=>simp[Tm.pr,Tm.size,ih]
   | sum p q=>simp[Tm.pr,Tm.size,ih]
   | par p q=>simp[Tm.pr,Tm.size,ih]
   | mat a b p=>simp[Tm.pr,Tm.size,ih]
   | rep p=>simp[Tm.pr,Tm.size,ih]
theorem aiU (c:UInt8):nmE c=true↔(97<=c.toNat/\c.toNat<=122)\/(65<=c.toNat/\c.toNat<=90)\/128<=c.toNat:=by simp[nmE,or_assoc]
theorem acv (s:List UInt8):nmE (fresh s)=true:=by
 rw[aiU];rcases fresh_cases s with⟨k,h1,_,_,h4⟩|⟨_,⟨k,h1,_,_,h4⟩|⟨_,h4⟩⟩
 ·rw[h4,UInt8.toNat_ofNat'];omega
 ·rw[h4,UInt8.toNat_ofNat'];omega
 ·rw[h4];decide
theorem amn {nm:UInt8->Bool}{c o m:UInt8}(h:nm c=true)(hm:nm m=true):nm (sw c o m)=true:=by unfold sw;split<;>assumption
theorem aiV {p:Tm}{x o m:UInt8}(h:nmE x=true):nmE (capX p x o m)=true:=by
 unfold capX;split
 ·exact acv _
 ·exact h
theorem ad2 (n:Nat):∀(t:Tm) (o m:UInt8),t.ok nmE=true->nmE m=true->(ren n t o m).ok nmE=true:=by
 induction n with
 | zero=>intro t o m h _;exact h
 | succ n ih=>
  intro t o m h hm;unfold ren
  split
  ·exact h
  ·have hb:∀p x,p.ok nmE=true->nmE x=true->(aiT n p x o m).ok nmE=true:=by
    intro p x hp hx;unfold aiT;have hc:=aiV (p:=p) (o:=o) (m:=m) hx
    split<;>split
    ·exact ih _ _ _ hp hc
    ·exact hp
    ·exact ih _ _ _ (ih _ _ _ hp hc) hm
    ·exact ih _ _ _ hp hm
   cases t<;>simp only[Tm.ok,bae]at h ⊢
   ·exact⟨⟨amn h.1.1 hm,amn h.1.2 hm⟩,ih _ _ _ h.2 hm⟩
   ·exact⟨⟨amn h.1.1 hm,aiV h.1.2⟩,hb _ _ h.2 h.1.2⟩
   ·exact ih _ _ _ h hm
   ·exact⟨ih _ _ _ h.1 hm,ih _ _ _ h.2 hm⟩
   ·exact⟨ih _ _ _ h.1 hm,ih _ _ _ h.2 hm⟩
   ·exact⟨aiV h.1,hb _ _ h.2 h.1⟩
   ·exact⟨⟨amn h.1.1 hm,amn h.1.2 hm⟩,ih _ _ _ h.2 hm⟩
   ·exact ih _ _ _ h hm
end Go.Proofs.YtalegefnppbkdaaGreat.T1
