/- Texts of the proof. No conditions. -/
import Derived.Test.YtalegefnppbkdaaGreatQas
import Derived.Deep.DeepCutAuto
namespace Go.Proofs.YtalegefnppbkdaaGreat.T1
open Go.Proofs.Tryz
set_option maxHeartbeats 2000000
open Go.RowKit
set_option maxRecDepth 100000
set_option linter.unusedVariables false
theorem aa1 {w:World}{b o:Nat}{x:Value}(h:w.cell? ⟨b,o,none⟩=some x):b<w.heap.size:=World.block_lt_of_cell? w _ h
theorem aaa {u v w:World}(h:Zb u v)(k:Zb v w):Zb u w:=aab h k h.size
theorem acX {u v:World}(h:Zb u v)(o:Obj):Zb u (v.alloc o):=h.alloc h.size o
def ahg (o:Option Tm)(w:World)(e:Ending)(w':World):Prop:=
 ((∃p,o=some p/\e=.returned (.tuple #[.iface (aaB p) (pay p),.bool true]))\/(o=none/\e=.returned (.tuple #[.nilIface,.bool false])))/\Zb w w'
theorem ahg.no {w:World}{e:Ending}{w':World}{o:Option Tm}(ho:o=none)(h:e=.returned (.tuple #[.nilIface,.bool false])/\Zb w w'):ahg o w e w':=⟨.inr ⟨ho,h.1⟩,h.2⟩
theorem ahg.yes {w:World}{e:Ending}{w':World}{o:Option Tm}{p:Tm}(ho:o=some p)(h:e=.returned (.tuple #[.iface (aaB p) (pay p),.bool true])/\Zb w w'):ahg o w e w':=⟨.inl ⟨p,ho,h.1⟩,h.2⟩
def aj4 (o:Option Tm)(w:World)(e:Ending)(w':World):Prop:=
 ((∃p,o=some p/\e=.returned (.tuple #[.string (S p),.bool true]))\/(o=none/\e=.returned (.tuple #[.string ⟨#[]⟩,.bool false])))/\Zb w w'
theorem aj4.no {w:World}{e:Ending}{w':World}{o:Option Tm}(ho:o=none)(h:e=.returned (.tuple #[.string ⟨#[]⟩,.bool false])/\Zb w w'):aj4 o w e w':=⟨.inr ⟨ho,h.1⟩,h.2⟩
theorem aj4.yes {w:World}{e:Ending}{w':World}{o:Option Tm}{p:Tm}(ho:o=some p)(h:e=.returned (.tuple #[.string (S p),.bool true])/\Zb w w'):aj4 o w e w':=⟨.inl ⟨p,ho,h.1⟩,h.2⟩
def Tm.withP:Tm->Nat->Tm->Tm
 | .nil,_,_=>.nil
 | .snd a b _,_,q=>.snd a b q
 | .rcv a x _,_,q=>.rcv a x q
 | .tau _,_,q=>.tau q
 | .sum p q,k,r=>if k=0 then .sum r q else .sum p r
 | .par p q,k,r=>if k=0 then .par r q else .par p r
 | .own x _,_,q=>.own x q
 | .mat a b _,_,q=>.mat a b q
 | .rep _,_,q=>.rep q
theorem aaU (t p r:Tm)(h:t.parts=[p])(b cap:Nat)(w:World)(hcap:1<=cap)(hc:w.cell? ⟨b,0,none⟩=some (.iface (aaB r) (pay r))) : Calls prog 108 #[.iface (aaB t) (pay t),.slice (some ⟨b,0,none⟩) 1 cap] w fun e w'=>e=.returned (.iface (aaB (t.withP 0 r)) (pay (t.withP 0 r)))/\Zb w w':=by
 cases t with
 | nil=>cases h
 | snd a x q=>exact amw _ _ _ _ _ _ _ b cap w (.inr ⟨_,_,rfl⟩) hcap hc
 | rcv a x q=>exact aga _ _ _ _ _ _ _ b cap w (.inr ⟨_,_,rfl⟩) hcap hc
 | tau q=>exact ahL _ _ _ b cap w (.inr ⟨_,_,rfl⟩) hcap hc
 | sum q u=>cases h
 | par q u=>cases h
 | own x q=>exact arw _ _ _ _ _ b cap w (.inr ⟨_,_,rfl⟩) hcap hc
 | mat a x q=>exact ajB _ _ _ _ _ _ _ b cap w (.inr ⟨_,_,rfl⟩) hcap hc
 | rep q=>exact ahM _ _ _ b cap w (.inr ⟨_,_,rfl⟩) hcap hc
theorem adR (t p q r s:Tm)(h:t.parts=[p,q])(b cap:Nat)(w:World)(hcap:2<=cap)(hc:w.cell? ⟨b,0,none⟩=some (.iface (aaB r) (pay r)))(hc1:w.cell? ⟨b,1,none⟩=some (.iface (aaB s) (pay s))) : Calls prog 108 #[.iface (aaB t) (pay t),.slice (some ⟨b,0,none⟩) 2 cap] w fun e w'=>e=.returned (.iface (aaB ((t.withP 0 r).withP 1 s)) (pay ((t.withP 0 r).withP 1 s)))/\Zb w w':=by
 cases t with
 | sum a c=>exact ahN _ _ _ _ _ _ b cap w (.inr ⟨_,_,rfl⟩) (.inr ⟨_,_,rfl⟩) hcap hc hc1
 | par a c=>exact ahO _ _ _ _ _ _ b cap w (.inr ⟨_,_,rfl⟩) (.inr ⟨_,_,rfl⟩) hcap hc hc1
 | nil=>cases h
 | snd a x q=>cases h
 | rcv a x q=>cases h
 | tau q=>cases h
 | own x q=>cases h
 | mat a x q=>cases h
 | rep q=>cases h
theorem abU {w:World}{b:Nat}{x y:Value}{T:TypeId}(h:w.heap[b]?=some (.cells #[x,y] T (0,0)))(j:Nat):w.frozen? ⟨b,j,none⟩=false:=by simp[World.frozen?,h]
theorem ahh {w:World}{b:Nat}{x y:Value}{T:TypeId}(h:w.heap[b]?=some (.cells #[x,y] T (0,0)))(v:Value):(w.setCell ⟨b,0,none⟩ v).heap[b]?=some (.cells #[v,y] T (0,0)):=by
 have hlt:=lt_of_block h;have h':w.heap[b]=.cells #[x,y] T (0,0):=by simpa [Array.getElem?_eq_getElem hlt] using h
 show (w.heap.modify b _)[b]?=_;rw[Array.getElem?_eq_getElem (by simpa using hlt),Array.getElem_modify_self,h'];rfl
theorem ahi {w:World}{b:Nat}{x y:Value}{T:TypeId}(h:w.heap[b]?=some (.cells #[x,y] T (0,0)))(v:Value):(w.setCell ⟨b,1,none⟩ v).heap[b]?=some (.cells #[x,v] T (0,0)):=by
 have hlt:=lt_of_block h;have h':w.heap[b]=.cells #[x,y] T (0,0):=by simpa [Array.getElem?_eq_getElem hlt] using h
 show (w.heap.modify b _)[b]?=_;rw[Array.getElem?_eq_getElem (by simpa using hlt),Array.getElem_modify_self,h'];rfl
theorem aqq (l:List UInt8)(h:Lets l):lets (flip32 (setN l)) 26=othL l:=by
 have h26:lets (flip32 (setN l)) 26=((List.range 26).filter fun i=>(flip32 (setN l)).testBit i).map fun i=>UInt8.ofNat (97+i):=rfl;unfold othL;rw[h26,List.filter_map];congr 1;refine List.filter_congr fun i hi=>?_;rw[List.mem_range]at hi;rw[ap3 _ i (by omega)];show (!(setN l).testBit i)=decide (UInt8.ofNat (97+i)∉l);rw[decide_not];congr 1;rw[Bool.eq_iff_iff,decide_eq_true_iff,aaF l h];exact⟨fun ⟨c,hc,e⟩=>by rw[show UInt8.ofNat (97+i)=c from u8_ext (by rw[UInt8.toNat_ofNat'];omega)];exact hc,fun hc=>⟨_,hc,by rw[UInt8.toNat_ofNat'];omega⟩⟩
theorem alw (l:List UInt8)(h:Lets l)(w:World):Calls prog 112 #[.int .u32 (setN l:Nat)] w fun e w'=>∃v,e=.returned v/\w'.ownsRow w.heap.size 5 1 v (othL l).length ((othL l).map ub)/\Zb w w':=by
 have:=ak_ (setN l) (setN_lt32 l h) w;rw[aqq l h]at this
 exact this
theorem avj (s X Y:ByteArray)(kd:Int)(m:UInt8)(hX:X.size<=1000)(hY:Y.size<=1000)(hm:(kd=43/\m=43)\/(kd=38/\m=38)) (HK:Ze 71 #[.string s] (.int .u8 kd))(g n cap:Nat)(hn:2<=n)(w:World)(c0:w.cell? ⟨g,0,none⟩=some (.string X))(c1:w.cell? ⟨g,1,none⟩=some (.string Y)) : Calls prog 186 #[.string s,.slice (some ⟨g,0,none⟩) n cap] w fun e w'=>e=.returned (.string (one 40++X++one m++Y++one 41))/\Zb w w':=by
 have HK':=qz HK;have n0:(0:Int)<(n:Int):=by omega
 have n1:(1:Int)<(n:Int):=by omega
 clear HK;rcases hm with⟨rfl,rfl⟩|⟨rfl,rfl⟩
 all_goals
  go_enter func186,ntmps186
  go_wp2_with fail;refine(HK'.out _).mono ?_;rintro e w1 ⟨rfl,rfl⟩;go_wp2_with fail
  go_quiet (fail)
  go_wp2_with fail;go_ret
  first|exact⟨rfl,Below.refl _ _⟩|exact⟨rfl,(Below.refl _ _).drew⟩|exact⟨rfl,(Below.refl _ _).drewN _⟩|exact⟨rfl,aaj (Below.refl _ _) _⟩
theorem Tryz.infoS:(prog.info? 9).map (fun i=>(i.zero,i.size,i.bytes))=some (some (.string ⟨#[]⟩),1,16):=by kernel_rfl
end Go.Proofs.YtalegefnppbkdaaGreat.T1
