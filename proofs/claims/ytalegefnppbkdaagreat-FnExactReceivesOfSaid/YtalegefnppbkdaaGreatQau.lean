/- Texts of the proof. No conditions. -/
import Derived.Test.YtalegefnppbkdaaGreatQar
import Derived.Deep.RegionWith
namespace Go.Proofs.YtalegefnppbkdaaGreat.T1
open Go.Proofs.Tryz
set_option maxHeartbeats 1000000
open Go.RowKit
set_option maxRecDepth 100000
set_option linter.unusedVariables false
set_option linter.unusedSimpArgs false
theorem aoh (t:Tm)(ho:t.ok nmL=true)(o:UInt8)(hn:nmL o=true):Ze 122 #[.int .u32 (setN t.free:Nat),.int .u8 (o.toNat:Int)] (.bool (decide (o∈t.free))):=by
 intro w;have h:=(nmL_iff o).1 hn;have h1:=ank (setN t.free) o.toNat (setN_lt32 _ (lets_free t ho)) h.1 h.2 w
 have e:(setN t.free).testBit (o.toNat - 97)=decide (o∈t.free):=by
  rw[Bool.eq_iff_iff,decide_eq_true_iff,aaF _ (lets_free t ho)];exact⟨fun ⟨c,hc,e⟩=>by rw[<-u8_ext (show c.toNat=o.toNat by omega)];exact hc,fun hc=>⟨o,hc,by omega⟩⟩
 rw[e]at h1;exact h1
theorem awA (args:Array Value)(w:World):(callFunc 150 args).run prog w=.ok (.enter 150 args) w:=by kernel_rfl
theorem ck1 (T:TypeId)(V:Value)(ks kt:ByteArray)(hk:KindFact T V kt)(bk:Nat)(w:World)(hc:w.cell? ⟨bk,0,none⟩=some (.string ks)) : Calls prog 150 (#[.iface T V]++#[.pointer (some ⟨bk,0,none⟩)]) w fun e w'=>e=.returned (.bool (kt.toList==ks.toList))/\Zb w w':=by
 show Calls prog 150 #[.iface T V,.pointer (some ⟨bk,0,none⟩)] w _;obtain⟨F,R,hm1,hn1,hc1,hp⟩:=hk;have hlt:bk<w.heap.size:=World.block_lt_of_cell? w _ hc;have H:=qz hp;clear hp
 go_enter func150,ntmps150
 go_wp2_with fail
 go_region_with (refine(H.out _).mono ?_;rintro e w' ⟨rfl,bl⟩;have c2:=(bl.cell (p:=⟨bk,0,none⟩) hlt).trans hc)
 all_goals
  go_wp2_with fail;go_ret;refine⟨rfl,?_⟩
  first
   | exact bl
   | exact((Below.refl w.heap.size w).drew).trans bl
   | exact bl.drew
   | exact(((Below.refl w.heap.size w).drew).trans bl).drew
   | exact(((Below.refl w.heap.size w).drew).drew).trans bl
   | trace_state
def awB (bk:Nat)(ks:ByteArray)(w:World):Prop:=w.cell? ⟨bk,0,none⟩=some (.string ks)
theorem ahj (t:Tm)(ht:t.size<=1000)(ks:ByteArray)(w:World) : Calls prog 114 #[.iface (aaB t) (pay t),.string ks] w fun e w'=>e=.returned (.int .i64 (t.subs.countP (fun u=>(one u.kind).toList==ks.toList):Nat))/\Zb w w':=by
 have HC:=acw 150 #[.pointer (some ⟨w.heap.size,0,none⟩)] (fun u=>(one u.kind).toList==ks.toList) (awB w.heap.size ks) awA
  (fun u w1 j=>ck1 _ _ ks (one u.kind) (abf u) w.heap.size w1 j) t ht
 have HC2:Hid (∀T,Calls prog 109 #[.iface (aaB t) (pay t),.func (.func 150) #[] #[.pointer (some ⟨w.heap.size,0,none⟩)]] (w.alloc (.cells #[.string ks] T)) fun e w'=>e=.returned (.int .i64 (t.subs.countP (fun u=>(one u.kind).toList==ks.toList):Nat))/\Below (w.alloc (.cells #[.string ks] T)).heap.size (w.alloc (.cells #[.string ks] T)) w'):=fun T=>
  HC (w.alloc (.cells #[.string ks] T)) (fun w1 w' j bl=>by unfold awB at j ⊢;rw[bl.cell (p:=⟨w.heap.size,0,none⟩) (by simp)];exact j) (by unfold awB;rw[World.cell?_alloc_new];rfl)
 clear HC;obtain⟨T,hT⟩:∃T,T=aaB t:=⟨_,rfl⟩;obtain⟨V,hV⟩:∃V,V=pay t:=⟨_,rfl⟩;obtain⟨N,hN⟩:∃N,N=t.subs.countP (fun u=>(one u.kind).toList==ks.toList):=⟨_,rfl⟩;rw[<-hT,<-hV,<-hN]at HC2;rw[<-hT,<-hV,<-hN];clear hT hV hN
 go_enter func114,ntmps114
 go_wp2_with fail;refine(HC2.out _).mono ?_;rintro e w1 ⟨rfl,bl⟩;go_wp2_with fail;go_ret;exact⟨rfl,aab (bra) bl (by simp)⟩
theorem avk (a b:UInt8):((one a).toList==(one b).toList)=(a==b):=by
 have h:∀c,(one c).toList=[c]:=fun c=>by rw[ByteArray.toList_eq];rfl
 rw[h,h];simp
def isN:Tm->Bool
 | .nil=>true
 | _=>false
theorem aqr (t:Tm):((one t.kind).toList==[48])=isN t:=by
 rw[show ([48]:List UInt8)=(one 48).toList from by rw[ByteArray.toList_eq];rfl];rw[avk]
 cases t<;>first|rfl|skip
theorem acY (t:Tm):isN t=true↔t=.nil:=by cases t<;>simp[isN]
theorem alx (T:TypeId)(V:Value)(kt:ByteArray)(z:Bool)(hz:(kt.toList==[48])=z)(hk:KindFact T V kt)(w:World):Calls prog 58 #[.iface T V] w fun e w'=>e=.returned (.bool z)/\Zb w w':=by
 obtain⟨F,R,hm1,hn1,hc1,hp⟩:=hk;have HZ:=qz hz;have H:=qz hp;clear hp hz
 go_enter func58,ntmps58
 go_wp2_with fail;refine(H.out _).mono ?_;rintro e w' ⟨rfl,bl⟩;go_wp2_with fail;go_ret;exact⟨by rw[<-HZ.out];rfl,bl⟩
theorem abV (t:Tm)(w:World):Calls prog 58 #[.iface (aaB t) (pay t)] w fun e w'=>e=.returned (.bool (isN t))/\Zb w w':=
 alx _ _ _ _ (aqr t) (abf t) w
end Go.Proofs.YtalegefnppbkdaaGreat.T1
