/- Texts of the proof. No conditions. -/
import Derived.Test.YtalegefnppbkdaaGreatQaw
namespace Go.Proofs.YtalegefnppbkdaaGreat.T1
open Go.Proofs.Tryz
set_option maxHeartbeats 4000000
open Go.RowKit
set_option maxRecDepth 100000
set_option linter.unusedVariables false
set_option linter.unusedSimpArgs false
theorem Tryz.infoSg:(prog.info? 38).map (fun i=>(i.zero,i.size,i.bytes))=some (some .nilIface,1,16):=by kernel_rfl
def agu (fs:List UInt8)(ts:List Value)(w:World)(e:Ending)(w':World):Prop:=
 ∃v1 v2,e=.returned (.tuple #[v1,v2])/\w'.ownsRow w.heap.size 5 1 v1 fs.length (fs.map ub)/\w'.ownsRow w.heap.size 38 1 v2 ts.length ts/\Zb w w'
def OneI (ts:List Value):Prop:=∀u∈ts,∃T V,u=.iface T V
theorem OneI.one {ts:List Value}(h:OneI ts):∀u∈ts,u.oneCell'=true:=fun u hu=>by obtain⟨T,V,rfl⟩:=h u hu;rfl
theorem aom (fs:List UInt8):∀u∈fs.map ub,u.oneCell'=true:=fun u hu=>by obtain⟨c,_,rfl⟩:=List.mem_map.1 hu;rfl
theorem aek:(5:TypeId)≠38:=by decide
theorem lv_nil (w:World):Calls prog 54 #[.iface 90 (.agg #[])] w (agu [] [] w):=by
 go_enter func54,ntmps54
 go_wp2_with fail;go_ret2;exact⟨_,_,rfl,World.ownsRow_nil _ _ _ _,World.ownsRow_nil _ _ _ _,bra⟩
theorem lv_send (n0 n1:Int)(tz:TypeId)(vz:Value)(w:World):Calls prog 54 #[.iface 108 (.agg #[.int .u8 n0,.int .u8 n1,.iface tz vz])] w (agu [] [.iface 108 (.agg #[.int .u8 n0,.int .u8 n1,.iface tz vz])] w):=by
 go_enter func54,ntmps54
 go_wp2_with fail;go_ret2;exact⟨_,_,rfl,World.ownsRow_nil _ _ _ _,aa3 _ _ _ _ (nl _),bra⟩
theorem lv_receive (n0 n1:Int)(tz:TypeId)(vz:Value)(w:World):Calls prog 54 #[.iface 111 (.agg #[.int .u8 n0,.int .u8 n1,.iface tz vz])] w (agu [] [.iface 111 (.agg #[.int .u8 n0,.int .u8 n1,.iface tz vz])] w):=by
 go_enter func54,ntmps54
 go_wp2_with fail;go_ret2;exact⟨_,_,rfl,World.ownsRow_nil _ _ _ _,aa3 _ _ _ _ (nl _),bra⟩
theorem lv_match (n0 n1:Int)(tz:TypeId)(vz:Value)(w:World):Calls prog 54 #[.iface 150 (.agg #[.int .u8 n0,.int .u8 n1,.iface tz vz])] w (agu [] [.iface 150 (.agg #[.int .u8 n0,.int .u8 n1,.iface tz vz])] w):=by
 go_enter func54,ntmps54
 go_wp2_with fail;go_ret2;exact⟨_,_,rfl,World.ownsRow_nil _ _ _ _,aa3 _ _ _ _ (nl _),bra⟩
theorem lv_silent (tz:TypeId)(vz:Value)(w:World):Calls prog 54 #[.iface 146 (.agg #[.iface tz vz])] w (agu [] [.iface 146 (.agg #[.iface tz vz])] w):=by
 go_enter func54,ntmps54
 go_wp2_with fail;go_ret2;exact⟨_,_,rfl,World.ownsRow_nil _ _ _ _,aa3 _ _ _ _ (nl _),bra⟩
theorem lv_repeat (tz:TypeId)(vz:Value)(w:World):Calls prog 54 #[.iface 147 (.agg #[.iface tz vz])] w (agu [] [.iface 147 (.agg #[.iface tz vz])] w):=by
 go_enter func54,ntmps54
 go_wp2_with fail;go_ret2;exact⟨_,_,rfl,World.ownsRow_nil _ _ _ _,aa3 _ _ _ _ (nl _),bra⟩
theorem lv_choice (tz ty:TypeId)(vz vy:Value)(w:World):Calls prog 54 #[.iface 62 (.agg #[.iface tz vz,.iface ty vy])] w (agu [] [.iface 62 (.agg #[.iface tz vz,.iface ty vy])] w):=by
 go_enter func54,ntmps54
 go_wp2_with fail;go_ret2;exact⟨_,_,rfl,World.ownsRow_nil _ _ _ _,aa3 _ _ _ _ (nl _),bra⟩
theorem asU (x:UInt8)(tp:TypeId)(vp:Value)(fs:List UInt8)(ts:List Value)(hfl:fs.length<=1000)(IH:∀w,Calls prog 54 #[.iface tp vp] w (agu fs ts w))(w:World) : Calls prog 54 #[.iface 61 (.agg #[.int .u8 (x.toNat:Int),.iface tp vp])] w (agu (x::fs) ts w):=by
 obtain⟨i0,hi,hz0,hz1,hz2⟩:=info_parts Tryz.infoU8;have IH':=qz IH;clear IH;obtain⟨n0,hn0⟩:∃n0:Int,n0=(x.toNat:Int):=⟨_,rfl⟩;have HN0:=qz hn0;rw[<-hn0];clear hn0
 go_enter func54,ntmps54
 obtain⟨W,hW⟩:∃W,W=w.alloc (.cells #[.int .u8 n0,.iface tp vp] 61):=⟨_,rfl⟩;have hbk:W.heap[w.heap.size]?=some (.cells #[.int .u8 n0,.iface tp vp] 61 (0,0)):=by rw[hW];exact aag _ _
 have blW:Zb w W:=by rw[hW];exact bra
 have Hbk:=qz hbk;have k1:=aak hbk;clear hbk;go_wp2_with fail;rw[<-hW];clear hW;refine(IH'.out _).mono ?_;rintro e w1 ⟨v1,v2,rfl,o1,o2,b1⟩;have h1:=aac Hbk.out b1;have k0:=aai h1;have hws:=blW.size;have O1:=qz (aaW o1 hws);have O2:=qz (aaW o2 hws);have Bl:=qz (aaa blW b1);have hbs:=Bl.out.size;have h2lt:=qz o2.lt;clear o1 o2 b1 h1 k1 blW hws
 go_wp2_with (at_builtin;refine aaw rfl (.tmp 29) (.tmp 30) 44 rfl w.heap.size w.heap.size 5 i0 (.int .u8 0) 1 underlying44 hi hz0 hz1 hz2 rfl _ 1 [.int .u8 n0] rfl (aa3 w1 (.int .u8 n0) 5 w.heap.size hbs) v1 fs.length (fs.map ub) rfl (O1.out.alloc _) (aom fs) ?c2 ?c3 ?c4 ?_)
 case c2=>unfold maxLen;omega
 case c3=>omega
 case c4=>first|omega|(simp;omega)
 intro v3 w3 hown3 hgrow3 _
 have O3:Hid (w3.ownsRow w.heap.size 5 1 v3 (x::fs).length ((x::fs).map ub)):=by
  show World.ownsRow _ _ _ _ _ _ _;rw[HN0.out,Nat.add_comm]at hown3;exact hown3
 have O4:=qz (acW (O2.out.alloc _) hgrow3 (fun g hg e=>by
  simp[Value.ownBlock]at e;have:=(h2lt.out g hg).2
  omega))
 have Bl3:=qz (aas (Bl.out.alloc hbs _) hgrow3 (fun g e=>by simp[Value.ownBlock]at e;omega) (by simp;omega));clear hown3 hgrow3;go_wp2_with fail;go_ret2;exact⟨_,_,rfl,O3.out,O4.out,Bl3.out⟩
theorem avr (tp tq:TypeId)(vp vq:Value)(fs gs:List UInt8)(ts us:List Value)(hfl:fs.length<=1000)(hgl:gs.length<=1000)(htl:ts.length<=1000)(hul:us.length<=1000)(hi1:OneI us)(IH:∀w,Calls prog 54 #[.iface tp vp] w (agu fs ts w))(IH2:∀w,Calls prog 54 #[.iface tq vq] w (agu gs us w))(w:World) : Calls prog 54 #[.iface 55 (.agg #[.iface tp vp,.iface tq vq])] w (agu (fs++gs) (ts++us) w):=by
 obtain⟨i0,hi,hz0,hz1,hz2⟩:=info_parts Tryz.infoU8;obtain⟨j0,hj,hy0,hy1,hy2⟩:=info_parts Tryz.infoSg;have IH':=qz IH;have IH2':=qz IH2;have HI1:=qz hi1;clear IH IH2 hi1
 go_enter func54,ntmps54
 obtain⟨W,hW⟩:∃W,W=w.alloc (.cells #[.iface tp vp,.iface tq vq] 55):=⟨_,rfl⟩;have hbk:W.heap[w.heap.size]?=some (.cells #[.iface tp vp,.iface tq vq] 55 (0,0)):=by rw[hW];exact aag _ _
 have blW:Zb w W:=by rw[hW];exact bra
 have Hbk:=qz hbk;have k0:=aai hbk;clear hbk;go_wp2_with fail;rw[<-hW];clear hW;refine(IH'.out _).mono ?_;rintro e w1 ⟨v1,v2,rfl,o1,o2,b1⟩;have h1:=aac Hbk.out b1;have k1:=aak h1;have hws:=blW.size;have O1:=qz (aaW o1 hws);have O2:=qz (aaW o2 hws);have Bl:=qz (aaa blW b1);clear o1 o2 b1 h1 k0 blW hws;go_wp2_with fail;refine(IH2'.out _).mono ?_;rintro e w2 ⟨u1,u2,rfl,p1,p2,b2⟩;have hws:=Bl.out.size;have P1:=qz (aaW p1 hws);have P2:=qz (aaW p2 hws);have Q1:=qz (aal O1.out b2);have Q2:=qz (aal O2.out b2);have Bl2:=qz (aaa Bl.out b2);have hbs:=Bl2.out.size;clear p1 p2 b2 k1 hws O1 O2 Bl
 go_wp2_with (at_builtin;refine aaw rfl (.tmp 50) (.tmp 51) 44 rfl w.heap.size w.heap.size 5 i0 (.int .u8 0) 1 underlying44 hi hz0 hz1 hz2 rfl v1 fs.length (fs.map ub) rfl Q1.out u1 gs.length (gs.map ub) rfl P1.out (aom gs) ?c2 ?c3 hbs ?_)
 case c2=>unfold maxLen;omega
 case c3=>omega
 intro v3 w3 hown3 hgrow3 _
 have O3:Hid (w3.ownsRow w.heap.size 5 1 v3 (fs++gs).length ((fs++gs).map ub)):=by
  show World.ownsRow _ _ _ _ _ _ _;rw[lla,List.map_append];exact hown3
 have R2:=qz (acW Q2.out hgrow3 (fun g hg e=>adP aek Q1.out Q2.out g e hg));have S2:=qz (acW P2.out hgrow3 (fun g hg e=>adP aek Q1.out P2.out g e hg));have Bl3:=qz (aas Bl2.out hgrow3 (fun g e=>(Q1.out.lt g e).1) hbs);have hbs3:=Bl3.out.size;clear hown3 hgrow3 Q1 Q2 P1 P2 Bl2
 go_wp2_with (at_builtin;refine aaw rfl (.tmp 53) (.tmp 54) 45 rfl w.heap.size w.heap.size 38 j0 .nilIface 16 underlying45 hj hy0 hy1 hy2 rfl v2 ts.length ts rfl R2.out u2 us.length us rfl S2.out HI1.out.one ?c5 ?c6 hbs3 ?_)
 case c5=>unfold maxLen;omega
 case c6=>omega
 intro v4 w4 hown4 hgrow4 _
 have O4:Hid (w4.ownsRow w.heap.size 38 1 v4 (ts++us).length (ts++us)):=by
  show World.ownsRow _ _ _ _ _ _ _;rw[lla];exact hown4
 have O5:=qz (acW O3.out hgrow4 (fun g hg e=>adP aek O3.out R2.out g hg e));have Bl4:=qz (aas Bl3.out hgrow4 (fun g e=>(R2.out.lt g e).1) hbs3);clear hown4 hgrow4;go_wp2_with fail;go_ret2;exact⟨_,_,rfl,O5.out,O4.out,Bl4.out⟩
theorem ajd (ts:List Tm):OneI (ts.map enc):=fun u hu=>by obtain⟨t,_,rfl⟩:=List.mem_map.1 hu;exact⟨_,_,rfl⟩
theorem aj5 (t:Tm):(lvl t).1.length+(lvl t).2.length<=t.size:=by
 induction t with
 | own x p ih=>simp only[lvl,List.length_cons,Tm.size];omega
 | par p q ih ih2=>simp only[lvl,lla,Tm.size];omega
 | nil=>simp[lvl,Tm.size]
 | snd a b p=>simp only[lvl,List.length_cons,List.length_nil,Tm.size];omega
 | rcv a b p=>simp only[lvl,List.length_cons,List.length_nil,Tm.size];omega
 | mat a b p=>simp only[lvl,List.length_cons,List.length_nil,Tm.size];omega
 | tau p=>simp only[lvl,List.length_cons,List.length_nil,Tm.size];omega
 | rep p=>simp only[lvl,List.length_cons,List.length_nil,Tm.size];omega
 | sum p q=>simp only[lvl,List.length_cons,List.length_nil,Tm.size];omega
theorem ab8 (t:Tm):t.size<=1000->∀w,Calls prog 54 #[.iface (aaB t) (pay t)] w (agu (lvl t).1 ((lvl t).2.map enc) w):=by
 induction t with
 | nil=>intro _ w;exact lv_nil w
 | snd a b p=>intro _ w;exact lv_send _ _ _ _ w
 | rcv a b p=>intro _ w;exact lv_receive _ _ _ _ w
 | mat a b p=>intro _ w;exact lv_match _ _ _ _ w
 | tau p=>intro _ w;exact lv_silent _ _ w
 | rep p=>intro _ w;exact lv_repeat _ _ w
 | sum p q=>intro _ w;exact lv_choice _ _ _ _ w
 | own x p ih=>
  intro h w;simp only[Tm.size]at h;have:=aj5 p;exact asU x _ _ _ _ (by omega) (ih (by omega)) w
 | par p q ih ih2=>
  intro h w;simp only[Tm.size]at h;have h1:=aj5 p;have h2:=aj5 q;have:=avr (aaB p) (aaB q) (pay p) (pay q) _ _ _ _ (by omega) (by omega) (by rw[List.length_map];omega) (by rw[List.length_map];omega) (ajd _) (ih (by omega)) (ih2 (by omega)) w;rw[<-List.map_append]at this
  exact this
end Go.Proofs.YtalegefnppbkdaaGreat.T1
