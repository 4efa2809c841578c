/- Texts of the proof. No conditions. -/
import Derived.Test.YtalegefnppbkdaaGreatQau
import Derived.Test.YtalegefnppbkdaaGreatQav
namespace Go.Proofs.YtalegefnppbkdaaGreat.T1
open Go.Proofs.Tryz
set_option maxHeartbeats 4000000
open Go.RowKit
set_option maxRecDepth 100000
set_option linter.unusedVariables false
set_option linter.unusedSimpArgs false
theorem axk {o m:UInt8}(h:o≠m):(((o.toNat:Nat):Int)==((m.toNat:Nat):Int))=false:=by rw[b8_beq];exact decide_eq_false h
theorem aoj (t:Tm)(h:t.ok nmL=true):t.sim.ok nmL=true:=by
 induction t with
 | nil=>rfl
 | snd a b p ih=>simp only[Tm.ok,bae,Tm.sim]at h ⊢;exact⟨h.1,ih h.2⟩
 | rcv a b p ih=>simp only[Tm.ok,bae,Tm.sim]at h ⊢;exact⟨h.1,ih h.2⟩
 | tau p ih=>simp only[Tm.ok,Tm.sim]at h ⊢;exact ih h
 | mat a b p ih=>
  simp only[Tm.ok,bae,Tm.sim]at h ⊢
  split
  ·exact ih h.2
  ·simp only[Tm.ok,bae];exact⟨h.1,ih h.2⟩
 | rep p ih=>
  simp only[Tm.ok,Tm.sim]at h ⊢
  split
  ·exact ih h
  ·exact ih h
 | own a p ih=>
  simp only[Tm.ok,bae,Tm.sim]at h ⊢
  split
  ·simp only[Tm.ok,bae];exact⟨h.1,ih h.2⟩
  ·exact ih h.2
 | sum p q ih ih2=>
  simp only[Tm.ok,bae,Tm.sim]at h ⊢
  split
  ·exact ih2 h.2
  ·split
   ·exact ih h.1
   ·simp only[Tm.ok,bae];exact⟨ih h.1,ih2 h.2⟩
 | par p q ih ih2=>
  simp only[Tm.ok,bae,Tm.sim]at h ⊢
  split
  ·exact ih2 h.2
  ·split
   ·exact ih h.1
   ·simp only[Tm.ok,bae];exact⟨ih h.1,ih2 h.2⟩
theorem asL (x:Value)(w:World):Calls prog 108 #[.iface 90 (.agg #[]),x] w fun e w'=>e=.returned (.iface 90 (.agg #[]))/\Zb w w':=by
 go_enter func108,ntmps108
 go_wp2_with fail;go_ret;exact⟨rfl,Below.refl _ _⟩
theorem aac {w w':World}{g:Nat}{o:Obj}(h:w.heap[g]?=some o)(k:Zb w w'):w'.heap[g]?=some o:=(k.block g (lt_of_block h)).trans h
def aw3 (t:Tm)(w:World)(e:Ending)(w':World):Prop:=e=.returned (.iface (aaB t) (pay t))/\Zb w w'
theorem axl (T tp tq:TypeId)(V vp vq:Value)(H1:Zr 58 #[.iface tp vp] (.bool true))(w:World):Calls prog 148 #[.agg #[.iface tp vp,.iface tq vq],.iface T V] w fun e w'=>e=.returned (.iface tq vq)/\Zb w w':=by
 have H1':=qz H1;clear H1
 go_enter func148,ntmps148
 obtain⟨W,hW⟩:∃W,W=w.alloc (.cells #[.iface tp vp,.iface tq vq] 53):=⟨_,rfl⟩;have hb:W.heap[w.heap.size]?=some (.cells #[.iface tp vp,.iface tq vq] 53 (0,0)):=by rw[hW];exact aag _ _
 have bl:Zb w W:=by rw[hW];exact bra
 have c0:=aai hb;have c1:=aak hb;have HB:=qz hb;go_wp2_with fail;rw[<-hW];clear hW;refine(H1'.out _).mono ?_;rintro e w1 ⟨rfl,b1⟩;have h1:=aac HB.out b1;clear c0 c1;have c0:=aai h1;have c1:=aak h1;have HB1:=qz h1;replace bl:=aaa bl b1;clear h1 b1;go_wp2_with fail;go_ret;exact⟨rfl,bl⟩
theorem axm (T tp tq:TypeId)(V vp vq:Value)(H1:Zr 58 #[.iface tp vp] (.bool false))(H2:Zr 58 #[.iface tq vq] (.bool true))(w:World):Calls prog 148 #[.agg #[.iface tp vp,.iface tq vq],.iface T V] w fun e w'=>e=.returned (.iface tp vp)/\Zb w w':=by
 have H1':=qz H1;have H2':=qz H2;clear H1 H2
 go_enter func148,ntmps148
 obtain⟨W,hW⟩:∃W,W=w.alloc (.cells #[.iface tp vp,.iface tq vq] 53):=⟨_,rfl⟩;have hb:W.heap[w.heap.size]?=some (.cells #[.iface tp vp,.iface tq vq] 53 (0,0)):=by rw[hW];exact aag _ _
 have bl:Zb w W:=by rw[hW];exact bra
 have c0:=aai hb;have c1:=aak hb;have HB:=qz hb;go_wp2_with fail;rw[<-hW];clear hW;refine(H1'.out _).mono ?_;rintro e w1 ⟨rfl,b1⟩;have h1:=aac HB.out b1;clear c0 c1;have c0:=aai h1;have c1:=aak h1;have HB1:=qz h1;replace bl:=aaa bl b1;clear h1 b1;go_wp2_with fail;refine(H2'.out _).mono ?_;rintro e w2 ⟨rfl,b2⟩;have h1:=aac HB1.out b2;clear c0 c1;have c0:=aai h1;have c1:=aak h1;replace bl:=aaa bl b2;clear h1 b2;go_wp2_with fail;go_ret;exact⟨rfl,bl⟩
theorem axn (T tp tq:TypeId)(V vp vq:Value)(H1:Zr 58 #[.iface tp vp] (.bool false))(H2:Zr 58 #[.iface tq vq] (.bool false))(w:World):Calls prog 148 #[.agg #[.iface tp vp,.iface tq vq],.iface T V] w fun e w'=>e=.returned (.iface T V)/\Zb w w':=by
 have H1':=qz H1;have H2':=qz H2;clear H1 H2
 go_enter func148,ntmps148
 obtain⟨W,hW⟩:∃W,W=w.alloc (.cells #[.iface tp vp,.iface tq vq] 53):=⟨_,rfl⟩;have hb:W.heap[w.heap.size]?=some (.cells #[.iface tp vp,.iface tq vq] 53 (0,0)):=by rw[hW];exact aag _ _
 have bl:Zb w W:=by rw[hW];exact bra
 have c0:=aai hb;have c1:=aak hb;have HB:=qz hb;go_wp2_with fail;rw[<-hW];clear hW;refine(H1'.out _).mono ?_;rintro e w1 ⟨rfl,b1⟩;have h1:=aac HB.out b1;clear c0 c1;have c0:=aai h1;have c1:=aak h1;have HB1:=qz h1;replace bl:=aaa bl b1;clear h1 b1;go_wp2_with fail;refine(H2'.out _).mono ?_;rintro e w2 ⟨rfl,b2⟩;have h1:=aac HB1.out b2;clear c0 c1;have c0:=aai h1;have c1:=aak h1;replace bl:=aaa bl b2;clear h1 b2;go_wp2_with fail;go_ret;exact⟨rfl,bl⟩
theorem sm_nil (w:World):Calls prog 111 #[.iface 90 (.agg #[])] w fun e w'=>e=.returned (.iface 90 (.agg #[]))/\Zb w w':=by
 obtain⟨F,RR,hm,hn,hc,hp⟩:=(parts_fact .nil).pf;simp only[aaB,pay,Tm.parts,acS]at hm hn hp;have HP:=qz hp;have HW:=qz fun (w:World)=>asL (.slice none 0 0) w;clear hp
 go_enter func111,ntmps111
 go_wp2_with fail;refine(HP.out _).mono ?_;rintro e w3 ⟨rfl,bl⟩;go_wp2_with fail;refine wp_loop_rounds 1 ?_;rw[rounds_succ];go_wp2_with fail;refine(HW.out _).mono ?_;rintro e w4 ⟨rfl,b4⟩;replace bl:=aaa bl b4;go_wp2_with fail;go_ret;exact⟨rfl,bl⟩
theorem asM (T tp tr:TypeId)(V vp vr:Value)(n0 n1:Int)(hP:∃(F:FuncId) (R:Value),(∀n w,(method (n+1) T V "loop.example/g01175/impl.parts").run prog w=.ok (F,R) w)/\(∀n w,(nilAhead (n+1) T V "loop.example/g01175/impl.parts").run prog w=.ok (some false) w)/\(∀args w,(callFunc F args).run prog w=.ok (.enter F args) w)/\∀w,Calls prog F #[R] w fun e w'=>∃b,e=.returned (.slice (some ⟨b,0,none⟩) 1 1)/\w.heap.size<=b/\w'.heap[b]?=some (.cells #[.iface tp vp] 38 (0,0))/\Zb w w') (IH:Zr 111 #[.iface tp vp] (.iface tr vr))(HW:∀(b:Nat) (w:World),w.cell? ⟨b,0,none⟩=some (.iface tr vr)->Calls prog 108 #[.iface T V,.slice (some ⟨b,0,none⟩) 1 1] w fun e w'=>e=.returned (.iface 108 (.agg #[.int .u8 n0,.int .u8 n1,.iface tr vr]))/\Zb w w')(w:World) : Calls prog 111 #[.iface T V] w fun e w'=>e=.returned (.iface 108 (.agg #[.int .u8 n0,.int .u8 n1,.iface tr vr]))/\Zb w w':=by
 obtain⟨F,RR,hm,hn,hc,hp⟩:=hP;have HP:=qz hp;have IH':=qz IH;have HW':=qz HW;clear hp IH HW
 go_enter func111,ntmps111
 go_wp2_with fail;refine(HP.out _).mono ?_;rintro e w3 ⟨b,rfl,hb,hh,bl⟩;have d0:=aah hh;have f0:=free_of_one hh;have g4:=qz hh;clear hh;go_wp2_with fail;refine wp_loop_rounds 2 ?_;rw[rounds_succ];go_wp2_with fail;refine(IH'.out _).mono ?_;rintro e w5 ⟨rfl,b5⟩;replace bl:=aaa bl b5;have h5:=aac g4.out b5;clear d0 f0;have d0:=aah h5;have f0:=free_of_one h5;replace bl:=bl.setCell (p:=⟨b,0,none⟩) (by show w.heap.size<=b;omega) (.iface tr vr);have e5:=one_setCell (u:=.iface tr vr) h5;have e0:=qz (aah e5);clear h5 e5;go_wp2_with fail;rw[rounds_succ];go_wp2_with fail;refine(HW'.out b _ e0.out).mono ?_;rintro e w8 ⟨rfl,b8⟩;replace bl:=aaa bl b8;clear d0 f0 b5 b8;go_wp2_with fail;go_ret;exact⟨rfl,by first|exact bl|exact bl.alloc bl.size _⟩
theorem aly (T tp tr:TypeId)(V vp vr:Value)(n0 n1:Int)(hP:∃(F:FuncId) (R:Value),(∀n w,(method (n+1) T V "loop.example/g01175/impl.parts").run prog w=.ok (F,R) w)/\(∀n w,(nilAhead (n+1) T V "loop.example/g01175/impl.parts").run prog w=.ok (some false) w)/\(∀args w,(callFunc F args).run prog w=.ok (.enter F args) w)/\∀w,Calls prog F #[R] w fun e w'=>∃b,e=.returned (.slice (some ⟨b,0,none⟩) 1 1)/\w.heap.size<=b/\w'.heap[b]?=some (.cells #[.iface tp vp] 38 (0,0))/\Zb w w') (IH:Zr 111 #[.iface tp vp] (.iface tr vr))(HW:∀(b:Nat) (w:World),w.cell? ⟨b,0,none⟩=some (.iface tr vr)->Calls prog 108 #[.iface T V,.slice (some ⟨b,0,none⟩) 1 1] w fun e w'=>e=.returned (.iface 111 (.agg #[.int .u8 n0,.int .u8 n1,.iface tr vr]))/\Zb w w')(w:World) : Calls prog 111 #[.iface T V] w fun e w'=>e=.returned (.iface 111 (.agg #[.int .u8 n0,.int .u8 n1,.iface tr vr]))/\Zb w w':=by
 obtain⟨F,RR,hm,hn,hc,hp⟩:=hP;have HP:=qz hp;have IH':=qz IH;have HW':=qz HW;clear hp IH HW
 go_enter func111,ntmps111
 go_wp2_with fail;refine(HP.out _).mono ?_;rintro e w3 ⟨b,rfl,hb,hh,bl⟩;have d0:=aah hh;have f0:=free_of_one hh;have g4:=qz hh;clear hh;go_wp2_with fail;refine wp_loop_rounds 2 ?_;rw[rounds_succ];go_wp2_with fail;refine(IH'.out _).mono ?_;rintro e w5 ⟨rfl,b5⟩;replace bl:=aaa bl b5;have h5:=aac g4.out b5;clear d0 f0;have d0:=aah h5;have f0:=free_of_one h5;replace bl:=bl.setCell (p:=⟨b,0,none⟩) (by show w.heap.size<=b;omega) (.iface tr vr);have e5:=one_setCell (u:=.iface tr vr) h5;have e0:=qz (aah e5);clear h5 e5;go_wp2_with fail;rw[rounds_succ];go_wp2_with fail;refine(HW'.out b _ e0.out).mono ?_;rintro e w8 ⟨rfl,b8⟩;replace bl:=aaa bl b8;clear d0 f0 b5 b8;go_wp2_with fail;go_ret;exact⟨rfl,by first|exact bl|exact bl.alloc bl.size _⟩
theorem sm_silent (T tp tr:TypeId)(V vp vr:Value)(n0 n1:Int)(hP:∃(F:FuncId) (R:Value),(∀n w,(method (n+1) T V "loop.example/g01175/impl.parts").run prog w=.ok (F,R) w)/\(∀n w,(nilAhead (n+1) T V "loop.example/g01175/impl.parts").run prog w=.ok (some false) w)/\(∀args w,(callFunc F args).run prog w=.ok (.enter F args) w)/\∀w,Calls prog F #[R] w fun e w'=>∃b,e=.returned (.slice (some ⟨b,0,none⟩) 1 1)/\w.heap.size<=b/\w'.heap[b]?=some (.cells #[.iface tp vp] 38 (0,0))/\Zb w w') (IH:Zr 111 #[.iface tp vp] (.iface tr vr))(HW:∀(b:Nat) (w:World),w.cell? ⟨b,0,none⟩=some (.iface tr vr)->Calls prog 108 #[.iface T V,.slice (some ⟨b,0,none⟩) 1 1] w fun e w'=>e=.returned (.iface 146 (.agg #[.iface tr vr]))/\Zb w w')(w:World) : Calls prog 111 #[.iface T V] w fun e w'=>e=.returned (.iface 146 (.agg #[.iface tr vr]))/\Zb w w':=by
 obtain⟨F,RR,hm,hn,hc,hp⟩:=hP;have HP:=qz hp;have IH':=qz IH;have HW':=qz HW;clear hp IH HW
 go_enter func111,ntmps111
 go_wp2_with fail;refine(HP.out _).mono ?_;rintro e w3 ⟨b,rfl,hb,hh,bl⟩;have d0:=aah hh;have f0:=free_of_one hh;have g4:=qz hh;clear hh;go_wp2_with fail;refine wp_loop_rounds 2 ?_;rw[rounds_succ];go_wp2_with fail;refine(IH'.out _).mono ?_;rintro e w5 ⟨rfl,b5⟩;replace bl:=aaa bl b5;have h5:=aac g4.out b5;clear d0 f0;have d0:=aah h5;have f0:=free_of_one h5;replace bl:=bl.setCell (p:=⟨b,0,none⟩) (by show w.heap.size<=b;omega) (.iface tr vr);have e5:=one_setCell (u:=.iface tr vr) h5;have e0:=qz (aah e5);clear h5 e5;go_wp2_with fail;rw[rounds_succ];go_wp2_with fail;refine(HW'.out b _ e0.out).mono ?_;rintro e w8 ⟨rfl,b8⟩;replace bl:=aaa bl b8;clear d0 f0 b5 b8;go_wp2_with fail;go_ret;exact⟨rfl,by first|exact bl|exact bl.alloc bl.size _⟩
theorem asN (T tp tr:TypeId)(V vp vr:Value)(n0 U:Int)(hP:∃(F:FuncId) (R:Value),(∀n w,(method (n+1) T V "loop.example/g01175/impl.parts").run prog w=.ok (F,R) w)/\(∀n w,(nilAhead (n+1) T V "loop.example/g01175/impl.parts").run prog w=.ok (some false) w)/\(∀args w,(callFunc F args).run prog w=.ok (.enter F args) w)/\∀w,Calls prog F #[R] w fun e w'=>∃b,e=.returned (.slice (some ⟨b,0,none⟩) 1 1)/\w.heap.size<=b/\w'.heap[b]?=some (.cells #[.iface tp vp] 38 (0,0))/\Zb w w') (IH:Zr 111 #[.iface tp vp] (.iface tr vr))(HW:∀(b:Nat) (w:World),w.cell? ⟨b,0,none⟩=some (.iface tr vr)->Calls prog 108 #[.iface T V,.slice (some ⟨b,0,none⟩) 1 1] w fun e w'=>e=.returned (.iface 61 (.agg #[.int .u8 n0,.iface tr vr]))/\Zb w w') (HF:Zr 92 #[.iface tr vr] (.int .u32 U)) (HH:Ze 122 #[.int .u32 U,.int .u8 n0] (.bool true))(w:World) : Calls prog 111 #[.iface T V] w fun e w'=>e=.returned (.iface 61 (.agg #[.int .u8 n0,.iface tr vr]))/\Zb w w':=by
 obtain⟨F,RR,hm,hn,hc,hp⟩:=hP;have HP:=qz hp;have IH':=qz IH;have HW':=qz HW;have HF':=qz HF;have HH':=qz HH;clear hp IH HW HF HH
 go_enter func111,ntmps111
 go_wp2_with fail;refine(HP.out _).mono ?_;rintro e w3 ⟨b,rfl,hb,hh,bl⟩;have d0:=aah hh;have f0:=free_of_one hh;have g4:=qz hh;clear hh;go_wp2_with fail;refine wp_loop_rounds 2 ?_;rw[rounds_succ];go_wp2_with fail;refine(IH'.out _).mono ?_;rintro e w5 ⟨rfl,b5⟩;replace bl:=aaa bl b5;have h5:=aac g4.out b5;clear d0 f0;have d0:=aah h5;have f0:=free_of_one h5;replace bl:=bl.setCell (p:=⟨b,0,none⟩) (by show w.heap.size<=b;omega) (.iface tr vr);have e5:=one_setCell (u:=.iface tr vr) h5;have e0:=qz (aah e5);clear h5 e5;go_wp2_with fail;rw[rounds_succ];go_wp2_with fail;refine(HW'.out b _ e0.out).mono ?_;rintro e w8 ⟨rfl,b8⟩;replace bl:=aaa bl b8;clear d0 f0 b5 b8;obtain⟨W,hW⟩:∃W,W=w8.alloc (.cells #[.int .u8 n0,.iface tr vr] 61):=⟨_,rfl⟩;have hbk:W.heap[w8.heap.size]?=some (.cells #[.int .u8 n0,.iface tr vr] 61 (0,0)):=by rw[hW];exact aag _ _
 have blW:Zb w W:=by rw[hW];exact bl.alloc bl.size _
 have Hbk:=qz hbk;have k0:W.cell? ⟨w8.heap.size,0,none⟩=some (.int .u8 n0):=by simp[World.cell?,hbk]
 have k1:W.cell? ⟨w8.heap.size,1,none⟩=some (.iface tr vr):=by simp[World.cell?,hbk]
 clear hbk;have hlW:w8.heap.size<W.heap.size:=by rw[hW];simp
 go_wp2_with fail;rw[<-hW];clear hW
 go_region_with (first
  | (go_at_call 92;(with_reducible refine(HF'.out _).mono ?_);rintro e v1 ⟨rfl,d1⟩;have r0:=(d1.cell (p:=⟨w8.heap.size,0,none⟩) hlW).trans k0;have r1:=(d1.cell (p:=⟨w8.heap.size,1,none⟩) hlW).trans k1;have B1:Zb w v1:=(by first|exact aaa blW d1|exact aaa blW.drew d1))
  | (go_at_call 122;(with_reducible refine(HH'.out _).mono ?_);rintro e v2 ⟨rfl,rfl⟩)
  | fail)
 all_goals clear bl
 all_goals have bl:=B1
 all_goals go_wp2_with fail
 all_goals go_ret
 all_goals exact⟨rfl,by first|exact bl|exact bl.drew⟩
theorem asO (T tp tr:TypeId)(V vp vr:Value)(n0 U:Int)(hP:∃(F:FuncId) (R:Value),(∀n w,(method (n+1) T V "loop.example/g01175/impl.parts").run prog w=.ok (F,R) w)/\(∀n w,(nilAhead (n+1) T V "loop.example/g01175/impl.parts").run prog w=.ok (some false) w)/\(∀args w,(callFunc F args).run prog w=.ok (.enter F args) w)/\∀w,Calls prog F #[R] w fun e w'=>∃b,e=.returned (.slice (some ⟨b,0,none⟩) 1 1)/\w.heap.size<=b/\w'.heap[b]?=some (.cells #[.iface tp vp] 38 (0,0))/\Zb w w') (IH:Zr 111 #[.iface tp vp] (.iface tr vr))(HW:∀(b:Nat) (w:World),w.cell? ⟨b,0,none⟩=some (.iface tr vr)->Calls prog 108 #[.iface T V,.slice (some ⟨b,0,none⟩) 1 1] w fun e w'=>e=.returned (.iface 61 (.agg #[.int .u8 n0,.iface tr vr]))/\Zb w w') (HF:Zr 92 #[.iface tr vr] (.int .u32 U)) (HH:Ze 122 #[.int .u32 U,.int .u8 n0] (.bool false))(w:World) : Calls prog 111 #[.iface T V] w fun e w'=>e=.returned (.iface tr vr)/\Zb w w':=by
 obtain⟨F,RR,hm,hn,hc,hp⟩:=hP;have HP:=qz hp;have IH':=qz IH;have HW':=qz HW;have HF':=qz HF;have HH':=qz HH;clear hp IH HW HF HH
 go_enter func111,ntmps111
 go_wp2_with fail;refine(HP.out _).mono ?_;rintro e w3 ⟨b,rfl,hb,hh,bl⟩;have d0:=aah hh;have f0:=free_of_one hh;have g4:=qz hh;clear hh;go_wp2_with fail;refine wp_loop_rounds 2 ?_;rw[rounds_succ];go_wp2_with fail;refine(IH'.out _).mono ?_;rintro e w5 ⟨rfl,b5⟩;replace bl:=aaa bl b5;have h5:=aac g4.out b5;clear d0 f0;have d0:=aah h5;have f0:=free_of_one h5;replace bl:=bl.setCell (p:=⟨b,0,none⟩) (by show w.heap.size<=b;omega) (.iface tr vr);have e5:=one_setCell (u:=.iface tr vr) h5;have e0:=qz (aah e5);clear h5 e5;go_wp2_with fail;rw[rounds_succ];go_wp2_with fail;refine(HW'.out b _ e0.out).mono ?_;rintro e w8 ⟨rfl,b8⟩;replace bl:=aaa bl b8;clear d0 f0 b5 b8;obtain⟨W,hW⟩:∃W,W=w8.alloc (.cells #[.int .u8 n0,.iface tr vr] 61):=⟨_,rfl⟩;have hbk:W.heap[w8.heap.size]?=some (.cells #[.int .u8 n0,.iface tr vr] 61 (0,0)):=by rw[hW];exact aag _ _
 have blW:Zb w W:=by rw[hW];exact bl.alloc bl.size _
 have Hbk:=qz hbk;have k0:W.cell? ⟨w8.heap.size,0,none⟩=some (.int .u8 n0):=by simp[World.cell?,hbk]
 have k1:W.cell? ⟨w8.heap.size,1,none⟩=some (.iface tr vr):=by simp[World.cell?,hbk]
 clear hbk;have hlW:w8.heap.size<W.heap.size:=by rw[hW];simp
 go_wp2_with fail;rw[<-hW];clear hW
 go_region_with (first
  | (go_at_call 92;(with_reducible refine(HF'.out _).mono ?_);rintro e v1 ⟨rfl,d1⟩;have r0:=(d1.cell (p:=⟨w8.heap.size,0,none⟩) hlW).trans k0;have r1:=(d1.cell (p:=⟨w8.heap.size,1,none⟩) hlW).trans k1;have B1:Zb w v1:=(by first|exact aaa blW d1|exact aaa blW.drew d1))
  | (go_at_call 122;(with_reducible refine(HH'.out _).mono ?_);rintro e v2 ⟨rfl,rfl⟩)
  | fail)
 all_goals clear bl
 all_goals have bl:=B1
 all_goals go_wp2_with fail
 all_goals go_ret
 all_goals exact⟨rfl,by first|exact bl|exact bl.drew⟩
theorem asP (T tp tr:TypeId)(V vp vr:Value)(n0 n1:Int)(heq:(n0==n1)=true)(hP:∃(F:FuncId) (R:Value),(∀n w,(method (n+1) T V "loop.example/g01175/impl.parts").run prog w=.ok (F,R) w)/\(∀n w,(nilAhead (n+1) T V "loop.example/g01175/impl.parts").run prog w=.ok (some false) w)/\(∀args w,(callFunc F args).run prog w=.ok (.enter F args) w)/\∀w,Calls prog F #[R] w fun e w'=>∃b,e=.returned (.slice (some ⟨b,0,none⟩) 1 1)/\w.heap.size<=b/\w'.heap[b]?=some (.cells #[.iface tp vp] 38 (0,0))/\Zb w w') (IH:Zr 111 #[.iface tp vp] (.iface tr vr))(HW:∀(b:Nat) (w:World),w.cell? ⟨b,0,none⟩=some (.iface tr vr)->Calls prog 108 #[.iface T V,.slice (some ⟨b,0,none⟩) 1 1] w fun e w'=>e=.returned (.iface 150 (.agg #[.int .u8 n0,.int .u8 n1,.iface tr vr]))/\Zb w w')(w:World) : Calls prog 111 #[.iface T V] w fun e w'=>e=.returned (.iface tr vr)/\Zb w w':=by
 obtain⟨F,RR,hm,hn,hc,hp⟩:=hP;have HP:=qz hp;have IH':=qz IH;have HW':=qz HW;clear hp IH HW
 go_enter func111,ntmps111
 go_wp2_with fail;refine(HP.out _).mono ?_;rintro e w3 ⟨b,rfl,hb,hh,bl⟩;have d0:=aah hh;have f0:=free_of_one hh;have g4:=qz hh;clear hh;go_wp2_with fail;refine wp_loop_rounds 2 ?_;rw[rounds_succ];go_wp2_with fail;refine(IH'.out _).mono ?_;rintro e w5 ⟨rfl,b5⟩;replace bl:=aaa bl b5;have h5:=aac g4.out b5;clear d0 f0;have d0:=aah h5;have f0:=free_of_one h5;replace bl:=bl.setCell (p:=⟨b,0,none⟩) (by show w.heap.size<=b;omega) (.iface tr vr);have e5:=one_setCell (u:=.iface tr vr) h5;have e0:=qz (aah e5);clear h5 e5;go_wp2_with fail;rw[rounds_succ];go_wp2_with fail;refine(HW'.out b _ e0.out).mono ?_;rintro e w8 ⟨rfl,b8⟩;replace bl:=aaa bl b8;clear d0 f0 b5 b8;go_wp2_with fail;go_ret;exact⟨rfl,by first|exact bl|exact bl.alloc bl.size _⟩
theorem asQ (T tp tr:TypeId)(V vp vr:Value)(n0 n1:Int)(heq:(n0==n1)=false)(hP:∃(F:FuncId) (R:Value),(∀n w,(method (n+1) T V "loop.example/g01175/impl.parts").run prog w=.ok (F,R) w)/\(∀n w,(nilAhead (n+1) T V "loop.example/g01175/impl.parts").run prog w=.ok (some false) w)/\(∀args w,(callFunc F args).run prog w=.ok (.enter F args) w)/\∀w,Calls prog F #[R] w fun e w'=>∃b,e=.returned (.slice (some ⟨b,0,none⟩) 1 1)/\w.heap.size<=b/\w'.heap[b]?=some (.cells #[.iface tp vp] 38 (0,0))/\Zb w w') (IH:Zr 111 #[.iface tp vp] (.iface tr vr))(HW:∀(b:Nat) (w:World),w.cell? ⟨b,0,none⟩=some (.iface tr vr)->Calls prog 108 #[.iface T V,.slice (some ⟨b,0,none⟩) 1 1] w fun e w'=>e=.returned (.iface 150 (.agg #[.int .u8 n0,.int .u8 n1,.iface tr vr]))/\Zb w w') (HN:Zr 58 #[.iface tr vr] (.bool true))(w:World) : Calls prog 111 #[.iface T V] w fun e w'=>e=.returned (.iface tr vr)/\Zb w w':=by
 obtain⟨F,RR,hm,hn,hc,hp⟩:=hP;have HP:=qz hp;have IH':=qz IH;have HW':=qz HW;have HN':=qz HN;clear hp IH HW HN
 go_enter func111,ntmps111
 go_wp2_with fail;refine(HP.out _).mono ?_;rintro e w3 ⟨b,rfl,hb,hh,bl⟩;have d0:=aah hh;have f0:=free_of_one hh;have g4:=qz hh;clear hh;go_wp2_with fail;refine wp_loop_rounds 2 ?_;rw[rounds_succ];go_wp2_with fail;refine(IH'.out _).mono ?_;rintro e w5 ⟨rfl,b5⟩;replace bl:=aaa bl b5;have h5:=aac g4.out b5;clear d0 f0;have d0:=aah h5;have f0:=free_of_one h5;replace bl:=bl.setCell (p:=⟨b,0,none⟩) (by show w.heap.size<=b;omega) (.iface tr vr);have e5:=one_setCell (u:=.iface tr vr) h5;have e0:=qz (aah e5);clear h5 e5;go_wp2_with fail;rw[rounds_succ];go_wp2_with fail;refine(HW'.out b _ e0.out).mono ?_;rintro e w8 ⟨rfl,b8⟩;replace bl:=aaa bl b8;clear d0 f0 b5 b8;obtain⟨W,hW⟩:∃W,W=w8.alloc (.cells #[.int .u8 n0,.int .u8 n1,.iface tr vr] 150):=⟨_,rfl⟩;have hbk:W.heap[w8.heap.size]?=some (.cells #[.int .u8 n0,.int .u8 n1,.iface tr vr] 150 (0,0)):=by rw[hW];exact aag _ _
 have blW:Zb w W:=by rw[hW];exact bl.alloc bl.size _
 have Hbk:=qz hbk;have k0:W.cell? ⟨w8.heap.size,0,none⟩=some (.int .u8 n0):=by simp[World.cell?,hbk]
 have k1:W.cell? ⟨w8.heap.size,1,none⟩=some (.int .u8 n1):=by simp[World.cell?,hbk]
 have k2:W.cell? ⟨w8.heap.size,2,none⟩=some (.iface tr vr):=by simp[World.cell?,hbk]
 clear hbk;go_wp2_with fail;rw[<-hW];clear hW;refine(HN'.out _).mono ?_;rintro e v1 ⟨rfl,d1⟩;have h1:=aac Hbk.out d1;have r2:v1.cell? ⟨w8.heap.size,2,none⟩=some (.iface tr vr):=by simp[World.cell?,h1]
 replace bl:=aaa blW d1;clear k0 k1 k2 blW h1 d1;go_wp2_with fail;go_ret;exact⟨rfl,by first|exact bl|exact bl.alloc bl.size _⟩
theorem asR (T tp tr:TypeId)(V vp vr:Value)(n0 n1:Int)(heq:(n0==n1)=false)(hP:∃(F:FuncId) (R:Value),(∀n w,(method (n+1) T V "loop.example/g01175/impl.parts").run prog w=.ok (F,R) w)/\(∀n w,(nilAhead (n+1) T V "loop.example/g01175/impl.parts").run prog w=.ok (some false) w)/\(∀args w,(callFunc F args).run prog w=.ok (.enter F args) w)/\∀w,Calls prog F #[R] w fun e w'=>∃b,e=.returned (.slice (some ⟨b,0,none⟩) 1 1)/\w.heap.size<=b/\w'.heap[b]?=some (.cells #[.iface tp vp] 38 (0,0))/\Zb w w') (IH:Zr 111 #[.iface tp vp] (.iface tr vr))(HW:∀(b:Nat) (w:World),w.cell? ⟨b,0,none⟩=some (.iface tr vr)->Calls prog 108 #[.iface T V,.slice (some ⟨b,0,none⟩) 1 1] w fun e w'=>e=.returned (.iface 150 (.agg #[.int .u8 n0,.int .u8 n1,.iface tr vr]))/\Zb w w') (HN:Zr 58 #[.iface tr vr] (.bool false))(w:World) : Calls prog 111 #[.iface T V] w fun e w'=>e=.returned (.iface 150 (.agg #[.int .u8 n0,.int .u8 n1,.iface tr vr]))/\Zb w w':=by
 obtain⟨F,RR,hm,hn,hc,hp⟩:=hP;have HP:=qz hp;have IH':=qz IH;have HW':=qz HW;have HN':=qz HN;clear hp IH HW HN
 go_enter func111,ntmps111
 go_wp2_with fail;refine(HP.out _).mono ?_;rintro e w3 ⟨b,rfl,hb,hh,bl⟩;have d0:=aah hh;have f0:=free_of_one hh;have g4:=qz hh;clear hh;go_wp2_with fail;refine wp_loop_rounds 2 ?_;rw[rounds_succ];go_wp2_with fail;refine(IH'.out _).mono ?_;rintro e w5 ⟨rfl,b5⟩;replace bl:=aaa bl b5;have h5:=aac g4.out b5;clear d0 f0;have d0:=aah h5;have f0:=free_of_one h5;replace bl:=bl.setCell (p:=⟨b,0,none⟩) (by show w.heap.size<=b;omega) (.iface tr vr);have e5:=one_setCell (u:=.iface tr vr) h5;have e0:=qz (aah e5);clear h5 e5;go_wp2_with fail;rw[rounds_succ];go_wp2_with fail;refine(HW'.out b _ e0.out).mono ?_;rintro e w8 ⟨rfl,b8⟩;replace bl:=aaa bl b8;clear d0 f0 b5 b8;obtain⟨W,hW⟩:∃W,W=w8.alloc (.cells #[.int .u8 n0,.int .u8 n1,.iface tr vr] 150):=⟨_,rfl⟩;have hbk:W.heap[w8.heap.size]?=some (.cells #[.int .u8 n0,.int .u8 n1,.iface tr vr] 150 (0,0)):=by rw[hW];exact aag _ _
 have blW:Zb w W:=by rw[hW];exact bl.alloc bl.size _
 have Hbk:=qz hbk;have k0:W.cell? ⟨w8.heap.size,0,none⟩=some (.int .u8 n0):=by simp[World.cell?,hbk]
 have k1:W.cell? ⟨w8.heap.size,1,none⟩=some (.int .u8 n1):=by simp[World.cell?,hbk]
 have k2:W.cell? ⟨w8.heap.size,2,none⟩=some (.iface tr vr):=by simp[World.cell?,hbk]
 clear hbk;go_wp2_with fail;rw[<-hW];clear hW;refine(HN'.out _).mono ?_;rintro e v1 ⟨rfl,d1⟩;have h1:=aac Hbk.out d1;have r2:v1.cell? ⟨w8.heap.size,2,none⟩=some (.iface tr vr):=by simp[World.cell?,h1]
 replace bl:=aaa blW d1;clear k0 k1 k2 blW h1 d1;go_wp2_with fail;go_ret;exact⟨rfl,by first|exact bl|exact bl.alloc bl.size _⟩
theorem asS (T tp tr:TypeId)(V vp vr:Value)  (hP:∃(F:FuncId) (R:Value),(∀n w,(method (n+1) T V "loop.example/g01175/impl.parts").run prog w=.ok (F,R) w)/\(∀n w,(nilAhead (n+1) T V "loop.example/g01175/impl.parts").run prog w=.ok (some false) w)/\(∀args w,(callFunc F args).run prog w=.ok (.enter F args) w)/\∀w,Calls prog F #[R] w fun e w'=>∃b,e=.returned (.slice (some ⟨b,0,none⟩) 1 1)/\w.heap.size<=b/\w'.heap[b]?=some (.cells #[.iface tp vp] 38 (0,0))/\Zb w w') (IH:Zr 111 #[.iface tp vp] (.iface tr vr))(HW:∀(b:Nat) (w:World),w.cell? ⟨b,0,none⟩=some (.iface tr vr)->Calls prog 108 #[.iface T V,.slice (some ⟨b,0,none⟩) 1 1] w fun e w'=>e=.returned (.iface 147 (.agg #[.iface tr vr]))/\Zb w w') (HN:Zr 58 #[.iface tr vr] (.bool true))(w:World) : Calls prog 111 #[.iface T V] w fun e w'=>e=.returned (.iface tr vr)/\Zb w w':=by
 obtain⟨F,RR,hm,hn,hc,hp⟩:=hP;have HP:=qz hp;have IH':=qz IH;have HW':=qz HW;have HN':=qz HN;clear hp IH HW HN
 go_enter func111,ntmps111
 go_wp2_with fail;refine(HP.out _).mono ?_;rintro e w3 ⟨b,rfl,hb,hh,bl⟩;have d0:=aah hh;have f0:=free_of_one hh;have g4:=qz hh;clear hh;go_wp2_with fail;refine wp_loop_rounds 2 ?_;rw[rounds_succ];go_wp2_with fail;refine(IH'.out _).mono ?_;rintro e w5 ⟨rfl,b5⟩;replace bl:=aaa bl b5;have h5:=aac g4.out b5;clear d0 f0;have d0:=aah h5;have f0:=free_of_one h5;replace bl:=bl.setCell (p:=⟨b,0,none⟩) (by show w.heap.size<=b;omega) (.iface tr vr);have e5:=one_setCell (u:=.iface tr vr) h5;have e0:=qz (aah e5);clear h5 e5;go_wp2_with fail;rw[rounds_succ];go_wp2_with fail;refine(HW'.out b _ e0.out).mono ?_;rintro e w8 ⟨rfl,b8⟩;replace bl:=aaa bl b8;clear d0 f0 b5 b8;obtain⟨W,hW⟩:∃W,W=w8.alloc (.cells #[.iface tr vr] 147):=⟨_,rfl⟩;have hbk:W.heap[w8.heap.size]?=some (.cells #[.iface tr vr] 147 (0,0)):=by rw[hW];exact aag _ _
 have blW:Zb w W:=by rw[hW];exact bl.alloc bl.size _
 have Hbk:=qz hbk;have k0:W.cell? ⟨w8.heap.size,0,none⟩=some (.iface tr vr):=by simp[World.cell?,hbk]
 clear hbk;go_wp2_with fail;rw[<-hW];clear hW;refine(HN'.out _).mono ?_;rintro e v1 ⟨rfl,d1⟩;have h1:=aac Hbk.out d1;have r2:v1.cell? ⟨w8.heap.size,0,none⟩=some (.iface tr vr):=by simp[World.cell?,h1]
 replace bl:=aaa blW d1;clear k0 blW h1 d1;go_wp2_with fail;go_ret;exact⟨rfl,by first|exact bl|exact bl.alloc bl.size _⟩
theorem asT (T tp tr:TypeId)(V vp vr:Value)  (hP:∃(F:FuncId) (R:Value),(∀n w,(method (n+1) T V "loop.example/g01175/impl.parts").run prog w=.ok (F,R) w)/\(∀n w,(nilAhead (n+1) T V "loop.example/g01175/impl.parts").run prog w=.ok (some false) w)/\(∀args w,(callFunc F args).run prog w=.ok (.enter F args) w)/\∀w,Calls prog F #[R] w fun e w'=>∃b,e=.returned (.slice (some ⟨b,0,none⟩) 1 1)/\w.heap.size<=b/\w'.heap[b]?=some (.cells #[.iface tp vp] 38 (0,0))/\Zb w w') (IH:Zr 111 #[.iface tp vp] (.iface tr vr))(HW:∀(b:Nat) (w:World),w.cell? ⟨b,0,none⟩=some (.iface tr vr)->Calls prog 108 #[.iface T V,.slice (some ⟨b,0,none⟩) 1 1] w fun e w'=>e=.returned (.iface 147 (.agg #[.iface tr vr]))/\Zb w w') (HN:Zr 58 #[.iface tr vr] (.bool false))(w:World) : Calls prog 111 #[.iface T V] w fun e w'=>e=.returned (.iface 147 (.agg #[.iface tr vr]))/\Zb w w':=by
 obtain⟨F,RR,hm,hn,hc,hp⟩:=hP;have HP:=qz hp;have IH':=qz IH;have HW':=qz HW;have HN':=qz HN;clear hp IH HW HN
 go_enter func111,ntmps111
 go_wp2_with fail;refine(HP.out _).mono ?_;rintro e w3 ⟨b,rfl,hb,hh,bl⟩;have d0:=aah hh;have f0:=free_of_one hh;have g4:=qz hh;clear hh;go_wp2_with fail;refine wp_loop_rounds 2 ?_;rw[rounds_succ];go_wp2_with fail;refine(IH'.out _).mono ?_;rintro e w5 ⟨rfl,b5⟩;replace bl:=aaa bl b5;have h5:=aac g4.out b5;clear d0 f0;have d0:=aah h5;have f0:=free_of_one h5;replace bl:=bl.setCell (p:=⟨b,0,none⟩) (by show w.heap.size<=b;omega) (.iface tr vr);have e5:=one_setCell (u:=.iface tr vr) h5;have e0:=qz (aah e5);clear h5 e5;go_wp2_with fail;rw[rounds_succ];go_wp2_with fail;refine(HW'.out b _ e0.out).mono ?_;rintro e w8 ⟨rfl,b8⟩;replace bl:=aaa bl b8;clear d0 f0 b5 b8;obtain⟨W,hW⟩:∃W,W=w8.alloc (.cells #[.iface tr vr] 147):=⟨_,rfl⟩;have hbk:W.heap[w8.heap.size]?=some (.cells #[.iface tr vr] 147 (0,0)):=by rw[hW];exact aag _ _
 have blW:Zb w W:=by rw[hW];exact bl.alloc bl.size _
 have Hbk:=qz hbk;have k0:W.cell? ⟨w8.heap.size,0,none⟩=some (.iface tr vr):=by simp[World.cell?,hbk]
 clear hbk;go_wp2_with fail;rw[<-hW];clear hW;refine(HN'.out _).mono ?_;rintro e v1 ⟨rfl,d1⟩;have h1:=aac Hbk.out d1;have r2:v1.cell? ⟨w8.heap.size,0,none⟩=some (.iface tr vr):=by simp[World.cell?,h1]
 replace bl:=aaa blW d1;clear k0 blW h1 d1;go_wp2_with fail;go_ret;exact⟨rfl,by first|exact bl|exact bl.alloc bl.size _⟩
theorem aok (T tp tq tr ts:TypeId)(V vp vq vr vs:Value)(tx:TypeId)(vx:Value)(hP:∃(F:FuncId) (R:Value),(∀n w,(method (n+1) T V "loop.example/g01175/impl.parts").run prog w=.ok (F,R) w)/\(∀n w,(nilAhead (n+1) T V "loop.example/g01175/impl.parts").run prog w=.ok (some false) w)/\(∀args w,(callFunc F args).run prog w=.ok (.enter F args) w)/\∀w,Calls prog F #[R] w fun e w'=>∃b,e=.returned (.slice (some ⟨b,0,none⟩) 2 2)/\w.heap.size<=b/\w'.heap[b]?=some (.cells #[.iface tp vp,.iface tq vq] 38 (0,0))/\Zb w w') (IH:Zr 111 #[.iface tp vp] (.iface tr vr))(IH2:Zr 111 #[.iface tq vq] (.iface ts vs))(HW:∀(b:Nat) (w:World),w.cell? ⟨b,0,none⟩=some (.iface tr vr)->w.cell? ⟨b,1,none⟩=some (.iface ts vs)->Calls prog 108 #[.iface T V,.slice (some ⟨b,0,none⟩) 2 2] w fun e w'=>e=.returned (.iface 62 (.agg #[.iface tr vr,.iface ts vs]))/\Zb w w') (HWN:Zr 148 #[.agg #[.iface tr vr,.iface ts vs],.iface 62 (.agg #[.iface tr vr,.iface ts vs])] (.iface tx vx))(w:World) : Calls prog 111 #[.iface T V] w fun e w'=>e=.returned (.iface tx vx)/\Zb w w':=by
 obtain⟨F,RR,hm,hn,hc,hp⟩:=hP;have HP:=qz hp;have IH':=qz IH;have IH2':=qz IH2;have HW':=qz HW;have HWN':=qz HWN;clear hp IH IH2 HW HWN
 go_enter func111,ntmps111
 go_wp2_with fail;refine(HP.out _).mono ?_;rintro e w3 ⟨b,rfl,hb,hh,bl⟩;have d0:=aai hh;have f0:=abU hh 0;have Hh:=qz hh;clear hh;go_wp2_with fail;refine wp_loop_rounds 3 ?_;rw[rounds_succ];go_wp2_with fail;refine(IH'.out _).mono ?_;rintro e w4 ⟨rfl,b4⟩;replace bl:=aaa bl b4;have h4:=aac Hh.out b4;clear d0 f0 b4;have d0:=aai h4;have f0:=abU h4 0;have e4:=qz (ahh h4 (.iface tr vr));have x1:=aak e4.out;replace bl:=bl.setCell (p:=⟨b,0,none⟩) (by show w.heap.size<=b;omega) (.iface tr vr);clear h4;go_wp2_with fail;rw[rounds_succ];go_wp2_with fail;refine(IH2'.out _).mono ?_;rintro e w5 ⟨rfl,b5⟩;replace bl:=aaa bl b5;have h5:=aac e4.out b5;clear d0 f0 x1 b5;have d1:=aak h5;have f1:=abU h5 1;have e5:=ahi h5 (.iface ts vs);have E0:=qz (aai e5);have E1:=qz (aak e5);replace bl:=bl.setCell (p:=⟨b,1,none⟩) (by show w.heap.size<=b;omega) (.iface ts vs);clear h5 e5;go_wp2_with fail;rw[rounds_succ];go_wp2_with fail;refine(HW'.out b _ E0.out E1.out).mono ?_;rintro e w8 ⟨rfl,b8⟩;replace bl:=aaa bl b8;clear d1 f1 b8;go_wp2_with fail;refine(HWN'.out _).mono ?_;rintro e v1 ⟨rfl,d1⟩;replace bl:=aaa (bl.alloc bl.size _) d1;go_wp2_with fail;go_ret;exact⟨rfl,bl⟩
theorem aol (T tp tq tr ts:TypeId)(V vp vq vr vs:Value)(tx:TypeId)(vx:Value)(hP:∃(F:FuncId) (R:Value),(∀n w,(method (n+1) T V "loop.example/g01175/impl.parts").run prog w=.ok (F,R) w)/\(∀n w,(nilAhead (n+1) T V "loop.example/g01175/impl.parts").run prog w=.ok (some false) w)/\(∀args w,(callFunc F args).run prog w=.ok (.enter F args) w)/\∀w,Calls prog F #[R] w fun e w'=>∃b,e=.returned (.slice (some ⟨b,0,none⟩) 2 2)/\w.heap.size<=b/\w'.heap[b]?=some (.cells #[.iface tp vp,.iface tq vq] 38 (0,0))/\Zb w w') (IH:Zr 111 #[.iface tp vp] (.iface tr vr))(IH2:Zr 111 #[.iface tq vq] (.iface ts vs))(HW:∀(b:Nat) (w:World),w.cell? ⟨b,0,none⟩=some (.iface tr vr)->w.cell? ⟨b,1,none⟩=some (.iface ts vs)->Calls prog 108 #[.iface T V,.slice (some ⟨b,0,none⟩) 2 2] w fun e w'=>e=.returned (.iface 55 (.agg #[.iface tr vr,.iface ts vs]))/\Zb w w') (HWN:Zr 148 #[.agg #[.iface tr vr,.iface ts vs],.iface 55 (.agg #[.iface tr vr,.iface ts vs])] (.iface tx vx))(w:World) : Calls prog 111 #[.iface T V] w fun e w'=>e=.returned (.iface tx vx)/\Zb w w':=by
 obtain⟨F,RR,hm,hn,hc,hp⟩:=hP;have HP:=qz hp;have IH':=qz IH;have IH2':=qz IH2;have HW':=qz HW;have HWN':=qz HWN;clear hp IH IH2 HW HWN
 go_enter func111,ntmps111
 go_wp2_with fail;refine(HP.out _).mono ?_;rintro e w3 ⟨b,rfl,hb,hh,bl⟩;have d0:=aai hh;have f0:=abU hh 0;have Hh:=qz hh;clear hh;go_wp2_with fail;refine wp_loop_rounds 3 ?_;rw[rounds_succ];go_wp2_with fail;refine(IH'.out _).mono ?_;rintro e w4 ⟨rfl,b4⟩;replace bl:=aaa bl b4;have h4:=aac Hh.out b4;clear d0 f0 b4;have d0:=aai h4;have f0:=abU h4 0;have e4:=qz (ahh h4 (.iface tr vr));have x1:=aak e4.out;replace bl:=bl.setCell (p:=⟨b,0,none⟩) (by show w.heap.size<=b;omega) (.iface tr vr);clear h4;go_wp2_with fail;rw[rounds_succ];go_wp2_with fail;refine(IH2'.out _).mono ?_;rintro e w5 ⟨rfl,b5⟩;replace bl:=aaa bl b5;have h5:=aac e4.out b5;clear d0 f0 x1 b5;have d1:=aak h5;have f1:=abU h5 1;have e5:=ahi h5 (.iface ts vs);have E0:=qz (aai e5);have E1:=qz (aak e5);replace bl:=bl.setCell (p:=⟨b,1,none⟩) (by show w.heap.size<=b;omega) (.iface ts vs);clear h5 e5;go_wp2_with fail;rw[rounds_succ];go_wp2_with fail;refine(HW'.out b _ E0.out E1.out).mono ?_;rintro e w8 ⟨rfl,b8⟩;replace bl:=aaa bl b8;clear d1 f1 b8;go_wp2_with fail;refine(HWN'.out _).mono ?_;rintro e v1 ⟨rfl,d1⟩;replace bl:=aaa (bl.alloc bl.size _) d1;go_wp2_with fail;go_ret;exact⟨rfl,bl⟩
theorem aey (p q u:Tm)(w:World):Calls prog 148 #[.agg #[.iface (aaB p) (pay p),.iface (aaB q) (pay q)],.iface (aaB u) (pay u)] w (aw3 (if p=.nil then q else if q=.nil then p else u) w):=by
 have h1:=abV p;have h2:=abV q
 by_cases hp:p=.nil
 ·rw[if_pos hp];rw[(acY p).2 hp]at h1;exact axl _ _ _ _ _ _ h1 w
 ·rw[if_neg hp];rw[Bool.eq_false_iff.2 fun h=>hp ((acY p).1 h)]at h1
  by_cases hq:q=.nil
  ·rw[if_pos hq];rw[(acY q).2 hq]at h2;exact axm _ _ _ _ _ _ h1 h2 w
  ·rw[if_neg hq];rw[Bool.eq_false_iff.2 fun h=>hq ((acY q).1 h)]at h2;exact axn _ _ _ _ _ _ h1 h2 w
theorem abJ (t:Tm):t.ok nmL=true->∀w,Calls prog 111 #[.iface (aaB t) (pay t)] w (aw3 t.sim w):=by
 induction t with
 | nil=>intro _ w;exact sm_nil w
 | snd a b p ih=>intro ho w;simp only[Tm.ok,bae]at ho;exact asM _ _ _ _ _ _ _ _ (parts_fact (.snd a b p)).pf (ih ho.2) (fun b' w h=>aaU (.snd a b p) p p.sim rfl b' 1 w (nl _) h) w
 | rcv a b p ih=>intro ho w;simp only[Tm.ok,bae]at ho;exact aly _ _ _ _ _ _ _ _ (parts_fact (.rcv a b p)).pf (ih ho.2) (fun b' w h=>aaU (.rcv a b p) p p.sim rfl b' 1 w (nl _) h) w
 | tau p ih=>intro ho w;simp only[Tm.ok]at ho;exact sm_silent _ _ _ _ _ _ 0 0 (parts_fact (.tau p)).pf (ih ho) (fun b' w h=>aaU (.tau p) p p.sim rfl b' 1 w (nl _) h) w
 | own x p ih=>
  intro ho w;simp only[Tm.ok,bae]at ho;have hF:=abv p.sim (aoj p ho.2);have hH:=aoh p.sim (aoj p ho.2) x ho.1;unfold Tm.sim
  by_cases hx:x∈p.sim.free
  ·rw[if_pos hx];rw[decide_eq_true hx]at hH;exact asN _ _ _ _ _ _ _ _ (parts_fact (.own x p)).pf (ih ho.2) (fun b' w h=>aaU (.own x p) p p.sim rfl b' 1 w (nl _) h) hF hH w
  ·rw[if_neg hx];rw[decide_eq_false hx]at hH;exact asO _ _ _ _ _ _ _ _ (parts_fact (.own x p)).pf (ih ho.2) (fun b' w h=>aaU (.own x p) p p.sim rfl b' 1 w (nl _) h) hF hH w
 | mat a b p ih=>
  intro ho w;simp only[Tm.ok,bae]at ho;have hN:=abV p.sim;have hW:=fun (b':Nat) (w:World) h=>aaU (.mat a b p) p p.sim rfl b' 1 w (nl _) h;unfold Tm.sim
  by_cases hab:a=b
  ·rw[if_pos (.inl hab)];exact asP _ _ _ _ _ _ _ _ (by simp[hab]) (parts_fact (.mat a b p)).pf (ih ho.2) hW w
  ·have hne:(((a.toNat:Nat):Int)==((b.toNat:Nat):Int))=false:=axk hab
   by_cases hp:p.sim=.nil
   ·rw[if_pos (.inr hp)];rw[(acY _).2 hp]at hN;exact asQ _ _ _ _ _ _ _ _ hne (parts_fact (.mat a b p)).pf (ih ho.2) hW hN w
   ·rw[if_neg (fun h=>h.elim hab hp)];rw[Bool.eq_false_iff.2 fun h=>hp ((acY _).1 h)]at hN;exact asR _ _ _ _ _ _ _ _ hne (parts_fact (.mat a b p)).pf (ih ho.2) hW hN w
 | rep p ih=>
  intro ho w;simp only[Tm.ok]at ho;have hN:=abV p.sim;have hW:=fun (b':Nat) (w:World) h=>aaU (.rep p) p p.sim rfl b' 1 w (nl _) h;unfold Tm.sim
  by_cases hp:p.sim=.nil
  ·rw[if_pos hp];rw[(acY _).2 hp]at hN;exact asS _ _ _ _ _ _ (parts_fact (.rep p)).pf (ih ho) hW hN w
  ·rw[if_neg hp];rw[Bool.eq_false_iff.2 fun h=>hp ((acY _).1 h)]at hN;exact asT _ _ _ _ _ _ (parts_fact (.rep p)).pf (ih ho) hW hN w
 | sum p q ih ih2=>
  intro ho w;simp only[Tm.ok,bae]at ho;have hW:=fun (b':Nat) (w:World) h h1=>adR (.sum p q) p q p.sim q.sim rfl b' 2 w (nl _) h h1;unfold Tm.sim;exact aok _ _ _ _ _ _ _ _ _ _ _ _ (parts_fact (.sum p q)).pf (ih ho.1) (ih2 ho.2) hW (aey p.sim q.sim (.sum p.sim q.sim)) w
 | par p q ih ih2=>
  intro ho w;simp only[Tm.ok,bae]at ho;have hW:=fun (b':Nat) (w:World) h h1=>adR (.par p q) p q p.sim q.sim rfl b' 2 w (nl _) h h1;unfold Tm.sim;exact aol _ _ _ _ _ _ _ _ _ _ _ _ (parts_fact (.par p q)).pf (ih ho.1) (ih2 ho.2) hW (aey p.sim q.sim (.par p.sim q.sim)) w
end Go.Proofs.YtalegefnppbkdaaGreat.T1
