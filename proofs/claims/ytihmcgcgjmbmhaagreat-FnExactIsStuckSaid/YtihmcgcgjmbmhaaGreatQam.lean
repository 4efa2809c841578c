/- Texts of the proof. No conditions. -/
import Derived.Test.YtihmcgcgjmbmhaaGreatQal
namespace Go.Proofs.YtihmcgcgjmbmhaaGreat.T1
open Go.Proofs.Tryz
set_option maxHeartbeats 4000000
open Go.RowKit
set_option maxRecDepth 100000
set_option linter.unusedVariables false
set_option linter.unusedSimpArgs false
theorem ayK {o m:UInt8}(h:o≠m):(((o.toNat:Nat):Int)==((m.toNat:Nat):Int))=false:=by rw[b8_beq];exact decide_eq_false h
theorem apg (t:Tm)(h:t.ok nmL=true):t.sim.ok nmL=true:=by
 induction t with
 | nil=>rfl
 | snd a b p ih=>simp only[Tm.ok,bae,Tm.sim]at h ⊢;exact⟨h.1,ih h.2⟩
 | rcv a b p ih=>simp only[Tm.ok,bae,Tm.sim]at h ⊢;exact⟨h.1,ih h.2⟩
 | tau p ih=>simp only[Tm.ok,Tm.sim]at h ⊢;exact ih h
 | mat a b p ih=>
  simp only[Tm.ok,bae,Tm.sim]at h ⊢
  split
  ·exact ih h.2
  ·simp only[Tm.ok,bae];exact⟨h.1,ih h.2⟩
 | rep p ih=>
  simp only[Tm.ok,Tm.sim]at h ⊢
  split
  ·exact ih h
  ·exact ih h
 | own a p ih=>
  simp only[Tm.ok,bae,Tm.sim]at h ⊢
  split
  ·simp only[Tm.ok,bae];exact⟨h.1,ih h.2⟩
  ·exact ih h.2
 | sum p q ih ih2=>
  simp only[Tm.ok,bae,Tm.sim]at h ⊢
  split
  ·exact ih2 h.2
  ·split
   ·exact ih h.1
   ·simp only[Tm.ok,bae];exact⟨ih h.1,ih2 h.2⟩
 | par p q ih ih2=>
  simp only[Tm.ok,bae,Tm.sim]at h ⊢
  split
  ·exact ih2 h.2
  ·split
   ·exact ih h.1
   ·simp only[Tm.ok,bae];exact⟨ih h.1,ih2 h.2⟩
theorem at6 (x:Value)(w:World):Calls prog 135 #[.iface 134 (.agg #[]),x] w fun e w'=>e=.returned (.iface 134 (.agg #[]))/\Zb w w':=by
 go_enter func135,ntmps135
 go_wp2_with fail;go_ret;exact⟨rfl,Below.refl _ _⟩
theorem aae {w w':World}{g:Nat}{o:Obj}(h:w.heap[g]?=some o)(k:Zb w w'):w'.heap[g]?=some o:=(k.block g (lt_of_block h)).trans h
def ayx (t:Tm)(w:World)(e:Ending)(w':World):Prop:=e=.returned (.iface (aau t) (pay t))/\Zb w w'
theorem ayL (T tp tq:TypeId)(V vp vq:Value)(H1:Zr 143 #[.iface tp vp] (.bool true))(w:World):Calls prog 141 #[.agg #[.iface tp vp,.iface tq vq],.iface T V] w fun e w'=>e=.returned (.iface tq vq)/\Zb w w':=by
 have H1':=qz H1;clear H1
 go_enter func141,ntmps141
 obtain⟨W,hW⟩:∃W,W=w.alloc (.cells #[.iface tp vp,.iface tq vq] 138):=⟨_,rfl⟩;have hb:W.heap[w.heap.size]?=some (.cells #[.iface tp vp,.iface tq vq] 138 (0,0)):=by rw[hW];exact aai _ _
 have bl:Zb w W:=by rw[hW];exact bra
 have c0:=aaf hb;have c1:=aak hb;have HB:=qz hb;go_wp2_with fail;rw[<-hW];clear hW;refine(H1'.out _).mono ?_;rintro e w1 ⟨rfl,b1⟩;have h1:=aae HB.out b1;clear c0 c1;have c0:=aaf h1;have c1:=aak h1;have HB1:=qz h1;replace bl:=aaa bl b1;clear h1 b1;go_wp2_with fail;go_ret;exact⟨rfl,bl⟩
theorem ayM (T tp tq:TypeId)(V vp vq:Value)(H1:Zr 143 #[.iface tp vp] (.bool false))(H2:Zr 143 #[.iface tq vq] (.bool true))(w:World):Calls prog 141 #[.agg #[.iface tp vp,.iface tq vq],.iface T V] w fun e w'=>e=.returned (.iface tp vp)/\Zb w w':=by
 have H1':=qz H1;have H2':=qz H2;clear H1 H2
 go_enter func141,ntmps141
 obtain⟨W,hW⟩:∃W,W=w.alloc (.cells #[.iface tp vp,.iface tq vq] 138):=⟨_,rfl⟩;have hb:W.heap[w.heap.size]?=some (.cells #[.iface tp vp,.iface tq vq] 138 (0,0)):=by rw[hW];exact aai _ _
 have bl:Zb w W:=by rw[hW];exact bra
 have c0:=aaf hb;have c1:=aak hb;have HB:=qz hb;go_wp2_with fail;rw[<-hW];clear hW;refine(H1'.out _).mono ?_;rintro e w1 ⟨rfl,b1⟩;have h1:=aae HB.out b1;clear c0 c1;have c0:=aaf h1;have c1:=aak h1;have HB1:=qz h1;replace bl:=aaa bl b1;clear h1 b1;go_wp2_with fail;refine(H2'.out _).mono ?_;rintro e w2 ⟨rfl,b2⟩;have h1:=aae HB1.out b2;clear c0 c1;have c0:=aaf h1;have c1:=aak h1;replace bl:=aaa bl b2;clear h1 b2;go_wp2_with fail;go_ret;exact⟨rfl,bl⟩
theorem ayN (T tp tq:TypeId)(V vp vq:Value)(H1:Zr 143 #[.iface tp vp] (.bool false))(H2:Zr 143 #[.iface tq vq] (.bool false))(w:World):Calls prog 141 #[.agg #[.iface tp vp,.iface tq vq],.iface T V] w fun e w'=>e=.returned (.iface T V)/\Zb w w':=by
 have H1':=qz H1;have H2':=qz H2;clear H1 H2
 go_enter func141,ntmps141
 obtain⟨W,hW⟩:∃W,W=w.alloc (.cells #[.iface tp vp,.iface tq vq] 138):=⟨_,rfl⟩;have hb:W.heap[w.heap.size]?=some (.cells #[.iface tp vp,.iface tq vq] 138 (0,0)):=by rw[hW];exact aai _ _
 have bl:Zb w W:=by rw[hW];exact bra
 have c0:=aaf hb;have c1:=aak hb;have HB:=qz hb;go_wp2_with fail;rw[<-hW];clear hW;refine(H1'.out _).mono ?_;rintro e w1 ⟨rfl,b1⟩;have h1:=aae HB.out b1;clear c0 c1;have c0:=aaf h1;have c1:=aak h1;have HB1:=qz h1;replace bl:=aaa bl b1;clear h1 b1;go_wp2_with fail;refine(H2'.out _).mono ?_;rintro e w2 ⟨rfl,b2⟩;have h1:=aae HB1.out b2;clear c0 c1;have c0:=aaf h1;have c1:=aak h1;replace bl:=aaa bl b2;clear h1 b2;go_wp2_with fail;go_ret;exact⟨rfl,bl⟩
theorem sm_nil (w:World):Calls prog 92 #[.iface 134 (.agg #[])] w fun e w'=>e=.returned (.iface 134 (.agg #[]))/\Zb w w':=by
 obtain⟨F,RR,hm,hn,hc,hp⟩:=(parts_fact .nil).pf;simp only[aau,pay,Tm.parts,acT]at hm hn hp;have HP:=qz hp;have HW:=qz fun (w:World)=>at6 (.slice none 0 0) w;clear hp
 go_enter func92,ntmps92
 go_wp2_with fail;refine(HP.out _).mono ?_;rintro e w3 ⟨rfl,bl⟩;go_wp2_with fail;refine wp_loop_rounds 1 ?_;rw[rounds_succ];go_wp2_with fail;refine(HW.out _).mono ?_;rintro e w4 ⟨rfl,b4⟩;replace bl:=aaa bl b4;go_wp2_with fail;go_ret;exact⟨rfl,bl⟩
theorem at7 (T tp tr:TypeId)(V vp vr:Value)(n0 n1:Int)(hP:∃(F:FuncId) (R:Value),(∀n w,(method (n+1) T V "loop.example/g01175/impl.parts").run prog w=.ok (F,R) w)/\(∀n w,(nilAhead (n+1) T V "loop.example/g01175/impl.parts").run prog w=.ok (some false) w)/\(∀args w,(callFunc F args).run prog w=.ok (.enter F args) w)/\∀w,Calls prog F #[R] w fun e w'=>∃b,e=.returned (.slice (some ⟨b,0,none⟩) 1 1)/\w.heap.size<=b/\w'.heap[b]?=some (.cells #[.iface tp vp] 41 (0,0))/\Zb w w') (IH:Zr 92 #[.iface tp vp] (.iface tr vr))(HW:∀(b:Nat) (w:World),w.cell? ⟨b,0,none⟩=some (.iface tr vr)->Calls prog 135 #[.iface T V,.slice (some ⟨b,0,none⟩) 1 1] w fun e w'=>e=.returned (.iface 148 (.agg #[.int .u8 n0,.int .u8 n1,.iface tr vr]))/\Zb w w')(w:World) : Calls prog 92 #[.iface T V] w fun e w'=>e=.returned (.iface 148 (.agg #[.int .u8 n0,.int .u8 n1,.iface tr vr]))/\Zb w w':=by
 obtain⟨F,RR,hm,hn,hc,hp⟩:=hP;have HP:=qz hp;have IH':=qz IH;have HW':=qz HW;clear hp IH HW
 go_enter func92,ntmps92
 go_wp2_with fail;refine(HP.out _).mono ?_;rintro e w3 ⟨b,rfl,hb,hh,bl⟩;have d0:=aac hh;have f0:=free_of_one hh;have g4:=qz hh;clear hh;go_wp2_with fail;refine wp_loop_rounds 2 ?_;rw[rounds_succ];go_wp2_with fail;refine(IH'.out _).mono ?_;rintro e w5 ⟨rfl,b5⟩;replace bl:=aaa bl b5;have h5:=aae g4.out b5;clear d0 f0;have d0:=aac h5;have f0:=free_of_one h5;replace bl:=bl.setCell (p:=⟨b,0,none⟩) (by show w.heap.size<=b;omega) (.iface tr vr);have e5:=one_setCell (u:=.iface tr vr) h5;have e0:=qz (aac e5);clear h5 e5;go_wp2_with fail;rw[rounds_succ];go_wp2_with fail;refine(HW'.out b _ e0.out).mono ?_;rintro e w8 ⟨rfl,b8⟩;replace bl:=aaa bl b8;clear d0 f0 b5 b8;go_wp2_with fail;go_ret;exact⟨rfl,by first|exact bl|exact bl.alloc bl.size _⟩
theorem al_ (T tp tr:TypeId)(V vp vr:Value)(n0 n1:Int)(hP:∃(F:FuncId) (R:Value),(∀n w,(method (n+1) T V "loop.example/g01175/impl.parts").run prog w=.ok (F,R) w)/\(∀n w,(nilAhead (n+1) T V "loop.example/g01175/impl.parts").run prog w=.ok (some false) w)/\(∀args w,(callFunc F args).run prog w=.ok (.enter F args) w)/\∀w,Calls prog F #[R] w fun e w'=>∃b,e=.returned (.slice (some ⟨b,0,none⟩) 1 1)/\w.heap.size<=b/\w'.heap[b]?=some (.cells #[.iface tp vp] 41 (0,0))/\Zb w w') (IH:Zr 92 #[.iface tp vp] (.iface tr vr))(HW:∀(b:Nat) (w:World),w.cell? ⟨b,0,none⟩=some (.iface tr vr)->Calls prog 135 #[.iface T V,.slice (some ⟨b,0,none⟩) 1 1] w fun e w'=>e=.returned (.iface 189 (.agg #[.int .u8 n0,.int .u8 n1,.iface tr vr]))/\Zb w w')(w:World) : Calls prog 92 #[.iface T V] w fun e w'=>e=.returned (.iface 189 (.agg #[.int .u8 n0,.int .u8 n1,.iface tr vr]))/\Zb w w':=by
 obtain⟨F,RR,hm,hn,hc,hp⟩:=hP;have HP:=qz hp;have IH':=qz IH;have HW':=qz HW;clear hp IH HW
 go_enter func92,ntmps92
 go_wp2_with fail;refine(HP.out _).mono ?_;rintro e w3 ⟨b,rfl,hb,hh,bl⟩;have d0:=aac hh;have f0:=free_of_one hh;have g4:=qz hh;clear hh;go_wp2_with fail;refine wp_loop_rounds 2 ?_;rw[rounds_succ];go_wp2_with fail;refine(IH'.out _).mono ?_;rintro e w5 ⟨rfl,b5⟩;replace bl:=aaa bl b5;have h5:=aae g4.out b5;clear d0 f0;have d0:=aac h5;have f0:=free_of_one h5;replace bl:=bl.setCell (p:=⟨b,0,none⟩) (by show w.heap.size<=b;omega) (.iface tr vr);have e5:=one_setCell (u:=.iface tr vr) h5;have e0:=qz (aac e5);clear h5 e5;go_wp2_with fail;rw[rounds_succ];go_wp2_with fail;refine(HW'.out b _ e0.out).mono ?_;rintro e w8 ⟨rfl,b8⟩;replace bl:=aaa bl b8;clear d0 f0 b5 b8;go_wp2_with fail;go_ret;exact⟨rfl,by first|exact bl|exact bl.alloc bl.size _⟩
theorem sm_silent (T tp tr:TypeId)(V vp vr:Value)(n0 n1:Int)(hP:∃(F:FuncId) (R:Value),(∀n w,(method (n+1) T V "loop.example/g01175/impl.parts").run prog w=.ok (F,R) w)/\(∀n w,(nilAhead (n+1) T V "loop.example/g01175/impl.parts").run prog w=.ok (some false) w)/\(∀args w,(callFunc F args).run prog w=.ok (.enter F args) w)/\∀w,Calls prog F #[R] w fun e w'=>∃b,e=.returned (.slice (some ⟨b,0,none⟩) 1 1)/\w.heap.size<=b/\w'.heap[b]?=some (.cells #[.iface tp vp] 41 (0,0))/\Zb w w') (IH:Zr 92 #[.iface tp vp] (.iface tr vr))(HW:∀(b:Nat) (w:World),w.cell? ⟨b,0,none⟩=some (.iface tr vr)->Calls prog 135 #[.iface T V,.slice (some ⟨b,0,none⟩) 1 1] w fun e w'=>e=.returned (.iface 143 (.agg #[.iface tr vr]))/\Zb w w')(w:World) : Calls prog 92 #[.iface T V] w fun e w'=>e=.returned (.iface 143 (.agg #[.iface tr vr]))/\Zb w w':=by
 obtain⟨F,RR,hm,hn,hc,hp⟩:=hP;have HP:=qz hp;have IH':=qz IH;have HW':=qz HW;clear hp IH HW
 go_enter func92,ntmps92
 go_wp2_with fail;refine(HP.out _).mono ?_;rintro e w3 ⟨b,rfl,hb,hh,bl⟩;have d0:=aac hh;have f0:=free_of_one hh;have g4:=qz hh;clear hh;go_wp2_with fail;refine wp_loop_rounds 2 ?_;rw[rounds_succ];go_wp2_with fail;refine(IH'.out _).mono ?_;rintro e w5 ⟨rfl,b5⟩;replace bl:=aaa bl b5;have h5:=aae g4.out b5;clear d0 f0;have d0:=aac h5;have f0:=free_of_one h5;replace bl:=bl.setCell (p:=⟨b,0,none⟩) (by show w.heap.size<=b;omega) (.iface tr vr);have e5:=one_setCell (u:=.iface tr vr) h5;have e0:=qz (aac e5);clear h5 e5;go_wp2_with fail;rw[rounds_succ];go_wp2_with fail;refine(HW'.out b _ e0.out).mono ?_;rintro e w8 ⟨rfl,b8⟩;replace bl:=aaa bl b8;clear d0 f0 b5 b8;go_wp2_with fail;go_ret;exact⟨rfl,by first|exact bl|exact bl.alloc bl.size _⟩
theorem at8 (T tp tr:TypeId)(V vp vr:Value)(n0 U:Int)(hP:∃(F:FuncId) (R:Value),(∀n w,(method (n+1) T V "loop.example/g01175/impl.parts").run prog w=.ok (F,R) w)/\(∀n w,(nilAhead (n+1) T V "loop.example/g01175/impl.parts").run prog w=.ok (some false) w)/\(∀args w,(callFunc F args).run prog w=.ok (.enter F args) w)/\∀w,Calls prog F #[R] w fun e w'=>∃b,e=.returned (.slice (some ⟨b,0,none⟩) 1 1)/\w.heap.size<=b/\w'.heap[b]?=some (.cells #[.iface tp vp] 41 (0,0))/\Zb w w') (IH:Zr 92 #[.iface tp vp] (.iface tr vr))(HW:∀(b:Nat) (w:World),w.cell? ⟨b,0,none⟩=some (.iface tr vr)->Calls prog 135 #[.iface T V,.slice (some ⟨b,0,none⟩) 1 1] w fun e w'=>e=.returned (.iface 136 (.agg #[.int .u8 n0,.iface tr vr]))/\Zb w w') (HF:Zr 93 #[.iface tr vr] (.int .u32 U)) (HH:Ze 142 #[.int .u32 U,.int .u8 n0] (.bool true))(w:World) : Calls prog 92 #[.iface T V] w fun e w'=>e=.returned (.iface 136 (.agg #[.int .u8 n0,.iface tr vr]))/\Zb w w':=by
 obtain⟨F,RR,hm,hn,hc,hp⟩:=hP;have HP:=qz hp;have IH':=qz IH;have HW':=qz HW;have HF':=qz HF;have HH':=qz HH;clear hp IH HW HF HH
 go_enter func92,ntmps92
 go_wp2_with fail;refine(HP.out _).mono ?_;rintro e w3 ⟨b,rfl,hb,hh,bl⟩;have d0:=aac hh;have f0:=free_of_one hh;have g4:=qz hh;clear hh;go_wp2_with fail;refine wp_loop_rounds 2 ?_;rw[rounds_succ];go_wp2_with fail;refine(IH'.out _).mono ?_;rintro e w5 ⟨rfl,b5⟩;replace bl:=aaa bl b5;have h5:=aae g4.out b5;clear d0 f0;have d0:=aac h5;have f0:=free_of_one h5;replace bl:=bl.setCell (p:=⟨b,0,none⟩) (by show w.heap.size<=b;omega) (.iface tr vr);have e5:=one_setCell (u:=.iface tr vr) h5;have e0:=qz (aac e5);clear h5 e5;go_wp2_with fail;rw[rounds_succ];go_wp2_with fail;refine(HW'.out b _ e0.out).mono ?_;rintro e w8 ⟨rfl,b8⟩;replace bl:=aaa bl b8;clear d0 f0 b5 b8;obtain⟨W,hW⟩:∃W,W=w8.alloc (.cells #[.int .u8 n0,.iface tr vr] 136):=⟨_,rfl⟩;have hbk:W.heap[w8.heap.size]?=some (.cells #[.int .u8 n0,.iface tr vr] 136 (0,0)):=by rw[hW];exact aai _ _
 have blW:Zb w W:=by rw[hW];exact bl.alloc bl.size _
 have Hbk:=qz hbk;have k0:W.cell? ⟨w8.heap.size,0,none⟩=some (.int .u8 n0):=by simp[World.cell?,hbk]
 have k1:W.cell? ⟨w8.heap.size,1,none⟩=some (.iface tr vr):=by simp[World.cell?,hbk]
 clear hbk;have hlW:w8.heap.size<W.heap.size:=by rw[hW];simp
 go_wp2_with fail;rw[<-hW];clear hW
 go_region_with (first
  | (go_at_call 93;(with_reducible refine(HF'.out _).mono ?_);rintro e v1 ⟨rfl,d1⟩;have r0:=(d1.cell (p:=⟨w8.heap.size,0,none⟩) hlW).trans k0;have r1:=(d1.cell (p:=⟨w8.heap.size,1,none⟩) hlW).trans k1;have B1:Zb w v1:=(by first|exact aaa blW d1|exact aaa blW.drew d1))
  | (go_at_call 142;(with_reducible refine(HH'.out _).mono ?_);rintro e v2 ⟨rfl,rfl⟩)
  | fail)
 all_goals clear bl
 all_goals have bl:=B1
 all_goals go_wp2_with fail
 all_goals go_ret
 all_goals exact⟨rfl,by first|exact bl|exact bl.drew⟩
theorem at9 (T tp tr:TypeId)(V vp vr:Value)(n0 U:Int)(hP:∃(F:FuncId) (R:Value),(∀n w,(method (n+1) T V "loop.example/g01175/impl.parts").run prog w=.ok (F,R) w)/\(∀n w,(nilAhead (n+1) T V "loop.example/g01175/impl.parts").run prog w=.ok (some false) w)/\(∀args w,(callFunc F args).run prog w=.ok (.enter F args) w)/\∀w,Calls prog F #[R] w fun e w'=>∃b,e=.returned (.slice (some ⟨b,0,none⟩) 1 1)/\w.heap.size<=b/\w'.heap[b]?=some (.cells #[.iface tp vp] 41 (0,0))/\Zb w w') (IH:Zr 92 #[.iface tp vp] (.iface tr vr))(HW:∀(b:Nat) (w:World),w.cell? ⟨b,0,none⟩=some (.iface tr vr)->Calls prog 135 #[.iface T V,.slice (some ⟨b,0,none⟩) 1 1] w fun e w'=>e=.returned (.iface 136 (.agg #[.int .u8 n0,.iface tr vr]))/\Zb w w') (HF:Zr 93 #[.iface tr vr] (.int .u32 U)) (HH:Ze 142 #[.int .u32 U,.int .u8 n0] (.bool false))(w:World) : Calls prog 92 #[.iface T V] w fun e w'=>e=.returned (.iface tr vr)/\Zb w w':=by
 obtain⟨F,RR,hm,hn,hc,hp⟩:=hP;have HP:=qz hp;have IH':=qz IH;have HW':=qz HW;have HF':=qz HF;have HH':=qz HH;clear hp IH HW HF HH
 go_enter func92,ntmps92
 go_wp2_with fail;refine(HP.out _).mono ?_;rintro e w3 ⟨b,rfl,hb,hh,bl⟩;have d0:=aac hh;have f0:=free_of_one hh;have g4:=qz hh;clear hh;go_wp2_with fail;refine wp_loop_rounds 2 ?_;rw[rounds_succ];go_wp2_with fail;refine(IH'.out _).mono ?_;rintro e w5 ⟨rfl,b5⟩;replace bl:=aaa bl b5;have h5:=aae g4.out b5;clear d0 f0;have d0:=aac h5;have f0:=free_of_one h5;replace bl:=bl.setCell (p:=⟨b,0,none⟩) (by show w.heap.size<=b;omega) (.iface tr vr);have e5:=one_setCell (u:=.iface tr vr) h5;have e0:=qz (aac e5);clear h5 e5;go_wp2_with fail;rw[rounds_succ];go_wp2_with fail;refine(HW'.out b _ e0.out).mono ?_;rintro e w8 ⟨rfl,b8⟩;replace bl:=aaa bl b8;clear d0 f0 b5 b8;obtain⟨W,hW⟩:∃W,W=w8.alloc (.cells #[.int .u8 n0,.iface tr vr] 136):=⟨_,rfl⟩;have hbk:W.heap[w8.heap.size]?=some (.cells #[.int .u8 n0,.iface tr vr] 136 (0,0)):=by rw[hW];exact aai _ _
 have blW:Zb w W:=by rw[hW];exact bl.alloc bl.size _
 have Hbk:=qz hbk;have k0:W.cell? ⟨w8.heap.size,0,none⟩=some (.int .u8 n0):=by simp[World.cell?,hbk]
 have k1:W.cell? ⟨w8.heap.size,1,none⟩=some (.iface tr vr):=by simp[World.cell?,hbk]
 clear hbk;have hlW:w8.heap.size<W.heap.size:=by rw[hW];simp
 go_wp2_with fail;rw[<-hW];clear hW
 go_region_with (first
  | (go_at_call 93;(with_reducible refine(HF'.out _).mono ?_);rintro e v1 ⟨rfl,d1⟩;have r0:=(d1.cell (p:=⟨w8.heap.size,0,none⟩) hlW).trans k0;have r1:=(d1.cell (p:=⟨w8.heap.size,1,none⟩) hlW).trans k1;have B1:Zb w v1:=(by first|exact aaa blW d1|exact aaa blW.drew d1))
  | (go_at_call 142;(with_reducible refine(HH'.out _).mono ?_);rintro e v2 ⟨rfl,rfl⟩)
  | fail)
 all_goals clear bl
 all_goals have bl:=B1
 all_goals go_wp2_with fail
 all_goals go_ret
 all_goals exact⟨rfl,by first|exact bl|exact bl.drew⟩
theorem aua (T tp tr:TypeId)(V vp vr:Value)(n0 n1:Int)(heq:(n0==n1)=true)(hP:∃(F:FuncId) (R:Value),(∀n w,(method (n+1) T V "loop.example/g01175/impl.parts").run prog w=.ok (F,R) w)/\(∀n w,(nilAhead (n+1) T V "loop.example/g01175/impl.parts").run prog w=.ok (some false) w)/\(∀args w,(callFunc F args).run prog w=.ok (.enter F args) w)/\∀w,Calls prog F #[R] w fun e w'=>∃b,e=.returned (.slice (some ⟨b,0,none⟩) 1 1)/\w.heap.size<=b/\w'.heap[b]?=some (.cells #[.iface tp vp] 41 (0,0))/\Zb w w') (IH:Zr 92 #[.iface tp vp] (.iface tr vr))(HW:∀(b:Nat) (w:World),w.cell? ⟨b,0,none⟩=some (.iface tr vr)->Calls prog 135 #[.iface T V,.slice (some ⟨b,0,none⟩) 1 1] w fun e w'=>e=.returned (.iface 177 (.agg #[.int .u8 n0,.int .u8 n1,.iface tr vr]))/\Zb w w')(w:World) : Calls prog 92 #[.iface T V] w fun e w'=>e=.returned (.iface tr vr)/\Zb w w':=by
 obtain⟨F,RR,hm,hn,hc,hp⟩:=hP;have HP:=qz hp;have IH':=qz IH;have HW':=qz HW;clear hp IH HW
 go_enter func92,ntmps92
 go_wp2_with fail;refine(HP.out _).mono ?_;rintro e w3 ⟨b,rfl,hb,hh,bl⟩;have d0:=aac hh;have f0:=free_of_one hh;have g4:=qz hh;clear hh;go_wp2_with fail;refine wp_loop_rounds 2 ?_;rw[rounds_succ];go_wp2_with fail;refine(IH'.out _).mono ?_;rintro e w5 ⟨rfl,b5⟩;replace bl:=aaa bl b5;have h5:=aae g4.out b5;clear d0 f0;have d0:=aac h5;have f0:=free_of_one h5;replace bl:=bl.setCell (p:=⟨b,0,none⟩) (by show w.heap.size<=b;omega) (.iface tr vr);have e5:=one_setCell (u:=.iface tr vr) h5;have e0:=qz (aac e5);clear h5 e5;go_wp2_with fail;rw[rounds_succ];go_wp2_with fail;refine(HW'.out b _ e0.out).mono ?_;rintro e w8 ⟨rfl,b8⟩;replace bl:=aaa bl b8;clear d0 f0 b5 b8;go_wp2_with fail;go_ret;exact⟨rfl,by first|exact bl|exact bl.alloc bl.size _⟩
theorem aub (T tp tr:TypeId)(V vp vr:Value)(n0 n1:Int)(heq:(n0==n1)=false)(hP:∃(F:FuncId) (R:Value),(∀n w,(method (n+1) T V "loop.example/g01175/impl.parts").run prog w=.ok (F,R) w)/\(∀n w,(nilAhead (n+1) T V "loop.example/g01175/impl.parts").run prog w=.ok (some false) w)/\(∀args w,(callFunc F args).run prog w=.ok (.enter F args) w)/\∀w,Calls prog F #[R] w fun e w'=>∃b,e=.returned (.slice (some ⟨b,0,none⟩) 1 1)/\w.heap.size<=b/\w'.heap[b]?=some (.cells #[.iface tp vp] 41 (0,0))/\Zb w w') (IH:Zr 92 #[.iface tp vp] (.iface tr vr))(HW:∀(b:Nat) (w:World),w.cell? ⟨b,0,none⟩=some (.iface tr vr)->Calls prog 135 #[.iface T V,.slice (some ⟨b,0,none⟩) 1 1] w fun e w'=>e=.returned (.iface 177 (.agg #[.int .u8 n0,.int .u8 n1,.iface tr vr]))/\Zb w w') (HN:Zr 143 #[.iface tr vr] (.bool true))(w:World) : Calls prog 92 #[.iface T V] w fun e w'=>e=.returned (.iface tr vr)/\Zb w w':=by
 obtain⟨F,RR,hm,hn,hc,hp⟩:=hP;have HP:=qz hp;have IH':=qz IH;have HW':=qz HW;have HN':=qz HN;clear hp IH HW HN
 go_enter func92,ntmps92
 go_wp2_with fail;refine(HP.out _).mono ?_;rintro e w3 ⟨b,rfl,hb,hh,bl⟩;have d0:=aac hh;have f0:=free_of_one hh;have g4:=qz hh;clear hh;go_wp2_with fail;refine wp_loop_rounds 2 ?_;rw[rounds_succ];go_wp2_with fail;refine(IH'.out _).mono ?_;rintro e w5 ⟨rfl,b5⟩;replace bl:=aaa bl b5;have h5:=aae g4.out b5;clear d0 f0;have d0:=aac h5;have f0:=free_of_one h5;replace bl:=bl.setCell (p:=⟨b,0,none⟩) (by show w.heap.size<=b;omega) (.iface tr vr);have e5:=one_setCell (u:=.iface tr vr) h5;have e0:=qz (aac e5);clear h5 e5;go_wp2_with fail;rw[rounds_succ];go_wp2_with fail;refine(HW'.out b _ e0.out).mono ?_;rintro e w8 ⟨rfl,b8⟩;replace bl:=aaa bl b8;clear d0 f0 b5 b8;obtain⟨W,hW⟩:∃W,W=w8.alloc (.cells #[.int .u8 n0,.int .u8 n1,.iface tr vr] 177):=⟨_,rfl⟩;have hbk:W.heap[w8.heap.size]?=some (.cells #[.int .u8 n0,.int .u8 n1,.iface tr vr] 177 (0,0)):=by rw[hW];exact aai _ _
 have blW:Zb w W:=by rw[hW];exact bl.alloc bl.size _
 have Hbk:=qz hbk;have k0:W.cell? ⟨w8.heap.size,0,none⟩=some (.int .u8 n0):=by simp[World.cell?,hbk]
 have k1:W.cell? ⟨w8.heap.size,1,none⟩=some (.int .u8 n1):=by simp[World.cell?,hbk]
 have k2:W.cell? ⟨w8.heap.size,2,none⟩=some (.iface tr vr):=by simp[World.cell?,hbk]
 clear hbk;go_wp2_with fail;rw[<-hW];clear hW;refine(HN'.out _).mono ?_;rintro e v1 ⟨rfl,d1⟩;have h1:=aae Hbk.out d1;have r2:v1.cell? ⟨w8.heap.size,2,none⟩=some (.iface tr vr):=by simp[World.cell?,h1]
 replace bl:=aaa blW d1;clear k0 k1 k2 blW h1 d1;go_wp2_with fail;go_ret;exact⟨rfl,by first|exact bl|exact bl.alloc bl.size _⟩
theorem auc (T tp tr:TypeId)(V vp vr:Value)(n0 n1:Int)(heq:(n0==n1)=false)(hP:∃(F:FuncId) (R:Value),(∀n w,(method (n+1) T V "loop.example/g01175/impl.parts").run prog w=.ok (F,R) w)/\(∀n w,(nilAhead (n+1) T V "loop.example/g01175/impl.parts").run prog w=.ok (some false) w)/\(∀args w,(callFunc F args).run prog w=.ok (.enter F args) w)/\∀w,Calls prog F #[R] w fun e w'=>∃b,e=.returned (.slice (some ⟨b,0,none⟩) 1 1)/\w.heap.size<=b/\w'.heap[b]?=some (.cells #[.iface tp vp] 41 (0,0))/\Zb w w') (IH:Zr 92 #[.iface tp vp] (.iface tr vr))(HW:∀(b:Nat) (w:World),w.cell? ⟨b,0,none⟩=some (.iface tr vr)->Calls prog 135 #[.iface T V,.slice (some ⟨b,0,none⟩) 1 1] w fun e w'=>e=.returned (.iface 177 (.agg #[.int .u8 n0,.int .u8 n1,.iface tr vr]))/\Zb w w') (HN:Zr 143 #[.iface tr vr] (.bool false))(w:World) : Calls prog 92 #[.iface T V] w fun e w'=>e=.returned (.iface 177 (.agg #[.int .u8 n0,.int .u8 n1,.iface tr vr]))/\Zb w w':=by
 obtain⟨F,RR,hm,hn,hc,hp⟩:=hP;have HP:=qz hp;have IH':=qz IH;have HW':=qz HW;have HN':=qz HN;clear hp IH HW HN
 go_enter func92,ntmps92
 go_wp2_with fail;refine(HP.out _).mono ?_;rintro e w3 ⟨b,rfl,hb,hh,bl⟩;have d0:=aac hh;have f0:=free_of_one hh;have g4:=qz hh;clear hh;go_wp2_with fail;refine wp_loop_rounds 2 ?_;rw[rounds_succ];go_wp2_with fail;refine(IH'.out _).mono ?_;rintro e w5 ⟨rfl,b5⟩;replace bl:=aaa bl b5;have h5:=aae g4.out b5;clear d0 f0;have d0:=aac h5;have f0:=free_of_one h5;replace bl:=bl.setCell (p:=⟨b,0,none⟩) (by show w.heap.size<=b;omega) (.iface tr vr);have e5:=one_setCell (u:=.iface tr vr) h5;have e0:=qz (aac e5);clear h5 e5;go_wp2_with fail;rw[rounds_succ];go_wp2_with fail;refine(HW'.out b _ e0.out).mono ?_;rintro e w8 ⟨rfl,b8⟩;replace bl:=aaa bl b8;clear d0 f0 b5 b8;obtain⟨W,hW⟩:∃W,W=w8.alloc (.cells #[.int .u8 n0,.int .u8 n1,.iface tr vr] 177):=⟨_,rfl⟩;have hbk:W.heap[w8.heap.size]?=some (.cells #[.int .u8 n0,.int .u8 n1,.iface tr vr] 177 (0,0)):=by rw[hW];exact aai _ _
 have blW:Zb w W:=by rw[hW];exact bl.alloc bl.size _
 have Hbk:=qz hbk;have k0:W.cell? ⟨w8.heap.size,0,none⟩=some (.int .u8 n0):=by simp[World.cell?,hbk]
 have k1:W.cell? ⟨w8.heap.size,1,none⟩=some (.int .u8 n1):=by simp[World.cell?,hbk]
 have k2:W.cell? ⟨w8.heap.size,2,none⟩=some (.iface tr vr):=by simp[World.cell?,hbk]
 clear hbk;go_wp2_with fail;rw[<-hW];clear hW;refine(HN'.out _).mono ?_;rintro e v1 ⟨rfl,d1⟩;have h1:=aae Hbk.out d1;have r2:v1.cell? ⟨w8.heap.size,2,none⟩=some (.iface tr vr):=by simp[World.cell?,h1]
 replace bl:=aaa blW d1;clear k0 k1 k2 blW h1 d1;go_wp2_with fail;go_ret;exact⟨rfl,by first|exact bl|exact bl.alloc bl.size _⟩
theorem aud (T tp tr:TypeId)(V vp vr:Value)  (hP:∃(F:FuncId) (R:Value),(∀n w,(method (n+1) T V "loop.example/g01175/impl.parts").run prog w=.ok (F,R) w)/\(∀n w,(nilAhead (n+1) T V "loop.example/g01175/impl.parts").run prog w=.ok (some false) w)/\(∀args w,(callFunc F args).run prog w=.ok (.enter F args) w)/\∀w,Calls prog F #[R] w fun e w'=>∃b,e=.returned (.slice (some ⟨b,0,none⟩) 1 1)/\w.heap.size<=b/\w'.heap[b]?=some (.cells #[.iface tp vp] 41 (0,0))/\Zb w w') (IH:Zr 92 #[.iface tp vp] (.iface tr vr))(HW:∀(b:Nat) (w:World),w.cell? ⟨b,0,none⟩=some (.iface tr vr)->Calls prog 135 #[.iface T V,.slice (some ⟨b,0,none⟩) 1 1] w fun e w'=>e=.returned (.iface 120 (.agg #[.iface tr vr]))/\Zb w w') (HN:Zr 143 #[.iface tr vr] (.bool true))(w:World) : Calls prog 92 #[.iface T V] w fun e w'=>e=.returned (.iface tr vr)/\Zb w w':=by
 obtain⟨F,RR,hm,hn,hc,hp⟩:=hP;have HP:=qz hp;have IH':=qz IH;have HW':=qz HW;have HN':=qz HN;clear hp IH HW HN
 go_enter func92,ntmps92
 go_wp2_with fail;refine(HP.out _).mono ?_;rintro e w3 ⟨b,rfl,hb,hh,bl⟩;have d0:=aac hh;have f0:=free_of_one hh;have g4:=qz hh;clear hh;go_wp2_with fail;refine wp_loop_rounds 2 ?_;rw[rounds_succ];go_wp2_with fail;refine(IH'.out _).mono ?_;rintro e w5 ⟨rfl,b5⟩;replace bl:=aaa bl b5;have h5:=aae g4.out b5;clear d0 f0;have d0:=aac h5;have f0:=free_of_one h5;replace bl:=bl.setCell (p:=⟨b,0,none⟩) (by show w.heap.size<=b;omega) (.iface tr vr);have e5:=one_setCell (u:=.iface tr vr) h5;have e0:=qz (aac e5);clear h5 e5;go_wp2_with fail;rw[rounds_succ];go_wp2_with fail;refine(HW'.out b _ e0.out).mono ?_;rintro e w8 ⟨rfl,b8⟩;replace bl:=aaa bl b8;clear d0 f0 b5 b8;obtain⟨W,hW⟩:∃W,W=w8.alloc (.cells #[.iface tr vr] 120):=⟨_,rfl⟩;have hbk:W.heap[w8.heap.size]?=some (.cells #[.iface tr vr] 120 (0,0)):=by rw[hW];exact aai _ _
 have blW:Zb w W:=by rw[hW];exact bl.alloc bl.size _
 have Hbk:=qz hbk;have k0:W.cell? ⟨w8.heap.size,0,none⟩=some (.iface tr vr):=by simp[World.cell?,hbk]
 clear hbk;go_wp2_with fail;rw[<-hW];clear hW;refine(HN'.out _).mono ?_;rintro e v1 ⟨rfl,d1⟩;have h1:=aae Hbk.out d1;have r2:v1.cell? ⟨w8.heap.size,0,none⟩=some (.iface tr vr):=by simp[World.cell?,h1]
 replace bl:=aaa blW d1;clear k0 blW h1 d1;go_wp2_with fail;go_ret;exact⟨rfl,by first|exact bl|exact bl.alloc bl.size _⟩
theorem aue (T tp tr:TypeId)(V vp vr:Value)  (hP:∃(F:FuncId) (R:Value),(∀n w,(method (n+1) T V "loop.example/g01175/impl.parts").run prog w=.ok (F,R) w)/\(∀n w,(nilAhead (n+1) T V "loop.example/g01175/impl.parts").run prog w=.ok (some false) w)/\(∀args w,(callFunc F args).run prog w=.ok (.enter F args) w)/\∀w,Calls prog F #[R] w fun e w'=>∃b,e=.returned (.slice (some ⟨b,0,none⟩) 1 1)/\w.heap.size<=b/\w'.heap[b]?=some (.cells #[.iface tp vp] 41 (0,0))/\Zb w w') (IH:Zr 92 #[.iface tp vp] (.iface tr vr))(HW:∀(b:Nat) (w:World),w.cell? ⟨b,0,none⟩=some (.iface tr vr)->Calls prog 135 #[.iface T V,.slice (some ⟨b,0,none⟩) 1 1] w fun e w'=>e=.returned (.iface 120 (.agg #[.iface tr vr]))/\Zb w w') (HN:Zr 143 #[.iface tr vr] (.bool false))(w:World) : Calls prog 92 #[.iface T V] w fun e w'=>e=.returned (.iface 120 (.agg #[.iface tr vr]))/\Zb w w':=by
 obtain⟨F,RR,hm,hn,hc,hp⟩:=hP;have HP:=qz hp;have IH':=qz IH;have HW':=qz HW;have HN':=qz HN;clear hp IH HW HN
 go_enter func92,ntmps92
 go_wp2_with fail;refine(HP.out _).mono ?_;rintro e w3 ⟨b,rfl,hb,hh,bl⟩;have d0:=aac hh;have f0:=free_of_one hh;have g4:=qz hh;clear hh;go_wp2_with fail;refine wp_loop_rounds 2 ?_;rw[rounds_succ];go_wp2_with fail;refine(IH'.out _).mono ?_;rintro e w5 ⟨rfl,b5⟩;replace bl:=aaa bl b5;have h5:=aae g4.out b5;clear d0 f0;have d0:=aac h5;have f0:=free_of_one h5;replace bl:=bl.setCell (p:=⟨b,0,none⟩) (by show w.heap.size<=b;omega) (.iface tr vr);have e5:=one_setCell (u:=.iface tr vr) h5;have e0:=qz (aac e5);clear h5 e5;go_wp2_with fail;rw[rounds_succ];go_wp2_with fail;refine(HW'.out b _ e0.out).mono ?_;rintro e w8 ⟨rfl,b8⟩;replace bl:=aaa bl b8;clear d0 f0 b5 b8;obtain⟨W,hW⟩:∃W,W=w8.alloc (.cells #[.iface tr vr] 120):=⟨_,rfl⟩;have hbk:W.heap[w8.heap.size]?=some (.cells #[.iface tr vr] 120 (0,0)):=by rw[hW];exact aai _ _
 have blW:Zb w W:=by rw[hW];exact bl.alloc bl.size _
 have Hbk:=qz hbk;have k0:W.cell? ⟨w8.heap.size,0,none⟩=some (.iface tr vr):=by simp[World.cell?,hbk]
 clear hbk;go_wp2_with fail;rw[<-hW];clear hW;refine(HN'.out _).mono ?_;rintro e v1 ⟨rfl,d1⟩;have h1:=aae Hbk.out d1;have r2:v1.cell? ⟨w8.heap.size,0,none⟩=some (.iface tr vr):=by simp[World.cell?,h1]
 replace bl:=aaa blW d1;clear k0 blW h1 d1;go_wp2_with fail;go_ret;exact⟨rfl,by first|exact bl|exact bl.alloc bl.size _⟩
theorem aph (T tp tq tr ts:TypeId)(V vp vq vr vs:Value)(tx:TypeId)(vx:Value)(hP:∃(F:FuncId) (R:Value),(∀n w,(method (n+1) T V "loop.example/g01175/impl.parts").run prog w=.ok (F,R) w)/\(∀n w,(nilAhead (n+1) T V "loop.example/g01175/impl.parts").run prog w=.ok (some false) w)/\(∀args w,(callFunc F args).run prog w=.ok (.enter F args) w)/\∀w,Calls prog F #[R] w fun e w'=>∃b,e=.returned (.slice (some ⟨b,0,none⟩) 2 2)/\w.heap.size<=b/\w'.heap[b]?=some (.cells #[.iface tp vp,.iface tq vq] 41 (0,0))/\Zb w w') (IH:Zr 92 #[.iface tp vp] (.iface tr vr))(IH2:Zr 92 #[.iface tq vq] (.iface ts vs))(HW:∀(b:Nat) (w:World),w.cell? ⟨b,0,none⟩=some (.iface tr vr)->w.cell? ⟨b,1,none⟩=some (.iface ts vs)->Calls prog 135 #[.iface T V,.slice (some ⟨b,0,none⟩) 2 2] w fun e w'=>e=.returned (.iface 165 (.agg #[.iface tr vr,.iface ts vs]))/\Zb w w') (HWN:Zr 141 #[.agg #[.iface tr vr,.iface ts vs],.iface 165 (.agg #[.iface tr vr,.iface ts vs])] (.iface tx vx))(w:World) : Calls prog 92 #[.iface T V] w fun e w'=>e=.returned (.iface tx vx)/\Zb w w':=by
 obtain⟨F,RR,hm,hn,hc,hp⟩:=hP;have HP:=qz hp;have IH':=qz IH;have IH2':=qz IH2;have HW':=qz HW;have HWN':=qz HWN;clear hp IH IH2 HW HWN
 go_enter func92,ntmps92
 go_wp2_with fail;refine(HP.out _).mono ?_;rintro e w3 ⟨b,rfl,hb,hh,bl⟩;have d0:=aaf hh;have f0:=aa6 hh 0;have Hh:=qz hh;clear hh;go_wp2_with fail;refine wp_loop_rounds 3 ?_;rw[rounds_succ];go_wp2_with fail;refine(IH'.out _).mono ?_;rintro e w4 ⟨rfl,b4⟩;replace bl:=aaa bl b4;have h4:=aae Hh.out b4;clear d0 f0 b4;have d0:=aaf h4;have f0:=aa6 h4 0;have e4:=qz (ad1 h4 (.iface tr vr));have x1:=aak e4.out;replace bl:=bl.setCell (p:=⟨b,0,none⟩) (by show w.heap.size<=b;omega) (.iface tr vr);clear h4;go_wp2_with fail;rw[rounds_succ];go_wp2_with fail;refine(IH2'.out _).mono ?_;rintro e w5 ⟨rfl,b5⟩;replace bl:=aaa bl b5;have h5:=aae e4.out b5;clear d0 f0 x1 b5;have d1:=aak h5;have f1:=aa6 h5 1;have e5:=aff h5 (.iface ts vs);have E0:=qz (aaf e5);have E1:=qz (aak e5);replace bl:=bl.setCell (p:=⟨b,1,none⟩) (by show w.heap.size<=b;omega) (.iface ts vs);clear h5 e5;go_wp2_with fail;rw[rounds_succ];go_wp2_with fail;refine(HW'.out b _ E0.out E1.out).mono ?_;rintro e w8 ⟨rfl,b8⟩;replace bl:=aaa bl b8;clear d1 f1 b8;go_wp2_with fail;refine(HWN'.out _).mono ?_;rintro e v1 ⟨rfl,d1⟩;replace bl:=aaa (bl.alloc bl.size _) d1;go_wp2_with fail;go_ret;exact⟨rfl,bl⟩
theorem api (T tp tq tr ts:TypeId)(V vp vq vr vs:Value)(tx:TypeId)(vx:Value)(hP:∃(F:FuncId) (R:Value),(∀n w,(method (n+1) T V "loop.example/g01175/impl.parts").run prog w=.ok (F,R) w)/\(∀n w,(nilAhead (n+1) T V "loop.example/g01175/impl.parts").run prog w=.ok (some false) w)/\(∀args w,(callFunc F args).run prog w=.ok (.enter F args) w)/\∀w,Calls prog F #[R] w fun e w'=>∃b,e=.returned (.slice (some ⟨b,0,none⟩) 2 2)/\w.heap.size<=b/\w'.heap[b]?=some (.cells #[.iface tp vp,.iface tq vq] 41 (0,0))/\Zb w w') (IH:Zr 92 #[.iface tp vp] (.iface tr vr))(IH2:Zr 92 #[.iface tq vq] (.iface ts vs))(HW:∀(b:Nat) (w:World),w.cell? ⟨b,0,none⟩=some (.iface tr vr)->w.cell? ⟨b,1,none⟩=some (.iface ts vs)->Calls prog 135 #[.iface T V,.slice (some ⟨b,0,none⟩) 2 2] w fun e w'=>e=.returned (.iface 140 (.agg #[.iface tr vr,.iface ts vs]))/\Zb w w') (HWN:Zr 141 #[.agg #[.iface tr vr,.iface ts vs],.iface 140 (.agg #[.iface tr vr,.iface ts vs])] (.iface tx vx))(w:World) : Calls prog 92 #[.iface T V] w fun e w'=>e=.returned (.iface tx vx)/\Zb w w':=by
 obtain⟨F,RR,hm,hn,hc,hp⟩:=hP;have HP:=qz hp;have IH':=qz IH;have IH2':=qz IH2;have HW':=qz HW;have HWN':=qz HWN;clear hp IH IH2 HW HWN
 go_enter func92,ntmps92
 go_wp2_with fail;refine(HP.out _).mono ?_;rintro e w3 ⟨b,rfl,hb,hh,bl⟩;have d0:=aaf hh;have f0:=aa6 hh 0;have Hh:=qz hh;clear hh;go_wp2_with fail;refine wp_loop_rounds 3 ?_;rw[rounds_succ];go_wp2_with fail;refine(IH'.out _).mono ?_;rintro e w4 ⟨rfl,b4⟩;replace bl:=aaa bl b4;have h4:=aae Hh.out b4;clear d0 f0 b4;have d0:=aaf h4;have f0:=aa6 h4 0;have e4:=qz (ad1 h4 (.iface tr vr));have x1:=aak e4.out;replace bl:=bl.setCell (p:=⟨b,0,none⟩) (by show w.heap.size<=b;omega) (.iface tr vr);clear h4;go_wp2_with fail;rw[rounds_succ];go_wp2_with fail;refine(IH2'.out _).mono ?_;rintro e w5 ⟨rfl,b5⟩;replace bl:=aaa bl b5;have h5:=aae e4.out b5;clear d0 f0 x1 b5;have d1:=aak h5;have f1:=aa6 h5 1;have e5:=aff h5 (.iface ts vs);have E0:=qz (aaf e5);have E1:=qz (aak e5);replace bl:=bl.setCell (p:=⟨b,1,none⟩) (by show w.heap.size<=b;omega) (.iface ts vs);clear h5 e5;go_wp2_with fail;rw[rounds_succ];go_wp2_with fail;refine(HW'.out b _ E0.out E1.out).mono ?_;rintro e w8 ⟨rfl,b8⟩;replace bl:=aaa bl b8;clear d1 f1 b8;go_wp2_with fail;refine(HWN'.out _).mono ?_;rintro e v1 ⟨rfl,d1⟩;replace bl:=aaa (bl.alloc bl.size _) d1;go_wp2_with fail;go_ret;exact⟨rfl,bl⟩
theorem aeT (p q u:Tm)(w:World):Calls prog 141 #[.agg #[.iface (aau p) (pay p),.iface (aau q) (pay q)],.iface (aau u) (pay u)] w (ayx (if p=.nil then q else if q=.nil then p else u) w):=by
 have h1:=abW p;have h2:=abW q
 by_cases hp:p=.nil
 ·rw[if_pos hp];rw[(acU p).2 hp]at h1;exact ayL _ _ _ _ _ _ h1 w
 ·rw[if_neg hp];rw[Bool.eq_false_iff.2 fun h=>hp ((acU p).1 h)]at h1
  by_cases hq:q=.nil
  ·rw[if_pos hq];rw[(acU q).2 hq]at h2;exact ayM _ _ _ _ _ _ h1 h2 w
  ·rw[if_neg hq];rw[Bool.eq_false_iff.2 fun h=>hq ((acU q).1 h)]at h2;exact ayN _ _ _ _ _ _ h1 h2 w
theorem abP (t:Tm):t.ok nmL=true->∀w,Calls prog 92 #[.iface (aau t) (pay t)] w (ayx t.sim w):=by
 induction t with
 | nil=>intro _ w;exact sm_nil w
 | snd a b p ih=>intro ho w;simp only[Tm.ok,bae]at ho;exact at7 _ _ _ _ _ _ _ _ (parts_fact (.snd a b p)).pf (ih ho.2) (fun b' w h=>aaD (.snd a b p) p p.sim rfl b' 1 w (nl _) h) w
 | rcv a b p ih=>intro ho w;simp only[Tm.ok,bae]at ho;exact al_ _ _ _ _ _ _ _ _ (parts_fact (.rcv a b p)).pf (ih ho.2) (fun b' w h=>aaD (.rcv a b p) p p.sim rfl b' 1 w (nl _) h) w
 | tau p ih=>intro ho w;simp only[Tm.ok]at ho;exact sm_silent _ _ _ _ _ _ 0 0 (parts_fact (.tau p)).pf (ih ho) (fun b' w h=>aaD (.tau p) p p.sim rfl b' 1 w (nl _) h) w
 | own x p ih=>
  intro ho w;simp only[Tm.ok,bae]at ho;have hF:=abD p.sim (apg p ho.2);have hH:=anY p.sim (apg p ho.2) x ho.1;unfold Tm.sim
  by_cases hx:x∈p.sim.free
  ·rw[if_pos hx];rw[decide_eq_true hx]at hH;exact at8 _ _ _ _ _ _ _ _ (parts_fact (.own x p)).pf (ih ho.2) (fun b' w h=>aaD (.own x p) p p.sim rfl b' 1 w (nl _) h) hF hH w
  ·rw[if_neg hx];rw[decide_eq_false hx]at hH;exact at9 _ _ _ _ _ _ _ _ (parts_fact (.own x p)).pf (ih ho.2) (fun b' w h=>aaD (.own x p) p p.sim rfl b' 1 w (nl _) h) hF hH w
 | mat a b p ih=>
  intro ho w;simp only[Tm.ok,bae]at ho;have hN:=abW p.sim;have hW:=fun (b':Nat) (w:World) h=>aaD (.mat a b p) p p.sim rfl b' 1 w (nl _) h;unfold Tm.sim
  by_cases hab:a=b
  ·rw[if_pos (.inl hab)];exact aua _ _ _ _ _ _ _ _ (by simp[hab]) (parts_fact (.mat a b p)).pf (ih ho.2) hW w
  ·have hne:(((a.toNat:Nat):Int)==((b.toNat:Nat):Int))=false:=ayK hab
   by_cases hp:p.sim=.nil
   ·rw[if_pos (.inr hp)];rw[(acU _).2 hp]at hN;exact aub _ _ _ _ _ _ _ _ hne (parts_fact (.mat a b p)).pf (ih ho.2) hW hN w
   ·rw[if_neg (fun h=>h.elim hab hp)];rw[Bool.eq_false_iff.2 fun h=>hp ((acU _).1 h)]at hN;exact auc _ _ _ _ _ _ _ _ hne (parts_fact (.mat a b p)).pf (ih ho.2) hW hN w
 | rep p ih=>
  intro ho w;simp only[Tm.ok]at ho;have hN:=abW p.sim;have hW:=fun (b':Nat) (w:World) h=>aaD (.rep p) p p.sim rfl b' 1 w (nl _) h;unfold Tm.sim
  by_cases hp:p.sim=.nil
  ·rw[if_pos hp];rw[(acU _).2 hp]at hN;exact aud _ _ _ _ _ _ (parts_fact (.rep p)).pf (ih ho) hW hN w
  ·rw[if_neg hp];rw[Bool.eq_false_iff.2 fun h=>hp ((acU _).1 h)]at hN;exact aue _ _ _ _ _ _ (parts_fact (.rep p)).pf (ih ho) hW hN w
 | sum p q ih ih2=>
  intro ho w;simp only[Tm.ok,bae]at ho;have hW:=fun (b':Nat) (w:World) h h1=>acx (.sum p q) p q p.sim q.sim rfl b' 2 w (nl _) h h1;unfold Tm.sim;exact aph _ _ _ _ _ _ _ _ _ _ _ _ (parts_fact (.sum p q)).pf (ih ho.1) (ih2 ho.2) hW (aeT p.sim q.sim (.sum p.sim q.sim)) w
 | par p q ih ih2=>
  intro ho w;simp only[Tm.ok,bae]at ho;have hW:=fun (b':Nat) (w:World) h h1=>acx (.par p q) p q p.sim q.sim rfl b' 2 w (nl _) h h1;unfold Tm.sim;exact api _ _ _ _ _ _ _ _ _ _ _ _ (parts_fact (.par p q)).pf (ih ho.1) (ih2 ho.2) hW (aeT p.sim q.sim (.par p.sim q.sim)) w
end Go.Proofs.YtihmcgcgjmbmhaaGreat.T1
