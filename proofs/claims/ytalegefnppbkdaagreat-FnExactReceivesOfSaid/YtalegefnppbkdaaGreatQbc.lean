/- Texts of the proof. No conditions. -/
import Derived.Test.YtalegefnppbkdaaGreatQbb
import Derived.Laws.Tables
namespace Go.Proofs.YtalegefnppbkdaaGreat.T1
open Go.Proofs.Tryz
set_option maxHeartbeats 4000000
open Go.RowKit
set_option maxRecDepth 100000
set_option linter.unusedVariables false
theorem abl {B g:Nat}{u v:World}{cs:Array Value}(h:Below B u v)(hg:B<=g)(hB:B<=v.heap.size):Below B u (v.setRow g cs):=
 h.trans ⟨rfl,rfl,rfl,by simp,fun i hi=>setRow_other v g i cs (by omega)⟩
def ScOf (C:Array Value)(sc:UInt8->UInt8):Prop:=C.size=256/\∀j,j<256->C[j]?=some (.int .u8 ((sc (UInt8.ofNat (j))).toNat:Int))
theorem avw:Hid ((Tryz.zeroCells124).size=256):=by show _=_;kernel_rfl
theorem ahq (w:World):Calls prog 116 #[] w fun e w'=>∃C,e=.returned (.agg C)/\ScOf C id/\Zb w w':=by
 go_enter func116,ntmps116
 go_wp2_with fail;obtain⟨Z,hZ⟩:∃Z:Array Value,Z=Tryz.zeroCells124:=⟨_,rfl⟩;rw[<-hZ];have hZs:Hid (Z.size=256):=by rw[hZ];exact avw
 obtain⟨W,hW⟩:∃W,W=(w.alloc (.cells Z 124)).alloc (.cells Z 124):=⟨_,rfl⟩;rw[<-hW];have r0:Hid (W.heap[w.heap.size]?=some (.cells Z 124 (0,0))):=by rw[hW];exact ab4 _ _ _
 have r1:Hid (W.heap[w.heap.size+1]?=some (.cells Z 124 (0,0))):=by rw[hW];exact abj _ _ _
 have bl:Zb w W:=by rw[hW];exact aaM _ _ _
 clear hW hZ
 go_loopw [3] (fun i wr=>∃(k:Nat) (C:Array Value),k<=256/\i=.int .i64 (k:Int)/\Hid (C.size=256)/\Hid (∀j,j<k->C[j]?=some (.int .u8 ((j:Nat):Int)))/\Hid (wr.heap[w.heap.size]?=some (.cells Z 124 (0,0)))/\Hid (wr.heap[w.heap.size+1]?=some (.cells C 124 (0,0)))/\Zb w wr) (fun i _=>256 - (intOf i).toNat)
 case atStart=>exact⟨0,Z,Nat.zero_le _,rfl,hZs,fun j h=>by omega,r0,r1,bl⟩
 case round=>
  obtain⟨k,C,hk,rfl,hC,hCj,h0,h1,hbw⟩:=hrel
  by_cases hlt:k<256
  ·obtain⟨y,hy⟩:∃y,C[k]?=some y:=⟨_,Array.getElem?_eq_getElem (by have:=hC.out;omega)⟩;have c1:wr.cell? ⟨w.heap.size+1,k,none⟩=some y:=by rw[cell_of_row wr _ k C _ _ h1.out];exact hy
   have f1:=frozen_of_row wr (w.heap.size+1) k C _ h1.out;have hw8:IntKind.u8.wrap ((k:Int))=(k:Int):=by rw[IntKind.wrap_u8]<;>omega
   have H1:=qz (heap_setCell_same wr (w.heap.size+1) k C 124 (.int .u8 ((k:Int))) h1.out);have H0:Hid ((wr.setCell ⟨w.heap.size+1,k,none⟩ (.int .u8 ((k:Int)))).heap[w.heap.size]?=some (.cells Z 124 (0,0))):=ac0 h0.out (by omega);have HS:Hid ((C.setIfInBounds k (.int .u8 ((k:Int)))).size=256):=by show _=_;rw[Array.size_setIfInBounds];exact hC.out
   have HJ:Hid (∀j,j<k+1->(C.setIfInBounds k (.int .u8 ((k:Int))))[j]?=some (.int .u8 ((j:Nat):Int))):=fun j hj=>by
    by_cases e:k=j
    ·subst e;rw[Array.getElem?_setIfInBounds_self_of_lt (by have:=hC.out;omega)]
    ·rw[Array.getElem?_setIfInBounds_ne e];exact hCj.out j (by omega)
   clear hy;go_wp2_with fail
   go_roundw
   case rel=>exact⟨k+1,_,by omega,by go_num,HS,HJ,H0,H1,hbw.setCell (p:=⟨w.heap.size+1,k,none⟩) (by show w.heap.size<=w.heap.size+1;omega) _⟩
   case measure=>simp[intOf];omega
  ·obtain rfl:k=256:=by omega
   have HSc:Hid (ScOf C id):=⟨hC.out,fun j hj=>by rw[hCj.out j hj];show _=some (Value.int .u8 (((UInt8.ofNat (j)).toNat:Nat):Int));rw[UInt8.toNat_ofNat',Nat.mod_eq_of_lt (by omega)]⟩;have hi:Hid ((prog.info? 124).map (·.size)=some C.size):=by show _=_;rw[Tryz.infoSc,hC.out]
   have hone:Hid (C.all (·.oneCell')=true):=by
    refine Array.all_eq_true.2 fun i hi=>?_;have hi':i<256:=by have:=hC.out;omega
    have h1:=hCj.out i hi';rw[Array.getElem?_eq_getElem hi]at h1;simp only[Option.some.injEq]at h1;rw[h1];rfl
   have hold:Hid (Z.size=C.size):=by show _=_;rw[hZs.out,hC.out]
   clear hC hCj
   go_wp2_with (first|refine wpList_load_row rfl 124 (.tmp 1) rfl (w.heap.size+1) rfl 124 C (0,0) _ h1.out underlying124 rfl hi.out ?_|refine wpList_store_row rfl 124 (.tmp 0) (.tmp 11) rfl w.heap.size C rfl rfl 124 Z h0.out hi.out hold.out hone.out ?_)
   exact bodyPost_ret (v:=.agg C) (results_cell_row (t:=124) (fr:=(0,0)) rfl _ _ w.heap.size _ _ rfl (setRow_heap wr w.heap.size Z C 124 _ h0.out) underlying124 rfl hi.out) rfl ⟨C,rfl,HSc.out,abl hbw (nl _) hbw.size⟩
set_option linter.unusedSimpArgs false
theorem awD (args:Array Value)(w:World):(callFunc 176 args).run prog w=.ok (.enter 176 args) w:=by kernel_rfl
theorem awE (j g:Nat)(hj:j<256)(n0:Int)(w:World)(h1:w.cell? ⟨g,j,none⟩=some (.int .u8 n0)) : Calls prog 176 #[.int .u8 ((j:Int)),.pointer (some ⟨g,0,none⟩)] w fun e w'=>e=.returned (.int .u8 n0)/\w=w':=by
 have hj2:(j:Int)<256:=by omega
 go_enter func176,ntmps176
 go_wp2_with fail;go_ret;exact⟨rfl,rfl⟩
theorem aqG {c:UInt8}(h:nmL c=true):c.toNat<256/\((c.toNat:Nat):Int)=((c.toNat:Nat):Int)/\UInt8.ofNat c.toNat=c:=by
 have:=c.toNat_lt;exact⟨by omega,rfl,u8_ext (by rw[UInt8.toNat_ofNat'];omega)⟩
theorem avx (c:UInt8)(hc:nmL c=true)(C:Array Value)(sc:UInt8->UInt8)(hs:ScOf C sc)(g:Nat)(w:World)(h:w.heap[g]?=some (.cells C 124 (0,0))) : Calls prog 176 (#[.int .u8 (c.toNat:Int)]++#[.pointer (some ⟨g,0,none⟩)]) w fun e w'=>e=.returned (.int .u8 ((sc c).toNat:Int))/\w=w':=by
 obtain⟨h1,h2,h3⟩:=aqG hc;have:=awE (c.toNat) g h1 ((sc c).toNat:Int) w (by rw[cell_of_row w g _ C _ _ h,hs.2 _ h1,h3]);exact this
theorem ate (t:Tm)(h:t.ok nmL=true):∀c∈t.used,nmL c=true:=by
 intro c hc
 cases t<;>simp only[Tm.used,Tm.ok,bae,List.mem_cons,List.not_mem_nil,or_false]at hc h
 ·rcases hc with rfl|rfl;exact h.1.1;exact h.1.2
 ·subst hc;exact h.1.1
 ·rcases hc with rfl|rfl;exact h.1.1;exact h.1.2
theorem afq (t:Tm)(ht:t.ok nmL=true)(C:Array Value)(sc:UInt8->UInt8)(hs:ScOf C sc)(g:Nat)(v:World)(h:v.heap[g]?=some (.cells C 124 (0,0))) :
  Calls prog 175 #[.iface (aaB t) (pay t),.func (.func 176) #[] #[.pointer (some ⟨g,0,none⟩)]] v fun e v'=>e=.returned (.iface (aaB (t.mapU sc)) (pay (t.mapU sc)))/\Zb v v':=
 aex t 176 _ sc awD v fun c hc v1 b1=>avx c (ate t ht c hc) C sc hs g v1 (aau h b1)
theorem arO (C:Array Value)(sc:UInt8->UInt8)(x n0:UInt8)(hx:nmL x=true)(hs:ScOf C sc):ScOf (C.setIfInBounds (x.toNat) (.int .u8 (n0.toNat:Int))) (upd sc x n0):=by
 obtain⟨h1,_,h3⟩:=aqG hx;refine⟨by rw[Array.size_setIfInBounds];exact hs.1,fun j hj=>?_⟩
 by_cases e:x.toNat=j
 ·subst e;rw[Array.getElem?_setIfInBounds_self_of_lt (by rw[hs.1];exact h1),h3];unfold upd;rw[if_pos rfl]
 ·rw[Array.getElem?_setIfInBounds_ne e,hs.2 j hj];unfold upd;rw[if_neg];intro e2
  apply e
  rw[<-e2,UInt8.toNat_ofNat'];omega
structure NmS (w:World) (g:Nat) (v:Value) (ns:List UInt8):Prop where
 ex:∃(a:Option Addr) (c:Nat),v=.slice a ns.length c/\ns.length<=c/\(ns≠[]->∃off,a=some ⟨g,off,none⟩/\∀j (h:j<ns.length),w.cell? ⟨g,off+j,none⟩=some (.int .u8 (ns[j].toNat:Int)))
theorem NmS.below {w w':World}{g:Nat}{v:Value}{ns:List UInt8}(h:NmS w g v ns)(k:Zb w w'):NmS w' g v ns:=by
 obtain⟨a,c,h1,h2,h3⟩:=h.ex;refine⟨a,c,h1,h2,fun hne=>?_⟩;obtain⟨off,h4,h5⟩:=h3 hne;exact⟨off,h4,fun j hj=>(k.cell (p:=⟨g,off+j,none⟩) (aa1 (h5 j hj))).trans (h5 j hj)⟩
theorem NmS.set {w:World}{g:Nat}{v:Value}{ns:List UInt8}(h:NmS w g v ns)(b k:Nat)(x:Value)(hb:g<b):NmS (w.setCell ⟨b,k,none⟩ x) g v ns:=by
 obtain⟨a,c,h1,h2,h3⟩:=h.ex;refine⟨a,c,h1,h2,fun hne=>?_⟩;obtain⟨off,h4,h5⟩:=h3 hne;exact⟨off,h4,fun j hj=>(((Below.refl b w).setCell (p:=⟨b,k,none⟩) (nl b) x).cell (p:=⟨g,off+j,none⟩) (by show g<b;omega)).trans (h5 j hj)⟩
theorem NmS.tail {w:World}{g off c:Nat}{n0:UInt8}{ns:List UInt8}(h1:(n0::ns).length<=c)(h5:∀j (h:j<(n0::ns).length),w.cell? ⟨g,off+j,none⟩=some (.int .u8 ((n0::ns)[j].toNat:Int))):NmS w g (.slice (some ⟨g,off+1,none⟩) ns.length (c - 1)) ns:=by
 simp only[List.length_cons]at h1;refine⟨_,_,rfl,by omega,fun _=>⟨off+1,rfl,fun j hj=>?_⟩⟩;have:=h5 (j+1) (by simp;omega);rw[show off+1+j=off+(j+1) by omega];simpa using this
theorem avy (x:Value)(w:World):Calls prog 108 #[.iface (aaB .nil) (pay .nil),x] w fun e w'=>e=.returned (.iface (aaB .nil) (pay .nil))/\Zb w w':=by
 show Calls prog 108 #[.iface 90 (.agg #[]),x] w fun e w'=>e=.returned (.iface 90 (.agg #[]))/\Zb w w'
 go_enter func108,ntmps108
 go_wp2_with fail;go_ret;exact⟨rfl,Below.refl _ _⟩
theorem afr (t:Tm):∀(sc:UInt8->UInt8) (C:Array Value) (ns:List UInt8) (v:Value) (g:Nat) (w:World),t.ok nmL=true->ScOf C sc->g<=w.heap.size->NmS w g v ns->t.bnd.length<=ns.length-> Calls prog 149 #[.iface (aaB t) (pay t),.agg C,v] w (adl (aaB (can t sc ns)) (pay (can t sc ns)) (fun v w=>NmS w g v (ns.drop t.bnd.length)) w):=by
 induction t with
 | nil=>
  intro sc C ns v g w ht hs hg hn hb;have hB:=aap .nil;exact(axo _ _ _ _ v C hs.1 w (parts_fact .nil) (fun u hu=>afq .nil ht C sc hs _ u hu) hB avy).mono fun e w' h=>⟨v,h.1,hn.below h.2,h.2⟩
 | snd a b p ih=>
  intro sc C ns v g w ht hs hg hn hb;have ht0:=ht;simp only[Tm.ok,bae]at ht;have hB:=aap (Tm.snd (sc a) (sc b) p);have hI:=fun (w1:World) (b1:Zb w w1)=>ih sc C ns v g w1 ht.2 hs (Nat.le_trans hg b1.size) (hn.below b1) hb;simp only[can];obtain⟨r,hr⟩:∃r,r=can p sc ns:=⟨_,rfl⟩;rw[<-hr]at hI ⊢;exact awo _ _ _ _ v C hs.1 _ _ _ _ _ _ _ g w (parts_fact (Tm.snd (sc a) (sc b) p)).pf (fun u hu=>afq (.snd a b p) ht0 C sc hs _ u hu) hg hB (fun v w w' h k=>NmS.below h k) (fun v w b x h0 h=>NmS.set h b 0 x h0) hI (fun bk w hc=>aaU (Tm.snd (sc a) (sc b) p) p r rfl bk 1 w (by omega) hc)
 | mat a b p ih=>
  intro sc C ns v g w ht hs hg hn hb;have ht0:=ht;simp only[Tm.ok,bae]at ht;have hB:=aap (Tm.mat (sc a) (sc b) p);have hI:=fun (w1:World) (b1:Zb w w1)=>ih sc C ns v g w1 ht.2 hs (Nat.le_trans hg b1.size) (hn.below b1) hb;simp only[can];obtain⟨r,hr⟩:∃r,r=can p sc ns:=⟨_,rfl⟩;rw[<-hr]at hI ⊢;exact awo _ _ _ _ v C hs.1 _ _ _ _ _ _ _ g w (parts_fact (Tm.mat (sc a) (sc b) p)).pf (fun u hu=>afq (.mat a b p) ht0 C sc hs _ u hu) hg hB (fun v w w' h k=>NmS.below h k) (fun v w b x h0 h=>NmS.set h b 0 x h0) hI (fun bk w hc=>aaU (Tm.mat (sc a) (sc b) p) p r rfl bk 1 w (by omega) hc)
 | tau p ih=>
  intro sc C ns v g w ht hs hg hn hb;have ht0:=ht;simp only[Tm.ok,bae]at ht;have hB:=aap (Tm.tau p);have hI:=fun (w1:World) (b1:Zb w w1)=>ih sc C ns v g w1 ht hs (Nat.le_trans hg b1.size) (hn.below b1) hb;simp only[can];obtain⟨r,hr⟩:∃r,r=can p sc ns:=⟨_,rfl⟩;rw[<-hr]at hI ⊢;exact awo _ _ _ _ v C hs.1 _ _ _ _ _ _ _ g w (parts_fact (Tm.tau p)).pf (fun u hu=>afq (.tau p) ht0 C sc hs _ u hu) hg hB (fun v w w' h k=>NmS.below h k) (fun v w b x h0 h=>NmS.set h b 0 x h0) hI (fun bk w hc=>aaU (Tm.tau p) p r rfl bk 1 w (by omega) hc)
 | rep p ih=>
  intro sc C ns v g w ht hs hg hn hb;have ht0:=ht;simp only[Tm.ok,bae]at ht;have hB:=aap (Tm.rep p);have hI:=fun (w1:World) (b1:Zb w w1)=>ih sc C ns v g w1 ht hs (Nat.le_trans hg b1.size) (hn.below b1) hb;simp only[can];obtain⟨r,hr⟩:∃r,r=can p sc ns:=⟨_,rfl⟩;rw[<-hr]at hI ⊢;exact awo _ _ _ _ v C hs.1 _ _ _ _ _ _ _ g w (parts_fact (Tm.rep p)).pf (fun u hu=>afq (.rep p) ht0 C sc hs _ u hu) hg hB (fun v w w' h k=>NmS.below h k) (fun v w b x h0 h=>NmS.set h b 0 x h0) hI (fun bk w hc=>aaU (Tm.rep p) p r rfl bk 1 w (by omega) hc)
 | sum p q ih ih2=>
  intro sc C ns v g w ht hs hg hn hb;have ht0:=ht;simp only[Tm.ok,bae]at ht;simp only[Tm.bnd,lla]at hb;have hB:=aap (Tm.sum p q);have hI:=fun (w1:World) (b1:Zb w w1)=>ih sc C ns v g w1 ht.1 hs (Nat.le_trans hg b1.size) (hn.below b1) (by omega);have hI2:=fun (v2:Value) (w1:World) (b1:Zb w w1) (h:NmS w1 g v2 (ns.drop p.bnd.length))=>ih2 sc C (ns.drop p.bnd.length) v2 g w1 ht.2 hs (Nat.le_trans hg b1.size) h (by rw[List.length_drop];omega);simp only[can,Tm.bnd,lla];have hdd:(ns.drop p.bnd.length).drop q.bnd.length=ns.drop (p.bnd.length+q.bnd.length):=by rw[List.drop_drop]
  rw[hdd]at hI2;obtain⟨r,hr⟩:∃r,r=can p sc ns:=⟨_,rfl⟩;obtain⟨r2,hr2⟩:∃r,r=can q sc (ns.drop p.bnd.length):=⟨_,rfl⟩;rw[<-hr]at hI ⊢;rw[<-hr2]at hI2 ⊢;exact aw6 _ _ _ _ v C hs.1 _ _ _ _ _ _ _ _ _ _ _ _ g w (parts_fact (Tm.sum p q)).pf (fun u hu=>afq (.sum p q) ht0 C sc hs _ u hu) hg hB (fun v w w' h k=>NmS.below h k) (fun v w b x h0 h=>NmS.set h b 0 x h0) (fun v w b x h0 h=>NmS.set h b 1 x h0) hI hI2 (fun bk w hc hc1=>adR (Tm.sum p q) p q r r2 rfl bk 2 w (by omega) hc hc1)
 | par p q ih ih2=>
  intro sc C ns v g w ht hs hg hn hb;have ht0:=ht;simp only[Tm.ok,bae]at ht;simp only[Tm.bnd,lla]at hb;have hB:=aap (Tm.par p q);have hI:=fun (w1:World) (b1:Zb w w1)=>ih sc C ns v g w1 ht.1 hs (Nat.le_trans hg b1.size) (hn.below b1) (by omega);have hI2:=fun (v2:Value) (w1:World) (b1:Zb w w1) (h:NmS w1 g v2 (ns.drop p.bnd.length))=>ih2 sc C (ns.drop p.bnd.length) v2 g w1 ht.2 hs (Nat.le_trans hg b1.size) h (by rw[List.length_drop];omega);simp only[can,Tm.bnd,lla];have hdd:(ns.drop p.bnd.length).drop q.bnd.length=ns.drop (p.bnd.length+q.bnd.length):=by rw[List.drop_drop]
  rw[hdd]at hI2;obtain⟨r,hr⟩:∃r,r=can p sc ns:=⟨_,rfl⟩;obtain⟨r2,hr2⟩:∃r,r=can q sc (ns.drop p.bnd.length):=⟨_,rfl⟩;rw[<-hr]at hI ⊢;rw[<-hr2]at hI2 ⊢;exact aw6 _ _ _ _ v C hs.1 _ _ _ _ _ _ _ _ _ _ _ _ g w (parts_fact (Tm.par p q)).pf (fun u hu=>afq (.par p q) ht0 C sc hs _ u hu) hg hB (fun v w w' h k=>NmS.below h k) (fun v w b x h0 h=>NmS.set h b 0 x h0) (fun v w b x h0 h=>NmS.set h b 1 x h0) hI hI2 (fun bk w hc hc1=>adR (Tm.par p q) p q r r2 rfl bk 2 w (by omega) hc hc1)
 | rcv a x p ih=>
  intro sc C ns v g w ht hs hg hn hb;have ht0:=ht;simp only[Tm.ok,bae]at ht;simp only[Tm.bnd,List.length_cons]at hb;obtain⟨hj,hxj,_⟩:=aqG ht.1.2;have hB:=aap (Tm.rcv (sc a) x p);have hB2:∀w,Calls prog 119 #[.iface (aaB (Tm.rcv (sc a) x p)) (pay (Tm.rcv (sc a) x p))] w fun e w'=>e=.returned (.tuple #[.int .u8 (((x.toNat:Nat):Int)),.bool true])/\Zb w w':=hB
  cases ns with
  | nil=>simp at hb
  | cons n0 ns=>
   obtain⟨A,c,rfl,h2,h3⟩:=hn.ex;obtain⟨off,rfl,h5⟩:=h3 (by simp)
   have hc0:∀w1,Zb w w1->w1.cell? ⟨g,off,none⟩=some (.int .u8 (n0.toNat:Int)):=fun w1 b1=>by
    have h0:=h5 0 (by simp);exact(b1.cell (p:=⟨g,off,none⟩) (aa1 h0)).trans h0
   have hs':=arO C sc x n0 ht.1.2 hs;simp only[can,List.headD_cons,List.tail_cons,Tm.bnd,List.length_cons,List.drop_succ_cons];have hWB:=fun w=>agt ((sc a).toNat:Int) (x.toNat:Int) (aaB p) (pay p) (n0.toNat:Int) w
   by_cases hc1:1<c
   ·have hI:=fun (w1:World) (b1:Zb w w1)=>ih (upd sc x n0) _ ns _ g w1 ht.2 hs' (Nat.le_trans hg b1.size) ((NmS.tail h2 h5).below b1) (by simpa using hb);obtain⟨r,hr⟩:∃r,r=can p (upd sc x n0) ns:=⟨_,rfl⟩;rw[<-hr]at hI ⊢;exact aw7 _ _ _ _ _ C hs.1 _ _ _ _ _ _ _ _ _ g (x.toNat) g off ns.length c _ hj hc1 (by simpa using h2) w (parts_fact (Tm.rcv (sc a) n0 p)).pf (fun u hu=>afq (.rcv a x p) ht0 C sc hs _ u hu) hg rfl hc0 hB2 hWB (fun v w w' h k=>NmS.below h k) (fun v w b x h0 h=>NmS.set h b 0 x h0) hI (fun bk w hc=>aaU (Tm.rcv (sc a) n0 p) p r rfl bk 1 w (by omega) hc)
   ·simp only[List.length_cons]at h2;obtain rfl:c=1:=by omega
    obtain rfl:ns=[]:=List.length_eq_zero_iff.1 (by omega);have hI:=fun (w1:World) (b1:Zb w w1)=>ih (upd sc x n0) _ [] (.slice (some ⟨g,off,none⟩) 0 0) g w1 ht.2 hs' (Nat.le_trans hg b1.size) ⟨⟨_,_,rfl,by simp,fun h=>absurd rfl h⟩⟩ (by simpa using hb);obtain⟨r,hr⟩:∃r,r=can p (upd sc x n0) []:=⟨_,rfl⟩;rw[<-hr]at hI ⊢;exact avv _ _ _ _ _ C hs.1 _ _ _ _ _ _ _ _ _ g (x.toNat) g off _ hj w (parts_fact (Tm.rcv (sc a) n0 p)).pf (fun u hu=>afq (.rcv a x p) ht0 C sc hs _ u hu) hg rfl hc0 hB2 hWB (fun v w w' h k=>NmS.below h k) (fun v w b x h0 h=>NmS.set h b 0 x h0) hI (fun bk w hc=>aaU (Tm.rcv (sc a) n0 p) p r rfl bk 1 w (by omega) hc)
 | own x p ih=>
  intro sc C ns v g w ht hs hg hn hb;have ht0:=ht;simp only[Tm.ok,bae]at ht;simp only[Tm.bnd,List.length_cons]at hb;obtain⟨hj,hxj,_⟩:=aqG ht.1;have hB:=aap (Tm.own x p);have hB2:∀w,Calls prog 119 #[.iface (aaB (Tm.own x p)) (pay (Tm.own x p))] w fun e w'=>e=.returned (.tuple #[.int .u8 (((x.toNat:Nat):Int)),.bool true])/\Zb w w':=hB
  cases ns with
  | nil=>simp at hb
  | cons n0 ns=>
   obtain⟨A,c,rfl,h2,h3⟩:=hn.ex;obtain⟨off,rfl,h5⟩:=h3 (by simp)
   have hc0:∀w1,Zb w w1->w1.cell? ⟨g,off,none⟩=some (.int .u8 (n0.toNat:Int)):=fun w1 b1=>by
    have h0:=h5 0 (by simp);exact(b1.cell (p:=⟨g,off,none⟩) (aa1 h0)).trans h0
   have hs':=arO C sc x n0 ht.1 hs;simp only[can,List.headD_cons,List.tail_cons,Tm.bnd,List.length_cons,List.drop_succ_cons];have hWB:=fun w=>au6 (x.toNat:Int) (aaB p) (pay p) (n0.toNat:Int) w
   by_cases hc1:1<c
   ·have hI:=fun (w1:World) (b1:Zb w w1)=>ih (upd sc x n0) _ ns _ g w1 ht.2 hs' (Nat.le_trans hg b1.size) ((NmS.tail h2 h5).below b1) (by simpa using hb);obtain⟨r,hr⟩:∃r,r=can p (upd sc x n0) ns:=⟨_,rfl⟩;rw[<-hr]at hI ⊢;exact aw7 _ _ _ _ _ C hs.1 _ _ _ _ _ _ _ _ _ g (x.toNat) g off ns.length c _ hj hc1 (by simpa using h2) w (parts_fact (Tm.own n0 p)).pf (fun u hu=>afq (.own x p) ht0 C sc hs _ u hu) hg rfl hc0 hB2 hWB (fun v w w' h k=>NmS.below h k) (fun v w b x h0 h=>NmS.set h b 0 x h0) hI (fun bk w hc=>aaU (Tm.own n0 p) p r rfl bk 1 w (by omega) hc)
   ·simp only[List.length_cons]at h2;obtain rfl:c=1:=by omega
    obtain rfl:ns=[]:=List.length_eq_zero_iff.1 (by omega);have hI:=fun (w1:World) (b1:Zb w w1)=>ih (upd sc x n0) _ [] (.slice (some ⟨g,off,none⟩) 0 0) g w1 ht.2 hs' (Nat.le_trans hg b1.size) ⟨⟨_,_,rfl,by simp,fun h=>absurd rfl h⟩⟩ (by simpa using hb);obtain⟨r,hr⟩:∃r,r=can p (upd sc x n0) []:=⟨_,rfl⟩;rw[<-hr]at hI ⊢;exact avv _ _ _ _ _ C hs.1 _ _ _ _ _ _ _ _ _ g (x.toNat) g off _ hj w (parts_fact (Tm.own n0 p)).pf (fun u hu=>afq (.own x p) ht0 C sc hs _ u hu) hg rfl hc0 hB2 hWB (fun v w w' h k=>NmS.below h k) (fun v w b x h0 h=>NmS.set h b 0 x h0) hI (fun bk w hc=>aaU (Tm.own n0 p) p r rfl bk 1 w (by omega) hc)
def axp (t:Tm)(w:World)(e:Ending)(w':World):Prop:=e=.returned (.iface (aaB t) (pay t))/\Zb w w'
theorem aoD (k:Nat)(h:k<133):marksN[k]'(by rw[aaY];exact h)=UInt8.ofNat (123+k):=by unfold marksN;simp
theorem ajh (k:Nat)(h:k<133):(marksN.take (k+1)).map ub=(marksN.take k).map ub++[.int .u8 (123+(k:Int))]:=by
 rw[List.take_succ_eq_append_getElem (by rw[aaY];exact h),List.map_append,aoD k h];congr 1;show [ub (UInt8.ofNat (123+k))]=_;unfold ub;rw[UInt8.toNat_ofNat',Nat.mod_eq_of_lt (by omega)]
 push_cast;rfl
theorem NmS.of_own {w:World}{base g:Nat}{v:Value}{ns:List UInt8}(h:w.ownsRow base 5 1 v ns.length (ns.map ub))(hg:v.ownBlock=some g\/ns=[]):NmS w g v ns:=by
 rcases h.2 with⟨h1,h2⟩|⟨g',cap,cur,h1,_,h3,h4,_,_,h7⟩
 ·have:ns=[]:=List.length_eq_zero_iff.1 h2;subst this
  exact⟨_,_,h1,nl _,fun h=>absurd rfl h⟩
 ·subst h1;refine⟨_,_,rfl,h4,fun hne=>⟨0,?_,fun j hj=>?_⟩⟩
  ·rcases hg with hg|hg
   ·simp[Value.ownBlock]at hg;rw[hg]
   ·exact absurd hg hne
  ·rcases hg with hg|hg
   ·simp[Value.ownBlock]at hg;subst hg;rw[Nat.zero_add]
    have h8:cur.toList[j]?=some (.int .u8 (ns[j].toNat:Int)):=by
     have:(cur.toList.take (ns.length * 1))[j]?=(ns.map ub)[j]?:=by rw[h7]
     rw[List.getElem?_take,if_pos (by omega),List.getElem?_map,List.getElem?_eq_getElem hj]at this
     exact this
    rw[cell_of_row w _ j cur _ _ h3,<-h8];simp
   ·exact absurd hg hne
theorem aoE (T T2:TypeId)(V V2:Value)(hS:∀w,Calls prog 116 #[] w fun e w'=>∃C,e=.returned (.agg C)/\ScOf C id/\Zb w w') (hBI:∀C v g w,ScOf C id->g<=w.heap.size->NmS w g v marksN->Calls prog 149 #[.iface T V,.agg C,v] w fun e w'=>∃v',e=.returned (.tuple #[.iface T2 V2,v'])/\Zb w w')(w:World) : Calls prog 113 #[.iface T V] w fun e w'=>e=.returned (.iface T2 V2)/\Zb w w':=by
 obtain⟨i0,hi,hz0,hz1,hz2⟩:=info_parts Tryz.infoU8;have HS:=qz hS;have HBI:=qz hBI;clear hS hBI
 go_enter func113,ntmps113
 go_wp2_with fail
 go_loopw [3,4] (fun v i wr=>∃k:Nat,k<=133/\i=.int .i32 (123+(k:Int))/\Hid (wr.ownsRow w.heap.size 5 1 v k ((marksN.take k).map ub))/\Zb w wr) (fun _ i _=>300 - (intOf i).toNat)
 case atStart=>exact⟨0,Nat.zero_le _,rfl,World.ownsRow_nil _ _ _ _,Below.refl _ _⟩
 case round=>
  obtain⟨k,hk,rfl,hown,hbw⟩:=hrel
  by_cases hlt:k<133
  ·have hsz:=hbw.size;have hms:=qz (ajh k hlt);have hw8:IntKind.u8.wrap (123+(k:Int))=123+(k:Int):=by rw[IntKind.wrap_u8]<;>omega
   have Hb:=qz hbw;clear hbw
   go_wp2_with (at_builtin;refine wpList_append_own _ rfl (.tmp 9) (.tmp 12) 44 rfl w.heap.size 5 i0 (.int .u8 0) 1 1 underlying44 hi hz0 hz1 hz2 rfl (by decide) _ _ _ rfl (hown.out.alloc _) ⟨wr.heap.size,0,none⟩ 1 1 [.int .u8 (123+(k:Int))] rfl rfl (abp wr [.int .u8 (123+(k:Int))] 5) (fun u hu=>by simp at hu;subst hu;rfl) ?c2 ?c3 ?c4 ?_)
   case c2=>unfold maxLen;omega
   case c3=>omega
   case c4=>first|omega|(simp;omega)
   intro v1 w1 hown1 hgrow1 _
   have hbw1:Zb w w1:=Below.grown (Hb.out.alloc hsz _) hgrow1 (by simp;omega) (fun j hj=>by
    rcases hown.out.2 with⟨rfl,_⟩|⟨g,cap,cur,rfl,h1,_⟩
    ·simp[Value.ownBlock]at hj
    ·simp[Value.ownBlock]at hj;omega)
   have HO:Hid (w1.ownsRow w.heap.size 5 1 v1 (k+1) ((marksN.take (k+1)).map ub)):=by
    show World.ownsRow _ _ _ _ _ _ _;rw[hms.out,List.map_take];exact hown1
   clear hown1 hgrow1 hw8;go_wp2_with fail
   go_roundw
   case rel=>exact⟨k+1,by omega,by push_cast;first|rfl|(congr 1;omega),HO,hbw1⟩
   case measure=>simp[intOf]<;>omega
  ·obtain rfl:k=133:=by omega
   have hmt:marksN.take 133=marksN:=List.take_of_length_le (by rw[aaY];exact nl _);have ho:=hown.out;rw[hmt]at ho;have hml:(133:Nat)=marksN.length:=aaY.symm;rw[hml]at ho
   obtain⟨g,hg⟩:∃g,u3.ownBlock=some g:=by
    rcases ho.2 with⟨_,h⟩|⟨g,cap,cur,h,_⟩
    ·rw[aaY]at h;omega
    ·exact⟨g,by rw[h];rfl⟩
   have HN:=qz (NmS.of_own ho (.inl hg));have hgl:g<wr.heap.size:=(ho.lt g hg).2;have Hb:=qz hbw;clear ho hmt hml hg hbw;go_wp2_with fail;refine(HS.out _).mono ?_;rintro e w1 ⟨C1,rfl,hsc,b1⟩;have HSC:=qz hsc;have Hb1:=qz (aaa Hb.out b1);have HN1:=qz (HN.out.below b1);have hg1:g<=w1.heap.size:=Nat.le_trans (Nat.le_of_lt hgl) b1.size;clear hsc b1;go_wp2_with fail;refine(HBI.out _ _ _ _ HSC.out hg1 HN1.out).mono ?_;rintro e w2 ⟨v2,rfl,b2⟩;have bl2:=aaa Hb1.out b2;go_wp2_with fail;go_ret;exact⟨rfl,bl2⟩
theorem acj (t:Tm)(ht:t.ok nmL=true)(hb:t.bnd.length<=133)(w:World):Calls prog 113 #[.iface (aaB t) (pay t)] w (axp (can t id marksN) w):=
 aoE _ _ _ _ (fun w=>ahq w) (fun C v g w hsc hg hn=>(afr t id C marksN v g w ht hsc hg hn (by rw[aaY];exact hb)).mono fun e w' ⟨v',h1,_,h3⟩=>⟨v',h1,h3⟩) w
end Go.Proofs.YtalegefnppbkdaaGreat.T1
