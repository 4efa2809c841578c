/- Texts of the proof. No conditions. -/
import Derived.Test.YtihmcgcgjmbmhaaGreatQaq
import Derived.Laws.Tables
namespace Go.Proofs.YtihmcgcgjmbmhaaGreat.T1
open Go.Proofs.Tryz
set_option maxHeartbeats 8000000
open Go.RowKit
set_option maxRecDepth 100000
set_option linter.unusedVariables false
theorem aby {B g:Nat}{u v:World}{cs:Array Value}(h:Below B u v)(hg:B<=g)(hB:B<=v.heap.size):Below B u (v.setRow g cs):=
 h.trans ⟨rfl,rfl,rfl,by simp,fun i hi=>setRow_other v g i cs (by omega)⟩
def ScOf (C:Array Value)(sc:UInt8->UInt8):Prop:=C.size=256/\∀j,j<256->C[j]?=some (.int .u8 ((sc (UInt8.ofNat (j))).toNat:Int))
theorem awY:Hid ((Tryz.zeroCells129).size=256):=by show _=_;kernel_rfl
theorem ahQ (w:World):Calls prog 98 #[] w fun e w'=>∃C,e=.returned (.agg C)/\ScOf C id/\Zb w w':=by
 go_enter func98,ntmps98
 go_wp2_with fail;obtain⟨Z,hZ⟩:∃Z:Array Value,Z=Tryz.zeroCells129:=⟨_,rfl⟩;rw[<-hZ];have hZs:Hid (Z.size=256):=by rw[hZ];exact awY
 obtain⟨W,hW⟩:∃W,W=(w.alloc (.cells Z 129)).alloc (.cells Z 129):=⟨_,rfl⟩;rw[<-hW];have r0:Hid (W.heap[w.heap.size]?=some (.cells Z 129 (0,0))):=by rw[hW];exact aaJ _ _ _
 have r1:Hid (W.heap[w.heap.size+1]?=some (.cells Z 129 (0,0))):=by rw[hW];exact aaK _ _ _
 have bl:Zb w W:=by rw[hW];exact aaw _ _ _
 clear hW hZ
 go_loopw [3] (fun i wr=>∃(k:Nat) (C:Array Value),k<=256/\i=.int .i64 (k:Int)/\Hid (C.size=256)/\Hid (∀j,j<k->C[j]?=some (.int .u8 ((j:Nat):Int)))/\Hid (wr.heap[w.heap.size]?=some (.cells Z 129 (0,0)))/\Hid (wr.heap[w.heap.size+1]?=some (.cells C 129 (0,0)))/\Zb w wr) (fun i _=>256 - (intOf i).toNat)
 case atStart=>exact⟨0,Z,Nat.zero_le _,rfl,hZs,fun j h=>by omega,r0,r1,bl⟩
 case round=>
  obtain⟨k,C,hk,rfl,hC,hCj,h0,h1,hbw⟩:=hrel
  by_cases hlt:k<256
  ·obtain⟨y,hy⟩:∃y,C[k]?=some y:=⟨_,Array.getElem?_eq_getElem (by have:=hC.out;omega)⟩;have c1:wr.cell? ⟨w.heap.size+1,k,none⟩=some y:=by rw[cell_of_row wr _ k C _ _ h1.out];exact hy
   have f1:=frozen_of_row wr (w.heap.size+1) k C _ h1.out;have hw8:IntKind.u8.wrap ((k:Int))=(k:Int):=by rw[IntKind.wrap_u8]<;>omega
   have H1:=qz (heap_setCell_same wr (w.heap.size+1) k C 129 (.int .u8 ((k:Int))) h1.out);have H0:Hid ((wr.setCell ⟨w.heap.size+1,k,none⟩ (.int .u8 ((k:Int)))).heap[w.heap.size]?=some (.cells Z 129 (0,0))):=ac2 h0.out (by omega);have HS:Hid ((C.setIfInBounds k (.int .u8 ((k:Int)))).size=256):=by show _=_;rw[Array.size_setIfInBounds];exact hC.out
   have HJ:Hid (∀j,j<k+1->(C.setIfInBounds k (.int .u8 ((k:Int))))[j]?=some (.int .u8 ((j:Nat):Int))):=fun j hj=>by
    by_cases e:k=j
    ·subst e;rw[Array.getElem?_setIfInBounds_self_of_lt (by have:=hC.out;omega)]
    ·rw[Array.getElem?_setIfInBounds_ne e];exact hCj.out j (by omega)
   clear hy;go_wp2_with fail
   go_roundw
   case rel=>exact⟨k+1,_,by omega,by go_num,HS,HJ,H0,H1,hbw.setCell (p:=⟨w.heap.size+1,k,none⟩) (by show w.heap.size<=w.heap.size+1;omega) _⟩
   case measure=>simp[intOf];omega
  ·obtain rfl:k=256:=by omega
   have HSc:Hid (ScOf C id):=⟨hC.out,fun j hj=>by rw[hCj.out j hj];show _=some (Value.int .u8 (((UInt8.ofNat (j)).toNat:Nat):Int));rw[UInt8.toNat_ofNat',Nat.mod_eq_of_lt (by omega)]⟩;have hi:Hid ((prog.info? 129).map (·.size)=some C.size):=by show _=_;rw[Tryz.infoSc,hC.out]
   have hone:Hid (C.all (·.oneCell')=true):=by
    refine Array.all_eq_true.2 fun i hi=>?_;have hi':i<256:=by have:=hC.out;omega
    have h1:=hCj.out i hi';rw[Array.getElem?_eq_getElem hi]at h1;simp only[Option.some.injEq]at h1;rw[h1];rfl
   have hold:Hid (Z.size=C.size):=by show _=_;rw[hZs.out,hC.out]
   clear hC hCj
   go_wp2_with (first|refine wpList_load_row rfl 129 (.tmp 1) rfl (w.heap.size+1) rfl 129 C (0,0) _ h1.out underlying129 rfl hi.out ?_|refine wpList_store_row rfl 129 (.tmp 0) (.tmp 11) rfl w.heap.size C rfl rfl 129 Z h0.out hi.out hold.out hone.out ?_)
   exact bodyPost_ret (v:=.agg C) (results_cell_row (t:=129) (fr:=(0,0)) rfl _ _ w.heap.size _ _ rfl (setRow_heap wr w.heap.size Z C 129 _ h0.out) underlying129 rfl hi.out) rfl ⟨C,rfl,HSc.out,aby hbw (nl _) hbw.size⟩
set_option linter.unusedSimpArgs false
theorem ayb (args:Array Value)(w:World):(callFunc 173 args).run prog w=.ok (.enter 173 args) w:=by kernel_rfl
theorem ayc (j g:Nat)(hj:j<256)(n0:Int)(w:World)(h1:w.cell? ⟨g,j,none⟩=some (.int .u8 n0)) : Calls prog 173 #[.int .u8 ((j:Int)),.pointer (some ⟨g,0,none⟩)] w fun e w'=>e=.returned (.int .u8 n0)/\w=w':=by
 have hj2:(j:Int)<256:=by omega
 go_enter func173,ntmps173
 go_wp2_with fail;go_ret;exact⟨rfl,rfl⟩
theorem arL {c:UInt8}(h:nmL c=true):c.toNat<256/\((c.toNat:Nat):Int)=((c.toNat:Nat):Int)/\UInt8.ofNat c.toNat=c:=by
 have:=c.toNat_lt;exact⟨by omega,rfl,u8_ext (by rw[UInt8.toNat_ofNat'];omega)⟩
theorem awZ (c:UInt8)(hc:nmL c=true)(C:Array Value)(sc:UInt8->UInt8)(hs:ScOf C sc)(g:Nat)(w:World)(h:w.heap[g]?=some (.cells C 129 (0,0))) : Calls prog 173 (#[.int .u8 (c.toNat:Int)]++#[.pointer (some ⟨g,0,none⟩)]) w fun e w'=>e=.returned (.int .u8 ((sc c).toNat:Int))/\w=w':=by
 obtain⟨h1,h2,h3⟩:=arL hc;have:=ayc (c.toNat) g h1 ((sc c).toNat:Int) w (by rw[cell_of_row w g _ C _ _ h,hs.2 _ h1,h3]);exact this
theorem auz (t:Tm)(h:t.ok nmL=true):∀c∈t.used,nmL c=true:=by
 intro c hc
 cases t<;>simp only[Tm.used,Tm.ok,bae,List.mem_cons,List.not_mem_nil,or_false]at hc h
 ·rcases hc with rfl|rfl;exact h.1.1;exact h.1.2
 ·subst hc;exact h.1.1
 ·rcases hc with rfl|rfl;exact h.1.1;exact h.1.2
theorem afY (t:Tm)(ht:t.ok nmL=true)(C:Array Value)(sc:UInt8->UInt8)(hs:ScOf C sc)(g:Nat)(v:World)(h:v.heap[g]?=some (.cells C 129 (0,0))) :
  Calls prog 172 #[.iface (aau t) (pay t),.func (.func 173) #[] #[.pointer (some ⟨g,0,none⟩)]] v fun e v'=>e=.returned (.iface (aau (t.mapU sc)) (pay (t.mapU sc)))/\Zb v v':=
 acZ t 173 _ sc ayb v fun c hc v1 b1=>awZ c (auz t ht c hc) C sc hs g v1 (aaz h b1)
theorem asW (C:Array Value)(sc:UInt8->UInt8)(x n0:UInt8)(hx:nmL x=true)(hs:ScOf C sc):ScOf (C.setIfInBounds (x.toNat) (.int .u8 (n0.toNat:Int))) (upd sc x n0):=by
 obtain⟨h1,_,h3⟩:=arL hx;refine⟨by rw[Array.size_setIfInBounds];exact hs.1,fun j hj=>?_⟩
 by_cases e:x.toNat=j
 ·subst e;rw[Array.getElem?_setIfInBounds_self_of_lt (by rw[hs.1];exact h1),h3];unfold upd;rw[if_pos rfl]
 ·rw[Array.getElem?_setIfInBounds_ne e,hs.2 j hj];unfold upd;rw[if_neg];intro e2
  apply e
  rw[<-e2,UInt8.toNat_ofNat'];omega
structure NmS (w:World) (g:Nat) (v:Value) (ns:List UInt8):Prop where
 ex:∃(a:Option Addr) (c:Nat),v=.slice a ns.length c/\ns.length<=c/\(ns≠[]->∃off,a=some ⟨g,off,none⟩/\∀j (h:j<ns.length),w.cell? ⟨g,off+j,none⟩=some (.int .u8 (ns[j].toNat:Int)))
theorem NmS.below {w w':World}{g:Nat}{v:Value}{ns:List UInt8}(h:NmS w g v ns)(k:Zb w w'):NmS w' g v ns:=by
 obtain⟨a,c,h1,h2,h3⟩:=h.ex;refine⟨a,c,h1,h2,fun hne=>?_⟩;obtain⟨off,h4,h5⟩:=h3 hne;exact⟨off,h4,fun j hj=>(k.cell (p:=⟨g,off+j,none⟩) (aad (h5 j hj))).trans (h5 j hj)⟩
theorem NmS.set {w:World}{g:Nat}{v:Value}{ns:List UInt8}(h:NmS w g v ns)(b k:Nat)(x:Value)(hb:g<b):NmS (w.setCell ⟨b,k,none⟩ x) g v ns:=by
 obtain⟨a,c,h1,h2,h3⟩:=h.ex;refine⟨a,c,h1,h2,fun hne=>?_⟩;obtain⟨off,h4,h5⟩:=h3 hne;exact⟨off,h4,fun j hj=>(((Below.refl b w).setCell (p:=⟨b,k,none⟩) (nl b) x).cell (p:=⟨g,off+j,none⟩) (by show g<b;omega)).trans (h5 j hj)⟩
theorem NmS.tail {w:World}{g off c:Nat}{n0:UInt8}{ns:List UInt8}(h1:(n0::ns).length<=c)(h5:∀j (h:j<(n0::ns).length),w.cell? ⟨g,off+j,none⟩=some (.int .u8 ((n0::ns)[j].toNat:Int))):NmS w g (.slice (some ⟨g,off+1,none⟩) ns.length (c - 1)) ns:=by
 simp only[List.length_cons]at h1;refine⟨_,_,rfl,by omega,fun _=>⟨off+1,rfl,fun j hj=>?_⟩⟩;have:=h5 (j+1) (by simp;omega);rw[show off+1+j=off+(j+1) by omega];simpa using this
theorem aw0 (x:Value)(w:World):Calls prog 135 #[.iface (aau .nil) (pay .nil),x] w fun e w'=>e=.returned (.iface (aau .nil) (pay .nil))/\Zb w w':=by
 show Calls prog 135 #[.iface 134 (.agg #[]),x] w fun e w'=>e=.returned (.iface 134 (.agg #[]))/\Zb w w'
 go_enter func135,ntmps135
 go_wp2_with fail;go_ret;exact⟨rfl,Below.refl _ _⟩
theorem afZ (t:Tm):∀(sc:UInt8->UInt8) (C:Array Value) (ns:List UInt8) (v:Value) (g:Nat) (w:World),t.ok nmL=true->ScOf C sc->g<=w.heap.size->NmS w g v ns->t.bnd.length<=ns.length-> Calls prog 148 #[.iface (aau t) (pay t),.agg C,v] w (ado (aau (can t sc ns)) (pay (can t sc ns)) (fun v w=>NmS w g v (ns.drop t.bnd.length)) w):=by
 induction t with
 | nil=>
  intro sc C ns v g w ht hs hg hn hb;have hB:=aam .nil;exact(ayP _ _ _ _ v C hs.1 w (parts_fact .nil) (fun u hu=>afY .nil ht C sc hs _ u hu) hB aw0).mono fun e w' h=>⟨v,h.1,hn.below h.2,h.2⟩
 | snd a b p ih=>
  intro sc C ns v g w ht hs hg hn hb;have ht0:=ht;simp only[Tm.ok,bae]at ht;have hB:=aam (Tm.snd (sc a) (sc b) p);have hI:=fun (w1:World) (b1:Zb w w1)=>ih sc C ns v g w1 ht.2 hs (Nat.le_trans hg b1.size) (hn.below b1) hb;simp only[can];obtain⟨r,hr⟩:∃r,r=can p sc ns:=⟨_,rfl⟩;rw[<-hr]at hI ⊢;exact axV _ _ _ _ v C hs.1 _ _ _ _ _ _ _ g w (parts_fact (Tm.snd (sc a) (sc b) p)).pf (fun u hu=>afY (.snd a b p) ht0 C sc hs _ u hu) hg hB (fun v w w' h k=>NmS.below h k) (fun v w b x h0 h=>NmS.set h b 0 x h0) hI (fun bk w hc=>aaD (Tm.snd (sc a) (sc b) p) p r rfl bk 1 w (by omega) hc)
 | mat a b p ih=>
  intro sc C ns v g w ht hs hg hn hb;have ht0:=ht;simp only[Tm.ok,bae]at ht;have hB:=aam (Tm.mat (sc a) (sc b) p);have hI:=fun (w1:World) (b1:Zb w w1)=>ih sc C ns v g w1 ht.2 hs (Nat.le_trans hg b1.size) (hn.below b1) hb;simp only[can];obtain⟨r,hr⟩:∃r,r=can p sc ns:=⟨_,rfl⟩;rw[<-hr]at hI ⊢;exact axV _ _ _ _ v C hs.1 _ _ _ _ _ _ _ g w (parts_fact (Tm.mat (sc a) (sc b) p)).pf (fun u hu=>afY (.mat a b p) ht0 C sc hs _ u hu) hg hB (fun v w w' h k=>NmS.below h k) (fun v w b x h0 h=>NmS.set h b 0 x h0) hI (fun bk w hc=>aaD (Tm.mat (sc a) (sc b) p) p r rfl bk 1 w (by omega) hc)
 | tau p ih=>
  intro sc C ns v g w ht hs hg hn hb;have ht0:=ht;simp only[Tm.ok,bae]at ht;have hB:=aam (Tm.tau p);have hI:=fun (w1:World) (b1:Zb w w1)=>ih sc C ns v g w1 ht hs (Nat.le_trans hg b1.size) (hn.below b1) hb;simp only[can];obtain⟨r,hr⟩:∃r,r=can p sc ns:=⟨_,rfl⟩;rw[<-hr]at hI ⊢;exact axV _ _ _ _ v C hs.1 _ _ _ _ _ _ _ g w (parts_fact (Tm.tau p)).pf (fun u hu=>afY (.tau p) ht0 C sc hs _ u hu) hg hB (fun v w w' h k=>NmS.below h k) (fun v w b x h0 h=>NmS.set h b 0 x h0) hI (fun bk w hc=>aaD (Tm.tau p) p r rfl bk 1 w (by omega) hc)
 | rep p ih=>
  intro sc C ns v g w ht hs hg hn hb;have ht0:=ht;simp only[Tm.ok,bae]at ht;have hB:=aam (Tm.rep p);have hI:=fun (w1:World) (b1:Zb w w1)=>ih sc C ns v g w1 ht hs (Nat.le_trans hg b1.size) (hn.below b1) hb;simp only[can];obtain⟨r,hr⟩:∃r,r=can p sc ns:=⟨_,rfl⟩;rw[<-hr]at hI ⊢;exact axV _ _ _ _ v C hs.1 _ _ _ _ _ _ _ g w (parts_fact (Tm.rep p)).pf (fun u hu=>afY (.rep p) ht0 C sc hs _ u hu) hg hB (fun v w w' h k=>NmS.below h k) (fun v w b x h0 h=>NmS.set h b 0 x h0) hI (fun bk w hc=>aaD (Tm.rep p) p r rfl bk 1 w (by omega) hc)
 | sum p q ih ih2=>
  intro sc C ns v g w ht hs hg hn hb;have ht0:=ht;simp only[Tm.ok,bae]at ht;simp only[Tm.bnd,lla]at hb;have hB:=aam (Tm.sum p q);have hI:=fun (w1:World) (b1:Zb w w1)=>ih sc C ns v g w1 ht.1 hs (Nat.le_trans hg b1.size) (hn.below b1) (by omega);have hI2:=fun (v2:Value) (w1:World) (b1:Zb w w1) (h:NmS w1 g v2 (ns.drop p.bnd.length))=>ih2 sc C (ns.drop p.bnd.length) v2 g w1 ht.2 hs (Nat.le_trans hg b1.size) h (by rw[List.length_drop];omega);simp only[can,Tm.bnd,lla];have hdd:(ns.drop p.bnd.length).drop q.bnd.length=ns.drop (p.bnd.length+q.bnd.length):=by rw[List.drop_drop]
  rw[hdd]at hI2;obtain⟨r,hr⟩:∃r,r=can p sc ns:=⟨_,rfl⟩;obtain⟨r2,hr2⟩:∃r,r=can q sc (ns.drop p.bnd.length):=⟨_,rfl⟩;rw[<-hr]at hI ⊢;rw[<-hr2]at hI2 ⊢;exact ayz _ _ _ _ v C hs.1 _ _ _ _ _ _ _ _ _ _ _ _ g w (parts_fact (Tm.sum p q)).pf (fun u hu=>afY (.sum p q) ht0 C sc hs _ u hu) hg hB (fun v w w' h k=>NmS.below h k) (fun v w b x h0 h=>NmS.set h b 0 x h0) (fun v w b x h0 h=>NmS.set h b 1 x h0) hI hI2 (fun bk w hc hc1=>acx (Tm.sum p q) p q r r2 rfl bk 2 w (by omega) hc hc1)
 | par p q ih ih2=>
  intro sc C ns v g w ht hs hg hn hb;have ht0:=ht;simp only[Tm.ok,bae]at ht;simp only[Tm.bnd,lla]at hb;have hB:=aam (Tm.par p q);have hI:=fun (w1:World) (b1:Zb w w1)=>ih sc C ns v g w1 ht.1 hs (Nat.le_trans hg b1.size) (hn.below b1) (by omega);have hI2:=fun (v2:Value) (w1:World) (b1:Zb w w1) (h:NmS w1 g v2 (ns.drop p.bnd.length))=>ih2 sc C (ns.drop p.bnd.length) v2 g w1 ht.2 hs (Nat.le_trans hg b1.size) h (by rw[List.length_drop];omega);simp only[can,Tm.bnd,lla];have hdd:(ns.drop p.bnd.length).drop q.bnd.length=ns.drop (p.bnd.length+q.bnd.length):=by rw[List.drop_drop]
  rw[hdd]at hI2;obtain⟨r,hr⟩:∃r,r=can p sc ns:=⟨_,rfl⟩;obtain⟨r2,hr2⟩:∃r,r=can q sc (ns.drop p.bnd.length):=⟨_,rfl⟩;rw[<-hr]at hI ⊢;rw[<-hr2]at hI2 ⊢;exact ayz _ _ _ _ v C hs.1 _ _ _ _ _ _ _ _ _ _ _ _ g w (parts_fact (Tm.par p q)).pf (fun u hu=>afY (.par p q) ht0 C sc hs _ u hu) hg hB (fun v w w' h k=>NmS.below h k) (fun v w b x h0 h=>NmS.set h b 0 x h0) (fun v w b x h0 h=>NmS.set h b 1 x h0) hI hI2 (fun bk w hc hc1=>acx (Tm.par p q) p q r r2 rfl bk 2 w (by omega) hc hc1)
 | rcv a x p ih=>
  intro sc C ns v g w ht hs hg hn hb;have ht0:=ht;simp only[Tm.ok,bae]at ht;simp only[Tm.bnd,List.length_cons]at hb;obtain⟨hj,hxj,_⟩:=arL ht.1.2;have hB:=aam (Tm.rcv (sc a) x p);have hB2:∀w,Calls prog 144 #[.iface (aau (Tm.rcv (sc a) x p)) (pay (Tm.rcv (sc a) x p))] w fun e w'=>e=.returned (.tuple #[.int .u8 (((x.toNat:Nat):Int)),.bool true])/\Zb w w':=hB
  cases ns with
  | nil=>simp at hb
  | cons n0 ns=>
   obtain⟨A,c,rfl,h2,h3⟩:=hn.ex;obtain⟨off,rfl,h5⟩:=h3 (by simp)
   have hc0:∀w1,Zb w w1->w1.cell? ⟨g,off,none⟩=some (.int .u8 (n0.toNat:Int)):=fun w1 b1=>by
    have h0:=h5 0 (by simp);exact(b1.cell (p:=⟨g,off,none⟩) (aad h0)).trans h0
   have hs':=asW C sc x n0 ht.1.2 hs;simp only[can,List.headD_cons,List.tail_cons,Tm.bnd,List.length_cons,List.drop_succ_cons];have hWB:=fun w=>aeD ((sc a).toNat:Int) (x.toNat:Int) (aau p) (pay p) (n0.toNat:Int) w
   by_cases hc1:1<c
   ·have hI:=fun (w1:World) (b1:Zb w w1)=>ih (upd sc x n0) _ ns _ g w1 ht.2 hs' (Nat.le_trans hg b1.size) ((NmS.tail h2 h5).below b1) (by simpa using hb);obtain⟨r,hr⟩:∃r,r=can p (upd sc x n0) ns:=⟨_,rfl⟩;rw[<-hr]at hI ⊢;exact ayA _ _ _ _ _ C hs.1 _ _ _ _ _ _ _ _ _ g (x.toNat) g off ns.length c _ hj hc1 (by simpa using h2) w (parts_fact (Tm.rcv (sc a) n0 p)).pf (fun u hu=>afY (.rcv a x p) ht0 C sc hs _ u hu) hg rfl hc0 hB2 hWB (fun v w w' h k=>NmS.below h k) (fun v w b x h0 h=>NmS.set h b 0 x h0) hI (fun bk w hc=>aaD (Tm.rcv (sc a) n0 p) p r rfl bk 1 w (by omega) hc)
   ·simp only[List.length_cons]at h2;obtain rfl:c=1:=by omega
    obtain rfl:ns=[]:=List.length_eq_zero_iff.1 (by omega);have hI:=fun (w1:World) (b1:Zb w w1)=>ih (upd sc x n0) _ [] (.slice (some ⟨g,off,none⟩) 0 0) g w1 ht.2 hs' (Nat.le_trans hg b1.size) ⟨⟨_,_,rfl,by simp,fun h=>absurd rfl h⟩⟩ (by simpa using hb);obtain⟨r,hr⟩:∃r,r=can p (upd sc x n0) []:=⟨_,rfl⟩;rw[<-hr]at hI ⊢;exact awX _ _ _ _ _ C hs.1 _ _ _ _ _ _ _ _ _ g (x.toNat) g off _ hj w (parts_fact (Tm.rcv (sc a) n0 p)).pf (fun u hu=>afY (.rcv a x p) ht0 C sc hs _ u hu) hg rfl hc0 hB2 hWB (fun v w w' h k=>NmS.below h k) (fun v w b x h0 h=>NmS.set h b 0 x h0) hI (fun bk w hc=>aaD (Tm.rcv (sc a) n0 p) p r rfl bk 1 w (by omega) hc)
 | own x p ih=>
  intro sc C ns v g w ht hs hg hn hb;have ht0:=ht;simp only[Tm.ok,bae]at ht;simp only[Tm.bnd,List.length_cons]at hb;obtain⟨hj,hxj,_⟩:=arL ht.1;have hB:=aam (Tm.own x p);have hB2:∀w,Calls prog 144 #[.iface (aau (Tm.own x p)) (pay (Tm.own x p))] w fun e w'=>e=.returned (.tuple #[.int .u8 (((x.toNat:Nat):Int)),.bool true])/\Zb w w':=hB
  cases ns with
  | nil=>simp at hb
  | cons n0 ns=>
   obtain⟨A,c,rfl,h2,h3⟩:=hn.ex;obtain⟨off,rfl,h5⟩:=h3 (by simp)
   have hc0:∀w1,Zb w w1->w1.cell? ⟨g,off,none⟩=some (.int .u8 (n0.toNat:Int)):=fun w1 b1=>by
    have h0:=h5 0 (by simp);exact(b1.cell (p:=⟨g,off,none⟩) (aad h0)).trans h0
   have hs':=asW C sc x n0 ht.1 hs;simp only[can,List.headD_cons,List.tail_cons,Tm.bnd,List.length_cons,List.drop_succ_cons];have hWB:=fun w=>asL (x.toNat:Int) (aau p) (pay p) (n0.toNat:Int) w
   by_cases hc1:1<c
   ·have hI:=fun (w1:World) (b1:Zb w w1)=>ih (upd sc x n0) _ ns _ g w1 ht.2 hs' (Nat.le_trans hg b1.size) ((NmS.tail h2 h5).below b1) (by simpa using hb);obtain⟨r,hr⟩:∃r,r=can p (upd sc x n0) ns:=⟨_,rfl⟩;rw[<-hr]at hI ⊢;exact ayA _ _ _ _ _ C hs.1 _ _ _ _ _ _ _ _ _ g (x.toNat) g off ns.length c _ hj hc1 (by simpa using h2) w (parts_fact (Tm.own n0 p)).pf (fun u hu=>afY (.own x p) ht0 C sc hs _ u hu) hg rfl hc0 hB2 hWB (fun v w w' h k=>NmS.below h k) (fun v w b x h0 h=>NmS.set h b 0 x h0) hI (fun bk w hc=>aaD (Tm.own n0 p) p r rfl bk 1 w (by omega) hc)
   ·simp only[List.length_cons]at h2;obtain rfl:c=1:=by omega
    obtain rfl:ns=[]:=List.length_eq_zero_iff.1 (by omega);have hI:=fun (w1:World) (b1:Zb w w1)=>ih (upd sc x n0) _ [] (.slice (some ⟨g,off,none⟩) 0 0) g w1 ht.2 hs' (Nat.le_trans hg b1.size) ⟨⟨_,_,rfl,by simp,fun h=>absurd rfl h⟩⟩ (by simpa using hb);obtain⟨r,hr⟩:∃r,r=can p (upd sc x n0) []:=⟨_,rfl⟩;rw[<-hr]at hI ⊢;exact awX _ _ _ _ _ C hs.1 _ _ _ _ _ _ _ _ _ g (x.toNat) g off _ hj w (parts_fact (Tm.own n0 p)).pf (fun u hu=>afY (.own x p) ht0 C sc hs _ u hu) hg rfl hc0 hB2 hWB (fun v w w' h k=>NmS.below h k) (fun v w b x h0 h=>NmS.set h b 0 x h0) hI (fun bk w hc=>aaD (Tm.own n0 p) p r rfl bk 1 w (by omega) hc)
def ayQ (t:Tm)(w:World)(e:Ending)(w':World):Prop:=e=.returned (.iface (aau t) (pay t))/\Zb w w'
theorem apD (k:Nat)(h:k<133):marksN[k]'(by rw[aaZ];exact h)=UInt8.ofNat (123+k):=by unfold marksN;simp
theorem ajI (k:Nat)(h:k<133):(marksN.take (k+1)).map ub=(marksN.take k).map ub++[.int .u8 (123+(k:Int))]:=by
 rw[List.take_succ_eq_append_getElem (by rw[aaZ];exact h),List.map_append,apD k h];congr 1;show [ub (UInt8.ofNat (123+k))]=_;unfold ub;rw[UInt8.toNat_ofNat',Nat.mod_eq_of_lt (by omega)]
 push_cast;rfl
theorem NmS.of_own {w:World}{base g:Nat}{v:Value}{ns:List UInt8}(h:w.ownsRow base 5 1 v ns.length (ns.map ub))(hg:v.ownBlock=some g\/ns=[]):NmS w g v ns:=by
 rcases h.2 with⟨h1,h2⟩|⟨g',cap,cur,h1,_,h3,h4,_,_,h7⟩
 ·have:ns=[]:=List.length_eq_zero_iff.1 h2;subst this
  exact⟨_,_,h1,nl _,fun h=>absurd rfl h⟩
 ·subst h1;refine⟨_,_,rfl,h4,fun hne=>⟨0,?_,fun j hj=>?_⟩⟩
  ·rcases hg with hg|hg
   ·simp[Value.ownBlock]at hg;rw[hg]
   ·exact absurd hg hne
  ·rcases hg with hg|hg
   ·simp[Value.ownBlock]at hg;subst hg;rw[Nat.zero_add]
    have h8:cur.toList[j]?=some (.int .u8 (ns[j].toNat:Int)):=by
     have:(cur.toList.take (ns.length * 1))[j]?=(ns.map ub)[j]?:=by rw[h7]
     rw[List.getElem?_take,if_pos (by omega),List.getElem?_map,List.getElem?_eq_getElem hj]at this
     exact this
    rw[cell_of_row w _ j cur _ _ h3,<-h8];simp
   ·exact absurd hg hne
theorem apE (T T2:TypeId)(V V2:Value)(hS:∀w,Calls prog 98 #[] w fun e w'=>∃C,e=.returned (.agg C)/\ScOf C id/\Zb w w') (hBI:∀C v g w,ScOf C id->g<=w.heap.size->NmS w g v marksN->Calls prog 148 #[.iface T V,.agg C,v] w fun e w'=>∃v',e=.returned (.tuple #[.iface T2 V2,v'])/\Zb w w')(w:World) : Calls prog 95 #[.iface T V] w fun e w'=>e=.returned (.iface T2 V2)/\Zb w w':=by
 obtain⟨i0,hi,hz0,hz1,hz2⟩:=info_parts Tryz.infoU8;have HS:=qz hS;have HBI:=qz hBI;clear hS hBI
 go_enter func95,ntmps95
 go_wp2_with fail
 go_loopw [3,4] (fun v i wr=>∃k:Nat,k<=133/\i=.int .i32 (123+(k:Int))/\Hid (wr.ownsRow w.heap.size 5 1 v k ((marksN.take k).map ub))/\Zb w wr) (fun _ i _=>300 - (intOf i).toNat)
 case atStart=>exact⟨0,Nat.zero_le _,rfl,World.ownsRow_nil _ _ _ _,Below.refl _ _⟩
 case round=>
  obtain⟨k,hk,rfl,hown,hbw⟩:=hrel
  by_cases hlt:k<133
  ·have hsz:=hbw.size;have hms:=qz (ajI k hlt);have hw8:IntKind.u8.wrap (123+(k:Int))=123+(k:Int):=by rw[IntKind.wrap_u8]<;>omega
   have Hb:=qz hbw;clear hbw
   go_wp2_with (at_builtin;refine wpList_append_own _ rfl (.tmp 9) (.tmp 12) 73 rfl w.heap.size 5 i0 (.int .u8 0) 1 1 underlying73 hi hz0 hz1 hz2 rfl (by decide) _ _ _ rfl (hown.out.alloc _) ⟨wr.heap.size,0,none⟩ 1 1 [.int .u8 (123+(k:Int))] rfl rfl (aaR wr [.int .u8 (123+(k:Int))] 5) (fun u hu=>by simp at hu;subst hu;rfl) ?c2 ?c3 ?c4 ?_)
   case c2=>unfold maxLen;omega
   case c3=>omega
   case c4=>first|omega|(simp;omega)
   intro v1 w1 hown1 hgrow1 _
   have hbw1:Zb w w1:=Below.grown (Hb.out.alloc hsz _) hgrow1 (by simp;omega) (fun j hj=>by
    rcases hown.out.2 with⟨rfl,_⟩|⟨g,cap,cur,rfl,h1,_⟩
    ·simp[Value.ownBlock]at hj
    ·simp[Value.ownBlock]at hj;omega)
   have HO:Hid (w1.ownsRow w.heap.size 5 1 v1 (k+1) ((marksN.take (k+1)).map ub)):=by
    show World.ownsRow _ _ _ _ _ _ _;rw[hms.out,List.map_take];exact hown1
   clear hown1 hgrow1 hw8;go_wp2_with fail
   go_roundw
   case rel=>exact⟨k+1,by omega,by push_cast;first|rfl|(congr 1;omega),HO,hbw1⟩
   case measure=>simp[intOf]<;>omega
  ·obtain rfl:k=133:=by omega
   have hmt:marksN.take 133=marksN:=List.take_of_length_le (by rw[aaZ];exact nl _);have ho:=hown.out;rw[hmt]at ho;have hml:(133:Nat)=marksN.length:=aaZ.symm;rw[hml]at ho
   obtain⟨g,hg⟩:∃g,u3.ownBlock=some g:=by
    rcases ho.2 with⟨_,h⟩|⟨g,cap,cur,h,_⟩
    ·rw[aaZ]at h;omega
    ·exact⟨g,by rw[h];rfl⟩
   have HN:=qz (NmS.of_own ho (.inl hg));have hgl:g<wr.heap.size:=(ho.lt g hg).2;have Hb:=qz hbw;clear ho hmt hml hg hbw;go_wp2_with fail;refine(HS.out _).mono ?_;rintro e w1 ⟨C1,rfl,hsc,b1⟩;have HSC:=qz hsc;have Hb1:=qz (aaa Hb.out b1);have HN1:=qz (HN.out.below b1);have hg1:g<=w1.heap.size:=Nat.le_trans (Nat.le_of_lt hgl) b1.size;clear hsc b1;go_wp2_with fail;refine(HBI.out _ _ _ _ HSC.out hg1 HN1.out).mono ?_;rintro e w2 ⟨v2,rfl,b2⟩;have bl2:=aaa Hb1.out b2;go_wp2_with fail;go_ret;exact⟨rfl,bl2⟩
theorem acj (t:Tm)(ht:t.ok nmL=true)(hb:t.bnd.length<=133)(w:World):Calls prog 95 #[.iface (aau t) (pay t)] w (ayQ (can t id marksN) w):=
 apE _ _ _ _ (fun w=>ahQ w) (fun C v g w hsc hg hn=>(afZ t id C marksN v g w ht hsc hg hn (by rw[aaZ];exact hb)).mono fun e w' ⟨v',h1,_,h3⟩=>⟨v',h1,h3⟩) w
theorem ayd {u v w:World}(h:Zb u v)(k:Zb v w):Zb u w:=aab h k h.size
def dgs:Nat->Nat->ByteArray->ByteArray
 | 0,_,acc=>acc
 | f+1,k,acc=>if k=0 then acc else dgs f (k / 10) (one (UInt8.ofNat (48+k % 10))++acc)
def mkT (k:Nat):ByteArray:=⟨#[109]⟩++dgs (k+1) k ⟨#[]⟩
theorem arM (k:Nat)(w:World):(convert 73 9 (.slice (some ⟨w.heap.size,0,none⟩) 1 1)).run prog (w.alloc (.cells #[.int .u8 (48+(k:Int) % 10)] 5))=.ok (.string (one (UInt8.ofNat (48+k % 10)))) (w.alloc (.cells #[.int .u8 (48+(k:Int) % 10)] 5)):=by
 have h:=anp (UInt8.ofNat (48+k % 10)) w;rw[show (((UInt8.ofNat (48+k % 10)).toNat:Nat):Int)=48+(k:Int) % 10 by rw[UInt8.toNat_ofNat'];omega]at h;exact h
theorem aeU (k:Nat)(h1:1<=k)(h2:k<=1000000)(w:World):Calls prog 43 #[.int .i64 (k:Int)] w fun e w'=>e=.returned (.string (mkT k))/\Zb w w':=by
 obtain⟨R,hR⟩:∃R,R=dgs (k+1) k ⟨#[]⟩:=⟨_,rfl⟩;have hm:Hid (mkT k=⟨#[109]⟩++R):=by rw[hR];rfl
 have HR:=qz hR;have k1:(0:Int)<(k:Int):=by omega
 clear hR
 go_enter func43,ntmps43
 go_wp2_with fail
 go_loopw [0,3] (fun v a wr=>∃(j f:Nat) (acc:ByteArray),v=.int .i64 (j:Int)/\a=.string acc/\Hid (dgs f j acc=R)/\j<f/\j<=1000000/\Hid (j * 10 ^ acc.size<=1000000)/\acc.size<=7/\Zb w wr) (fun v _ _=>(intOf v).toNat)
 case atStart=>exact⟨k,k+1,⟨#[]⟩,rfl,rfl,qz HR.out.symm,by omega,h2,by show k * 1<=_;omega,by decide,Below.refl _ _⟩
 case round=>
  obtain⟨j,f,acc,rfl,rfl,hd,hjf,hj,hp,ha,hbw⟩:=hrel
  by_cases hlt:(0:Int)<(j:Int)
  ·obtain⟨f',rfl⟩:∃f',f=f'+1:=⟨f - 1,by omega⟩
   have ha6:acc.size<=6:=by
    have hp':=hp.out
    have:10 ^ acc.size<=10 ^ 6:=by
     refine Nat.le_trans ?_ hp';exact Nat.le_mul_of_pos_left _ (by omega)
    exact(Nat.pow_le_pow_iff_right (by decide)).1 this
   have hcv:=arM j;obtain⟨D,hD⟩:∃D,D=one (UInt8.ofNat (48+j % 10)):=⟨_,rfl⟩;rw[<-hD]at hcv;have hDs:D.size<=1:=by rw[hD];exact nl _
   have hn:Hid (dgs f' (j / 10) (D++acc)=R):=by
    have:=hd.out;rw[dgs,if_neg (by omega),<-hD]at this
    exact this
   have hp2:Hid (j / 10 * 10 ^ (D++acc).size<=1000000):=by
    show _<=_;have hsz:(D++acc).size=acc.size+1:=by rw[hD,ByteArray.size_append];show 1+_=_;omega
    rw[hsz,Nat.pow_succ];refine Nat.le_trans ?_ hp.out;rw[show j / 10 * (10 ^ acc.size * 10)=(j / 10 * 10) * 10 ^ acc.size by rw[Nat.mul_comm (10 ^ acc.size) 10,Nat.mul_assoc]];exact Nat.mul_le_mul_right _ (Nat.div_mul_le_self j 10)
   have hsz2:(D++acc).size<=7:=by rw[ByteArray.size_append];omega
   clear hd hp hD;go_wp2_with fail
   go_roundw
   case rel=>exact⟨j / 10,f',D++acc,by push_cast;rfl,rfl,hn,by omega,by omega,hp2,hsz2,hbw.alloc hbw.size _⟩
   case measure=>simp[intOf];omega
  ·obtain rfl:j=0:=by omega
   have hr:Hid (acc=R):=by
    have:=hd.out
    cases f with
    | zero=>exact this
    | succ f=>rw[dgs,if_pos rfl]at this;exact this
   have hx:Hid ((⟨#[109]⟩:ByteArray)++acc=mkT k):=by show _=_;rw[hm.out,hr.out]
   have o1:(⟨#[109]⟩:ByteArray).size=1:=rfl;obtain⟨O,hO⟩:∃O,O=(⟨#[109]⟩:ByteArray):=⟨_,rfl⟩;go_wp2_with fail;go_ret;exact⟨by rw[<-hx.out];rfl,hbw⟩
structure SRow (w:World) (v:Value) (g:Nat) (xs:List ByteArray):Prop where
 ex:∃a c,v=.slice a xs.length c/\(xs≠[]->a=some ⟨g,0,none⟩/\∃C,w.heap[g]?=some (.cells C 9 (0,0))/\∀j (h:j<xs.length),C[j]?=some (.string xs[j]))
theorem SRow.below {w w':World}{v:Value}{g:Nat}{xs:List ByteArray}(h:SRow w v g xs)(k:Zb w w'):SRow w' v g xs:=by
 obtain⟨a,c,h1,h2⟩:=h.ex;refine⟨a,c,h1,fun hne=>?_⟩;obtain⟨h3,C,h4,h5⟩:=h2 hne;exact⟨h3,C,(k.block g (lt_of_block h4)).trans h4,h5⟩
theorem SRow.only {w w':World}{v:Value}{g b:Nat}{xs:List ByteArray}(h:SRow w v g xs)(k:Only b w w')(hb:xs≠[]->g≠b):SRow w' v g xs:=by
 obtain⟨a,c,h1,h2⟩:=h.ex;refine⟨a,c,h1,fun hne=>?_⟩;obtain⟨h3,C,h4,h5⟩:=h2 hne;exact⟨h3,C,(k.block g (lt_of_block h4) (hb hne)).trans h4,h5⟩
theorem SRow.lt {w:World}{v:Value}{g:Nat}{xs:List ByteArray}(h:SRow w v g xs)(hne:xs≠[]):g<w.heap.size:=by
 obtain⟨a,c,h1,h2⟩:=h.ex;obtain⟨h3,C,h4,h5⟩:=h2 hne;exact lt_of_block h4
theorem ayB (x:ByteArray):(x.toList != x.toList)=false:=by simp
theorem ayR (a1 a2:Option Addr)(c1 c2:Nat)(w:World):Calls prog 15 #[.slice a1 0 c1,.slice a2 0 c2] w fun e w'=>e=.returned (.bool true)/\Zb w w':=by
 go_enter func15,ntmps15
 go_wp2_with fail;refine wp_loop_rounds 1 ?_;rw[rounds_succ];go_wp2_with fail;go_ret;exact⟨rfl,Below.refl _ _⟩
theorem ayS (g1 g2 n c1 c2:Nat)(C1 C2:Array Value)(xs:List ByteArray)(hn:n=xs.length)(hnn:n<=100000)(hx1:∀j (h:j<xs.length),C1[j]?=some (.string xs[j]))(hx2:∀j (h:j<xs.length),C2[j]?=some (.string xs[j]))(w:World)(h1:w.heap[g1]?=some (.cells C1 9 (0,0)))(h2:w.heap[g2]?=some (.cells C2 9 (0,0))) : Calls prog 15 #[.slice (some ⟨g1,0,none⟩) n c1,.slice (some ⟨g2,0,none⟩) n c2] w fun e w'=>e=.returned (.bool true)/\Zb w w':=by
 have HX1:=qz hx1;have HX2:=qz hx2;have H1:=qz h1;have H2:=qz h2;have HN:=qz hn;clear hx1 hx2 h1 h2 hn
 go_enter func15,ntmps15
 go_wp2_with fail
 go_loopw [5] (fun v wr=>∃i:Nat,i<=n/\v=.int .i64 (i:Int)/\Zb w wr) (fun v _=>n - (intOf v).toNat)
 case atStart=>exact⟨0,Nat.zero_le _,rfl,Below.refl _ _⟩
 case round=>
  obtain⟨i,hi,rfl,hbw⟩:=hrel
  by_cases hlt:i<n
  ·have hlt2:i<xs.length:=by have:=HN.out;omega
   have r1:=(hbw.block g1 (lt_of_block H1.out)).trans H1.out;have r2:=(hbw.block g2 (lt_of_block H2.out)).trans H2.out;have c1:wr.cell? ⟨g1,i,none⟩=some (.string (xs[i]'hlt2)):=by rw[cell_of_row wr g1 i C1 _ _ r1];exact HX1.out i hlt2
   have c2:wr.cell? ⟨g2,i,none⟩=some (.string (xs[i]'hlt2)):=by rw[cell_of_row wr g2 i C2 _ _ r2];exact HX2.out i hlt2
   obtain⟨x,hx⟩:∃x,x=xs[i]'hlt2:=⟨_,rfl⟩;rw[<-hx]at c1 c2;have hw:=ayB x;have hlti:(i:Int)<(n:Int):=by omega
   clear hx r1 r2;go_wp2_with fail
   go_quiet (fail)
   go_wp2_with fail
   go_roundw
   case rel=>exact⟨i+1,by omega,by go_num,aal hbw _⟩
   case measure=>simp[intOf];omega
  ·obtain rfl:i=n:=by omega
   go_wp2_with fail;go_ret;exact⟨rfl,hbw⟩
theorem asX (w:World)(v1 v2:Value)(g1 g2:Nat)(xs:List ByteArray)(hl:xs.length<=100000)(h1:SRow w v1 g1 xs)(h2:SRow w v2 g2 xs):Calls prog 15 #[v1,v2] w fun e w'=>e=.returned (.bool true)/\Zb w w':=by
 obtain⟨a1,c1,rfl,h3⟩:=h1.ex;obtain⟨a2,c2,rfl,h4⟩:=h2.ex
 cases xs with
 | nil=>exact ayR _ _ _ _ w
 | cons x xs=>
  obtain⟨rfl,C1,h5,h6⟩:=h3 (by simp);obtain⟨rfl,C2,h7,h8⟩:=h4 (by simp);exact ayS g1 g2 _ _ _ C1 C2 (x::xs) rfl hl h6 h8 w h5 h7
def mks (k n:Nat):List ByteArray:=(List.range n).map fun i=>mkT (k+i)
theorem af0 (k n:Nat):(mks k n).length=n:=by simp[mks]
theorem asY (k n j:Nat)(h:j<(mks k n).length):(mks k n)[j]=mkT (k+j):=by simp[mks]
theorem ayT (a:Option Addr)(c k:Nat)(w:World):Calls prog 16 #[.slice a 0 c,.int .i64 (k:Int)] w fun e w'=>e=.returned (.int .i64 (k:Int))/\w=w':=by
 go_enter func16,ntmps16
 go_wp2_with fail;refine wp_loop_rounds 1 ?_;rw[rounds_succ];go_wp2_with fail;go_ret;exact⟨rfl,rfl⟩
def aw1 (g k n:Nat)(w:World)(e:Ending)(w':World):Prop:=e=.returned (.int .i64 ((k+n:Nat):Int))/\(∃C,w'.heap[g]?=some (.cells C 9 (0,0))/\∀j,j<n->C[j]?=some (.string (mkT (k+j))))/\Only g w w'
theorem ayU (g n c k:Nat)(C0:Array Value)(hs:n<=C0.size)(hnn:n<=100000)(hk1:1<=k)(hk:k<=100000)(w:World)(h1:w.heap[g]?=some (.cells C0 9 (0,0))) : Calls prog 16 #[.slice (some ⟨g,0,none⟩) n c,.int .i64 (k:Int)] w (aw1 g k n w):=by
 have H1:=qz h1;have hgw:=lt_of_block h1;clear h1
 go_enter func16,ntmps16
 go_wp2_with fail
 go_loopw [1,5] (fun vk v wr=>∃(i:Nat) (C:Array Value),i<=n/\v=.int .i64 (i:Int)/\vk=.int .i64 ((k+i:Nat):Int)/\Hid (C.size=C0.size)/\Hid (wr.heap[g]?=some (.cells C 9 (0,0)))/\Hid (∀j,j<i->C[j]?=some (.string (mkT (k+j))))/\Only g w wr) (fun _ v _=>n - (intOf v).toNat)
 case atStart=>exact⟨0,C0,Nat.zero_le _,rfl,rfl,rfl,H1,fun j h=>by omega,Only.refl _ _⟩
 case round=>
  obtain⟨i,C,hi,rfl,rfl,hC,hg,hj,ho⟩:=hrel
  by_cases hlt:i<n
  ·have hM:=aeU (k+i) (by omega) (by omega);obtain⟨X,hX⟩:∃X,X=mkT (k+i):=⟨_,rfl⟩;rw[<-hX]at hM;have HM:Hid (Zr 43 #[.int .i64 ((k:Int)+(i:Int))] (.string X)):=fun w=>by have:=hM w;push_cast at this;exact this
   obtain⟨y,hy⟩:∃y,C[i]?=some y:=⟨_,Array.getElem?_eq_getElem (by have:=hC.out;omega)⟩;have hlti:(i:Int)<(n:Int):=by omega
   have Hy:=qz hy;clear hM hy;have HX:=qz hX;clear hX;go_wp2_with fail;refine(HM.out _).mono ?_;rintro e w1 ⟨rfl,b1⟩;have r1:=(b1.block g (lt_of_block hg.out)).trans hg.out;have c1:w1.cell? ⟨g,i,none⟩=some y:=by rw[cell_of_row w1 g i C _ _ r1];exact Hy.out
   have f1:=frozen_of_row w1 g i C _ r1;have G1:=qz (heap_setCell_same w1 g i C 9 (.string X) r1);have O1:=(ho.below b1).setCell i none (.string X);have HS:Hid ((C.setIfInBounds i (.string X)).size=C0.size):=by show _=_;rw[Array.size_setIfInBounds];exact hC.out
   have HJ:Hid (∀j,j<i+1->(C.setIfInBounds i (.string X))[j]?=some (.string (mkT (k+j)))):=fun j h=>by
    by_cases e:i=j
    ·subst e;rw[Array.getElem?_setIfInBounds_self_of_lt (by have:=hC.out;omega),HX.out]
    ·rw[Array.getElem?_setIfInBounds_ne e];exact hj.out j (by omega)
   clear r1;go_wp2_with fail
   go_roundw
   case rel=>exact⟨i+1,_,by omega,by go_num,by push_cast;rw[Int.add_assoc],HS,G1,HJ,O1⟩
   case measure=>simp[intOf];omega
  ·obtain rfl:i=n:=by omega
   go_wp2_with fail;go_ret;exact⟨by push_cast;rfl,⟨C,hg.out,hj.out⟩,ho⟩
theorem arN (w:World)(v:Value)(g:Nat)(xs:List ByteArray)(hl:xs.length<=100000)(k:Nat)(hk1:1<=k)(hk:k<=100000)(h:SRow w v g xs):Calls prog 16 #[v,.int .i64 (k:Int)] w fun e w'=>e=.returned (.int .i64 ((k+xs.length:Nat):Int))/\SRow w' v g (mks k xs.length)/\Only g w w':=by
 obtain⟨a,c,rfl,h3⟩:=h.ex
 cases xs with
 | nil=>exact(ayT a c k w).mono fun e w' ⟨h1,h2⟩=>by subst h2;exact⟨h1,⟨⟨a,c,rfl,fun h=>absurd rfl h⟩⟩,Only.refl _ _⟩
 | cons x xs=>
  obtain⟨rfl,C,h5,h6⟩:=h3 (by simp)
  have hs:(x::xs).length<=C.size:=by
   have:=h6 xs.length (by simp);rcases Nat.lt_or_ge xs.length C.size with h|h
   ·simp;omega
   ·rw[Array.getElem?_eq_none h]at this;cases this
  refine(ayU g _ c k C hs hl hk1 hk w h5).mono fun e w' ⟨h1,⟨C',h7,h8⟩,h9⟩=>⟨h1,⟨⟨some ⟨g,0,none⟩,c,by rw[af0],fun _=>⟨rfl,C',h7,fun j hj=>?_⟩⟩⟩,h9⟩;rw[asY];exact h8 j (by rw[af0]at hj;exact hj)
theorem ayV (a:Option Addr)(c k:Nat)(w:World):Calls prog 17 #[.slice a 0 c,.int .i64 (k:Int)] w fun e w'=>e=.returned (.int .i64 (k:Int))/\w=w':=by
 go_enter func17,ntmps17
 go_wp2_with fail;refine wp_loop_rounds 1 ?_;rw[rounds_succ];go_wp2_with fail;go_ret;exact⟨rfl,rfl⟩
theorem ayW (g n c k:Nat)(C:Array Value)(hnn:n<=100000)(hk1:1<=k)(hk:k<=100000)(w:World)(h1:w.heap[g]?=some (.cells C 9 (0,0)))(hj:∀j,j<n->C[j]?=some (.string (mkT (k+j)))) : Calls prog 17 #[.slice (some ⟨g,0,none⟩) n c,.int .i64 (k:Int)] w fun e w'=>e=.returned (.int .i64 ((k+n:Nat):Int))/\Zb w w':=by
 have H1:=qz h1;have HJ:=qz hj;clear h1 hj
 go_enter func17,ntmps17
 go_wp2_with fail
 go_loopw [1,5] (fun vk v wr=>∃i:Nat,i<=n/\v=.int .i64 (i:Int)/\vk=.int .i64 ((k+i:Nat):Int)/\Zb w wr) (fun _ v _=>n - (intOf v).toNat)
 case atStart=>exact⟨0,Nat.zero_le _,rfl,rfl,Below.refl _ _⟩
 case round=>
  obtain⟨i,hi,rfl,rfl,hbw⟩:=hrel
  by_cases hlt:i<n
  ·have hM:=aeU (k+i) (by omega) (by omega);obtain⟨X,hX⟩:∃X,X=mkT (k+i):=⟨_,rfl⟩;rw[<-hX]at hM;have HM:Hid (Zr 43 #[.int .i64 ((k:Int)+(i:Int))] (.string X)):=fun w=>by have:=hM w;push_cast at this;exact this
   have r1:=(hbw.block g (lt_of_block H1.out)).trans H1.out;have c1:wr.cell? ⟨g,i,none⟩=some (.string X):=by rw[cell_of_row wr g i C _ _ r1,hX];exact HJ.out i hlt
   have cd:wr.drew.cell? ⟨g,i,none⟩=some (.string X):=c1;have hgr:=lt_of_block r1;have hlti:(i:Int)<(n:Int):=by omega
   have hw:=ayB X;clear hM hX r1;go_wp2_with fail
   go_cut [18] (fun s18 wx=>s18=.bool false/\Zb w wx)
   case first=>
    go_region_with ((go_at_call 43;refine(HM.out _).mono ?_;rintro e w1 ⟨rfl,b1⟩;have q1:=(b1.cell (p:=⟨g,i,none⟩) hgr).trans c1;have k1:=ayd hbw.drew b1))
    all_goals (go_wp2_with fail;go_meet;exact⟨rfl,k1⟩)
   case rest=>
    obtain⟨rfl,hbx⟩:=hcut;go_wp2_with fail
    go_roundw
    case rel=>exact⟨i+1,by omega,by go_num,by push_cast;rw[Int.add_assoc],hbx⟩
    case measure=>simp[intOf];omega
  ·obtain rfl:i=n:=by omega
   go_wp2_with fail;go_ret;exact⟨by push_cast;rfl,hbw⟩
theorem ak1 (w:World)(v:Value)(g n:Nat)(hl:n<=100000)(k:Nat)(hk1:1<=k)(hk:k<=100000)(h:SRow w v g (mks k n)):Calls prog 17 #[v,.int .i64 (k:Int)] w fun e w'=>e=.returned (.int .i64 ((k+n:Nat):Int))/\Zb w w':=by
 obtain⟨a,c,rfl,h3⟩:=h.ex;rw[af0]
 cases n with
 | zero=>exact(ayV a c k w).mono fun e w' ⟨h1,h2⟩=>by subst h2;exact⟨h1,Below.refl _ _⟩
 | succ n=>
  obtain⟨rfl,C,h5,h6⟩:=h3 (by intro h;have:=congrArg List.length h;rw[af0]at this;simp at this);exact ayW g _ c k C hl hk1 hk w h5 (fun j hj=>by have:=h6 j (by rw[af0];exact hj);rw[asY]at this;exact this)
def abJ (sg:ByteArray):List ByteArray->ByteArray
 | []=>⟨#[]⟩
 | [x]=>x
 | x::y::xs=>(⟨#[40]⟩:ByteArray)++x++sg++abJ sg (y::xs)++(⟨#[41]⟩:ByteArray)
theorem ag3 (sg:ByteArray)(xs:List ByteArray)(j:Nat)(h:j+1<xs.length):abJ sg (xs.drop j)=(⟨#[40]⟩:ByteArray)++xs[j]++sg++abJ sg (xs.drop (j+1))++(⟨#[41]⟩:ByteArray):=by
 rw[List.drop_eq_getElem_cons (show j<xs.length by omega),List.drop_eq_getElem_cons h];rfl
theorem ag4 (sg:ByteArray)(xs:List ByteArray)(h:0<xs.length):abJ sg (xs.drop (xs.length - 1))=xs[xs.length - 1]:=by
 rw[List.drop_eq_getElem_cons (show xs.length - 1<xs.length by omega),List.drop_of_length_le (by omega)];rfl
theorem ag5 (sg:ByteArray)(xs:List ByteArray)(M:Nat)(hs:sg.size<=1)(h:∀x∈xs,x.size<=M):(abJ sg xs).size<=xs.length * (M+3):=by
 induction xs with
 | nil=>exact Nat.zero_le _
 | cons x xs ih=>
  cases xs with
  | nil=>have:=h x (by simp);simp[abJ];omega
  | cons y xs=>
   have h1:=ih (fun z hz=>h z (by simp[hz]));have h2:=h x (by simp);simp only[abJ,ByteArray.size_append,List.length_cons]at h1 ⊢;have e1:(⟨#[40]⟩:ByteArray).size=1:=rfl;have e2:(⟨#[41]⟩:ByteArray).size=1:=rfl;rw[e1,e2];have e3:(xs.length+1+1) * (M+3)=(xs.length+1) * (M+3)+(M+3):=by rw[Nat.succ_mul]
   omega
theorem aeL (w:World)(g n c:Nat)(C:Array Value)(xs:List ByteArray)(sg:ByteArray)(hn:n=xs.length)(hn1:1<=n)(hn2:n<=100)(hsg:sg.size<=1)(hM:∀x∈xs,x.size<=1000)(hC:∀j (h:j<xs.length),C[j]?=some (.string xs[j]))(hg:w.heap[g]?=some (.cells C 9 (0,0))) : Calls prog 118 #[.slice (some ⟨g,0,none⟩) n c,.string sg] w fun e w'=>e=.returned (.string (abJ sg xs))/\w=w':=by
 have HC:=qz hC;have HM:=qz hM;have HN:=qz hn;have HG:=qz hg;have hlast:n - 1<xs.length:=by omega
 have cl:w.cell? ⟨g,n - 1,none⟩=some (.string (xs[n - 1]'hlast)):=by rw[cell_of_row w g _ C _ _ hg];exact hC _ hlast
 obtain⟨m,rfl⟩:∃m,n=m+1:=⟨n - 1,by omega⟩
 have hl0:Hid (abJ sg (xs.drop m)=xs[m]'(by omega)):=by
  have:=ag4 sg xs (by omega);simp only[show xs.length - 1=m by omega]at this
  exact this
 simp only[Nat.add_sub_cancel]at cl;obtain⟨x0,hx0⟩:∃x,x=xs[m]'(by omega):=⟨_,rfl⟩;rw[<-hx0]at cl;have HX0:Hid (x0=abJ sg (xs.drop m)):=by show _=_;rw[hl0.out,hx0]
 clear hC hM hn hg hx0 hl0
 go_enter func118,ntmps118
 go_wp2_with fail
 have hsz:Hid (∀k,(abJ sg (xs.drop k)).size<=200000):=fun k=>by
  have h1:=ag5 sg (xs.drop k) 1000 hsg (fun x hx=>HM.out x (List.mem_of_mem_drop hx));have h2:(xs.drop k).length<=100:=by rw[List.length_drop];have:=HN.out;omega
  have h3:=Nat.mul_le_mul_right (1000+3) h2;omega
 go_loop [5,6] (fun o v=>∃(k:Nat) (X:ByteArray),k<=m/\o=.string X/\v=.int .i64 ((k:Int) - 1)/\Hid (X=abJ sg (xs.drop k))/\X.size<=200000) (fun _ v=>(intOf v+1).toNat)
 case atStart=>exact⟨m,x0,nl _,rfl,by congr 1;omega,HX0,by rw[HX0.out];exact hsz.out m⟩
 case round=>
  obtain⟨k,X,hk,rfl,rfl,hX,hXs⟩:=hrel
  cases k with
  | zero=>
   have hr:Hid (X=abJ sg xs):=hX.out;rw[show (((0:Nat):Int) - 1)=-1 from rfl];go_wp2_with fail;go_ret;exact⟨by rw[<-hr.out];rfl,rfl⟩
  | succ j=>
   have hj:j+1<xs.length:=by have:=HN.out;omega
   have hcj:=HC.out j (by omega);have c1:w.cell? ⟨g,j,none⟩=some (.string (xs[j]'(by omega))):=by rw[cell_of_row w g _ C _ _ HG.out];exact hcj
   have hxj:(xs[j]'(by omega)).size<=1000:=HM.out _ (List.getElem_mem _);have hnew:Hid ((⟨#[40]⟩:ByteArray)++(xs[j]'(by omega))++sg++X++(⟨#[41]⟩:ByteArray)=abJ sg (xs.drop j)):=by show _=_;rw[ag3 sg xs j hj,<-hX.out]
   obtain⟨x,hx⟩:∃x,x=xs[j]'(by omega):=⟨_,rfl⟩;rw[<-hx]at c1 hxj hnew;rw[show (((j+1:Nat):Int) - 1)=(j:Int) by omega];have hjm:(j:Int)<(m:Int)+1:=by omega
   have hns:((⟨#[40]⟩:ByteArray)++x++sg++X++(⟨#[41]⟩:ByteArray)).size<=200000:=by rw[hnew.out];exact hsz.out j
   have Hns:=qz hns;clear hcj hx hX hj hns;go_wp2_with fail
   go_round
   case rel=>exact⟨j,_,by omega,rfl,rfl,hnew,Hns.out⟩
   case measure=>simp[intOf]
theorem agq (w:World)(g n c:Nat)(C:Array Value)(xs:List ByteArray)(sg:ByteArray)(hn:n=xs.length)(hn1:1<=n)(hn2:n<=100)(hsg:sg.size<=1)(hM:∀x∈xs,x.size<=1000)(hC:∀j (h:j<xs.length),C[j]?=some (.string xs[j]))(hg:w.heap[g]?=some (.cells C 9 (0,0))) : Calls prog 155 #[.slice (some ⟨g,0,none⟩) n c,.string sg] w fun e w'=>e=.returned (.string (abJ sg xs))/\w=w':=by
 have HC:=qz hC;have HM:=qz hM;have HN:=qz hn;have HG:=qz hg;have hlast:n - 1<xs.length:=by omega
 have cl:w.cell? ⟨g,n - 1,none⟩=some (.string (xs[n - 1]'hlast)):=by rw[cell_of_row w g _ C _ _ hg];exact hC _ hlast
 obtain⟨m,rfl⟩:∃m,n=m+1:=⟨n - 1,by omega⟩
 have hl0:Hid (abJ sg (xs.drop m)=xs[m]'(by omega)):=by
  have:=ag4 sg xs (by omega);simp only[show xs.length - 1=m by omega]at this
  exact this
 simp only[Nat.add_sub_cancel]at cl;obtain⟨x0,hx0⟩:∃x,x=xs[m]'(by omega):=⟨_,rfl⟩;rw[<-hx0]at cl;have HX0:Hid (x0=abJ sg (xs.drop m)):=by show _=_;rw[hl0.out,hx0]
 clear hC hM hn hg hx0 hl0
 go_enter func155,ntmps155
 go_wp2_with fail
 have hsz:Hid (∀k,(abJ sg (xs.drop k)).size<=200000):=fun k=>by
  have h1:=ag5 sg (xs.drop k) 1000 hsg (fun x hx=>HM.out x (List.mem_of_mem_drop hx));have h2:(xs.drop k).length<=100:=by rw[List.length_drop];have:=HN.out;omega
  have h3:=Nat.mul_le_mul_right (1000+3) h2;omega
 go_loop [6,7] (fun o v=>∃(k:Nat) (X:ByteArray),k<=m/\o=.string X/\v=.int .i64 ((k:Int) - 1)/\Hid (X=abJ sg (xs.drop k))/\X.size<=200000) (fun _ v=>(intOf v+1).toNat)
 case atStart=>exact⟨m,x0,nl _,rfl,by congr 1<;>omega,HX0,by rw[HX0.out];exact hsz.out m⟩
 case round=>
  obtain⟨k,X,hk,rfl,rfl,hX,hXs⟩:=hrel
  cases k with
  | zero=>
   have hr:Hid (X=abJ sg xs):=hX.out;rw[show (((0:Nat):Int) - 1)=-1 from rfl];go_wp2_with fail;go_ret;exact⟨by rw[<-hr.out];rfl,rfl⟩
  | succ j=>
   have hj:j+1<xs.length:=by have:=HN.out;omega
   have hcj:=HC.out j (by omega);have c1:w.cell? ⟨g,j,none⟩=some (.string (xs[j]'(by omega))):=by rw[cell_of_row w g _ C _ _ HG.out];exact hcj
   have hxj:(xs[j]'(by omega)).size<=1000:=HM.out _ (List.getElem_mem _);have hnew:Hid ((⟨#[40]⟩:ByteArray)++(xs[j]'(by omega))++sg++X++(⟨#[41]⟩:ByteArray)=abJ sg (xs.drop j)):=by show _=_;rw[ag3 sg xs j hj,<-hX.out]
   obtain⟨x,hx⟩:∃x,x=xs[j]'(by omega):=⟨_,rfl⟩;rw[<-hx]at c1 hxj hnew;rw[show (((j+1:Nat):Int) - 1)=(j:Int) by omega];have hjm:(j:Int)<(m:Int)+1:=by omega
   have hns:((⟨#[40]⟩:ByteArray)++x++sg++X++(⟨#[41]⟩:ByteArray)).size<=200000:=by rw[hnew.out];exact hsz.out j
   have Hns:=qz hns;clear hcj hx hX hj hns;go_wp2_with fail
   go_round
   case rel=>exact⟨j,_,by omega,rfl,rfl,hnew,Hns.out⟩
   case measure=>simp[intOf]
theorem agr (p:Option Addr)(c:Nat)(sg:ByteArray)(w:World):Calls prog 155 #[.slice p 0 c,.string sg] w fun e w'=>e=.returned (.string ⟨#[48]⟩)/\w=w':=by
 go_enter func155,ntmps155
 go_wp2_with fail;go_ret;exact⟨rfl,rfl⟩
def hdL:Tm->List UInt8
 | .snd a b _=>[a,33,b,46]
 | .rcv a b _=>[a,63,b,46]
 | .tau _=>[126,46]
 | .own a _=>[35,a,46]
 | .mat a b _=>[91,a,61,b,93]
 | .rep _=>[42]
 | _=>[]
theorem ag6 (t p:Tm)(h:t.parts=[p]):t.pr=hdL t++p.pr:=by
 cases t<;>simp only[Tm.parts,List.cons.injEq,and_true,List.nil_eq,reduceCtorEq,List.ne_cons_self,and_false]at h<;>first|(subst h;rfl)|cases h
theorem adx (T:TypeId)(V:Value)(l:List UInt8)(hl:0<l.length)(hl2:l.length<=10) (HW:∀w,Calls prog 129 #[.slice none 0 0,.iface T V] w (aa3 w.heap.size 0 [] l w))(w:World) : Calls prog 157 #[.iface T V] w fun e w'=>e=.returned (.string (B l))/\Zb w w':=by
 have HV:Hid (∀(w1:World) (b:Nat) (v:Value),w1.ownsRow b 5 1 v (0+l.length) ([]++l.map ub)->(convert 73 9 v).run prog w1=.ok (.string (B l)) w1):=fun w1 b v h=>akC l (by omega) hl h;have H:=qz HW;clear HW;obtain⟨X,hX⟩:∃X,X=B l:=⟨_,rfl⟩;rw[<-hX]at HV ⊢;clear hX
 go_enter func157,ntmps157
 go_wp2_with fail;refine(H.out _).mono ?_;rintro e w1 ⟨v1,rfl,ho,k1⟩;have hcv:=HV.out w1 _ v1 ho;clear ho;go_wp2_with fail;go_ret;exact⟨rfl,k1.below⟩
theorem ab4 (t p:Tm)(h:t.parts=[p])(w:World):Calls prog 157 #[.iface (aau t) (pay t)] w fun e w'=>e=.returned (.string (B (hdL t)))/\Zb w w':=by
 cases t with
 | nil=>cases h
 | sum q u=>cases h
 | par q u=>cases h
 | snd a b q=>exact adx _ _ [a,33,b,46] (by simp) (by simp) (fun w=>anK a b _ _ w.heap.size 0 [] (.slice none 0 0) w (World.ownsRow_nil _ _ _ _) (by omega) (nl _)) w
 | rcv a b q=>exact adx _ _ [a,63,b,46] (by simp) (by simp) (fun w=>agO a b _ _ w.heap.size 0 [] (.slice none 0 0) w (World.ownsRow_nil _ _ _ _) (by omega) (nl _)) w
 | mat a b q=>exact adx _ _ [91,a,61,b,93] (by simp) (by simp) (fun w=>aj9 a b _ _ w.heap.size 0 [] (.slice none 0 0) w (World.ownsRow_nil _ _ _ _) (by omega) (nl _)) w
 | own a q=>exact adx _ _ [35,a,46] (by simp) (by simp) (fun w=>asG a _ _ w.heap.size 0 [] (.slice none 0 0) w (World.ownsRow_nil _ _ _ _) (by omega) (nl _)) w
 | tau q=>exact adx _ _ [126,46] (by simp) (by simp) (fun w=>aik _ _ w.heap.size 0 [] (.slice none 0 0) w (World.ownsRow_nil _ _ _ _) (by omega) (nl _)) w
 | rep q=>exact adx _ _ [42] (by simp) (by simp) (fun w=>ail _ _ w.heap.size 0 [] (.slice none 0 0) w (World.ownsRow_nil _ _ _ _) (by omega) (nl _)) w
theorem Tryz.infoDf:(prog.info? 132).map (·.size)=some 257:=by kernel_rfl
theorem aw2:Hid ((Tryz.zeroCells132).size=257):=by show _=_;kernel_rfl
structure DrOf (D:Array Value) (L:UInt8->UInt8) (v:Value):Prop where
 sz:D.size=257
 at_:∀j,j<256->D[j]?=some (.int .u8 ((L (UInt8.ofNat j)).toNat:Int))
 lf:D[256]?=some v
 ones:v.oneCell'=true
theorem DrOf.set {D:Array Value}{L:UInt8->UInt8}{v:Value}(h:DrOf D L v)(x n0:UInt8):DrOf (D.setIfInBounds x.toNat (.int .u8 (n0.toNat:Int))) (upd L x n0) v:=by
 have hx:=x.toNat_lt;refine⟨by rw[Array.size_setIfInBounds];exact h.sz,fun j hj=>?_,?_,h.ones⟩
 ·by_cases e:x.toNat=j
  ·subst e;rw[Array.getElem?_setIfInBounds_self_of_lt (by rw[h.sz];omega)];have:UInt8.ofNat x.toNat=x:=by apply UInt8.toNat_inj.1;rw[UInt8.toNat_ofNat'];omega
   rw[this];unfold upd;rw[if_pos rfl]
  ·rw[Array.getElem?_setIfInBounds_ne e,h.at_ j hj];unfold upd;rw[if_neg];intro e2
   apply e
   rw[<-e2,UInt8.toNat_ofNat'];omega
 ·rw[Array.getElem?_setIfInBounds_ne (by omega)];exact h.lf
theorem DrOf.left {D:Array Value}{L:UInt8->UInt8}{v:Value}(h:DrOf D L v)(u:Value)(hu:u.oneCell'=true):DrOf (D.setIfInBounds 256 u) L u:=by
 refine⟨by rw[Array.size_setIfInBounds];exact h.sz,fun j hj=>?_,?_,hu⟩
 ·rw[Array.getElem?_setIfInBounds_ne (by omega)];exact h.at_ j hj
 ·rw[Array.getElem?_setIfInBounds_self_of_lt (by rw[h.sz];omega)]
theorem DrOf.all {D:Array Value}{L:UInt8->UInt8}{v:Value}(h:DrOf D L v):D.all (·.oneCell')=true:=by
 refine Array.all_eq_true.2 fun i hi=>?_;have hs:=h.sz
 by_cases c:i<256
 ·have:=h.at_ i c;rw[Array.getElem?_eq_getElem hi]at this
  simp only[Option.some.injEq]at this
  rw[this];rfl
 ·obtain rfl:i=256:=by omega
  have:=h.lf;rw[Array.getElem?_eq_getElem hi]at this
  simp only[Option.some.injEq]at this
  rw[this];exact h.ones
theorem aiZ:∀(xs ls:List UInt8) (L:UInt8->UInt8) (k:Nat) (h1:k<xs.length) (h2:k<ls.length),updL L (xs.take (k+1)) ls=upd (updL L (xs.take k) ls) xs[k] ls[k]
 | x::xs,l::ls,L,0,_,_=>by simp[updL]
 | x::xs,l::ls,L,k+1,h1,h2=>by
  simp only[List.take_succ_cons,updL,List.getElem_cons_succ];exact aiZ xs ls _ k (by simpa using h1) (by simpa using h2)
 | [],_,_,_,h,_=>by simp at h
 | _::_,[],_,_,_,h=>by simp at h
def LfS (w:World)(g:Nat)(v:Value)(ns:List UInt8):Prop:=
 (v=.slice none 0 0/\ns=[])\/∃off c,v=.slice (some ⟨g,off,none⟩) ns.length c/\ns.length<=c/\c<=maxLen/\∀j (h:j<ns.length),w.cell? ⟨g,off+j,none⟩=some (.int .u8 (ns[j].toNat:Int))
theorem LfS.below {w w':World}{g:Nat}{v:Value}{ns:List UInt8}(h:LfS w g v ns)(k:Zb w w'):LfS w' g v ns:=by
 rcases h with h|⟨off,c,h1,h2,h3,h4⟩
 ·exact .inl h
 ·exact .inr ⟨off,c,h1,h2,h3,fun j hj=>(k.cell (p:=⟨g,off+j,none⟩) (aad (h4 j hj))).trans (h4 j hj)⟩
theorem LfS.keep {w w':World}{g:Nat}{v:Value}{ns:List UInt8}(h:LfS w g v ns)(k:w'.heap[g]?=w.heap[g]?):LfS w' g v ns:=by
 rcases h with h|⟨off,c,h1,h2,h3,h4⟩
 ·exact .inl h
 ·exact .inr ⟨off,c,h1,h2,h3,fun j hj=>(World.cell?_of_block (a:=⟨g,off+j,none⟩) k).trans (h4 j hj)⟩
theorem LfS.one {w:World}{g:Nat}{v:Value}{ns:List UInt8}(h:LfS w g v ns):v.oneCell'=true:=by
 rcases h with⟨rfl,_⟩|⟨off,c,rfl,_⟩<;>rfl
def aye (L:UInt8->UInt8)(gL:Nat)(ns:List UInt8)(w:World)(e:Ending)(w':World):Prop:=
 ∃D' v',e=.returned (.agg D')/\DrOf D' L v'/\LfS w' gL v' ns/\Zb w w'
theorem af1 (D:Array Value)(L:UInt8->UInt8)(vL:Value)(gL:Nat)(ns xs:List UInt8)(px:Option Addr)(gx cx:Nat)(hD:DrOf D L vL)(hn:xs.length<=1000)(hle:xs.length<=ns.length)(hns:ns.length<=1000)(w:World)(hL:LfS w gL vL ns)(hgL:gL<w.heap.size) (hx:xs≠[]->px=some ⟨gx,0,none⟩/\∀k (h:k<xs.length),w.cell? ⟨gx,k,none⟩=some (.int .u8 (xs[k].toNat:Int))) : Calls prog 152 #[.agg D,.slice px xs.length cx] w (aye (updL L xs ns) gL (ns.drop xs.length) w):=by
 have HX:=qz hx;have HD:=qz hD;have HL:=qz hL;have HVL:Hid (vL.oneCell'=true):=hL.one;obtain⟨Z,hZ⟩:∃Z,Z=Tryz.zeroCells132:=⟨_,rfl⟩;have hZs:Hid (Z.size=257):=by rw[hZ];exact aw2
 clear hx hD hL
 go_enter func152,ntmps152
 go_wp2_with fail;rw[<-hZ];obtain⟨W,hW⟩:∃W,W=(w.alloc (.cells D 132)).alloc (.cells Z 132):=⟨_,rfl⟩;rw[<-hW];have r0:Hid (W.heap[w.heap.size]?=some (.cells D 132 (0,0))):=by rw[hW];exact aaJ _ _ _
 have r1:Hid (W.heap[w.heap.size+1]?=some (.cells Z 132 (0,0))):=by rw[hW];exact aaK _ _ _
 have bl:Zb w W:=by rw[hW];exact aaw _ _ _
 clear hW hZ
 go_loopw [9] (fun i wr=>∃(k:Nat) (Dk:Array Value),k<=xs.length/\i=.int .i64 (k:Int)/\Hid (DrOf Dk (updL L (xs.take k) ns) vL)/\Hid (wr.heap[w.heap.size]?=some (.cells Dk 132 (0,0)))/\Hid (wr.heap[w.heap.size+1]?=some (.cells Z 132 (0,0)))/\Zb w wr) (fun i _=>xs.length - (intOf i).toNat)
 case atStart=>exact⟨0,D,Nat.zero_le _,rfl,by show DrOf _ _ _;have:=HD.out;simpa [updL] using this,r0,r1,bl⟩
 case round=>
  obtain⟨k,Dk,hk,rfl,hdk,h0,h1,hbw⟩:=hrel;have cL:wr.cell? ⟨w.heap.size,256,none⟩=some vL:=by rw[cell_of_row wr _ 256 Dk _ _ h0.out];exact hdk.out.lf
  have fL:=frozen_of_row wr w.heap.size 256 Dk _ h0.out
  by_cases hlt:k<xs.length
  ·have hxne:xs≠[]:=fun e=>by rw[e]at hlt;simp at hlt
   have hkn:k<ns.length:=by omega
   obtain⟨e1,hxc⟩:=HX.out hxne;rcases HL.out with⟨_,e⟩|⟨off,c,e2,hc1,hc3,hnc⟩
   ·rw[e]at hkn;simp at hkn
   subst e1 e2;obtain⟨x,hx⟩:∃x,x=xs[k]:=⟨_,rfl⟩;obtain⟨y,hy⟩:∃y,y=ns[k]:=⟨_,rfl⟩
   have c1:wr.cell? ⟨gx,k,none⟩=some (.int .u8 (x.toNat:Int)):=by
    rw[hx];exact(hbw.cell (p:=⟨gx,k,none⟩) (aad (hxc k hlt))).trans (hxc k hlt)
   have c2:wr.cell? ⟨gL,off+k,none⟩=some (.int .u8 (y.toNat:Int)):=by
    rw[hy];exact(hbw.cell (p:=⟨gL,off+k,none⟩) hgL).trans (hnc k hkn)
   have hxl:=x.toNat_lt;have hxi:((x.toNat:Nat):Int)<256:=by omega
   obtain⟨z,hz⟩:∃z,Dk[x.toNat]?=some z:=⟨_,Array.getElem?_eq_getElem (by rw[hdk.out.sz];omega)⟩;have c3:wr.cell? ⟨w.heap.size,x.toNat,none⟩=some z:=by rw[cell_of_row wr _ x.toNat Dk _ _ h0.out];exact hz
   have f3:=frozen_of_row wr w.heap.size x.toNat Dk _ h0.out;have H0:=qz (heap_setCell_same wr w.heap.size x.toNat Dk 132 (.int .u8 (y.toNat:Int)) h0.out);have H1:Hid ((wr.setCell ⟨w.heap.size,x.toNat,none⟩ (.int .u8 (y.toNat:Int))).heap[w.heap.size+1]?=some (.cells Z 132 (0,0))):=ac2 h1.out (by omega)
   have HDk:Hid (DrOf (Dk.setIfInBounds x.toNat (.int .u8 (y.toNat:Int))) (updL L (xs.take (k+1)) ns) (.slice (some ⟨gL,off,none⟩) ns.length c)):=by
    show DrOf _ _ _;rw[aiZ xs ns L k hlt hkn,<-hx,<-hy];exact hdk.out.set x y
   have Hb:=qz hbw;clear hx hy hz hxc hnc hbw;go_wp2_with fail
   go_roundw
   case rel=>exact⟨k+1,_,by omega,by push_cast;rfl,HDk,H0,H1,Hb.out.setCell (p:=⟨w.heap.size,x.toNat,none⟩) (nl _) _⟩
   case measure=>simp[intOf]<;>omega
  ·obtain rfl:k=xs.length:=by omega
   have hi:Hid ((prog.info? 132).map (·.size)=some 257):=Tryz.infoDf;have hlt:xs.length<=ns.length:=hle;have q1:(xs.length:Int)<=(ns.length:Int):=by omega
   rcases HL.out with⟨e,e2⟩|⟨off,c,e,hc1,hc3,hnc⟩
   ·subst e;have hx0:xs=[]:=List.length_eq_zero_iff.1 (by rw[e2]at hle;simpa using hle);have hlf:Hid (LfS w gL (.slice none 0 0) (ns.drop xs.length)):=.inl ⟨rfl,by rw[e2];simp⟩;have E2:=qz e2;clear e2;subst hx0;obtain⟨V',hV'⟩:∃V',V'=(.slice none 0 0:Value):=⟨_,rfl⟩
    have hd':Hid (DrOf (Dk.setIfInBounds 256 V') (updL L [] ns) V'):=by
     have:=hdk.out.left V' (by rw[hV'];rfl);show DrOf _ _ _;simpa using this
    have hlf':Hid (LfS w gL V' (ns.drop ([]:List UInt8).length)):=by
     rw[hV'];exact hlf.out
    have h0':=qz (heap_setCell_same wr w.heap.size 256 Dk 132 V' h0.out);have h1':Hid ((wr.setCell ⟨w.heap.size,256,none⟩ V').heap[w.heap.size+1]?=some (.cells Z 132 (0,0))):=ac2 h1.out (by omega);obtain⟨D',hD'⟩:∃D',D'=Dk.setIfInBounds 256 V':=⟨_,rfl⟩;rw[<-hD']at hd' h0';have hi':Hid ((prog.info? 132).map (·.size)=some D'.size):=by show _=_;rw[Tryz.infoDf,hd'.out.sz]
    have hold:Hid (Z.size=D'.size):=by show _=_;rw[hZs.out,hd'.out.sz]
    have hone:Hid (D'.all (·.oneCell')=true):=hd'.out.all;have bl':=qz (hbw.setCell (p:=⟨w.heap.size,256,none⟩) (nl _) V');rw[hV']at h0' h1' bl';clear hD' hbw
    go_wp2_with (first
     | refine wpList_load_row rfl 132 (.tmp 2) rfl w.heap.size rfl 132 D' (0,0) _ h0'.out underlying132 rfl hi'.out ?_
     | refine wpList_store_row rfl 132 (.tmp 4) (.tmp 29) rfl (w.heap.size+1) D' rfl rfl 132 Z h1'.out hi'.out hold.out hone.out ?_)
    have bf:=aby (g:=w.heap.size+1) (cs:=D') bl'.out (by omega) bl'.out.size;exact bodyPost_ret (v:=.agg D') (results_cell_row (t:=132) (fr:=(0,0)) rfl _ _ (w.heap.size+1) _ _ rfl (setRow_heap _ (w.heap.size+1) Z D' 132 _ h1'.out) underlying132 rfl hi'.out) rfl ⟨D',V',rfl,hd'.out,hlf'.out.below bf,bf⟩
   ·subst e;have q2:(xs.length:Int)<=(c:Int):=by omega
    by_cases hcn:c=xs.length
    ·have hlf:Hid (LfS w gL (.slice (some ⟨gL,off,none⟩) 0 0) (ns.drop xs.length)):=by
      have hd0:ns.drop xs.length=[]:=List.drop_of_length_le (by omega);rw[hd0];exact .inr ⟨off,0,rfl,nl _,by omega,fun j hj=>by simp at hj⟩
     clear hnc;subst hcn;obtain⟨V',hV'⟩:∃V',V'=(.slice (some ⟨gL,off,none⟩) 0 0:Value):=⟨_,rfl⟩
     have hd':Hid (DrOf (Dk.setIfInBounds 256 V') (updL L xs ns) V'):=by
      have:=hdk.out.left V' (by rw[hV'];rfl);rw[List.take_of_length_le (nl _)]at this
      exact this
     have hlf':Hid (LfS w gL V' (ns.drop xs.length)):=by
      rw[hV'];exact hlf.out
     have h0':=qz (heap_setCell_same wr w.heap.size 256 Dk 132 V' h0.out);have h1':Hid ((wr.setCell ⟨w.heap.size,256,none⟩ V').heap[w.heap.size+1]?=some (.cells Z 132 (0,0))):=ac2 h1.out (by omega);obtain⟨D',hD'⟩:∃D',D'=Dk.setIfInBounds 256 V':=⟨_,rfl⟩;rw[<-hD']at hd' h0';have hi':Hid ((prog.info? 132).map (·.size)=some D'.size):=by show _=_;rw[Tryz.infoDf,hd'.out.sz]
     have hold:Hid (Z.size=D'.size):=by show _=_;rw[hZs.out,hd'.out.sz]
     have hone:Hid (D'.all (·.oneCell')=true):=hd'.out.all;have bl':=qz (hbw.setCell (p:=⟨w.heap.size,256,none⟩) (nl _) V');rw[hV']at h0' h1' bl';clear hD' hbw
     go_wp2_with (first
      | refine wpList_load_row rfl 132 (.tmp 2) rfl w.heap.size rfl 132 D' (0,0) _ h0'.out underlying132 rfl hi'.out ?_
      | refine wpList_store_row rfl 132 (.tmp 4) (.tmp 29) rfl (w.heap.size+1) D' rfl rfl 132 Z h1'.out hi'.out hold.out hone.out ?_)
     have bf:=aby (g:=w.heap.size+1) (cs:=D') bl'.out (by omega) bl'.out.size;exact bodyPost_ret (v:=.agg D') (results_cell_row (t:=132) (fr:=(0,0)) rfl _ _ (w.heap.size+1) _ _ rfl (setRow_heap _ (w.heap.size+1) Z D' 132 _ h1'.out) underlying132 rfl hi'.out) rfl ⟨D',V',rfl,hd'.out,hlf'.out.below bf,bf⟩
    ·have hlf:Hid (LfS w gL (.slice (some ⟨gL,off+xs.length,none⟩) (ns.length - xs.length) (c - xs.length)) (ns.drop xs.length)):=by
      refine .inr ⟨off+xs.length,c - xs.length,by rw[List.length_drop],by rw[List.length_drop];omega,by omega,fun j hj=>?_⟩;rw[List.length_drop]at hj;have:=hnc (xs.length+j) (by omega);rw[Nat.add_assoc,this,List.getElem_drop]
     clear hnc;obtain⟨V',hV'⟩:∃V',V'=(.slice (some ⟨gL,off+xs.length,none⟩) (ns.length - xs.length) (c - xs.length):Value):=⟨_,rfl⟩
     have hd':Hid (DrOf (Dk.setIfInBounds 256 V') (updL L xs ns) V'):=by
      have:=hdk.out.left V' (by rw[hV'];rfl);rw[List.take_of_length_le (nl _)]at this
      exact this
     have hlf':Hid (LfS w gL V' (ns.drop xs.length)):=by
      rw[hV'];exact hlf.out
     have h0':=qz (heap_setCell_same wr w.heap.size 256 Dk 132 V' h0.out);have h1':Hid ((wr.setCell ⟨w.heap.size,256,none⟩ V').heap[w.heap.size+1]?=some (.cells Z 132 (0,0))):=ac2 h1.out (by omega);obtain⟨D',hD'⟩:∃D',D'=Dk.setIfInBounds 256 V':=⟨_,rfl⟩;rw[<-hD']at hd' h0';have hi':Hid ((prog.info? 132).map (·.size)=some D'.size):=by show _=_;rw[Tryz.infoDf,hd'.out.sz]
     have hold:Hid (Z.size=D'.size):=by show _=_;rw[hZs.out,hd'.out.sz]
     have hone:Hid (D'.all (·.oneCell')=true):=hd'.out.all;have bl':=qz (hbw.setCell (p:=⟨w.heap.size,256,none⟩) (nl _) V');rw[hV']at h0' h1' bl';clear hD' hbw
     go_wp2_with (first
      | refine wpList_load_row rfl 132 (.tmp 2) rfl w.heap.size rfl 132 D' (0,0) _ h0'.out underlying132 rfl hi'.out ?_
      | refine wpList_store_row rfl 132 (.tmp 4) (.tmp 29) rfl (w.heap.size+1) D' rfl rfl 132 Z h1'.out hi'.out hold.out hone.out ?_)
     have bf:=aby (g:=w.heap.size+1) (cs:=D') bl'.out (by omega) bl'.out.size;exact bodyPost_ret (v:=.agg D') (results_cell_row (t:=132) (fr:=(0,0)) rfl _ _ (w.heap.size+1) _ _ rfl (setRow_heap _ (w.heap.size+1) Z D' 132 _ h1'.out) underlying132 rfl hi'.out) rfl ⟨D',V',rfl,hd'.out,hlf'.out.below bf,bf⟩
end Go.Proofs.YtihmcgcgjmbmhaaGreat.T1
