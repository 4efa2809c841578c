/- Texts of the proof. No conditions. -/
import Derived.Test.YtihmcgcgjmbmhaaGreatQap
import Derived.Test.YtihmcgcgjmbmhaaGreatQbd
namespace Go.Proofs.YtihmcgcgjmbmhaaGreat.T1
open Go.Proofs.Tryz
set_option maxHeartbeats 4000000
open Go.RowKit
set_option maxRecDepth 100000
def gd (t:Tm):Bool:=inB ⟨#[33,63,126,43,48]⟩ (t.kind.toNat:Int)
def Tm.grd:Tm->Bool
 | .nil=>true
 | .snd _ _ p=>p.grd
 | .rcv _ _ p=>p.grd
 | .tau p=>p.grd
 | .sum p q=>gd p && p.grd && (gd q && q.grd)
 | .par p q=>p.grd && q.grd
 | .own _ p=>p.grd
 | .mat _ _ p=>p.grd
 | .rep p=>p.grd
def opn:Tm->Bool
 | .sum p q=>!(gd p && gd q)
 | _=>false
theorem aga (g:Tm->Bool)(t:Tm)(l:List Tm):(t::l).countP g=cond (g t) 1 0+l.countP g:=by
 cases h:g t
 ·simp[h]
 ·simp[h];omega
theorem avl (t:Tm):((t.subs.countP opn:Nat):Int)=0↔t.grd=true:=by
 induction t with
 | nil=>simp[Tm.subs,opn,Tm.grd]
 | sum p q ih ih2=>
  simp only[Tm.subs,Tm.grd,aga,List.countP_append,bae];rw[<-ih,<-ih2,show opn (.sum p q)=!(gd p && gd q) from rfl]
  generalize p.subs.countP opn=A
  generalize q.subs.countP opn=B
  cases gd p<;>cases gd q<;>simp<;>omega
 | par p q ih ih2=>
  simp only[Tm.subs,Tm.grd,aga,List.countP_append,bae];rw[<-ih,<-ih2,show opn (.par p q)=false from rfl]
  generalize p.subs.countP opn=A
  generalize q.subs.countP opn=B
  simp;omega
 | _=>simp_all [Tm.subs,opn,Tm.grd]
theorem axz (t:Tm):(((t.subs.countP opn:Nat):Int)==0)=t.grd:=by
 rw[Bool.eq_iff_iff,beq_iff_eq];exact avl t
theorem ayZ (s:ByteArray)(HP:∀w,Calls prog 117 #[.string s] w (PartsS [] w))(w:World) : Calls prog 112 #[.string s] w fun e w'=>e=.returned (.bool true)/\Zb w w':=by
 have H:=qz HP;clear HP
 go_enter func112,ntmps112
 go_wp2_with fail;refine(H.out _).mono ?_;rintro e w1 ⟨rfl,bl⟩;go_wp2_with fail;refine wp_loop_rounds 1 ?_;rw[rounds_succ];go_wp2_with fail;go_ret;exact⟨rfl,bl⟩
theorem avB (s u:ByteArray)(kd:Int)(hk:(kd==43)=false)(r:Bool)(HK:Ze 116 #[.string s] (.int .u8 kd))(HP:∀w,Calls prog 117 #[.string s] w fun e w'=>∃b,e=.returned (.slice (some ⟨b,0,none⟩) 1 1)/\w.heap.size<=b/\w'.heap[b]?=some (.cells #[.string u] 9 (0,0))/\Zb w w') (ih:Zr 112 #[.string u] (.bool r))(w:World) : Calls prog 112 #[.string s] w fun e w'=>e=.returned (.bool r)/\Zb w w':=by
 have H:=qz HP;have HK2:=qz HK;have IH:=qz ih;clear HP ih HK
 cases r
 ·go_enter func112,ntmps112
  go_wp2_with fail;refine(H.out _).mono ?_;rintro e w1 ⟨b,rfl,hb,hh,bl⟩;have c0:=aac hh;have Hh:=qz hh;clear hh;go_wp2_with fail;refine wp_loop_rounds 2 ?_;rw[rounds_succ];go_wp2_with fail;refine(HK2.out _).mono ?_;rintro e w' ⟨rfl,rfl⟩;go_wp2_with fail;refine(IH.out _).mono ?_;rintro e w2 ⟨rfl,bl2⟩;clear c0;go_wp2_with fail;go_ret;exact⟨rfl,(aab bl bl2 bl.size)⟩
 ·go_enter func112,ntmps112
  go_wp2_with fail;refine(H.out _).mono ?_;rintro e w1 ⟨b,rfl,hb,hh,bl⟩;have c0:=aac hh;have Hh:=qz hh;clear hh;go_wp2_with fail;refine wp_loop_rounds 2 ?_;rw[rounds_succ];go_wp2_with fail;refine(HK2.out _).mono ?_;rintro e w' ⟨rfl,rfl⟩;go_wp2_with fail;refine(IH.out _).mono ?_;rintro e w2 ⟨rfl,bl2⟩;clear c0;go_wp2_with fail;rw[rounds_succ];go_wp2_with fail;go_ret;exact⟨rfl,(aab bl bl2 bl.size)⟩
theorem ay0 (s u v:ByteArray)(kd:Int)(hk:(kd==43)=false)(r1 r2:Bool)(HK:Ze 116 #[.string s] (.int .u8 kd))(HP:∀w,Calls prog 117 #[.string s] w fun e w'=>∃b,e=.returned (.slice (some ⟨b,0,none⟩) 2 2)/\w.heap.size<=b/\w'.heap[b]?=some (.cells #[.string u,.string v] 9 (0,0))/\Zb w w') (ih:Zr 112 #[.string u] (.bool r1))(ih2:Zr 112 #[.string v] (.bool r2))(w:World) : Calls prog 112 #[.string s] w fun e w'=>e=.returned (.bool (r1 && r2))/\Zb w w':=by
 have H:=qz HP;have HK2:=qz HK;have IH:=qz ih;have IH2:=qz ih2;clear HP ih ih2 HK
 cases r1
 ·go_enter func112,ntmps112
  go_wp2_with fail;refine(H.out _).mono ?_;rintro e w1 ⟨b,rfl,hb,hh,bl⟩;have c0:=aaf hh;have Hh:=qz hh;clear hh;go_wp2_with fail;refine wp_loop_rounds 3 ?_;rw[rounds_succ];go_wp2_with fail;refine(HK2.out _).mono ?_;rintro e w' ⟨rfl,rfl⟩;go_wp2_with fail;refine(IH.out _).mono ?_;rintro e w2 ⟨rfl,bl2⟩;clear c0;go_wp2_with fail;go_ret;exact⟨rfl,(aab bl bl2 bl.size)⟩
 ·cases r2
  ·go_enter func112,ntmps112
   go_wp2_with fail;refine(H.out _).mono ?_;rintro e w1 ⟨b,rfl,hb,hh,bl⟩;have c0:=aaf hh;have Hh:=qz hh;clear hh;go_wp2_with fail;refine wp_loop_rounds 3 ?_;rw[rounds_succ];go_wp2_with fail;refine(HK2.out _).mono ?_;rintro e w' ⟨rfl,rfl⟩;go_wp2_with fail;refine(IH.out _).mono ?_;rintro e w2 ⟨rfl,bl2⟩;have h2:=(bl2.block b (lt_of_block Hh.out)).trans Hh.out;clear c0;have c1:=aak h2;clear h2;go_wp2_with fail;rw[rounds_succ];go_wp2_with fail;refine(HK2.out _).mono ?_;rintro e w' ⟨rfl,rfl⟩;go_wp2_with fail;refine(IH2.out _).mono ?_;rintro e w3 ⟨rfl,bl3⟩;clear c1;go_wp2_with fail;go_ret;exact⟨rfl,(aab (aab bl bl2 bl.size) bl3 (Nat.le_trans bl.size bl2.size))⟩
  ·go_enter func112,ntmps112
   go_wp2_with fail;refine(H.out _).mono ?_;rintro e w1 ⟨b,rfl,hb,hh,bl⟩;have c0:=aaf hh;have Hh:=qz hh;clear hh;go_wp2_with fail;refine wp_loop_rounds 3 ?_;rw[rounds_succ];go_wp2_with fail;refine(HK2.out _).mono ?_;rintro e w' ⟨rfl,rfl⟩;go_wp2_with fail;refine(IH.out _).mono ?_;rintro e w2 ⟨rfl,bl2⟩;have h2:=(bl2.block b (lt_of_block Hh.out)).trans Hh.out;clear c0;have c1:=aak h2;clear h2;go_wp2_with fail;rw[rounds_succ];go_wp2_with fail;refine(HK2.out _).mono ?_;rintro e w' ⟨rfl,rfl⟩;go_wp2_with fail;refine(IH2.out _).mono ?_;rintro e w3 ⟨rfl,bl3⟩;clear c1;go_wp2_with fail;rw[rounds_succ];go_wp2_with fail;go_ret;exact⟨rfl,(aab (aab bl bl2 bl.size) bl3 (Nat.le_trans bl.size bl2.size))⟩
theorem ay1 (s u v:ByteArray)(k1 k2:Int)(g1 r1 g2 r2:Bool)(HK:Ze 116 #[.string s] (.int .u8 43))(HK1:Ze 116 #[.string u] (.int .u8 k1))(HK2':Ze 116 #[.string v] (.int .u8 k2))(HT1:Ze 119 #[.string ⟨#[33,63,126,43,48]⟩,.int .u8 k1] (.bool g1))(HT2:Ze 119 #[.string ⟨#[33,63,126,43,48]⟩,.int .u8 k2] (.bool g2))(HP:∀w,Calls prog 117 #[.string s] w fun e w'=>∃b,e=.returned (.slice (some ⟨b,0,none⟩) 2 2)/\w.heap.size<=b/\w'.heap[b]?=some (.cells #[.string u,.string v] 9 (0,0))/\Zb w w') (ih:Zr 112 #[.string u] (.bool r1))(ih2:Zr 112 #[.string v] (.bool r2))(w:World) : Calls prog 112 #[.string s] w fun e w'=>e=.returned (.bool (g1 && r1 && (g2 && r2)))/\Zb w w':=by
 have H:=qz HP;have HK2:=qz HK;have HU1:=qz HK1;have HU2:=qz HK2';have HI1:=qz HT1;have HI2:=qz HT2;have IH:=qz ih;have IH2:=qz ih2;clear HP ih ih2 HK HK1 HK2' HT1 HT2
 cases g1
 ·go_enter func112,ntmps112
  go_wp2_with fail;refine(H.out _).mono ?_;rintro e w1 ⟨b,rfl,hb,hh,bl⟩;have c0:=aaf hh;have Hh:=qz hh;clear hh;go_wp2_with fail;refine wp_loop_rounds 3 ?_;rw[rounds_succ];go_wp2_with fail;refine(HK2.out _).mono ?_;rintro e w' ⟨rfl,rfl⟩;go_wp2_with fail;refine(HU1.out _).mono ?_;rintro e w' ⟨rfl,rfl⟩;go_wp2_with fail;refine(HI1.out _).mono ?_;rintro e w' ⟨rfl,rfl⟩;clear c0;go_wp2_with fail;go_ret;exact⟨rfl,bl⟩
 ·cases r1
  ·go_enter func112,ntmps112
   go_wp2_with fail;refine(H.out _).mono ?_;rintro e w1 ⟨b,rfl,hb,hh,bl⟩;have c0:=aaf hh;have Hh:=qz hh;clear hh;go_wp2_with fail;refine wp_loop_rounds 3 ?_;rw[rounds_succ];go_wp2_with fail;refine(HK2.out _).mono ?_;rintro e w' ⟨rfl,rfl⟩;go_wp2_with fail;refine(HU1.out _).mono ?_;rintro e w' ⟨rfl,rfl⟩;go_wp2_with fail;refine(HI1.out _).mono ?_;rintro e w' ⟨rfl,rfl⟩;go_wp2_with fail;refine(IH.out _).mono ?_;rintro e w2 ⟨rfl,bl2⟩;clear c0;go_wp2_with fail;go_ret;exact⟨rfl,(aab bl bl2 bl.size)⟩
  ·cases g2
   ·go_enter func112,ntmps112
    go_wp2_with fail;refine(H.out _).mono ?_;rintro e w1 ⟨b,rfl,hb,hh,bl⟩;have c0:=aaf hh;have Hh:=qz hh;clear hh;go_wp2_with fail;refine wp_loop_rounds 3 ?_;rw[rounds_succ];go_wp2_with fail;refine(HK2.out _).mono ?_;rintro e w' ⟨rfl,rfl⟩;go_wp2_with fail;refine(HU1.out _).mono ?_;rintro e w' ⟨rfl,rfl⟩;go_wp2_with fail;refine(HI1.out _).mono ?_;rintro e w' ⟨rfl,rfl⟩;go_wp2_with fail;refine(IH.out _).mono ?_;rintro e w2 ⟨rfl,bl2⟩;have h2:=(bl2.block b (lt_of_block Hh.out)).trans Hh.out;clear c0;have c1:=aak h2;clear h2;go_wp2_with fail;rw[rounds_succ];go_wp2_with fail;refine(HK2.out _).mono ?_;rintro e w' ⟨rfl,rfl⟩;go_wp2_with fail;refine(HU2.out _).mono ?_;rintro e w' ⟨rfl,rfl⟩;go_wp2_with fail;refine(HI2.out _).mono ?_;rintro e w' ⟨rfl,rfl⟩;clear c1;go_wp2_with fail;go_ret;exact⟨rfl,(aab bl bl2 bl.size)⟩
   ·cases r2
    ·go_enter func112,ntmps112
     go_wp2_with fail;refine(H.out _).mono ?_;rintro e w1 ⟨b,rfl,hb,hh,bl⟩;have c0:=aaf hh;have Hh:=qz hh;clear hh;go_wp2_with fail;refine wp_loop_rounds 3 ?_;rw[rounds_succ];go_wp2_with fail;refine(HK2.out _).mono ?_;rintro e w' ⟨rfl,rfl⟩;go_wp2_with fail;refine(HU1.out _).mono ?_;rintro e w' ⟨rfl,rfl⟩;go_wp2_with fail;refine(HI1.out _).mono ?_;rintro e w' ⟨rfl,rfl⟩;go_wp2_with fail;refine(IH.out _).mono ?_;rintro e w2 ⟨rfl,bl2⟩;have h2:=(bl2.block b (lt_of_block Hh.out)).trans Hh.out;clear c0;have c1:=aak h2;clear h2;go_wp2_with fail;rw[rounds_succ];go_wp2_with fail;refine(HK2.out _).mono ?_;rintro e w' ⟨rfl,rfl⟩;go_wp2_with fail;refine(HU2.out _).mono ?_;rintro e w' ⟨rfl,rfl⟩;go_wp2_with fail;refine(HI2.out _).mono ?_;rintro e w' ⟨rfl,rfl⟩;go_wp2_with fail;refine(IH2.out _).mono ?_;rintro e w3 ⟨rfl,bl3⟩;clear c1;go_wp2_with fail;go_ret;exact⟨rfl,(aab (aab bl bl2 bl.size) bl3 (Nat.le_trans bl.size bl2.size))⟩
    ·go_enter func112,ntmps112
     go_wp2_with fail;refine(H.out _).mono ?_;rintro e w1 ⟨b,rfl,hb,hh,bl⟩;have c0:=aaf hh;have Hh:=qz hh;clear hh;go_wp2_with fail;refine wp_loop_rounds 3 ?_;rw[rounds_succ];go_wp2_with fail;refine(HK2.out _).mono ?_;rintro e w' ⟨rfl,rfl⟩;go_wp2_with fail;refine(HU1.out _).mono ?_;rintro e w' ⟨rfl,rfl⟩;go_wp2_with fail;refine(HI1.out _).mono ?_;rintro e w' ⟨rfl,rfl⟩;go_wp2_with fail;refine(IH.out _).mono ?_;rintro e w2 ⟨rfl,bl2⟩;have h2:=(bl2.block b (lt_of_block Hh.out)).trans Hh.out;clear c0;have c1:=aak h2;clear h2;go_wp2_with fail;rw[rounds_succ];go_wp2_with fail;refine(HK2.out _).mono ?_;rintro e w' ⟨rfl,rfl⟩;go_wp2_with fail;refine(HU2.out _).mono ?_;rintro e w' ⟨rfl,rfl⟩;go_wp2_with fail;refine(HI2.out _).mono ?_;rintro e w' ⟨rfl,rfl⟩;go_wp2_with fail;refine(IH2.out _).mono ?_;rintro e w3 ⟨rfl,bl3⟩;clear c1;go_wp2_with fail;rw[rounds_succ];go_wp2_with fail;go_ret;exact⟨rfl,(aab (aab bl bl2 bl.size) bl3 (Nat.le_trans bl.size bl2.size))⟩
theorem avm (t:Tm):t.ok nmE=true->t.pr.length<=700->∀(w:World),Calls prog 112 #[.string (S t)] w fun e w'=>e=.returned (.bool t.grd)/\Zb w w':=by
 induction t with
 | nil=>exact fun ho hl=>ayZ _ (aaj .nil ho hl)
 | snd a b p ih=>
  intro ho hl;have ho':=ho;simp only[Tm.ok,bae]at ho';have hl':=hl;simp only[Tm.pr,List.length_cons]at hl';exact avB _ _ _ (by simp only[Tm.kind];decide) p.grd (aah (.snd a b p) ho hl) (aaj (.snd a b p) ho hl) (ih ho'.2 (by omega))
 | rcv a b p ih=>
  intro ho hl;have ho':=ho;simp only[Tm.ok,bae]at ho';have hl':=hl;simp only[Tm.pr,List.length_cons]at hl';exact avB _ _ _ (by simp only[Tm.kind];decide) p.grd (aah (.rcv a b p) ho hl) (aaj (.rcv a b p) ho hl) (ih ho'.2 (by omega))
 | mat a b p ih=>
  intro ho hl;have ho':=ho;simp only[Tm.ok,bae]at ho';have hl':=hl;simp only[Tm.pr,List.length_cons]at hl';exact avB _ _ _ (by simp only[Tm.kind];decide) p.grd (aah (.mat a b p) ho hl) (aaj (.mat a b p) ho hl) (ih ho'.2 (by omega))
 | own x p ih=>
  intro ho hl;have ho':=ho;simp only[Tm.ok,bae]at ho';have hl':=hl;simp only[Tm.pr,List.length_cons]at hl';exact avB _ _ _ (by simp only[Tm.kind];decide) p.grd (aah (.own x p) ho hl) (aaj (.own x p) ho hl) (ih ho'.2 (by omega))
 | tau p ih=>
  intro ho hl;have ho':=ho;simp only[Tm.ok]at ho';have hl':=hl;simp only[Tm.pr,List.length_cons]at hl';exact avB _ _ _ (by simp only[Tm.kind];decide) p.grd (aah (.tau p) ho hl) (aaj (.tau p) ho hl) (ih ho (by omega))
 | rep p ih=>
  intro ho hl;have ho':=ho;simp only[Tm.ok]at ho';have hl':=hl;simp only[Tm.pr,List.length_cons]at hl';exact avB _ _ _ (by simp only[Tm.kind];decide) p.grd (aah (.rep p) ho hl) (aaj (.rep p) ho hl) (ih ho (by omega))
 | sum p q ih ih2=>
  intro ho hl;have ho':=ho;simp only[Tm.ok,bae]at ho';have hl':=hl;simp only[Tm.pr,List.length_cons,lla]at hl';exact ay1 _ _ _ _ _ (gd p) p.grd (gd q) q.grd (aah (.sum p q) ho hl) (aah p ho'.1 (by omega)) (aah q ho'.2 (by omega)) (fun w=>acd _ _ w (by decide)) (fun w=>acd _ _ w (by decide)) (aaj (.sum p q) ho hl) (ih ho'.1 (by omega)) (ih2 ho'.2 (by omega))
 | par p q ih ih2=>
  intro ho hl;have ho':=ho;simp only[Tm.ok,bae]at ho';have hl':=hl;simp only[Tm.pr,List.length_cons,lla]at hl';exact ay0 _ _ _ _ (by simp only[Tm.kind];decide) p.grd q.grd (aah (.par p q) ho hl) (aaj (.par p q) ho hl) (ih ho'.1 (by omega)) (ih2 ho'.2 (by omega))
theorem amv (V:Value)(w:World):Calls prog 140 #[.iface 134 V] w fun e w'=>e=.returned (.bool true)/\w=w':=by
 go_enter func140,ntmps140
 go_wp2_with fail;go_ret;exact⟨rfl,rfl⟩
theorem avn (V:Value)(w:World):Calls prog 140 #[.iface 148 V] w fun e w'=>e=.returned (.bool true)/\w=w':=by
 go_enter func140,ntmps140
 go_wp2_with fail;go_ret;exact⟨rfl,rfl⟩
theorem amw (V:Value)(w:World):Calls prog 140 #[.iface 189 V] w fun e w'=>e=.returned (.bool true)/\w=w':=by
 go_enter func140,ntmps140
 go_wp2_with fail;go_ret;exact⟨rfl,rfl⟩
theorem ap4 (V:Value)(w:World):Calls prog 140 #[.iface 143 V] w fun e w'=>e=.returned (.bool true)/\w=w':=by
 go_enter func140,ntmps140
 go_wp2_with fail;go_ret;exact⟨rfl,rfl⟩
theorem ap5 (V:Value)(w:World):Calls prog 140 #[.iface 165 V] w fun e w'=>e=.returned (.bool true)/\w=w':=by
 go_enter func140,ntmps140
 go_wp2_with fail;go_ret;exact⟨rfl,rfl⟩
theorem ap6 (V:Value)(w:World):Calls prog 140 #[.iface 140 V] w fun e w'=>e=.returned (.bool false)/\w=w':=by
 go_enter func140,ntmps140
 go_wp2_with fail;go_ret;exact⟨rfl,rfl⟩
theorem axA (V:Value)(w:World):Calls prog 140 #[.iface 136 V] w fun e w'=>e=.returned (.bool false)/\w=w':=by
 go_enter func140,ntmps140
 go_wp2_with fail;go_ret;exact⟨rfl,rfl⟩
theorem ask (V:Value)(w:World):Calls prog 140 #[.iface 177 V] w fun e w'=>e=.returned (.bool false)/\w=w':=by
 go_enter func140,ntmps140
 go_wp2_with fail;go_ret;exact⟨rfl,rfl⟩
theorem ap7 (V:Value)(w:World):Calls prog 140 #[.iface 120 V] w fun e w'=>e=.returned (.bool false)/\w=w':=by
 go_enter func140,ntmps140
 go_wp2_with fail;go_ret;exact⟨rfl,rfl⟩
theorem agb (t:Tm)(w:World):Calls prog 140 #[.iface (aau t) (pay t)] w fun e w'=>e=.returned (.bool (gd t))/\w=w':=by
 cases t with
 | nil=>exact amv _ w
 | snd a b p=>exact avn _ w
 | rcv a b p=>exact amw _ w
 | tau p=>exact ap4 _ w
 | sum p q=>exact ap5 _ w
 | par p q=>exact ap6 _ w
 | own x p=>exact axA _ w
 | mat a b p=>exact ask _ w
 | rep p=>exact ap7 _ w
theorem ayi (args:Array Value)(w:World):(callFunc 139 args).run prog w=.ok (.enter 139 args) w:=by kernel_rfl
theorem acl (T:TypeId)(V:Value)(w:World)(h:∀w,(Instr.typeAssert (.iface T V) 41 165 true).run prog w=.ok (.tuple #[.agg #[.nilIface,.nilIface],.bool false]) w) : Calls prog 139 (#[.iface T V]++#[]) w fun e w'=>e=.returned (.bool false)/\Zb w w':=by
 show Calls prog 139 #[.iface T V] w _
 go_enter func139,ntmps139
 go_wp2_with fail;go_ret;exact⟨rfl,bra⟩
theorem axB (tp:TypeId)(vp:Value)(tq:TypeId)(vq:Value)(a b:Bool)(H1:Ze 140 #[.iface tp vp] (.bool a))(H2:Ze 140 #[.iface tq vq] (.bool b))(w:World) : Calls prog 139 (#[.iface 165 (.agg #[.iface tp vp,.iface tq vq])]++#[]) w fun e w'=>e=.returned (.bool (!(a && b)))/\Zb w w':=by
 show Calls prog 139 #[.iface 165 (.agg #[.iface tp vp,.iface tq vq])] w _;have HA:=qz H1;have HB:=qz H2;clear H1 H2
 cases a
 ·go_enter func139,ntmps139
  go_wp2_with fail;refine(HA.out _).mono ?_;rintro e w' ⟨rfl,rfl⟩;go_wp2_with fail;go_ret;exact⟨rfl,bra⟩
 ·go_enter func139,ntmps139
  go_wp2_with fail;refine(HA.out _).mono ?_;rintro e w' ⟨rfl,rfl⟩;go_wp2_with fail;refine(HB.out _).mono ?_;rintro e w' ⟨rfl,rfl⟩;go_wp2_with fail;go_ret;exact⟨by cases b<;>rfl,bra⟩
theorem axC (t:Tm)(w:World):Calls prog 139 (#[.iface (aau t) (pay t)]++#[]) w fun e w'=>e=.returned (.bool (opn t))/\Zb w w':=by
 cases t with
 | nil=>exact acl _ _ w (aeh _)
 | snd a b p=>exact acl _ _ w (agi _)
 | rcv a b p=>exact acl _ _ w (aej _)
 | tau p=>exact acl _ _ w (aeX _)
 | sum p q=>exact axB _ _ _ _ _ _ (agb p) (agb q) w
 | par p q=>exact acl _ _ w (ae0 _)
 | own x p=>exact acl _ _ w (ahf _)
 | mat a b p=>exact acl _ _ w (afq _)
 | rep p=>exact acl _ _ w (ae3 _)
theorem ah0 (t:Tm)(ht:t.size<=1000)(w:World):Calls prog 91 #[.iface (aau t) (pay t)] w fun e w'=>e=.returned (.bool t.grd)/\Zb w w':=by
 have HC:=acD 139 #[] opn (fun _=>True) ayi (fun t w _=>axC t w) t ht w (fun _ _ _ _=>trivial) trivial;rw[<-axz];obtain⟨T,hT⟩:∃T,T=aau t:=⟨_,rfl⟩;obtain⟨V,hV⟩:∃V,V=pay t:=⟨_,rfl⟩;obtain⟨N,hN⟩:∃N,N=t.subs.countP opn:=⟨_,rfl⟩;rw[<-hT,<-hV,<-hN]at HC;rw[<-hT,<-hV,<-hN];have H:=qz HC;clear hT hV hN HC
 go_enter func91,ntmps91
 go_wp2_with fail;refine(H.out).mono ?_;rintro e w1 ⟨rfl,bl⟩;go_wp2_with fail;go_ret;exact⟨rfl,bl⟩
def Tm.inp:Tm->Bool
 | .nil=>true
 | .snd _ _ p=>p.inp
 | .rcv _ _ p=>p.inp
 | .tau p=>p.inp
 | .sum p q=>p.inp && q.inp
 | .par p q=>p.inp && q.inp
 | .own _ p=>p.inp
 | .mat _ _ p=>p.inp
 | .rep p=>(p.kind==63) && p.inp
def rpt:Tm->Bool
 | .rep p=>!(p.kind==63)
 | _=>false
theorem avo (t:Tm):((t.subs.countP rpt:Nat):Int)=0↔t.inp=true:=by
 induction t with
 | nil=>simp[Tm.subs,rpt,Tm.inp]
 | sum p q ih ih2=>
  simp only[Tm.subs,Tm.inp,aga,List.countP_append,bae];rw[<-ih,<-ih2,show rpt (.sum p q)=false from rfl]
  generalize p.subs.countP rpt=A
  generalize q.subs.countP rpt=B
  simp;omega
 | par p q ih ih2=>
  simp only[Tm.subs,Tm.inp,aga,List.countP_append,bae];rw[<-ih,<-ih2,show rpt (.par p q)=false from rfl]
  generalize p.subs.countP rpt=A
  generalize q.subs.countP rpt=B
  simp;omega
 | rep p ih=>
  simp only[Tm.subs,Tm.inp,aga,bae];rw[<-ih,show rpt (.rep p)=!(p.kind==63) from rfl]
  generalize p.subs.countP rpt=A
  cases (p.kind==63)<;>simp;omega
 | _=>simp_all [Tm.subs,rpt,Tm.inp]
theorem axD (t:Tm):(((t.subs.countP rpt:Nat):Int)==0)=t.inp:=by
 rw[Bool.eq_iff_iff,beq_iff_eq];exact avo t
theorem asl (p:Tm):((p.kind.toNat:Int) != 63)=!(p.kind==63):=by
 rw[Bool.eq_iff_iff];simp only[bne_iff_ne,Bool.not_eq_true',beq_eq_false_iff_ne,ne_eq];rw[<-UInt8.toNat_inj];simp;omega
theorem ay2 (s:ByteArray)(HP:∀w,Calls prog 117 #[.string s] w (PartsS [] w))(w:World) : Calls prog 113 #[.string s] w fun e w'=>e=.returned (.bool true)/\Zb w w':=by
 have H:=qz HP;clear HP
 go_enter func113,ntmps113
 go_wp2_with fail;refine(H.out _).mono ?_;rintro e w1 ⟨rfl,bl⟩;go_wp2_with fail;refine wp_loop_rounds 1 ?_;rw[rounds_succ];go_wp2_with fail;go_ret;exact⟨rfl,bl⟩
theorem axE (s u:ByteArray)(kd:Int)(hk:(kd==42)=false)(r:Bool)(HK:Ze 116 #[.string s] (.int .u8 kd))(HP:∀w,Calls prog 117 #[.string s] w fun e w'=>∃b,e=.returned (.slice (some ⟨b,0,none⟩) 1 1)/\w.heap.size<=b/\w'.heap[b]?=some (.cells #[.string u] 9 (0,0))/\Zb w w') (ih:Zr 113 #[.string u] (.bool r))(w:World) : Calls prog 113 #[.string s] w fun e w'=>e=.returned (.bool r)/\Zb w w':=by
 have H:=qz HP;have HK2:=qz HK;have IH:=qz ih;clear HP ih HK
 cases r
 ·go_enter func113,ntmps113
  go_wp2_with fail;refine(H.out _).mono ?_;rintro e w1 ⟨b,rfl,hb,hh,bl⟩;have c0:=aac hh;have Hh:=qz hh;clear hh;go_wp2_with fail;refine wp_loop_rounds 2 ?_;rw[rounds_succ];go_wp2_with fail;refine(HK2.out _).mono ?_;rintro e w' ⟨rfl,rfl⟩;go_wp2_with fail;refine(IH.out _).mono ?_;rintro e w2 ⟨rfl,bl2⟩;clear c0;go_wp2_with fail;go_ret;exact⟨rfl,(aab bl bl2 bl.size)⟩
 ·go_enter func113,ntmps113
  go_wp2_with fail;refine(H.out _).mono ?_;rintro e w1 ⟨b,rfl,hb,hh,bl⟩;have c0:=aac hh;have Hh:=qz hh;clear hh;go_wp2_with fail;refine wp_loop_rounds 2 ?_;rw[rounds_succ];go_wp2_with fail;refine(HK2.out _).mono ?_;rintro e w' ⟨rfl,rfl⟩;go_wp2_with fail;refine(IH.out _).mono ?_;rintro e w2 ⟨rfl,bl2⟩;clear c0;go_wp2_with fail;rw[rounds_succ];go_wp2_with fail;go_ret;exact⟨rfl,(aab bl bl2 bl.size)⟩
theorem ayC (s u v:ByteArray)(kd:Int)(hk:(kd==42)=false)(r1 r2:Bool)(HK:Ze 116 #[.string s] (.int .u8 kd))(HP:∀w,Calls prog 117 #[.string s] w fun e w'=>∃b,e=.returned (.slice (some ⟨b,0,none⟩) 2 2)/\w.heap.size<=b/\w'.heap[b]?=some (.cells #[.string u,.string v] 9 (0,0))/\Zb w w') (ih:Zr 113 #[.string u] (.bool r1))(ih2:Zr 113 #[.string v] (.bool r2))(w:World) : Calls prog 113 #[.string s] w fun e w'=>e=.returned (.bool (r1 && r2))/\Zb w w':=by
 have H:=qz HP;have HK2:=qz HK;have IH:=qz ih;have IH2:=qz ih2;clear HP ih ih2 HK
 cases r1
 ·go_enter func113,ntmps113
  go_wp2_with fail;refine(H.out _).mono ?_;rintro e w1 ⟨b,rfl,hb,hh,bl⟩;have c0:=aaf hh;have Hh:=qz hh;clear hh;go_wp2_with fail;refine wp_loop_rounds 3 ?_;rw[rounds_succ];go_wp2_with fail;refine(HK2.out _).mono ?_;rintro e w' ⟨rfl,rfl⟩;go_wp2_with fail;refine(IH.out _).mono ?_;rintro e w2 ⟨rfl,bl2⟩;clear c0;go_wp2_with fail;go_ret;exact⟨rfl,(aab bl bl2 bl.size)⟩
 ·cases r2
  ·go_enter func113,ntmps113
   go_wp2_with fail;refine(H.out _).mono ?_;rintro e w1 ⟨b,rfl,hb,hh,bl⟩;have c0:=aaf hh;have Hh:=qz hh;clear hh;go_wp2_with fail;refine wp_loop_rounds 3 ?_;rw[rounds_succ];go_wp2_with fail;refine(HK2.out _).mono ?_;rintro e w' ⟨rfl,rfl⟩;go_wp2_with fail;refine(IH.out _).mono ?_;rintro e w2 ⟨rfl,bl2⟩;have h2:=(bl2.block b (lt_of_block Hh.out)).trans Hh.out;clear c0;have c1:=aak h2;clear h2;go_wp2_with fail;rw[rounds_succ];go_wp2_with fail;refine(HK2.out _).mono ?_;rintro e w' ⟨rfl,rfl⟩;go_wp2_with fail;refine(IH2.out _).mono ?_;rintro e w3 ⟨rfl,bl3⟩;clear c1;go_wp2_with fail;go_ret;exact⟨rfl,(aab (aab bl bl2 bl.size) bl3 (Nat.le_trans bl.size bl2.size))⟩
  ·go_enter func113,ntmps113
   go_wp2_with fail;refine(H.out _).mono ?_;rintro e w1 ⟨b,rfl,hb,hh,bl⟩;have c0:=aaf hh;have Hh:=qz hh;clear hh;go_wp2_with fail;refine wp_loop_rounds 3 ?_;rw[rounds_succ];go_wp2_with fail;refine(HK2.out _).mono ?_;rintro e w' ⟨rfl,rfl⟩;go_wp2_with fail;refine(IH.out _).mono ?_;rintro e w2 ⟨rfl,bl2⟩;have h2:=(bl2.block b (lt_of_block Hh.out)).trans Hh.out;clear c0;have c1:=aak h2;clear h2;go_wp2_with fail;rw[rounds_succ];go_wp2_with fail;refine(HK2.out _).mono ?_;rintro e w' ⟨rfl,rfl⟩;go_wp2_with fail;refine(IH2.out _).mono ?_;rintro e w3 ⟨rfl,bl3⟩;clear c1;go_wp2_with fail;rw[rounds_succ];go_wp2_with fail;go_ret;exact⟨rfl,(aab (aab bl bl2 bl.size) bl3 (Nat.le_trans bl.size bl2.size))⟩
theorem ay3 (s u:ByteArray)(k1:Int)(g r:Bool)(hg:(k1 != 63)=!g)(HK:Ze 116 #[.string s] (.int .u8 42))(HK1:Ze 116 #[.string u] (.int .u8 k1))(HP:∀w,Calls prog 117 #[.string s] w fun e w'=>∃b,e=.returned (.slice (some ⟨b,0,none⟩) 1 1)/\w.heap.size<=b/\w'.heap[b]?=some (.cells #[.string u] 9 (0,0))/\Zb w w') (ih:Zr 113 #[.string u] (.bool r))(w:World) : Calls prog 113 #[.string s] w fun e w'=>e=.returned (.bool (g && r))/\Zb w w':=by
 have H:=qz HP;have HK2:=qz HK;have HU1:=qz HK1;have IH:=qz ih;clear HP ih HK HK1
 cases g
 ·go_enter func113,ntmps113
  go_wp2_with fail;refine(H.out _).mono ?_;rintro e w1 ⟨b,rfl,hb,hh,bl⟩;have c0:=aac hh;have Hh:=qz hh;clear hh;go_wp2_with fail;refine wp_loop_rounds 2 ?_;rw[rounds_succ];go_wp2_with fail;refine(HK2.out _).mono ?_;rintro e w' ⟨rfl,rfl⟩;go_wp2_with fail;refine(HU1.out _).mono ?_;rintro e w' ⟨rfl,rfl⟩;clear c0;go_wp2_with fail;go_ret;exact⟨rfl,bl⟩
 ·cases r
  ·go_enter func113,ntmps113
   go_wp2_with fail;refine(H.out _).mono ?_;rintro e w1 ⟨b,rfl,hb,hh,bl⟩;have c0:=aac hh;have Hh:=qz hh;clear hh;go_wp2_with fail;refine wp_loop_rounds 2 ?_;rw[rounds_succ];go_wp2_with fail;refine(HK2.out _).mono ?_;rintro e w' ⟨rfl,rfl⟩;go_wp2_with fail;refine(HU1.out _).mono ?_;rintro e w' ⟨rfl,rfl⟩;go_wp2_with fail;refine(IH.out _).mono ?_;rintro e w2 ⟨rfl,bl2⟩;clear c0;go_wp2_with fail;go_ret;exact⟨rfl,(aab bl bl2 bl.size)⟩
  ·go_enter func113,ntmps113
   go_wp2_with fail;refine(H.out _).mono ?_;rintro e w1 ⟨b,rfl,hb,hh,bl⟩;have c0:=aac hh;have Hh:=qz hh;clear hh;go_wp2_with fail;refine wp_loop_rounds 2 ?_;rw[rounds_succ];go_wp2_with fail;refine(HK2.out _).mono ?_;rintro e w' ⟨rfl,rfl⟩;go_wp2_with fail;refine(HU1.out _).mono ?_;rintro e w' ⟨rfl,rfl⟩;go_wp2_with fail;refine(IH.out _).mono ?_;rintro e w2 ⟨rfl,bl2⟩;clear c0;go_wp2_with fail;rw[rounds_succ];go_wp2_with fail;go_ret;exact⟨rfl,(aab bl bl2 bl.size)⟩
theorem avp (t:Tm):t.ok nmE=true->t.pr.length<=700->∀(w:World),Calls prog 113 #[.string (S t)] w fun e w'=>e=.returned (.bool t.inp)/\Zb w w':=by
 induction t with
 | nil=>exact fun ho hl=>ay2 _ (aaj .nil ho hl)
 | snd a b p ih=>
  intro ho hl;have ho':=ho;simp only[Tm.ok,bae]at ho';have hl':=hl;simp only[Tm.pr,List.length_cons]at hl';exact axE _ _ _ (by simp only[Tm.kind];decide) p.inp (aah (.snd a b p) ho hl) (aaj (.snd a b p) ho hl) (ih ho'.2 (by omega))
 | rcv a b p ih=>
  intro ho hl;have ho':=ho;simp only[Tm.ok,bae]at ho';have hl':=hl;simp only[Tm.pr,List.length_cons]at hl';exact axE _ _ _ (by simp only[Tm.kind];decide) p.inp (aah (.rcv a b p) ho hl) (aaj (.rcv a b p) ho hl) (ih ho'.2 (by omega))
 | mat a b p ih=>
  intro ho hl;have ho':=ho;simp only[Tm.ok,bae]at ho';have hl':=hl;simp only[Tm.pr,List.length_cons]at hl';exact axE _ _ _ (by simp only[Tm.kind];decide) p.inp (aah (.mat a b p) ho hl) (aaj (.mat a b p) ho hl) (ih ho'.2 (by omega))
 | own x p ih=>
  intro ho hl;have ho':=ho;simp only[Tm.ok,bae]at ho';have hl':=hl;simp only[Tm.pr,List.length_cons]at hl';exact axE _ _ _ (by simp only[Tm.kind];decide) p.inp (aah (.own x p) ho hl) (aaj (.own x p) ho hl) (ih ho'.2 (by omega))
 | tau p ih=>
  intro ho hl;have ho':=ho;simp only[Tm.ok]at ho';have hl':=hl;simp only[Tm.pr,List.length_cons]at hl';exact axE _ _ _ (by simp only[Tm.kind];decide) p.inp (aah (.tau p) ho hl) (aaj (.tau p) ho hl) (ih ho (by omega))
 | rep p ih=>
  intro ho hl;have ho':=ho;simp only[Tm.ok]at ho';have hl':=hl;simp only[Tm.pr,List.length_cons]at hl';exact ay3 _ _ _ (p.kind==63) p.inp (asl p) (aah (.rep p) ho hl) (aah p ho (by omega)) (aaj (.rep p) ho hl) (ih ho (by omega))
 | sum p q ih ih2=>
  intro ho hl;have ho':=ho;simp only[Tm.ok,bae]at ho';have hl':=hl;simp only[Tm.pr,List.length_cons,lla]at hl';exact ayC _ _ _ _ (by simp only[Tm.kind];decide) p.inp q.inp (aah (.sum p q) ho hl) (aaj (.sum p q) ho hl) (ih ho'.1 (by omega)) (ih2 ho'.2 (by omega))
 | par p q ih ih2=>
  intro ho hl;have ho':=ho;simp only[Tm.ok,bae]at ho';have hl':=hl;simp only[Tm.pr,List.length_cons,lla]at hl';exact ayC _ _ _ _ (by simp only[Tm.kind];decide) p.inp q.inp (aah (.par p q) ho hl) (aaj (.par p q) ho hl) (ih ho'.1 (by omega)) (ih2 ho'.2 (by omega))
theorem axF (args:Array Value)(w:World):(callFunc 90 args).run prog w=.ok (.enter 90 args) w:=by kernel_rfl
theorem acm (T:TypeId)(V:Value)(w:World)(h:∀w,(Instr.typeAssert (.iface T V) 41 120 true).run prog w=.ok (.tuple #[.agg #[.nilIface],.bool false]) w) : Calls prog 90 (#[.iface T V]++#[]) w fun e w'=>e=.returned (.bool false)/\Zb w w':=by
 show Calls prog 90 #[.iface T V] w _
 go_enter func90,ntmps90
 go_wp2_with fail;go_ret;exact⟨rfl,bra⟩
theorem axG (tp:TypeId)(vp:Value)(k:UInt8)(hk:KindFact tp vp (one k))(w:World) : Calls prog 90 (#[.iface 120 (.agg #[.iface tp vp])]++#[]) w fun e w'=>e=.returned (.bool (!(k==63)))/\Zb w w':=by
 show Calls prog 90 #[.iface 120 (.agg #[.iface tp vp])] w _;obtain⟨F,R,hm1,hn1,hc1,hp⟩:=hk
 have HE:Hid (((one k).toList==[63])=(k==63)):=by
  have h:∀c,(one c).toList=[c]:=fun c=>by rw[ByteArray.toList_eq];rfl
  show _=_;rw[h];simp
 obtain⟨o,ho⟩:∃o,o=one k:=⟨_,rfl⟩;rw[<-ho]at hp HE;have H:=qz hp;clear hp ho
 go_enter func90,ntmps90
 go_wp2_with fail;refine(H.out _).mono ?_;rintro e w' ⟨rfl,bl⟩;go_wp2_with fail;go_ret;refine⟨?_,aab (bra) bl (by simp)⟩;rw[<-HE.out];rfl
theorem axH (t:Tm)(w:World):Calls prog 90 (#[.iface (aau t) (pay t)]++#[]) w fun e w'=>e=.returned (.bool (rpt t))/\Zb w w':=by
 cases t with
 | nil=>exact acm _ _ w (acq _)
 | snd a b p=>exact acm _ _ w (adn _)
 | rcv a b p=>exact acm _ _ w (acr _)
 | tau p=>exact acm _ _ w (acO _)
 | sum p q=>exact acm _ _ w (acP _)
 | par p q=>exact acm _ _ w (acQ _)
 | own x p=>exact acm _ _ w (adC _)
 | mat a b p=>exact acm _ _ w (acS _)
 | rep p=>exact axG _ _ p.kind (abj p) w
theorem ai8 (t:Tm)(ht:t.size<=1000)(w:World):Calls prog 59 #[.iface (aau t) (pay t)] w fun e w'=>e=.returned (.bool (t.grd && t.inp))/\Zb w w':=by
 have HC:=acD 90 #[] rpt (fun _=>True) axF (fun t w _=>axH t w) t ht w (fun _ _ _ _=>trivial) trivial;have HG:=fun w=>ah0 t ht w;rw[<-axD];obtain⟨T,hT⟩:∃T,T=aau t:=⟨_,rfl⟩;obtain⟨V,hV⟩:∃V,V=pay t:=⟨_,rfl⟩;obtain⟨N,hN⟩:∃N,N=t.subs.countP rpt:=⟨_,rfl⟩;obtain⟨G,hG⟩:∃G,G=t.grd:=⟨_,rfl⟩;rw[<-hT,<-hV,<-hN]at HC;rw[<-hT,<-hV,<-hG]at HG;rw[<-hT,<-hV,<-hN,<-hG];have H:=qz HC;have H2:=qz HG;clear hT hV hN hG HC HG
 cases hz:((N:Int)==0) with
 | true=>
  go_enter func59,ntmps59
  go_wp2_with fail;refine(H.out).mono ?_;rintro e w1 ⟨rfl,bl⟩;go_wp2_with fail;refine(H2.out _).mono ?_;rintro e w2 ⟨rfl,bl2⟩;go_wp2_with fail;go_ret;exact⟨abU (by simp),aab bl bl2 bl.size⟩
 | false=>
  go_enter func59,ntmps59
  go_wp2_with fail;refine(H.out).mono ?_;rintro e w1 ⟨rfl,bl⟩;go_wp2_with fail;go_ret;exact⟨abU (by simp),bl⟩
theorem ai9 (t:Tm)(ho:t.ok nmE=true)(hl:t.pr.length<=700)(w:World):Calls prog 70 #[.string (S t)] w fun e w'=>e=.returned (.bool (t.grd && t.inp))/\Zb w w':=by
 have HG:=avm t ho hl;have HI:=avp t ho hl;obtain⟨s,hs⟩:∃s,s=S t:=⟨_,rfl⟩;obtain⟨G,hG⟩:∃G,G=t.grd:=⟨_,rfl⟩;obtain⟨I,hI⟩:∃I,I=t.inp:=⟨_,rfl⟩;rw[<-hs,<-hG]at HG;rw[<-hs,<-hI]at HI;rw[<-hs,<-hG,<-hI];have H:=qz HG;have H2:=qz HI;clear hs hG hI HG HI
 cases G with
 | true=>
  go_enter func70,ntmps70
  go_wp2_with fail;refine(H.out _).mono ?_;rintro e w1 ⟨rfl,bl⟩;go_wp2_with fail;refine(H2.out _).mono ?_;rintro e w2 ⟨rfl,bl2⟩;go_wp2_with fail;go_ret;exact⟨abU (by simp),aab bl bl2 bl.size⟩
 | false=>
  go_enter func70,ntmps70
  go_wp2_with fail;refine(H.out _).mono ?_;rintro e w1 ⟨rfl,bl⟩;go_wp2_with fail;go_ret;exact⟨abU (by simp),bl⟩
set_option linter.unusedVariables false
set_option linter.unusedSimpArgs false
theorem ayj (t:Tm):gd t=gp t:=by cases t<;>simp only[gd,Tm.kind,gp]<;>decide +kernel
theorem avq (t:Tm):(t.kind==63)=rq t:=by cases t<;>rfl
theorem atb (t:Tm):(t.grd && t.inp)=t.smp:=by
 induction t with
 | nil=>rfl
 | snd a b p ih=>exact ih
 | rcv a x p ih=>exact ih
 | tau p ih=>exact ih
 | own x p ih=>exact ih
 | mat a b p ih=>exact ih
 | sum p q ih ih2=>simp only[Tm.grd,Tm.inp,Tm.smp,ayj];rw[<-ih,<-ih2];cases gp p<;>cases gp q<;>cases p.grd<;>cases q.grd<;>cases p.inp<;>cases q.inp<;>rfl
 | par p q ih ih2=>simp only[Tm.grd,Tm.inp,Tm.smp];rw[<-ih,<-ih2];cases p.grd<;>cases q.grd<;>cases p.inp<;>cases q.inp<;>rfl
 | rep p ih=>simp only[Tm.grd,Tm.inp,Tm.smp];rw[avq,<-ih];cases rq p<;>cases p.grd<;>cases p.inp<;>rfl
theorem ald (t:Tm):(offs t).length<=t.size:=by
 induction t with
 | sum p q ih ih2=>simp only[offs,lla,Tm.size];omega
 | rep p ih=>simp only[offs,List.length_map,Tm.size];omega
 | _=>simp[offs,Tm.size]
theorem ap8 (l:List Off):∀x∈l.flatMap offCs,x.oneCell'=true:=by
 intro x hx;obtain⟨o,_,h⟩:=List.mem_flatMap.1 hx;simp only[offCs,avz,List.mem_cons,List.not_mem_nil,or_false]at h;rcases h with rfl|rfl|rfl|rfl|rfl<;>rfl
theorem agc (t:Tm)(hE:t.ok nmE=true)(hl:t.pr.length<=700)(hs:t.size<=900)(hq:t.smq=true)(hg:gq t=true)(w:World) : Calls prog 74 #[.string (S t)] w (arD ((offs t).flatMap offCs) (offs t).length w):=by
 have hsz:=aaq t
 induction t generalizing w with
 | snd a b p ih=>
  have hp:(Tm.snd a b p).pr=a::33::b::46::p.pr:=rfl;have h4:4<=(S (.snd a b p)).size:=by rw[hsz,hp];simp
  have h:=akR (S (.snd a b p)) 33 (by omega) (by omega) h4 (by omega) (.inl rfl) (aah _ hE hl) w;have e4:(S (.snd a b p)).extract 4 (S (.snd a b p)).size=S p:=agu (.snd a b p) p rfl;rw[aj8,aj8,e4]at h;exact h
 | rcv a x p ih=>
  have hp:(Tm.rcv a x p).pr=a::63::x::46::p.pr:=rfl;have h4:4<=(S (.rcv a x p)).size:=by rw[hsz,hp];simp
  have h:=akR (S (.rcv a x p)) 63 (by omega) (by omega) h4 (by omega) (.inr ⟨rfl,rfl⟩) (aah _ hE hl) w;have e4:(S (.rcv a x p)).extract 4 (S (.rcv a x p)).size=S p:=agu (.rcv a x p) p rfl;rw[aj8,aj8,e4]at h;exact h
 | tau p ih=>
  have hp:(Tm.tau p).pr=126::46::p.pr:=rfl;have h4:2<=(S (.tau p)).size:=by rw[hsz,hp];simp
  have h:=aui (S (.tau p)) 126 h4 (by omega) rfl rfl rfl (aah _ hE hl) w;have e4:(S (.tau p)).extract 2 (S (.tau p)).size=S p:=agu (.tau p) p rfl;rw[e4]at h;exact h
 | sum p q ih ih2=>
  obtain⟨⟨g1,s1⟩,g2,s2⟩:=smq_sum.1 hq;simp only[Tm.ok,bae]at hE;simp only[Tm.size]at hs;have hlp:p.pr.length<=700/\q.pr.length<=700:=by simp only[Tm.pr,List.length_cons,lla]at hl;omega
  have l1:=ald p;have l2:=ald q;have hne:=atJ q s2 g2
  have h:=auj (S (.sum p q)) (S p) (S q) 43 rfl rfl rfl rfl (aah _ (by simp only[Tm.ok,bae];exact hE) hl) ((offs p).flatMap offCs) ((offs q).flatMap offCs) (offs p).length (offs q).length (by omega) (by omega) (List.length_pos_iff.2 hne) (ap8 _)
   (aaj (.sum p q) (by simp only[Tm.ok,bae];exact hE) hl) (fun w=>ih hE.1 hlp.1 (by omega) s1 g1 w (aaq p)) (fun w=>ih2 hE.2 hlp.2 (by omega) s2 g2 w (aaq q)) w
  simp only[offs,List.flatMap_append,lla];exact h
 | _=>cases hg
theorem avr (t:Tm)(hE:t.ok nmE=true)(hl:t.pr.length<=700)(hs:t.size<=900)(hq:t.smq=true)(w:World):Calls prog 74 #[.string (S t)] w (OffP t w):=by
 cases t with
 | snd a b p=>exact(agc _ hE hl hs hq rfl w).mono fun e w' h=>.inr h
 | rcv a x p=>exact(agc _ hE hl hs hq rfl w).mono fun e w' h=>.inr h
 | tau p=>exact(agc _ hE hl hs hq rfl w).mono fun e w' h=>.inr h
 | sum p q=>exact(agc _ hE hl hs hq rfl w).mono fun e w' h=>.inr h
 | nil=>exact(afg _ 48 rfl rfl rfl rfl rfl (aah _ hE hl) w).mono fun e w' h=>.inl ⟨rfl,h⟩
 | par p q=>exact(afg _ 38 rfl rfl rfl rfl rfl (aah _ hE hl) w).mono fun e w' h=>.inl ⟨rfl,h⟩
 | own x p=>exact(afg _ 35 rfl rfl rfl rfl rfl (aah _ hE hl) w).mono fun e w' h=>.inl ⟨rfl,h⟩
 | mat a b p=>exact(afg _ 61 rfl rfl rfl rfl rfl (aah _ hE hl) w).mono fun e w' h=>.inl ⟨rfl,h⟩
 | rep p=>
  have hq':=hq;simp only[Tm.smq,bae]at hq'
  cases p with
  | rcv a x p=>
   have hsz:=aaq (.rep (.rcv a x p));have hp:(Tm.rep (.rcv a x p)).pr=42::(Tm.rcv a x p).pr:=rfl;have hE':(Tm.rcv a x p).ok nmE=true:=hE;have h:=agc (.rcv a x p) hE' (by rw[hp]at hl;simp at hl;omega) (by simp only[Tm.size]at hs ⊢;omega) hq'.2 rfl;have e4:(S (.rep (.rcv a x p))).extract 1 (S (.rep (.rcv a x p))).size=S (.rcv a x p):=agu (.rep (.rcv a x p)) (.rcv a x p) rfl;have h2:=auk (S (.rep (.rcv a x p))) 42 (by rw[hsz,hp];simp) (by omega) rfl rfl rfl rfl rfl (aah _ hE hl) 63 (a.toNat:Int) (x.toNat:Int) (S p) (by rw[e4];exact h) w;exact h2.mono fun e w' h=>.inr h
  | _=>cases hq'.1
noncomputable def stO (s:ByteArray):Option Tm:=(good s.data.toList).bind fun t=>if t.smp then nfI t else none
theorem ayk (s:ByteArray)(n1:Zr 69 #[.string s] (.bool false))(w:World):Calls prog 45 #[.string s] w fun e w'=>e=.returned (.tuple #[.string ⟨#[]⟩,.bool false])/\Zb w w':=by
 have Hn1:=qz n1;clear n1
 go_enter func45,ntmps45
 go_wp2_with fail;refine(Hn1.out _).mono ?_;rintro e w1 ⟨rfl,c1⟩;have b1:=c1;go_wp2_with fail;go_ret2;exact⟨rfl,b1⟩
theorem ayl (s:ByteArray)(n1:Zr 69 #[.string s] (.bool true))(n2:Zr 70 #[.string s] (.bool false))(w:World):Calls prog 45 #[.string s] w fun e w'=>e=.returned (.tuple #[.string ⟨#[]⟩,.bool false])/\Zb w w':=by
 have Hn1:=qz n1;have Hn2:=qz n2;clear n1 n2
 go_enter func45,ntmps45
 go_wp2_with fail;refine(Hn1.out _).mono ?_;rintro e w1 ⟨rfl,c1⟩;have b1:=c1;go_wp2_with fail;refine(Hn2.out _).mono ?_;rintro e w2 ⟨rfl,c2⟩;have b2:=aaa b1 c2;go_wp2_with fail;go_ret2;exact⟨rfl,b2⟩
theorem axI (s X:ByteArray)(b:Bool)(n1:Zr 69 #[.string s] (.bool true))(n2:Zr 70 #[.string s] (.bool true))(n3:Zr 71 #[.string s] (.tuple #[.string X,.bool b]))(w:World):Calls prog 45 #[.string s] w fun e w'=>e=.returned (.tuple #[.string X,.bool b])/\Zb w w':=by
 have Hn1:=qz n1;have Hn2:=qz n2;have Hn3:=qz n3;clear n1 n2 n3
 go_enter func45,ntmps45
 go_wp2_with fail;refine(Hn1.out _).mono ?_;rintro e w1 ⟨rfl,c1⟩;have b1:=c1;go_wp2_with fail;refine(Hn2.out _).mono ?_;rintro e w2 ⟨rfl,c2⟩;have b2:=aaa b1 c2;go_wp2_with fail;refine(Hn3.out _).mono ?_;rintro e w3 ⟨rfl,c3⟩;have b3:=aaa b2 c3;go_wp2_with fail;go_ret2;exact⟨rfl,b3⟩
theorem aym (s:ByteArray)(n1:Zr 58 #[.string s] (.tuple #[.nilIface,.bool false]))(w:World):Calls prog 40 #[.string s] w fun e w'=>e=.returned (.tuple #[.nilIface,.bool false])/\Zb w w':=by
 have Hn1:=qz n1;clear n1
 go_enter func40,ntmps40
 go_wp2_with fail;refine(Hn1.out _).mono ?_;rintro e w1 ⟨rfl,c1⟩;have b1:=c1;go_wp2_with fail;go_ret2;exact⟨rfl,b1⟩
theorem ayn (s:ByteArray)(T:TypeId)(V:Value)(n1:Zr 58 #[.string s] (.tuple #[.iface T V,.bool true]))(n2:Zr 59 #[.iface T V] (.bool false))(w:World):Calls prog 40 #[.string s] w fun e w'=>e=.returned (.tuple #[.nilIface,.bool false])/\Zb w w':=by
 have Hn1:=qz n1;have Hn2:=qz n2;clear n1 n2
 go_enter func40,ntmps40
 go_wp2_with fail;refine(Hn1.out _).mono ?_;rintro e w1 ⟨rfl,c1⟩;have b1:=c1;go_wp2_with fail;refine(Hn2.out _).mono ?_;rintro e w2 ⟨rfl,c2⟩;have b2:=aaa b1 c2;go_wp2_with fail;go_ret2;exact⟨rfl,b2⟩
theorem axJ (s:ByteArray)(T:TypeId)(V PV:Value)(b:Bool)(n1:Zr 58 #[.string s] (.tuple #[.iface T V,.bool true]))(n2:Zr 59 #[.iface T V] (.bool true))(n3:Zr 60 #[.iface T V] (.tuple #[PV,.bool b]))(w:World):Calls prog 40 #[.string s] w fun e w'=>e=.returned (.tuple #[PV,.bool b])/\Zb w w':=by
 have Hn1:=qz n1;have Hn2:=qz n2;have Hn3:=qz n3;clear n1 n2 n3
 go_enter func40,ntmps40
 go_wp2_with fail;refine(Hn1.out _).mono ?_;rintro e w1 ⟨rfl,c1⟩;have b1:=c1;go_wp2_with fail;refine(Hn2.out _).mono ?_;rintro e w2 ⟨rfl,c2⟩;have b2:=aaa b1 c2;go_wp2_with fail;refine(Hn3.out _).mono ?_;rintro e w3 ⟨rfl,c3⟩;have b3:=aaa b2 c3;go_wp2_with fail;go_ret2;exact⟨rfl,b3⟩
theorem ajS (s:ByteArray)(hm:s.size<=9223372036854775807)(w:World):Calls prog 45 #[.string s] w (avd (axu (stO s)) (stO s).isSome w):=by
 unfold stO
 cases hg:good s.data.toList with
 | none=>exact ayk s (fun w=>afs hg w hm) w
 | some t=>
  obtain⟨es,hL,hE,h300,h60⟩:=asC hg;have hf:FitT t:=.inl (axx t hL (by omega));have h2:=ai9 t hE (by omega);rw[atb,<-es]at h2;show Calls prog 45 #[.string s] w (avd (axu (if t.smp=true then nfI t else none)) (if t.smp=true then nfI t else none).isSome w)
  cases hs:t.smp with
  | false=>rw[hs]at h2;exact ayl s (fun w=>adr hg w hm) h2 w
  | true=>
   rw[hs]at h2;have h1:=alc t (by omega) hf hL (by omega);rw[ajt hL (by omega) hf,<-es]at h1;exact axI s _ _ (fun w=>adr hg w hm) h2 h1 w
theorem ae8 (s:ByteArray)(hm:s.size<=9223372036854775807)(w:World):Calls prog 40 #[.string s] w fun e w'=>e=.returned (.tuple #[nfV (stO s),.bool (stO s).isSome])/\Zb w w':=by
 unfold stO
 cases hg:good s.data.toList with
 | none=>exact aym s (fun w=>agN hg w hm) w
 | some t=>
  obtain⟨es,hL,hE,h300,h60⟩:=asC hg;have h2:=ai8 t (by omega);rw[atb]at h2;show Calls prog 40 #[.string s] w fun e w'=>e=.returned (.tuple #[nfV (if t.smp=true then nfI t else none),.bool (if t.smp=true then nfI t else none).isSome])/\Zb w w'
  cases hs:t.smp with
  | false=>rw[hs]at h2;exact ayn s _ _ (fun w=>aer hg w hm) h2 w
  | true=>rw[hs]at h2;exact axJ s _ _ _ _ (fun w=>aer hg w hm) h2 (adp t hL (by omega) (by omega)) w
theorem amx (l:List UInt8)(hs:Srt l)(hl:Lets l):lets (setN l) 26=l:=by
 refine aed ?_ hs fun x=>?_
 ·unfold lets Srt;rw[List.pairwise_map];refine List.Pairwise.imp_of_mem ?_ (List.Pairwise.filter _ List.pairwise_lt_range);intro a b ha hb hab;have ha':=(List.mem_filter.1 ha).1;have hb':=(List.mem_filter.1 hb).1;rw[List.mem_range]at ha' hb';rw[abT,UInt8.toNat_ofNat',UInt8.toNat_ofNat'];omega
 ·unfold lets;rw[List.mem_map];constructor
  ·rintro⟨i,hi,rfl⟩;obtain⟨h1,h2⟩:=List.mem_filter.1 hi;rw[List.mem_range]at h1;obtain⟨d,hd,e⟩:=(abp l hl i).1 h2;rw[show UInt8.ofNat (97+i)=d from u8_ext (by rw[UInt8.toNat_ofNat'];omega)];exact hd
  ·intro hx;have:=hl x hx;refine⟨x.toNat - 97,List.mem_filter.2 ⟨List.mem_range.2 (by omega),(abp l hl _).2 ⟨x,hx,by omega⟩⟩,u8_ext ?_⟩;rw[UInt8.toNat_ofNat'];omega
theorem axK (tp:TypeId)(vp:Value)(w:World):Calls prog 101 #[.iface 120 (.agg #[.iface tp vp])] w (ag2 [.iface tp vp] w):=by
 go_enter func101,ntmps101
 go_wp2_with fail;go_ret;exact⟨_,_,rfl,ab1 _ _ _ _ _ (by omega),(bra).alloc (Below.size ((Below.refl w.heap.size w).alloc (nl _) _)) _⟩
theorem aeV (T:TypeId)(V:Value)(ts:List Value)(hta:∀w,(Instr.typeAssert (.iface T V) 41 120 true).run prog w=.ok (.tuple #[.agg #[.nilIface],.bool false]) w)(n1:∀w,Calls prog 158 #[.iface T V] w (ag2 ts w))(w:World):Calls prog 101 #[.iface T V] w (ag2 ts w):=by
 have G1:=qz n1;clear n1
 go_enter func101,ntmps101
 go_wp2_with fail;refine(G1.out _).mono ?_;rintro e w2 ⟨g,c,rfl,o1,b1⟩;have O1:=qz o1;have B1:=qz b1;clear o1 b1;go_wp2_with fail;go_ret;have hz:w.heap.size<=(w.alloc (.cells #[.nilIface] 120)).heap.size:=by simp
 exact⟨g,c,rfl,aaO O1.out hz,aab ((Below.refl w.heap.size w).alloc (nl _) _) B1.out hz⟩
theorem ac6 (t:Tm)(hs:t.size<=1000)(w:World):Calls prog 101 #[enc t] w (ag2 ((offT t).map enc) w):=by
 cases t with
 | nil=>exact aeV _ _ _ (acq _) (aaS (.nil) hs) w
 | snd a b p=>exact aeV _ _ _ (adn _) (aaS (.snd a b p) hs) w
 | rcv a b p=>exact aeV _ _ _ (acr _) (aaS (.rcv a b p) hs) w
 | tau p=>exact aeV _ _ _ (acO _) (aaS (.tau p) hs) w
 | sum p q=>exact aeV _ _ _ (acP _) (aaS (.sum p q) hs) w
 | par p q=>exact aeV _ _ _ (acQ _) (aaS (.par p q) hs) w
 | own a p=>exact aeV _ _ _ (adC _) (aaS (.own a p) hs) w
 | mat a b p=>exact aeV _ _ _ (acS _) (aaS (.mat a b p) hs) w
 | rep p=>exact axK _ _ w
end Go.Proofs.YtihmcgcgjmbmhaaGreat.T1
