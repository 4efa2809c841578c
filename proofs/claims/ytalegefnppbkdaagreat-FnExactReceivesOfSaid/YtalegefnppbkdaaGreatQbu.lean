/- Texts of the proof. No conditions. -/
import Derived.Test.YtalegefnppbkdaaGreatQbt
namespace Go.Proofs.YtalegefnppbkdaaGreat.T1
open Go.Proofs.Tryz
set_option maxHeartbeats 2000000
open Go.RowKit
set_option maxRecDepth 100000
set_option linter.unusedVariables false
set_option linter.unusedSimpArgs false
theorem awK (T:TypeId)(V:Value)(n1:Zr 85 #[.iface T V] (.tuple #[.nilIface,.bool false]))(w:World):Calls prog 51 #[.iface T V] w fun e w'=>e=.returned (.tuple #[.string ⟨#[]⟩,.bool false])/\Zb w w':=by
 have Hn1:=qz n1;clear n1
 go_enter func51,ntmps51
 go_wp2_with fail;refine(Hn1.out _).mono ?_;rintro e w1 ⟨rfl,c1⟩;have b1:=c1;go_wp2_with fail;go_ret2;exact⟨rfl,b1⟩
theorem av5 (T T1:TypeId)(V V1:Value)(X:ByteArray)(n1:Zr 85 #[.iface T V] (.tuple #[.iface T1 V1,.bool true]))(n2:Zr 86 #[.iface T1 V1] (.string X))(w:World):Calls prog 51 #[.iface T V] w fun e w'=>e=.returned (.tuple #[.string X,.bool true])/\Zb w w':=by
 have Hn1:=qz n1;have Hn2:=qz n2;clear n1 n2
 go_enter func51,ntmps51
 go_wp2_with fail;refine(Hn1.out _).mono ?_;rintro e w1 ⟨rfl,c1⟩;have b1:=c1;go_wp2_with fail;refine(Hn2.out _).mono ?_;rintro e w2 ⟨rfl,c2⟩;have b2:=aaa b1 c2;go_wp2_with fail;go_ret2;exact⟨rfl,b2⟩
theorem af0 (t:Tm)(ho:t.ok nmL=true)(hs:t.size<=121)(hl:t.pr.length<=900)(w:World) : Calls prog 51 #[.iface (aaB t) (pay t)] w (alP (aue (nfI t)) (nfI t).isSome w):=by
 have h:=acl t ho hs hl
 cases e:nfI t with
 | none=>rw[e]at h;exact awK _ _ h w
 | some r=>
  rw[e]at h
  have hr:r.pr.length<=300:=by
   unfold nfI at e
   split at e
   ·cases e
   ·split at e
    ·rename_i hh;cases e;exact hh.2.1
    ·cases e
  exact av5 _ _ _ _ (S r) h (alv r (by omega)) w
theorem awL (s:ByteArray)(n1:Zr 48 #[.string s] (.bool false))(w:World):Calls prog 17 #[.string s] w fun e w'=>e=.returned (.tuple #[.string ⟨#[]⟩,.bool false])/\Zb w w':=by
 have Hn1:=qz n1;clear n1
 go_enter func17,ntmps17
 go_wp2_with fail;refine(Hn1.out _).mono ?_;rintro e w1 ⟨rfl,c1⟩;have b1:=c1;go_wp2_with fail;go_ret2;exact⟨rfl,b1⟩
theorem av6 (s X:ByteArray)(b:Bool)(n1:Zr 48 #[.string s] (.bool true))(n2:Zr 49 #[.string s] (.tuple #[.string X,.bool b]))(w:World):Calls prog 17 #[.string s] w fun e w'=>e=.returned (.tuple #[.string X,.bool b])/\Zb w w':=by
 have Hn1:=qz n1;have Hn2:=qz n2;clear n1 n2
 go_enter func17,ntmps17
 go_wp2_with fail;refine(Hn1.out _).mono ?_;rintro e w1 ⟨rfl,c1⟩;have b1:=c1;go_wp2_with fail;refine(Hn2.out _).mono ?_;rintro e w2 ⟨rfl,c2⟩;have b2:=aaa b1 c2;go_wp2_with fail;go_ret2;exact⟨rfl,b2⟩
end Go.Proofs.YtalegefnppbkdaaGreat.T1
