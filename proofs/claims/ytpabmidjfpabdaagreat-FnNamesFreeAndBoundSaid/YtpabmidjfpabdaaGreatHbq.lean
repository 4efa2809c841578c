/- Texts of the proof, put together: Bd, CBoundNames, Bn, We. No conditions. -/
import Derived.Test.YtpabmidjfpabdaaGreatHab
import Derived.Test.YtpabmidjfpabdaaGreatHaq
import Derived.Test.YtpabmidjfpabdaaGreatHay
import Derived.Test.YtpabmidjfpabdaaGreatHaz
import Derived.Test.YtpabmidjfpabdaaGreatHbp
import Derived.Test.YtpabmidjfpabdaaGreatProg
import Derived.WalkKit
import Derived.ProofKit
import Derived.OpenShut
import Derived.ShutString
import Derived.ChangeOld
import Derived.Below

/- The names that signs bind, in the specification and in the program. -/
namespace Go.Proofs.YtpabmidjfpabdaaGreat.T1
open Go.RowKit
set_option maxRecDepth 100000
set_option linter.unusedVariables false

theorem B_app (l m : List UInt8) : B l ++ B m = B (l ++ m) := by apply B_eq; simp [B]
theorem one_app (c : UInt8) (m : List UInt8) : one c ++ B m = B (c :: m) := by apply B_eq; simp [B, one]
theorem nil_app (m : List UInt8) : (⟨#[]⟩ : ByteArray) ++ B m = B m := by apply B_eq; simp [B]
set_option maxHeartbeats 2000000 in
theorem tb_0 (s : ByteArray) (HB : ∀ w, Calls Tryz.prog 63 #[.string s] w fun e w' => e = .returned (.tuple #[.int .u8 0, .bool false]) ∧ w = w') (HP : ∀ w, Calls Tryz.prog 66 #[.string s] w (PartsS [] w))  (w : World) :
    Calls Tryz.prog 42 #[.string s] w fun e w' => e = .returned (.string (⟨#[]⟩)) ∧ Below w.heap.size w w' := by
  have HP' := Lib.hid HP
  have HB' := Lib.hid HB
  clear HP HB 
  go_enter Tryz.func42, Tryz.ntmps42
  go_wp2_with fail
  refine (HB'.out _).mono ?_
  rintro e w0 ⟨rfl, rfl⟩
  go_wp2_with fail
  refine (HP'.out _).mono ?_
  rintro e w1 ⟨rfl, bl⟩
  have bl0 := bl
  go_wp2_with fail
  refine wp_loop_rounds 1 ?_
  rw [rounds_succ]
  go_wp2_with fail
  go_ret
  exact ⟨rfl, bl0⟩

set_option maxHeartbeats 2000000 in
theorem tb_1 (s u U : ByteArray) (hU : U.size ≤ 1000) (HB : ∀ w, Calls Tryz.prog 63 #[.string s] w fun e w' => e = .returned (.tuple #[.int .u8 0, .bool false]) ∧ w = w') (HP : ∀ w, Calls Tryz.prog 66 #[.string s] w fun e w' => ∃ b, e = .returned (.slice (some ⟨b, 0, none⟩) 1 1) ∧ w.heap.size ≤ b ∧ w'.heap[b]? = some (.cells #[.string u] 9 (0, 0)) ∧ Below w.heap.size w w') (IH : ∀ w, Calls Tryz.prog 42 #[.string u] w fun e w' => e = .returned (.string U) ∧ Below w.heap.size w w') (w : World) :
    Calls Tryz.prog 42 #[.string s] w fun e w' => e = .returned (.string (⟨#[]⟩ ++ U)) ∧ Below w.heap.size w w' := by
  have HP' := Lib.hid HP
  have HB' := Lib.hid HB
  have IH' := Lib.hid IH
  clear HP HB IH
  go_enter Tryz.func42, Tryz.ntmps42
  go_wp2_with fail
  refine (HB'.out _).mono ?_
  rintro e w0 ⟨rfl, rfl⟩
  go_wp2_with fail
  refine (HP'.out _).mono ?_
  rintro e w1 ⟨b, rfl, hb, hh, bl⟩
  have bl0 := bl
  have c0 := cellOf1 hh
  have Hh := Lib.hid hh
  clear hh
  go_wp2_with fail
  refine wp_loop_rounds 2 ?_
  rw [rounds_succ]
  go_wp2_with fail
  refine (IH'.out _).mono ?_
  rintro e w2 ⟨rfl, b2⟩
  have bl2 := below_trans bl0 b2 bl0.size
  have h2 := (b2.block b (lt_of_block Hh.out)).trans Hh.out
  clear c0 bl bl0
  clear h2
  go_wp2_with fail
  rw [rounds_succ]
  go_wp2_with fail
  go_ret
  exact ⟨rfl, bl2⟩

set_option maxHeartbeats 2000000 in
theorem tb_1b (s u U : ByteArray) (hU : U.size ≤ 1000) (x : UInt8) (HB : ∀ w, Calls Tryz.prog 63 #[.string s] w fun e w' => e = .returned (.tuple #[.int .u8 (x.toNat : Int), .bool true]) ∧ w = w') (HP : ∀ w, Calls Tryz.prog 66 #[.string s] w fun e w' => ∃ b, e = .returned (.slice (some ⟨b, 0, none⟩) 1 1) ∧ w.heap.size ≤ b ∧ w'.heap[b]? = some (.cells #[.string u] 9 (0, 0)) ∧ Below w.heap.size w w') (IH : ∀ w, Calls Tryz.prog 42 #[.string u] w fun e w' => e = .returned (.string U) ∧ Below w.heap.size w w') (w : World) :
    Calls Tryz.prog 42 #[.string s] w fun e w' => e = .returned (.string (one x ++ U)) ∧ Below w.heap.size w w' := by
  have hcv := conv1 x
  obtain ⟨xx, hxx⟩ : ∃ xx, xx = (x.toNat : Int) := ⟨_, rfl⟩
  rw [← hxx] at hcv HB
  obtain ⟨O, hO⟩ : ∃ O, O = one x := ⟨_, rfl⟩
  have hO1 : O.size ≤ 1 := by rw [hO]; exact Nat.le_refl 1
  rw [← hO] at hcv ⊢
  clear hxx hO
  have HP' := Lib.hid HP
  have HB' := Lib.hid HB
  have IH' := Lib.hid IH
  clear HP HB IH
  go_enter Tryz.func42, Tryz.ntmps42
  go_wp2_with fail
  refine (HB'.out _).mono ?_
  rintro e w0 ⟨rfl, rfl⟩
  go_wp2_with fail
  refine (HP'.out _).mono ?_
  rintro e w1 ⟨b, rfl, hb, hh, bl⟩
  have bl0 := below_trans ((Below.refl _ _).alloc (Nat.le_refl _) _) bl (by simp)
  have c0 := cellOf1 hh
  have Hh := Lib.hid hh
  clear hh
  go_wp2_with fail
  refine wp_loop_rounds 2 ?_
  rw [rounds_succ]
  go_wp2_with fail
  refine (IH'.out _).mono ?_
  rintro e w2 ⟨rfl, b2⟩
  have bl2 := below_trans bl0 b2 bl0.size
  have h2 := (b2.block b (lt_of_block Hh.out)).trans Hh.out
  clear c0 bl bl0
  clear h2
  go_wp2_with fail
  rw [rounds_succ]
  go_wp2_with fail
  go_ret
  exact ⟨rfl, bl2⟩

set_option maxHeartbeats 2000000 in
theorem tb_2 (s u U v V : ByteArray) (hU : U.size ≤ 1000) (hV : V.size ≤ 1000) (HB : ∀ w, Calls Tryz.prog 63 #[.string s] w fun e w' => e = .returned (.tuple #[.int .u8 0, .bool false]) ∧ w = w') (HP : ∀ w, Calls Tryz.prog 66 #[.string s] w fun e w' => ∃ b, e = .returned (.slice (some ⟨b, 0, none⟩) 2 2) ∧ w.heap.size ≤ b ∧ w'.heap[b]? = some (.cells #[.string u, .string v] 9 (0, 0)) ∧ Below w.heap.size w w') (IH : ∀ w, Calls Tryz.prog 42 #[.string u] w fun e w' => e = .returned (.string U) ∧ Below w.heap.size w w') (IH2 : ∀ w, Calls Tryz.prog 42 #[.string v] w fun e w' => e = .returned (.string V) ∧ Below w.heap.size w w') (w : World) :
    Calls Tryz.prog 42 #[.string s] w fun e w' => e = .returned (.string (⟨#[]⟩ ++ U ++ V)) ∧ Below w.heap.size w w' := by
  have HP' := Lib.hid HP
  have HB' := Lib.hid HB
  have IH' := Lib.hid IH
  have IH2' := Lib.hid IH2
  clear HP HB IH IH2
  go_enter Tryz.func42, Tryz.ntmps42
  go_wp2_with fail
  refine (HB'.out _).mono ?_
  rintro e w0 ⟨rfl, rfl⟩
  go_wp2_with fail
  refine (HP'.out _).mono ?_
  rintro e w1 ⟨b, rfl, hb, hh, bl⟩
  have bl0 := bl
  have c0 := cellOf2a hh
  have Hh := Lib.hid hh
  clear hh
  go_wp2_with fail
  refine wp_loop_rounds 3 ?_
  rw [rounds_succ]
  go_wp2_with fail
  refine (IH'.out _).mono ?_
  rintro e w2 ⟨rfl, b2⟩
  have bl2 := below_trans bl0 b2 bl0.size
  have h2 := (b2.block b (lt_of_block Hh.out)).trans Hh.out
  clear c0 bl bl0
  have c1 := cellOf2b h2
  clear h2
  go_wp2_with fail
  rw [rounds_succ]
  go_wp2_with fail
  refine (IH2'.out _).mono ?_
  rintro e w3 ⟨rfl, b3⟩
  have bl3 := below_trans bl2 b3 bl2.size
  clear c1
  go_wp2_with fail
  rw [rounds_succ]
  go_wp2_with fail
  go_ret
  exact ⟨rfl, bl3⟩

theorem convS {s X Y : ByteArray} (h : X = Y) (hc : ∀ w, Calls Tryz.prog 42 #[.string s] w fun e w' => e = .returned (.string X) ∧ Below w.heap.size w w') : ∀ w, Calls Tryz.prog 42 #[.string s] w fun e w' => e = .returned (.string Y) ∧ Below w.heap.size w w' := by rw [← h]; exact hc
theorem bnd_pr (t : Tm) : t.bnd.length ≤ t.pr.length := Nat.le_trans (bnd_len t) (size_le_pr t)
theorem tmBinders_any (t : Tm) : t.ok nmE = true → t.pr.length ≤ 700 → ∀ w, Calls Tryz.prog 42 #[.string (S t)] w fun e w' => e = .returned (.string (B t.bnd)) ∧ Below w.heap.size w w' := by
  have sz : ∀ p : Tm, p.pr.length ≤ 700 → (B p.bnd).size ≤ 1000 := fun p h => by rw [B_size]; have := bnd_pr p; omega
  induction t with
  | nil => exact fun ho hl => tb_0 _ (tmBinds_any .nil ho hl) (tmParts_any .nil ho hl)
  | snd a b p ih =>
    intro ho hl
    have ho' := ho
    simp only [Tm.ok, Bool.and_eq_true] at ho'
    have hl' := hl
    simp only [Tm.pr, List.length_cons] at hl'
    exact convS (nil_app p.bnd) (tb_1 _ _ _ (sz p (by omega)) (tmBinds_any (.snd a b p) ho hl) (tmParts_any (.snd a b p) ho hl) (ih ho'.2 (by omega)))
  | rcv a x p ih =>
    intro ho hl
    have ho' := ho
    simp only [Tm.ok, Bool.and_eq_true] at ho'
    have hl' := hl
    simp only [Tm.pr, List.length_cons] at hl'
    exact convS (one_app x p.bnd) (tb_1b _ _ _ (sz p (by omega)) x (tmBinds_any (.rcv a x p) ho hl) (tmParts_any (.rcv a x p) ho hl) (ih ho'.2 (by omega)))
  | tau p ih =>
    intro ho hl
    have ho' := ho
    simp only [Tm.ok] at ho'
    have hl' := hl
    simp only [Tm.pr, List.length_cons] at hl'
    exact convS (nil_app p.bnd) (tb_1 _ _ _ (sz p (by omega)) (tmBinds_any (.tau p) ho hl) (tmParts_any (.tau p) ho hl) (ih ho' (by omega)))
  | own x p ih =>
    intro ho hl
    have ho' := ho
    simp only [Tm.ok, Bool.and_eq_true] at ho'
    have hl' := hl
    simp only [Tm.pr, List.length_cons] at hl'
    exact convS (one_app x p.bnd) (tb_1b _ _ _ (sz p (by omega)) x (tmBinds_any (.own x p) ho hl) (tmParts_any (.own x p) ho hl) (ih ho'.2 (by omega)))
  | mat a b p ih =>
    intro ho hl
    have ho' := ho
    simp only [Tm.ok, Bool.and_eq_true] at ho'
    have hl' := hl
    simp only [Tm.pr, List.length_cons] at hl'
    exact convS (nil_app p.bnd) (tb_1 _ _ _ (sz p (by omega)) (tmBinds_any (.mat a b p) ho hl) (tmParts_any (.mat a b p) ho hl) (ih ho'.2 (by omega)))
  | rep p ih =>
    intro ho hl
    have ho' := ho
    simp only [Tm.ok] at ho'
    have hl' := hl
    simp only [Tm.pr, List.length_cons] at hl'
    exact convS (nil_app p.bnd) (tb_1 _ _ _ (sz p (by omega)) (tmBinds_any (.rep p) ho hl) (tmParts_any (.rep p) ho hl) (ih ho' (by omega)))
  | sum p q ih ih2 =>
    intro ho hl
    have ho' := ho
    simp only [Tm.ok, Bool.and_eq_true] at ho'
    have hl' := hl
    simp only [Tm.pr, List.length_cons, List.length_append] at hl'
    exact convS (by rw [nil_app, B_app]; rfl) (tb_2 _ _ _ _ _ (sz p (by omega)) (sz q (by omega)) (tmBinds_any (.sum p q) ho hl) (tmParts_any (.sum p q) ho hl) (ih ho'.1 (by omega)) (ih2 ho'.2 (by omega)))
  | par p q ih ih2 =>
    intro ho hl
    have ho' := ho
    simp only [Tm.ok, Bool.and_eq_true] at ho'
    have hl' := hl
    simp only [Tm.pr, List.length_cons, List.length_append] at hl'
    exact convS (by rw [nil_app, B_app]; rfl) (tb_2 _ _ _ _ _ (sz p (by omega)) (sz q (by omega)) (tmBinds_any (.par p q) ho hl) (tmParts_any (.par p q) ho hl) (ih ho'.1 (by omega)) (ih2 ho'.2 (by omega)))

theorem setN_snoc (l : List UInt8) (c : UInt8) : setN (l ++ [c]) = setN l ||| 2 ^ (c.toNat - 97) := by
  induction l with
  | nil => simp [setN]
  | cons x l ih => show setN (l ++ [c]) ||| _ = _; rw [ih, setN, Nat.or_assoc, Nat.or_assoc, Nat.or_comm (2 ^ (c.toNat - 97))]
/-- The block of the set holds the names that the signs visited so far bind. -/
def BndI (bn : Nat) (acc : List Tm) (w : World) : Prop := Lets (acc.filterMap Tm.binds) ∧ ∃ T, w.heap[bn]? = some (.cells #[.int .u32 (setN (acc.filterMap Tm.binds) : Nat)] T (0, 0))
theorem subs_bnd (t : Tm) : t.subs.filterMap Tm.binds = t.bnd := by
  induction t with
  | nil => rfl
  | snd a b p ih => rw [Tm.subs, List.filterMap_cons_none (by rfl), ih]; rfl
  | rcv a x p ih => rw [Tm.subs, List.filterMap_cons_some (b := x) (by rfl), ih]; rfl
  | tau p ih => rw [Tm.subs, List.filterMap_cons_none (by rfl), ih]; rfl
  | sum p q ih ih2 => rw [Tm.subs, List.filterMap_cons_none (by rfl), List.filterMap_append, ih, ih2]; rfl
  | par p q ih ih2 => rw [Tm.subs, List.filterMap_cons_none (by rfl), List.filterMap_append, ih, ih2]; rfl
  | own x p ih => rw [Tm.subs, List.filterMap_cons_some (b := x) (by rfl), ih]; rfl
  | mat a b p ih => rw [Tm.subs, List.filterMap_cons_none (by rfl), ih]; rfl
  | rep p ih => rw [Tm.subs, List.filterMap_cons_none (by rfl), ih]; rfl
theorem cf_b1 (args : Array Value) (w : World) : (callFunc 78 args).run Tryz.prog w = .ok (.enter 78 args) w := by kernel_rfl
set_option maxHeartbeats 2000000 in
theorem b1_no (bn : Nat) (T : TypeId) (V : Value) (HB : ∀ w, Calls Tryz.prog 55 #[.iface T V] w fun e w' => e = .returned (.tuple #[.int .u8 0, .bool false]) ∧ Below w.heap.size w w') (w : World) :
    Calls Tryz.prog 78 #[.iface T V, .pointer (some ⟨bn, 0, none⟩)] w fun e w' => e = .returned (.tuple #[]) ∧ Below w.heap.size w w' := by
  have HB' := Lib.hid HB
  clear HB
  go_enter Tryz.func78, Tryz.ntmps78
  go_wp2_with fail
  refine (HB'.out _).mono ?_
  rintro e w1 ⟨rfl, bl⟩
  go_wp2_with fail
  go_end0
  exact ⟨rfl, bl⟩
set_option maxHeartbeats 2000000 in
theorem b1_yes (bn : Nat) (T : TypeId) (V : Value) (x : UInt8) (l : List UInt8) (hx : nmL x = true) (hl : Lets l) (HB : ∀ w, Calls Tryz.prog 55 #[.iface T V] w fun e w' => e = .returned (.tuple #[.int .u8 (x.toNat : Int), .bool true]) ∧ Below w.heap.size w w') (w : World) (Tn : TypeId) (hn : w.heap[bn]? = some (.cells #[.int .u32 (setN l : Nat)] Tn (0, 0))) :
    Calls Tryz.prog 78 #[.iface T V, .pointer (some ⟨bn, 0, none⟩)] w fun e w' => e = .returned (.tuple #[]) ∧ w'.heap[bn]? = some (.cells #[.int .u32 (setN (l ++ [x]) : Nat)] Tn (0, 0)) ∧ Only bn w w' := by
  have HB' := Lib.hid HB
  have hx' := (nmL_iff x).1 hx
  have HW := with_any (setN l) x.toNat (setN_lt32 _ hl) hx'.1 hx'.2
  rw [← setN_snoc] at HW
  have HW' := Lib.hid HW
  obtain ⟨N, hN⟩ : ∃ N, N = ((setN l : Nat) : Int) := ⟨_, rfl⟩
  obtain ⟨M, hM⟩ : ∃ M, M = ((setN (l ++ [x]) : Nat) : Int) := ⟨_, rfl⟩
  obtain ⟨xx, hxx⟩ : ∃ xx, xx = (x.toNat : Int) := ⟨_, rfl⟩
  rw [← hN, ← hM, ← hxx] at HW'
  rw [← hN] at hn
  rw [← hM]
  rw [← hxx] at HB'
  have Hn := Lib.hid hn
  clear HB HW hN hM hxx hx' hx hn hl
  go_enter Tryz.func78, Tryz.ntmps78
  go_wp2_with fail
  refine (HB'.out _).mono ?_
  rintro e w1 ⟨rfl, bl⟩
  have hn1 := (bl.block bn (lt_of_block Hn.out)).trans Hn.out
  have cn := cellOf1 hn1
  have fn := free_of_one hn1
  have Hn1 := Lib.hid hn1
  clear hn1
  go_wp2_with fail
  refine (HW'.out _).mono ?_
  rintro e w2 ⟨rfl, rfl⟩
  go_wp2_with fail
  go_end0
  exact ⟨rfl, one_setCell Hn1.out, ((Only.refl bn w).below bl).setCell _ _ _⟩
theorem visitAll_ok (CF : FuncId) (caps : Array Value) (bn : Nat) (I : List Tm → World → Prop) (hF : ∀ args w, (callFunc CF args).run Tryz.prog w = .ok (.enter CF args) w)
    (hI : ∀ acc w w', I acc w → Below w.heap.size w w' → I acc w') (hB : ∀ acc w, I acc w → bn < w.heap.size)
    (hv : ∀ t, t.ok nmL = true → ∀ acc w, I acc w → Calls Tryz.prog CF (#[.iface (tyOf t) (pay t)] ++ caps) w (VisPost bn I (acc ++ [t]) w)) (t : Tm) : t.ok nmL = true → ∀ (acc : List Tm) (w : World), I acc w →
    Calls Tryz.prog 77 #[.iface (tyOf t) (pay t), .func (.func CF) #[] caps] w (VisPost bn I (acc ++ t.subs) w) := by
  induction t with
  | nil => exact fun ho => visit0 CF caps bn I hF hI hB _ _ .nil (parts_fact .nil) (hv .nil ho)
  | snd a b p ih =>
    intro ho
    have ho' := ho
    simp only [Tm.ok, Bool.and_eq_true] at ho'
    exact visit1 CF caps bn I hF hI hB _ _ _ _ (.snd a b p) p.subs (parts_fact (.snd a b p)).pf (hv _ ho) (ih ho'.2)
  | rcv a b p ih =>
    intro ho
    have ho' := ho
    simp only [Tm.ok, Bool.and_eq_true] at ho'
    exact visit1 CF caps bn I hF hI hB _ _ _ _ (.rcv a b p) p.subs (parts_fact (.rcv a b p)).pf (hv _ ho) (ih ho'.2)
  | tau p ih =>
    intro ho
    have ho' := ho
    simp only [Tm.ok] at ho'
    exact visit1 CF caps bn I hF hI hB _ _ _ _ (.tau p) p.subs (parts_fact (.tau p)).pf (hv _ ho) (ih ho')
  | own x p ih =>
    intro ho
    have ho' := ho
    simp only [Tm.ok, Bool.and_eq_true] at ho'
    exact visit1 CF caps bn I hF hI hB _ _ _ _ (.own x p) p.subs (parts_fact (.own x p)).pf (hv _ ho) (ih ho'.2)
  | mat a b p ih =>
    intro ho
    have ho' := ho
    simp only [Tm.ok, Bool.and_eq_true] at ho'
    exact visit1 CF caps bn I hF hI hB _ _ _ _ (.mat a b p) p.subs (parts_fact (.mat a b p)).pf (hv _ ho) (ih ho'.2)
  | rep p ih =>
    intro ho
    have ho' := ho
    simp only [Tm.ok] at ho'
    exact visit1 CF caps bn I hF hI hB _ _ _ _ (.rep p) p.subs (parts_fact (.rep p)).pf (hv _ ho) (ih ho')
  | sum p q ih ih2 =>
    intro ho
    have ho' := ho
    simp only [Tm.ok, Bool.and_eq_true] at ho'
    exact visit2 CF caps bn I hF hI hB _ _ _ _ _ _ (.sum p q) p.subs q.subs (parts_fact (.sum p q)).pf (hv _ ho) (ih ho'.1) (ih2 ho'.2)
  | par p q ih ih2 =>
    intro ho
    have ho' := ho
    simp only [Tm.ok, Bool.and_eq_true] at ho'
    exact visit2 CF caps bn I hF hI hB _ _ _ _ _ _ (.par p q) p.subs q.subs (parts_fact (.par p q)).pf (hv _ ho) (ih ho'.1) (ih2 ho'.2)

theorem lets_snoc {l : List UInt8} {x : UInt8} (h : Lets l) (k : nmL x = true) : Lets (l ++ [x]) := fun c hc => by
  rcases List.mem_append.1 hc with hc | hc
  · exact h c hc
  · simp at hc; subst hc; exact (nmL_iff _).1 k
theorem binds_ok (t : Tm) (ho : t.ok nmL = true) (x : UInt8) (h : t.binds = some x) : nmL x = true := by
  cases t <;> simp_all [Tm.binds, Tm.ok]
theorem b1_any (bn : Nat) (t : Tm) (ho : t.ok nmL = true) (acc : List Tm) (w : World) (h0 : BndI bn acc w) :
    Calls Tryz.prog 78 (#[.iface (tyOf t) (pay t)] ++ #[.pointer (some ⟨bn, 0, none⟩)]) w (VisPost bn (BndI bn) (acc ++ [t]) w) := by
  obtain ⟨hl, Tn, hn⟩ := h0
  have hb := binderOf_any t
  cases hq : t.binds with
  | none =>
    rw [hq] at hb
    refine (b1_no bn _ _ hb w).mono ?_
    rintro e w' ⟨he, bl⟩
    have e1 : (acc ++ [t]).filterMap Tm.binds = acc.filterMap Tm.binds := by simp [hq]
    exact ⟨he, ⟨by rw [e1]; exact hl, Tn, by rw [e1]; exact (bl.block bn (lt_of_block hn)).trans hn⟩, (Only.refl bn w).below bl⟩
  | some x =>
    rw [hq] at hb
    refine (b1_yes bn _ _ x _ (binds_ok t ho x hq) hl hb w Tn hn).mono ?_
    rintro e w' ⟨he, h1, h2⟩
    have e1 : (acc ++ [t]).filterMap Tm.binds = acc.filterMap Tm.binds ++ [x] := by simp [hq]
    exact ⟨he, ⟨by rw [e1]; exact lets_snoc hl (binds_ok t ho x hq), Tn, by rw [e1]; exact h1⟩, h2⟩

set_option maxHeartbeats 2000000 in
theorem boundNames_any (t : Tm) (ho : t.ok nmL = true) : ∀ w, Calls Tryz.prog 40 #[.iface (tyOf t) (pay t)] w fun e w' => e = .returned (.int .u32 (setN t.bnd : Nat)) ∧ Below w.heap.size w w' := by
  intro w
  have HV := Lib.hid (visitAll_ok 78 #[.pointer (some ⟨w.heap.size, 0, none⟩)] w.heap.size (BndI w.heap.size) cf_b1
    (fun acc w1 w' h bl => by
      obtain ⟨hl, Tn, hn⟩ := h
      exact ⟨hl, Tn, (bl.block _ (lt_of_block hn)).trans hn⟩)
    (fun acc w1 h => by obtain ⟨_, Tn, hn⟩ := h; exact lt_of_block hn)
    (fun t ho acc w1 h => b1_any _ t ho acc w1 h) t ho)
  have H0 : Hid (∀ T1, BndI w.heap.size [] (w.alloc (.cells #[.int .u32 0] T1))) :=
    fun T1 => ⟨lets_nil0, T1, new_block0 _ _⟩
  have HS := Lib.hid (subs_bnd t)
  obtain ⟨T, hT⟩ : ∃ T, T = tyOf t := ⟨_, rfl⟩
  obtain ⟨V, hV⟩ : ∃ V, V = pay t := ⟨_, rfl⟩
  obtain ⟨N, hN⟩ : ∃ N, N = ((setN t.bnd : Nat) : Int) := ⟨_, rfl⟩
  rw [← hT, ← hV] at HV ⊢
  rw [← hN]
  have HN := Lib.hid hN
  clear hT hV hN ho
  go_enter Tryz.func40, Tryz.ntmps40
  go_wp2_with fail
  refine ((HV.out) [] _ (H0.out _)).mono ?_
  rintro e w1 ⟨rfl, ⟨_, Tn, hn⟩, o1⟩
  rw [List.nil_append, HS.out, ← HN.out] at hn
  have cn := cellOf1 hn
  go_wp2_with fail
  go_ret
  exact ⟨rfl, Below.only ((Below.refl _ _).alloc (Nat.le_refl _) _) o1 (by omega) (by simp)⟩

end Go.Proofs.YtpabmidjfpabdaaGreat.T1

/- What BoundNames answers on both sides. No conditions. -/
namespace Go.Proofs.YtpabmidjfpabdaaGreat
namespace LawBoundNames
open Go.ChangeShapes Go.WideShapes Go.ChangeAt Go.RowKit Go.Proofs.YtpabmidjfpabdaaGreat.T1
open Go.ChangeMaps (open_string shut_string)
set_option linter.unusedVariables false

theorem spec_none (s : ByteArray) (hg : good s.data.toList = none) (hm : s.size ≤ 9223372036854775807) (w : World) : Calls Tryz.prog 15 #[.string s] w fun e w' => e = .returned (.tuple #[.string ⟨#[]⟩, .bool false]) ∧ Below w.heap.size w w' := by
  have H := Lib.hid (tmGood_none hg w hm)
  clear hg
  go_enter Tryz.func15, Tryz.ntmps15
  go_wp2_with fail
  refine (H.out).mono ?_
  rintro e w1 ⟨rfl, bl⟩
  go_wp2_with fail
  go_ret2
  exact ⟨rfl, bl⟩
theorem impl_none (s : ByteArray) (hg : good s.data.toList = none) (hm : s.size ≤ 9223372036854775807) (w : World) : Calls Tryz.prog 14 #[.string s] w fun e w' => e = .returned (.tuple #[.string ⟨#[]⟩, .bool false]) ∧ Below w.heap.size w w' := by
  have H := Lib.hid (parse_none hg w hm)
  clear hg
  go_enter Tryz.func14, Tryz.ntmps14
  go_wp2_with fail
  refine (H.out).mono ?_
  rintro e w1 ⟨rfl, bl⟩
  go_wp2_with fail
  go_ret2
  exact ⟨rfl, bl⟩
set_option maxHeartbeats 1000000 in
theorem spec_some (s : ByteArray) (t : Tm) (hg : good s.data.toList = some t) (hm : s.size ≤ 9223372036854775807) (w : World) : Calls Tryz.prog 15 #[.string s] w fun e w' => e = .returned (.tuple #[.string (B (bothL [] t.bnd)), .bool true]) ∧ Below w.heap.size w w' := by
  have H := Lib.hid (tmGood_some hg w hm)
  obtain ⟨es, hL, hE, h300, h60⟩ := good_S hg
  have h1 := tmBinders_any t hE (by omega)
  rw [← es] at h1
  have h2 : ∀ w, Calls Tryz.prog 41 #[.string ⟨#[]⟩, .string (B t.bnd)] w fun e w' => e = .returned (.string (B (bothL [] t.bnd))) ∧ Below w.heap.size w w' := tmBoth_any [] (B t.bnd) srt_nil (by rw [B_size]; have := bnd_pr t; omega)
  obtain ⟨X, hX⟩ : ∃ X, X = B t.bnd := ⟨_, rfl⟩
  obtain ⟨N, hN⟩ : ∃ N, N = B (bothL [] t.bnd) := ⟨_, rfl⟩
  rw [← hX] at h1 h2
  rw [← hN] at h2 ⊢
  have H2 := Lib.hid h1
  have H3 := Lib.hid h2
  clear hg es hL hE h300 h60 h1 h2 hX hN
  go_enter Tryz.func15, Tryz.ntmps15
  go_wp2_with fail
  refine (H.out).mono ?_
  rintro e w1 ⟨rfl, bl⟩
  go_wp2_with fail
  refine (H2.out _).mono ?_
  rintro e w2 ⟨rfl, b2⟩
  have bl2 := below_trans bl b2 bl.size
  go_wp2_with fail
  refine (H3.out _).mono ?_
  rintro e w3 ⟨rfl, b3⟩
  have bl3 := below_trans bl2 b3 bl2.size
  go_wp2_with fail
  go_ret2
  exact ⟨rfl, bl3⟩

set_option maxHeartbeats 1000000 in
theorem impl_some (s : ByteArray) (t : Tm) (hg : good s.data.toList = some t) (hm : s.size ≤ 9223372036854775807) (w : World) : Calls Tryz.prog 14 #[.string s] w fun e w' => e = .returned (.tuple #[.string (B (bothL [] t.bnd)), .bool true]) ∧ Below w.heap.size w w' := by
  have H := Lib.hid (parse_some hg w hm)
  obtain ⟨es, hL, hE, h300, h60⟩ := good_S hg
  have HS := boundNames_any t hL
  rw [show setN t.bnd = setN (bothL [] t.bnd) by rw [setN_bothL lets_nil0 (lets_bnd t hL)]; simp [setN]] at HS
  have HL := letters_any (setN (bothL [] t.bnd)) (setN_lt32 _ (lets_bothL lets_nil0 (lets_bnd t hL)))
  rw [lets_setN _ (srt_bothL t.bnd srt_nil) (lets_bothL lets_nil0 (lets_bnd t hL))] at HL
  have HV : Hid (∀ (w1 : World) (b n : Nat) (v : Value), n = (bothL [] t.bnd).length → w1.ownsRow b 5 1 v n ((bothL [] t.bnd).map ub) → (convert 22 9 v).run Tryz.prog w1 = .ok (.string (B (bothL [] t.bnd))) w1) := fun w1 b n v hn h => conv_rowE _ hn h
  obtain ⟨T, hT⟩ : ∃ T, T = tyOf t := ⟨_, rfl⟩
  obtain ⟨V, hV⟩ : ∃ V, V = pay t := ⟨_, rfl⟩
  obtain ⟨L, hLL⟩ : ∃ L, L = bothL [] t.bnd := ⟨_, rfl⟩
  obtain ⟨N, hN⟩ : ∃ N, N = setN L := ⟨_, rfl⟩
  rw [← hT, ← hV] at H HS
  rw [← hLL] at HL HV HS ⊢
  rw [← hN] at HL HS
  obtain ⟨X, hX⟩ : ∃ X, X = B L := ⟨_, rfl⟩
  rw [← hX] at HV ⊢
  have H2 := Lib.hid HS
  have H3 := Lib.hid HL
  clear hg es hL hE h300 h60 HS HL hT hV hLL hN hX
  go_enter Tryz.func14, Tryz.ntmps14
  go_wp2_with fail
  refine (H.out).mono ?_
  rintro e w1 ⟨rfl, bl⟩
  go_wp2_with fail
  refine (H2.out _).mono ?_
  rintro e w2 ⟨rfl, b2⟩
  have bl2 := below_trans bl b2 bl.size
  go_wp2_with fail
  refine (H3.out _).mono ?_
  rintro e w3 ⟨v3, rfl, ho, b3⟩
  have bl3 := below_trans bl2 b3 bl2.size
  have hcv := HV.out w3 _ _ v3 rfl ho
  clear ho
  go_wp2_with fail
  go_ret2
  exact ⟨rfl, bl3⟩
end LawBoundNames
end Go.Proofs.YtpabmidjfpabdaaGreat

/- How many signs bind a name, in the program. -/
namespace Go.Proofs.YtpabmidjfpabdaaGreat.T1
open Go.RowKit
set_option maxRecDepth 100000
set_option linter.unusedVariables false

theorem kinds_bnd (t : Tm) : t.subs.countP (isK 63) + t.subs.countP (isK 35) = t.bnd.length := by
  induction t <;> simp_all [Tm.subs, Tm.bnd, isK, Tm.kind] <;> omega
set_option maxHeartbeats 2000000 in
theorem bindersIn_any (t : Tm) (ht : t.size ≤ 1000) : ∀ w, Calls Tryz.prog 43 #[.iface (tyOf t) (pay t)] w fun e w' => e = .returned (.int .i64 (t.bnd.length : Nat)) ∧ Below w.heap.size w w' := by
  intro w
  have h1 := countKind_any t ht (one 63)
  have h2 := countKind_any t ht (one 35)
  rw [show (fun u : Tm => (one u.kind).toList == (one 63).toList) = isK 63 from by funext u; rw [one_eq]; rfl] at h1
  rw [show (fun u : Tm => (one u.kind).toList == (one 35).toList) = isK 35 from by funext u; rw [one_eq]; rfl] at h2
  have hk := kinds_bnd t
  have hb := bnd_len t
  obtain ⟨T, hT⟩ : ∃ T, T = tyOf t := ⟨_, rfl⟩
  obtain ⟨V, hV⟩ : ∃ V, V = pay t := ⟨_, rfl⟩
  obtain ⟨N, hN⟩ : ∃ N, N = t.subs.countP (isK 63) := ⟨_, rfl⟩
  obtain ⟨M, hM⟩ : ∃ M, M = t.subs.countP (isK 35) := ⟨_, rfl⟩
  obtain ⟨K, hK⟩ : ∃ K, K = t.bnd.length := ⟨_, rfl⟩
  rw [← hT, ← hV, ← hN] at h1
  rw [← hT, ← hV, ← hM] at h2
  rw [← hN, ← hM, ← hK] at hk
  rw [← hK] at hb
  rw [← hT, ← hV, ← hK]
  have H1 : Hid (∀ w, Calls Tryz.prog 79 #[.iface T V, .string ⟨#[63]⟩] w fun e w' => e = .returned (.int .i64 (N : Int)) ∧ Below w.heap.size w w') := h1
  have H2 : Hid (∀ w, Calls Tryz.prog 79 #[.iface T V, .string ⟨#[35]⟩] w fun e w' => e = .returned (.int .i64 (M : Int)) ∧ Below w.heap.size w w') := h2
  have hn : N ≤ 1000 := by omega
  have hm : M ≤ 1000 := by omega
  have HK := Lib.hid hk
  clear h1 h2 hT hV hN hM hK hk hb ht
  go_enter Tryz.func43, Tryz.ntmps43
  go_wp2_with fail
  refine (H1.out _).mono ?_
  rintro e w1 ⟨rfl, b1⟩
  go_wp2_with fail
  refine (H2.out _).mono ?_
  rintro e w2 ⟨rfl, b2⟩
  go_wp2_with fail
  go_ret
  exact ⟨ret_int (by have := HK.out; omega), below_trans b1 b2 b1.size⟩


end Go.Proofs.YtpabmidjfpabdaaGreat.T1

/- No name is bound twice, or bound and free, in the specification and in the program. -/
namespace Go.Proofs.YtpabmidjfpabdaaGreat.T1
open Go.RowKit
set_option maxRecDepth 100000
set_option linter.unusedVariables false

instance wellN_dec (t : Tm) : Decidable t.wellN := by unfold Tm.wellN; infer_instance
theorem inB_iff (s : ByteArray) (c : UInt8) : inB s (c.toNat : Int) = decide (c ∈ s.data.toList) := by
  rw [Bool.eq_iff_iff, decide_eq_true_iff]
  unfold inB
  rw [List.any_eq_true]
  constructor
  · rintro ⟨x, hx, h⟩
    have : x = c := u8_ext (by have := eq_of_beq h; omega)
    rw [← this]; exact hx
  · intro h; exact ⟨c, h, by simp⟩
/-- The first names, seen alone, are well named. -/
def wellK (t : Tm) (k : Nat) : Prop := (t.bnd.take k).Nodup ∧ ∀ x ∈ t.bnd.take k, x ∉ t.free
theorem wellK_step (t : Tm) (k : Nat) (h : k < t.bnd.length) (h0 : wellK t k) (h1 : t.bnd[k] ∉ t.free) (h2 : t.bnd[k] ∉ t.bnd.take k) : wellK t (k + 1) := by
  unfold wellK
  rw [List.take_succ_eq_append_getElem h]
  refine ⟨List.nodup_append.2 ⟨h0.1, by simp, ?_⟩, ?_⟩
  · rintro a ha b hb rfl
    simp at hb; subst hb; exact h2 ha
  · intro x hx
    rcases List.mem_append.1 hx with hx | hx
    · exact h0.2 x hx
    · simp at hx; subst hx; exact h1
theorem wellK_free (t : Tm) (k : Nat) (h : k < t.bnd.length) (h1 : t.bnd[k] ∈ t.free) : ¬ t.wellN := fun hw => hw.2 _ (List.getElem_mem h) h1
theorem wellK_twice (t : Tm) (k : Nat) (h : k < t.bnd.length) (h2 : t.bnd[k] ∈ t.bnd.take k) : ¬ t.wellN := fun hw => by
  have h3 := hw.1
  rw [← List.take_append_drop k t.bnd, List.nodup_append] at h3
  exact h3.2.2 _ h2 _ (by rw [List.drop_eq_getElem_cons h]; exact List.mem_cons_self) rfl
theorem wellK_all (t : Tm) (k : Nat) (h : t.bnd.length ≤ k) (h0 : wellK t k) : t.wellN := by
  unfold wellK at h0
  rw [List.take_of_length_le h] at h0
  exact h0
theorem bnd_at (t : Tm) (k : Nat) (h : k < (B t.bnd).size) : (B t.bnd)[k]'h = t.bnd[k]'(by rw [B_size] at h; exact h) := byte_of (B_list _) k h (by rw [B_size] at h; exact h)
theorem bnd_ext (t : Tm) (k : Nat) : ((B t.bnd).extract 0 k).data.toList = t.bnd.take k := by
  rw [ByteArray.data_extract, Array.toList_extract, B_list]; simp [List.extract_eq_take_drop]

set_option maxHeartbeats 2000000 in
theorem specWell (s : ByteArray) (t : Tm) (hbl : t.bnd.length ≤ 300) (HG : ∀ w, Calls Tryz.prog 29 #[.string s] w fun e w' => e = .returned (.bool true) ∧ Below w.heap.size w w') (HN : ∀ w, Calls Tryz.prog 42 #[.string s] w fun e w' => e = .returned (.string (B t.bnd)) ∧ Below w.heap.size w w') (HF : ∀ w, Calls Tryz.prog 39 #[.string s] w fun e w' => e = .returned (.string (B t.free)) ∧ Below w.heap.size w w') (w : World) :
    Calls Tryz.prog 17 #[.string s] w fun e w' => e = .returned (.tuple #[.bool (decide t.wellN), .bool true]) ∧ Below w.heap.size w w' := by
  have hIF := fun c w => tmIn_any (B t.free) c w (by rw [B_size]; have := srt_len (srt_free t); omega)
  have hIB := fun k c w => tmIn_any ((B t.bnd).extract 0 k) c w (by simp; rw [B_size]; omega)
  obtain ⟨X, hX⟩ : ∃ X, X = B t.bnd := ⟨_, rfl⟩
  obtain ⟨Y, hY⟩ : ∃ Y, Y = B t.free := ⟨_, rfl⟩
  rw [← hX] at hIB HN
  rw [← hY] at hIF HF
  have hXs : X.size = t.bnd.length := by rw [hX, B_size]
  have hat : Hid (∀ k (h : k < X.size) (h' : k < t.bnd.length), X[k]'h = t.bnd[k]'h') := by subst hX; exact fun k h h' => bnd_at t k h
  have hex : Hid (∀ k, (X.extract 0 k).data.toList = t.bnd.take k) := by subst hX; exact fun k => bnd_ext t k
  have hYl : Hid (Y.data.toList = t.free) := by subst hY; rfl
  have HG' := Lib.hid HG
  have HN' := Lib.hid HN
  have HF' := Lib.hid HF
  have HIF := Lib.hid hIF
  have HIB := Lib.hid hIB
  have hsz : X.size ≤ 300 := by omega
  have HXS := Lib.hid hXs
  clear HG HN HF hIF hIB hX hY hbl hXs
  go_enter Tryz.func17, Tryz.ntmps17
  go_wp2_with fail
  refine (HG'.out _).mono ?_
  rintro e w1 ⟨rfl, b1⟩
  go_wp2_with fail
  refine (HN'.out _).mono ?_
  rintro e w2 ⟨rfl, b2⟩
  have bl2 := below_trans b1 b2 b1.size
  go_wp2_with fail
  refine (HF'.out _).mono ?_
  rintro e w3 ⟨rfl, b3⟩
  have bl3 := below_trans bl2 b3 bl2.size
  go_wp2_with fail
  go_loopw [6] (fun v wr => ∃ k : Nat, k ≤ X.size ∧ v = .int .i64 (k : Int) ∧ Hid (wellK t k) ∧ Below w.heap.size w wr) (fun v _ => X.size - (intOf v).toNat)
  case atStart => exact ⟨0, Nat.zero_le _, rfl, ⟨by simp, by simp⟩, bl3⟩
  case round =>
    obtain ⟨k, hk, rfl, H, hbw⟩ := hrel
    by_cases hlt : k < X.size
    · have hlt' := Lib.hid hlt
      have hkb : k < t.bnd.length := by have := HXS.out; omega
      have e1 := hat.out k hlt hkb
      have q1 : inB Y ((X[k]'hlt).toNat : Int) = decide (t.bnd[k]'hkb ∈ t.free) := by rw [inB_iff, hYl.out, e1]
      have q2 : inB (X.extract 0 k) ((X[k]'hlt).toNat : Int) = decide (t.bnd[k]'hkb ∈ t.bnd.take k) := by rw [inB_iff, hex.out, e1]
      have HC1 : Hid (∀ w, Calls Tryz.prog 44 #[.string Y, .int .u8 ((X[k]'hlt).toNat : Int)] w fun e w' => e = .returned (.bool (decide (t.bnd[k]'hkb ∈ t.free))) ∧ w = w') := fun w => by rw [← q1]; exact HIF.out _ w
      have HC2 : Hid (∀ w, Calls Tryz.prog 44 #[.string (X.extract 0 k), .int .u8 ((X[k]'hlt).toNat : Int)] w fun e w' => e = .returned (.bool (decide (t.bnd[k]'hkb ∈ t.bnd.take k))) ∧ w = w') := fun w => by rw [← q2]; exact HIB.out _ _ w
      have hby : (X[k]'hlt).toNat < 256 := (X[k]'hlt).toNat_lt
      by_cases d1 : t.bnd[k]'hkb ∈ t.free
      · have hno := Lib.hid (wellK_free t k hkb d1)
        rw [decide_eq_true d1] at HC1
        clear d1 HC2 q1 q2 e1
        go_wp2_with fail
        go_quiet ((go_at_call_of 44 Y; exact Calls.quiet_of_same ((HC1.out _).mono fun _ _ hh => ⟨hh.1, hh.2.symm⟩)))
        go_wp2_with fail
        go_ret2
        exact ⟨by rw [decide_eq_false hno.out]; rfl, below_drewN' hbw _⟩
      · rw [decide_eq_false d1] at HC1
        by_cases d2 : t.bnd[k]'hkb ∈ t.bnd.take k
        · have hno := Lib.hid (wellK_twice t k hkb d2)
          rw [decide_eq_true d2] at HC2
          clear d1 d2 q1 q2 e1
          go_wp2_with fail
          go_quiet (first | (go_at_call_of 44 Y; exact Calls.quiet_of_same ((HC1.out _).mono fun _ _ hh => ⟨hh.1, hh.2.symm⟩)) | (go_at_call 44; exact Calls.quiet_of_same ((HC2.out _).mono fun _ _ hh => ⟨hh.1, hh.2.symm⟩)))
          go_wp2_with fail
          go_ret2
          exact ⟨by rw [decide_eq_false hno.out]; rfl, below_drewN' hbw _⟩
        · have H' := Lib.hid (wellK_step t k hkb H.out d1 d2)
          rw [decide_eq_false d2] at HC2
          clear d1 d2 q1 q2 e1
          go_wp2_with fail
          go_quiet (first | (go_at_call_of 44 Y; exact Calls.quiet_of_same ((HC1.out _).mono fun _ _ hh => ⟨hh.1, hh.2.symm⟩)) | (go_at_call 44; exact Calls.quiet_of_same ((HC2.out _).mono fun _ _ hh => ⟨hh.1, hh.2.symm⟩)))
          go_wp2_with fail
          go_roundw
          case rel => exact ⟨k + 1, by omega, by go_num, H', below_drewN' hbw _⟩
          case measure => simp [intOf]; omega
    · have hyes := Lib.hid (wellK_all t k (by have := HXS.out; omega) H.out)
      go_wp2_with fail
      go_ret2
      exact ⟨by rw [decide_eq_true hyes.out]; rfl, hbw⟩

set_option maxHeartbeats 2000000 in
theorem implWell (s : ByteArray) (T : TypeId) (V : Value) (Bi Fi : Int) (K L : Nat) (xs : List Value) (hK : K ≤ 1000) (hL : L ≤ 1000) (HP : ∀ w, Calls Tryz.prog 25 #[.string s] w fun e w' => e = .returned (.tuple #[.iface T V, .bool true]) ∧ Below w.heap.size w w') (HB : ∀ w, Calls Tryz.prog 40 #[.iface T V] w fun e w' => e = .returned (.int .u32 Bi) ∧ Below w.heap.size w w') (HI : ∀ w, Calls Tryz.prog 43 #[.iface T V] w fun e w' => e = .returned (.int .i64 (K : Int)) ∧ Below w.heap.size w w')
    (HL : ∀ w, Calls Tryz.prog 34 #[.int .u32 Bi] w fun e w' => ∃ v, e = .returned v ∧ w'.ownsRow w.heap.size 5 1 v L xs ∧ Below w.heap.size w w') (HF : ∀ w, Calls Tryz.prog 33 #[.iface T V] w fun e w' => e = .returned (.int .u32 Fi) ∧ Below w.heap.size w w') (w : World) :
    Calls Tryz.prog 16 #[.string s] w fun e w' => e = .returned (.tuple #[.bool (decide (K = L) && (bits .and .u32 Bi Fi == 0)), .bool true]) ∧ Below w.heap.size w w' := by
  have HP' := Lib.hid HP
  have HB' := Lib.hid HB
  have HI' := Lib.hid HI
  have HL' := Lib.hid HL
  have HF' := Lib.hid HF
  clear HP HB HI HL HF
  go_enter Tryz.func16, Tryz.ntmps16
  go_wp2_with fail
  refine (HP'.out _).mono ?_
  rintro e w1 ⟨rfl, b1⟩
  go_wp2_with fail
  refine (HB'.out _).mono ?_
  rintro e w2 ⟨rfl, b2⟩
  have bl2 := below_trans b1 b2 b1.size
  go_wp2_with fail
  refine (HI'.out _).mono ?_
  rintro e w3 ⟨rfl, b3⟩
  have bl3 := below_trans bl2 b3 bl2.size
  go_wp2_with fail
  refine (HL'.out _).mono ?_
  rintro e w4 ⟨v, rfl, ho, b4⟩
  have bl4 := below_trans bl3 b4 bl3.size
  clear b1 b2 b3 b4
  have hv : ∃ a c, v = .slice a L c := by
    rcases ho.2 with ⟨rfl, rfl⟩ | ⟨g, cap, cur, rfl, _⟩
    · exact ⟨_, _, rfl⟩
    · exact ⟨_, _, rfl⟩
  clear ho
  obtain ⟨a, c, rfl⟩ := hv
  by_cases hq : K = L
  · have q1 : ((K : Int) == (L : Int)) = true := by simp [hq]
    have hd := Lib.hid (decide_eq_true hq)
    clear hq
    go_wp2_with fail
    refine (HF'.out _).mono ?_
    rintro e w5 ⟨rfl, b5⟩
    have bl5 := below_trans bl4 b5 bl4.size
    go_wp2_with fail
    go_ret2
    exact ⟨by rw [hd.out, Bool.true_and]; rfl, bl5⟩
  · have q1 : ((K : Int) == (L : Int)) = false := by rw [beq_eq_false_iff_ne]; omega
    have hd := Lib.hid (decide_eq_false hq)
    clear hq
    go_wp2_with fail
    go_ret2
    exact ⟨by rw [hd.out, Bool.false_and]; rfl, bl4⟩

end Go.Proofs.YtpabmidjfpabdaaGreat.T1
