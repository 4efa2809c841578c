/- The names that signs bind, in the specification and in the program. -/
import Derived.Test.YtpahhlcfbmmocabIf
namespace Go.Proofs.Ytpahhlcfbmmocab.T1
open Go.RowKit
set_option maxRecDepth 100000
set_option linter.unusedVariables false

theorem B_app (l m : List UInt8) : B l ++ B m = B (l ++ m) := by apply B_eq; simp [B]
theorem one_app (c : UInt8) (m : List UInt8) : one c ++ B m = B (c :: m) := by apply B_eq; simp [B, one]
theorem nil_app (m : List UInt8) : (⟨#[]⟩ : ByteArray) ++ B m = B m := by apply B_eq; simp [B]
set_option maxHeartbeats 2000000 in
theorem tb_0 (s : ByteArray) (HB : ∀ w, Calls Try.prog 67 #[.string s] w fun e w' => e = .returned (.tuple #[.int .u8 0, .bool false]) ∧ w = w') (HP : ∀ w, Calls Try.prog 68 #[.string s] w (PartsS [] w))  (w : World) :
    Calls Try.prog 32 #[.string s] w fun e w' => e = .returned (.string (⟨#[]⟩)) ∧ Below w.heap.size w w' := by
  have HP' := Lib.hid HP
  have HB' := Lib.hid HB
  clear HP HB 
  go_enter Try.func32, Try.ntmps32
  go_wp2_with fail
  refine (HB'.out _).mono ?_
  rintro e w0 ⟨rfl, rfl⟩
  go_wp2_with fail
  refine (HP'.out _).mono ?_
  rintro e w1 ⟨rfl, bl⟩
  have bl0 := bl
  go_wp2_with fail
  refine wp_loop_rounds 1 ?_
  rw [rounds_succ]
  go_wp2_with fail
  go_ret
  exact ⟨rfl, bl0⟩

set_option maxHeartbeats 2000000 in
theorem tb_1 (s u U : ByteArray) (hU : U.size ≤ 1000) (HB : ∀ w, Calls Try.prog 67 #[.string s] w fun e w' => e = .returned (.tuple #[.int .u8 0, .bool false]) ∧ w = w') (HP : ∀ w, Calls Try.prog 68 #[.string s] w fun e w' => ∃ b, e = .returned (.slice (some ⟨b, 0, none⟩) 1 1) ∧ w.heap.size ≤ b ∧ w'.heap[b]? = some (.cells #[.string u] 9 (0, 0)) ∧ Below w.heap.size w w') (IH : ∀ w, Calls Try.prog 32 #[.string u] w fun e w' => e = .returned (.string U) ∧ Below w.heap.size w w') (w : World) :
    Calls Try.prog 32 #[.string s] w fun e w' => e = .returned (.string (⟨#[]⟩ ++ U)) ∧ Below w.heap.size w w' := by
  have HP' := Lib.hid HP
  have HB' := Lib.hid HB
  have IH' := Lib.hid IH
  clear HP HB IH
  go_enter Try.func32, Try.ntmps32
  go_wp2_with fail
  refine (HB'.out _).mono ?_
  rintro e w0 ⟨rfl, rfl⟩
  go_wp2_with fail
  refine (HP'.out _).mono ?_
  rintro e w1 ⟨b, rfl, hb, hh, bl⟩
  have bl0 := bl
  have c0 := cellOf1 hh
  have Hh := Lib.hid hh
  clear hh
  go_wp2_with fail
  refine wp_loop_rounds 2 ?_
  rw [rounds_succ]
  go_wp2_with fail
  refine (IH'.out _).mono ?_
  rintro e w2 ⟨rfl, b2⟩
  have bl2 := below_trans bl0 b2 bl0.size
  have h2 := (b2.block b (lt_of_block Hh.out)).trans Hh.out
  clear c0 bl bl0
  clear h2
  go_wp2_with fail
  rw [rounds_succ]
  go_wp2_with fail
  go_ret
  exact ⟨rfl, bl2⟩

set_option maxHeartbeats 2000000 in
theorem tb_1b (s u U : ByteArray) (hU : U.size ≤ 1000) (x : UInt8) (HB : ∀ w, Calls Try.prog 67 #[.string s] w fun e w' => e = .returned (.tuple #[.int .u8 (x.toNat : Int), .bool true]) ∧ w = w') (HP : ∀ w, Calls Try.prog 68 #[.string s] w fun e w' => ∃ b, e = .returned (.slice (some ⟨b, 0, none⟩) 1 1) ∧ w.heap.size ≤ b ∧ w'.heap[b]? = some (.cells #[.string u] 9 (0, 0)) ∧ Below w.heap.size w w') (IH : ∀ w, Calls Try.prog 32 #[.string u] w fun e w' => e = .returned (.string U) ∧ Below w.heap.size w w') (w : World) :
    Calls Try.prog 32 #[.string s] w fun e w' => e = .returned (.string (one x ++ U)) ∧ Below w.heap.size w w' := by
  have hcv := conv1 x
  obtain ⟨xx, hxx⟩ : ∃ xx, xx = (x.toNat : Int) := ⟨_, rfl⟩
  rw [← hxx] at hcv HB
  obtain ⟨O, hO⟩ : ∃ O, O = one x := ⟨_, rfl⟩
  have hO1 : O.size ≤ 1 := by rw [hO]; exact Nat.le_refl 1
  rw [← hO] at hcv ⊢
  clear hxx hO
  have HP' := Lib.hid HP
  have HB' := Lib.hid HB
  have IH' := Lib.hid IH
  clear HP HB IH
  go_enter Try.func32, Try.ntmps32
  go_wp2_with fail
  refine (HB'.out _).mono ?_
  rintro e w0 ⟨rfl, rfl⟩
  go_wp2_with fail
  refine (HP'.out _).mono ?_
  rintro e w1 ⟨b, rfl, hb, hh, bl⟩
  have bl0 := below_trans ((Below.refl _ _).alloc (Nat.le_refl _) _) bl (by simp)
  have c0 := cellOf1 hh
  have Hh := Lib.hid hh
  clear hh
  go_wp2_with fail
  refine wp_loop_rounds 2 ?_
  rw [rounds_succ]
  go_wp2_with fail
  refine (IH'.out _).mono ?_
  rintro e w2 ⟨rfl, b2⟩
  have bl2 := below_trans bl0 b2 bl0.size
  have h2 := (b2.block b (lt_of_block Hh.out)).trans Hh.out
  clear c0 bl bl0
  clear h2
  go_wp2_with fail
  rw [rounds_succ]
  go_wp2_with fail
  go_ret
  exact ⟨rfl, bl2⟩

set_option maxHeartbeats 2000000 in
theorem tb_2 (s u U v V : ByteArray) (hU : U.size ≤ 1000) (hV : V.size ≤ 1000) (HB : ∀ w, Calls Try.prog 67 #[.string s] w fun e w' => e = .returned (.tuple #[.int .u8 0, .bool false]) ∧ w = w') (HP : ∀ w, Calls Try.prog 68 #[.string s] w fun e w' => ∃ b, e = .returned (.slice (some ⟨b, 0, none⟩) 2 2) ∧ w.heap.size ≤ b ∧ w'.heap[b]? = some (.cells #[.string u, .string v] 9 (0, 0)) ∧ Below w.heap.size w w') (IH : ∀ w, Calls Try.prog 32 #[.string u] w fun e w' => e = .returned (.string U) ∧ Below w.heap.size w w') (IH2 : ∀ w, Calls Try.prog 32 #[.string v] w fun e w' => e = .returned (.string V) ∧ Below w.heap.size w w') (w : World) :
    Calls Try.prog 32 #[.string s] w fun e w' => e = .returned (.string (⟨#[]⟩ ++ U ++ V)) ∧ Below w.heap.size w w' := by
  have HP' := Lib.hid HP
  have HB' := Lib.hid HB
  have IH' := Lib.hid IH
  have IH2' := Lib.hid IH2
  clear HP HB IH IH2
  go_enter Try.func32, Try.ntmps32
  go_wp2_with fail
  refine (HB'.out _).mono ?_
  rintro e w0 ⟨rfl, rfl⟩
  go_wp2_with fail
  refine (HP'.out _).mono ?_
  rintro e w1 ⟨b, rfl, hb, hh, bl⟩
  have bl0 := bl
  have c0 := cellOf2a hh
  have Hh := Lib.hid hh
  clear hh
  go_wp2_with fail
  refine wp_loop_rounds 3 ?_
  rw [rounds_succ]
  go_wp2_with fail
  refine (IH'.out _).mono ?_
  rintro e w2 ⟨rfl, b2⟩
  have bl2 := below_trans bl0 b2 bl0.size
  have h2 := (b2.block b (lt_of_block Hh.out)).trans Hh.out
  clear c0 bl bl0
  have c1 := cellOf2b h2
  clear h2
  go_wp2_with fail
  rw [rounds_succ]
  go_wp2_with fail
  refine (IH2'.out _).mono ?_
  rintro e w3 ⟨rfl, b3⟩
  have bl3 := below_trans bl2 b3 bl2.size
  clear c1
  go_wp2_with fail
  rw [rounds_succ]
  go_wp2_with fail
  go_ret
  exact ⟨rfl, bl3⟩

theorem convS {s X Y : ByteArray} (h : X = Y) (hc : ∀ w, Calls Try.prog 32 #[.string s] w fun e w' => e = .returned (.string X) ∧ Below w.heap.size w w') : ∀ w, Calls Try.prog 32 #[.string s] w fun e w' => e = .returned (.string Y) ∧ Below w.heap.size w w' := by rw [← h]; exact hc
theorem bnd_pr (t : Tm) : t.bnd.length ≤ t.pr.length := Nat.le_trans (bnd_len t) (size_le_pr t)
theorem tmBinders_any (t : Tm) : t.ok nmE = true → t.pr.length ≤ 700 → ∀ w, Calls Try.prog 32 #[.string (S t)] w fun e w' => e = .returned (.string (B t.bnd)) ∧ Below w.heap.size w w' := by
  have sz : ∀ p : Tm, p.pr.length ≤ 700 → (B p.bnd).size ≤ 1000 := fun p h => by rw [B_size]; have := bnd_pr p; omega
  induction t with
  | nil => exact fun ho hl => tb_0 _ (tmBinds_any .nil ho hl) (tmParts_any .nil ho hl)
  | snd a b p ih =>
    intro ho hl
    have ho' := ho
    simp only [Tm.ok, Bool.and_eq_true] at ho'
    have hl' := hl
    simp only [Tm.pr, List.length_cons] at hl'
    exact convS (nil_app p.bnd) (tb_1 _ _ _ (sz p (by omega)) (tmBinds_any (.snd a b p) ho hl) (tmParts_any (.snd a b p) ho hl) (ih ho'.2 (by omega)))
  | rcv a x p ih =>
    intro ho hl
    have ho' := ho
    simp only [Tm.ok, Bool.and_eq_true] at ho'
    have hl' := hl
    simp only [Tm.pr, List.length_cons] at hl'
    exact convS (one_app x p.bnd) (tb_1b _ _ _ (sz p (by omega)) x (tmBinds_any (.rcv a x p) ho hl) (tmParts_any (.rcv a x p) ho hl) (ih ho'.2 (by omega)))
  | tau p ih =>
    intro ho hl
    have ho' := ho
    simp only [Tm.ok] at ho'
    have hl' := hl
    simp only [Tm.pr, List.length_cons] at hl'
    exact convS (nil_app p.bnd) (tb_1 _ _ _ (sz p (by omega)) (tmBinds_any (.tau p) ho hl) (tmParts_any (.tau p) ho hl) (ih ho' (by omega)))
  | own x p ih =>
    intro ho hl
    have ho' := ho
    simp only [Tm.ok, Bool.and_eq_true] at ho'
    have hl' := hl
    simp only [Tm.pr, List.length_cons] at hl'
    exact convS (one_app x p.bnd) (tb_1b _ _ _ (sz p (by omega)) x (tmBinds_any (.own x p) ho hl) (tmParts_any (.own x p) ho hl) (ih ho'.2 (by omega)))
  | mat a b p ih =>
    intro ho hl
    have ho' := ho
    simp only [Tm.ok, Bool.and_eq_true] at ho'
    have hl' := hl
    simp only [Tm.pr, List.length_cons] at hl'
    exact convS (nil_app p.bnd) (tb_1 _ _ _ (sz p (by omega)) (tmBinds_any (.mat a b p) ho hl) (tmParts_any (.mat a b p) ho hl) (ih ho'.2 (by omega)))
  | rep p ih =>
    intro ho hl
    have ho' := ho
    simp only [Tm.ok] at ho'
    have hl' := hl
    simp only [Tm.pr, List.length_cons] at hl'
    exact convS (nil_app p.bnd) (tb_1 _ _ _ (sz p (by omega)) (tmBinds_any (.rep p) ho hl) (tmParts_any (.rep p) ho hl) (ih ho' (by omega)))
  | sum p q ih ih2 =>
    intro ho hl
    have ho' := ho
    simp only [Tm.ok, Bool.and_eq_true] at ho'
    have hl' := hl
    simp only [Tm.pr, List.length_cons, List.length_append] at hl'
    exact convS (by rw [nil_app, B_app]; rfl) (tb_2 _ _ _ _ _ (sz p (by omega)) (sz q (by omega)) (tmBinds_any (.sum p q) ho hl) (tmParts_any (.sum p q) ho hl) (ih ho'.1 (by omega)) (ih2 ho'.2 (by omega)))
  | par p q ih ih2 =>
    intro ho hl
    have ho' := ho
    simp only [Tm.ok, Bool.and_eq_true] at ho'
    have hl' := hl
    simp only [Tm.pr, List.length_cons, List.length_append] at hl'
    exact convS (by rw [nil_app, B_app]; rfl) (tb_2 _ _ _ _ _ (sz p (by omega)) (sz q (by omega)) (tmBinds_any (.par p q) ho hl) (tmParts_any (.par p q) ho hl) (ih ho'.1 (by omega)) (ih2 ho'.2 (by omega)))

theorem setN_snoc (l : List UInt8) (c : UInt8) : setN (l ++ [c]) = setN l ||| 2 ^ (c.toNat - 97) := by
  induction l with
  | nil => simp [setN]
  | cons x l ih => show setN (l ++ [c]) ||| _ = _; rw [ih, setN, Nat.or_assoc, Nat.or_assoc, Nat.or_comm (2 ^ (c.toNat - 97))]
/-- The block of the set holds the names that the signs visited so far bind. -/
def BndI (bn : Nat) (acc : List Tm) (w : World) : Prop := Lets (acc.filterMap Tm.binds) ∧ ∃ T, w.heap[bn]? = some (.cells #[.int .u32 (setN (acc.filterMap Tm.binds) : Nat)] T (0, 0))
theorem subs_bnd (t : Tm) : t.subs.filterMap Tm.binds = t.bnd := by
  induction t with
  | nil => rfl
  | snd a b p ih => rw [Tm.subs, List.filterMap_cons_none (by rfl), ih]; rfl
  | rcv a x p ih => rw [Tm.subs, List.filterMap_cons_some (b := x) (by rfl), ih]; rfl
  | tau p ih => rw [Tm.subs, List.filterMap_cons_none (by rfl), ih]; rfl
  | sum p q ih ih2 => rw [Tm.subs, List.filterMap_cons_none (by rfl), List.filterMap_append, ih, ih2]; rfl
  | par p q ih ih2 => rw [Tm.subs, List.filterMap_cons_none (by rfl), List.filterMap_append, ih, ih2]; rfl
  | own x p ih => rw [Tm.subs, List.filterMap_cons_some (b := x) (by rfl), ih]; rfl
  | mat a b p ih => rw [Tm.subs, List.filterMap_cons_none (by rfl), ih]; rfl
  | rep p ih => rw [Tm.subs, List.filterMap_cons_none (by rfl), ih]; rfl
theorem cf_b1 (args : Array Value) (w : World) : (callFunc 72 args).run Try.prog w = .ok (.enter 72 args) w := by kernel_rfl
set_option maxHeartbeats 2000000 in
theorem b1_no (bn : Nat) (T : TypeId) (V : Value) (HB : ∀ w, Calls Try.prog 73 #[.iface T V] w fun e w' => e = .returned (.tuple #[.int .u8 0, .bool false]) ∧ Below w.heap.size w w') (w : World) :
    Calls Try.prog 72 #[.iface T V, .pointer (some ⟨bn, 0, none⟩)] w fun e w' => e = .returned (.tuple #[]) ∧ Below w.heap.size w w' := by
  have HB' := Lib.hid HB
  clear HB
  go_enter Try.func72, Try.ntmps72
  go_wp2_with fail
  refine (HB'.out _).mono ?_
  rintro e w1 ⟨rfl, bl⟩
  go_wp2_with fail
  go_end0
  exact ⟨rfl, bl⟩
set_option maxHeartbeats 2000000 in
theorem b1_yes (bn : Nat) (T : TypeId) (V : Value) (x : UInt8) (l : List UInt8) (hx : nmL x = true) (hl : Lets l) (HB : ∀ w, Calls Try.prog 73 #[.iface T V] w fun e w' => e = .returned (.tuple #[.int .u8 (x.toNat : Int), .bool true]) ∧ Below w.heap.size w w') (w : World) (Tn : TypeId) (hn : w.heap[bn]? = some (.cells #[.int .u32 (setN l : Nat)] Tn (0, 0))) :
    Calls Try.prog 72 #[.iface T V, .pointer (some ⟨bn, 0, none⟩)] w fun e w' => e = .returned (.tuple #[]) ∧ w'.heap[bn]? = some (.cells #[.int .u32 (setN (l ++ [x]) : Nat)] Tn (0, 0)) ∧ Only bn w w' := by
  have HB' := Lib.hid HB
  have hx' := (nmL_iff x).1 hx
  have HW := with_any (setN l) x.toNat (setN_lt32 _ hl) hx'.1 hx'.2
  rw [← setN_snoc] at HW
  have HW' := Lib.hid HW
  obtain ⟨N, hN⟩ : ∃ N, N = ((setN l : Nat) : Int) := ⟨_, rfl⟩
  obtain ⟨M, hM⟩ : ∃ M, M = ((setN (l ++ [x]) : Nat) : Int) := ⟨_, rfl⟩
  obtain ⟨xx, hxx⟩ : ∃ xx, xx = (x.toNat : Int) := ⟨_, rfl⟩
  rw [← hN, ← hM, ← hxx] at HW'
  rw [← hN] at hn
  rw [← hM]
  rw [← hxx] at HB'
  have Hn := Lib.hid hn
  clear HB HW hN hM hxx hx' hx hn hl
  go_enter Try.func72, Try.ntmps72
  go_wp2_with fail
  refine (HB'.out _).mono ?_
  rintro e w1 ⟨rfl, bl⟩
  have hn1 := (bl.block bn (lt_of_block Hn.out)).trans Hn.out
  have cn := cellOf1 hn1
  have fn := free_of_one hn1
  have Hn1 := Lib.hid hn1
  clear hn1
  go_wp2_with fail
  refine (HW'.out _).mono ?_
  rintro e w2 ⟨rfl, rfl⟩
  go_wp2_with fail
  go_end0
  exact ⟨rfl, one_setCell Hn1.out, ((Only.refl bn w).below bl).setCell _ _ _⟩
theorem visitAll_ok (CF : FuncId) (caps : Array Value) (bn : Nat) (I : List Tm → World → Prop) (hF : ∀ args w, (callFunc CF args).run Try.prog w = .ok (.enter CF args) w)
    (hI : ∀ acc w w', I acc w → Below w.heap.size w w' → I acc w') (hB : ∀ acc w, I acc w → bn < w.heap.size)
    (hv : ∀ t, t.ok nmL = true → ∀ acc w, I acc w → Calls Try.prog CF (#[.iface (tyOf t) (pay t)] ++ caps) w (VisPost bn I (acc ++ [t]) w)) (t : Tm) : t.ok nmL = true → ∀ (acc : List Tm) (w : World), I acc w →
    Calls Try.prog 71 #[.iface (tyOf t) (pay t), .func (.func CF) #[] caps] w (VisPost bn I (acc ++ t.subs) w) := by
  induction t with
  | nil => exact fun ho => visit0 CF caps bn I hF hI hB _ _ .nil (parts_fact .nil) (hv .nil ho)
  | snd a b p ih =>
    intro ho
    have ho' := ho
    simp only [Tm.ok, Bool.and_eq_true] at ho'
    exact visit1 CF caps bn I hF hI hB _ _ _ _ (.snd a b p) p.subs (parts_fact (.snd a b p)).pf (hv _ ho) (ih ho'.2)
  | rcv a b p ih =>
    intro ho
    have ho' := ho
    simp only [Tm.ok, Bool.and_eq_true] at ho'
    exact visit1 CF caps bn I hF hI hB _ _ _ _ (.rcv a b p) p.subs (parts_fact (.rcv a b p)).pf (hv _ ho) (ih ho'.2)
  | tau p ih =>
    intro ho
    have ho' := ho
    simp only [Tm.ok] at ho'
    exact visit1 CF caps bn I hF hI hB _ _ _ _ (.tau p) p.subs (parts_fact (.tau p)).pf (hv _ ho) (ih ho')
  | own x p ih =>
    intro ho
    have ho' := ho
    simp only [Tm.ok, Bool.and_eq_true] at ho'
    exact visit1 CF caps bn I hF hI hB _ _ _ _ (.own x p) p.subs (parts_fact (.own x p)).pf (hv _ ho) (ih ho'.2)
  | mat a b p ih =>
    intro ho
    have ho' := ho
    simp only [Tm.ok, Bool.and_eq_true] at ho'
    exact visit1 CF caps bn I hF hI hB _ _ _ _ (.mat a b p) p.subs (parts_fact (.mat a b p)).pf (hv _ ho) (ih ho'.2)
  | rep p ih =>
    intro ho
    have ho' := ho
    simp only [Tm.ok] at ho'
    exact visit1 CF caps bn I hF hI hB _ _ _ _ (.rep p) p.subs (parts_fact (.rep p)).pf (hv _ ho) (ih ho')
  | sum p q ih ih2 =>
    intro ho
    have ho' := ho
    simp only [Tm.ok, Bool.and_eq_true] at ho'
    exact visit2 CF caps bn I hF hI hB _ _ _ _ _ _ (.sum p q) p.subs q.subs (parts_fact (.sum p q)).pf (hv _ ho) (ih ho'.1) (ih2 ho'.2)
  | par p q ih ih2 =>
    intro ho
    have ho' := ho
    simp only [Tm.ok, Bool.and_eq_true] at ho'
    exact visit2 CF caps bn I hF hI hB _ _ _ _ _ _ (.par p q) p.subs q.subs (parts_fact (.par p q)).pf (hv _ ho) (ih ho'.1) (ih2 ho'.2)

theorem lets_snoc {l : List UInt8} {x : UInt8} (h : Lets l) (k : nmL x = true) : Lets (l ++ [x]) := fun c hc => by
  rcases List.mem_append.1 hc with hc | hc
  · exact h c hc
  · simp at hc; subst hc; exact (nmL_iff _).1 k
theorem binds_ok (t : Tm) (ho : t.ok nmL = true) (x : UInt8) (h : t.binds = some x) : nmL x = true := by
  cases t <;> simp_all [Tm.binds, Tm.ok]
theorem b1_any (bn : Nat) (t : Tm) (ho : t.ok nmL = true) (acc : List Tm) (w : World) (h0 : BndI bn acc w) :
    Calls Try.prog 72 (#[.iface (tyOf t) (pay t)] ++ #[.pointer (some ⟨bn, 0, none⟩)]) w (VisPost bn (BndI bn) (acc ++ [t]) w) := by
  obtain ⟨hl, Tn, hn⟩ := h0
  have hb := binderOf_any t
  cases hq : t.binds with
  | none =>
    rw [hq] at hb
    refine (b1_no bn _ _ hb w).mono ?_
    rintro e w' ⟨he, bl⟩
    have e1 : (acc ++ [t]).filterMap Tm.binds = acc.filterMap Tm.binds := by simp [hq]
    exact ⟨he, ⟨by rw [e1]; exact hl, Tn, by rw [e1]; exact (bl.block bn (lt_of_block hn)).trans hn⟩, (Only.refl bn w).below bl⟩
  | some x =>
    rw [hq] at hb
    refine (b1_yes bn _ _ x _ (binds_ok t ho x hq) hl hb w Tn hn).mono ?_
    rintro e w' ⟨he, h1, h2⟩
    have e1 : (acc ++ [t]).filterMap Tm.binds = acc.filterMap Tm.binds ++ [x] := by simp [hq]
    exact ⟨he, ⟨by rw [e1]; exact lets_snoc hl (binds_ok t ho x hq), Tn, by rw [e1]; exact h1⟩, h2⟩

set_option maxHeartbeats 2000000 in
theorem boundNames_any (t : Tm) (ho : t.ok nmL = true) : ∀ w, Calls Try.prog 34 #[.iface (tyOf t) (pay t)] w fun e w' => e = .returned (.int .u32 (setN t.bnd : Nat)) ∧ Below w.heap.size w w' := by
  intro w
  have HV := Lib.hid (visitAll_ok 72 #[.pointer (some ⟨w.heap.size, 0, none⟩)] w.heap.size (BndI w.heap.size) cf_b1
    (fun acc w1 w' h bl => by
      obtain ⟨hl, Tn, hn⟩ := h
      exact ⟨hl, Tn, (bl.block _ (lt_of_block hn)).trans hn⟩)
    (fun acc w1 h => by obtain ⟨_, Tn, hn⟩ := h; exact lt_of_block hn)
    (fun t ho acc w1 h => b1_any _ t ho acc w1 h) t ho)
  have H0 : Hid (∀ T1, BndI w.heap.size [] (w.alloc (.cells #[.int .u32 0] T1))) :=
    fun T1 => ⟨lets_nil0, T1, new_block0 _ _⟩
  have HS := Lib.hid (subs_bnd t)
  obtain ⟨T, hT⟩ : ∃ T, T = tyOf t := ⟨_, rfl⟩
  obtain ⟨V, hV⟩ : ∃ V, V = pay t := ⟨_, rfl⟩
  obtain ⟨N, hN⟩ : ∃ N, N = ((setN t.bnd : Nat) : Int) := ⟨_, rfl⟩
  rw [← hT, ← hV] at HV ⊢
  rw [← hN]
  have HN := Lib.hid hN
  clear hT hV hN ho
  go_enter Try.func34, Try.ntmps34
  go_wp2_with fail
  refine ((HV.out) [] _ (H0.out _)).mono ?_
  rintro e w1 ⟨rfl, ⟨_, Tn, hn⟩, o1⟩
  rw [List.nil_append, HS.out, ← HN.out] at hn
  have cn := cellOf1 hn
  go_wp2_with fail
  go_ret
  exact ⟨rfl, Below.only ((Below.refl _ _).alloc (Nat.le_refl _) _) o1 (by omega) (by simp)⟩

end Go.Proofs.Ytpahhlcfbmmocab.T1
