/- Uses of a free name: the places at which no sign binds it; in the program. -/
import Derived.Test.YtdfelpahacmdpabIw
import Derived.Test.YtdfelpahacmdpabCount
import Derived.Test.YtdfelpahacmdpabHc
import Derived.Deep.RegionWith
namespace Go.Proofs.Ytdfelpahacmdpab.T1
open Go.RowKit
set_option maxRecDepth 100000
set_option linter.unusedVariables false
set_option linter.unusedSimpArgs false

/-- The subterms around which no sign binds a name, the whole first. -/
def Tm.vis (a : UInt8) : Tm → List Tm
  | .nil => [.nil]
  | .snd x y p => .snd x y p :: p.vis a
  | .rcv x y p => .rcv x y p :: (if y = a then [] else p.vis a)
  | .tau p => .tau p :: p.vis a
  | .sum p q => .sum p q :: (p.vis a ++ q.vis a)
  | .par p q => .par p q :: (p.vis a ++ q.vis a)
  | .own x p => .own x p :: (if x = a then [] else p.vis a)
  | .mat x y p => .mat x y p :: p.vis a
  | .rep p => .rep p :: p.vis a
def us0 (a : UInt8) : Tm → Bool
  | .snd x _ _ => x == a
  | _ => false
def us1 (a : UInt8) : Tm → Bool
  | .rcv x _ _ => x == a
  | _ => false
def us2 (a : UInt8) : Tm → Bool
  | .snd _ y _ => y == a
  | _ => false
def us3 (a : UInt8) : Tm → Bool
  | .mat x y _ => x == a || y == a
  | _ => false
def us4 (a : UInt8) : Tm → Bool
  | .rep p => decide (a ∈ p.free)
  | _ => false
theorem vis_len (a : UInt8) (t : Tm) : (t.vis a).length ≤ t.size := by
  induction t with
  | rcv x y p ih => simp only [Tm.vis, Tm.size, List.length_cons]; split <;> simp <;> omega
  | own x p ih => simp only [Tm.vis, Tm.size, List.length_cons]; split <;> simp <;> omega
  | _ => simp_all [Tm.vis, Tm.size] <;> omega

set_option maxHeartbeats 1000000 in
theorem vf0 (CF : FuncId) (caps : Array Value) (bn : Nat) (I : List Tm → World → Prop) (hF : ∀ args w, (callFunc CF args).run Try.prog w = .ok (.enter CF args) w)
    (hI : ∀ acc w w', I acc w → Below w.heap.size w w' → I acc w') (hB : ∀ acc w, I acc w → bn < w.heap.size)
    (T : TypeId) (V : Value) (t : Tm) (a : UInt8) (hP : ∃ (F : FuncId) (R : Value), (∀ n w, (method (n + 1) T V "loop.example/g01175/impl.parts").run Try.prog w = .ok (F, R) w) ∧ (∀ n w, (nilAhead (n + 1) T V "loop.example/g01175/impl.parts").run Try.prog w = .ok (some false) w) ∧ (∀ args w, (callFunc F args).run Try.prog w = .ok (.enter F args) w) ∧ ∀ w, Calls Try.prog F #[R] w (PartsPost [] w)) (HBi : ∀ w, Calls Try.prog 46 #[.iface T V] w fun e w' => e = .returned (.tuple #[.int .u8 0, .bool false]) ∧ Below w.heap.size w w') (hv : ∀ acc w, I acc w → Calls Try.prog CF (#[.iface T V] ++ caps) w (VisPost bn I (acc ++ [t]) w)) (acc : List Tm) (w : World) (h0 : I acc w) :
    Calls Try.prog 51 #[.iface T V, .int .u8 (a.toNat : Int), .func (.func CF) #[] caps] w (VisPost bn I (acc ++ [t]) w) := by
  have HV := Lib.hid hv
  have HI := Lib.hid hI
  have HB := Lib.hid hB
  have HBi' := Lib.hid HBi
  obtain ⟨F, R, hm, hn, hc, hp⟩ := hP
  have HP := Lib.hid hp
  clear hv hI hB HBi hp
  go_enter Try.func51, Try.ntmps51
  go_wp2_with fail
  refine (HV.out acc w h0).mono ?_
  rintro e w1 ⟨rfl, i1, o1⟩
  have I1 := Lib.hid i1
  clear i1 h0
  go_wp2_with fail
  refine (HBi'.out w1).mono ?_
  rintro e w2 ⟨rfl, b2⟩
  have I2 := Lib.hid (HI.out _ _ _ I1.out b2)
  have o2 := o1.below b2
  clear b2 I1 o1
  go_wp2_with fail
  refine (HP.out w2).mono ?_
  rintro e w3 ⟨rfl, b3⟩
  go_wp2_with fail
  refine wp_loop_rounds 1 ?_
  rw [rounds_succ]
  go_wp2_with fail
  go_end0
  exact ⟨rfl, HI.out _ _ _ I2.out b3, o2.below b3⟩

set_option maxHeartbeats 1000000 in
theorem vf1 (CF : FuncId) (caps : Array Value) (bn : Nat) (I : List Tm → World → Prop) (hF : ∀ args w, (callFunc CF args).run Try.prog w = .ok (.enter CF args) w)
    (hI : ∀ acc w w', I acc w → Below w.heap.size w w' → I acc w') (hB : ∀ acc w, I acc w → bn < w.heap.size)
    (T : TypeId) (V : Value) (t : Tm) (a : UInt8) (tp : TypeId) (vp : Value) (ts : List Tm) (hP : ∃ (F : FuncId) (R : Value), (∀ n w, (method (n + 1) T V "loop.example/g01175/impl.parts").run Try.prog w = .ok (F, R) w) ∧ (∀ n w, (nilAhead (n + 1) T V "loop.example/g01175/impl.parts").run Try.prog w = .ok (some false) w) ∧ (∀ args w, (callFunc F args).run Try.prog w = .ok (.enter F args) w) ∧ ∀ w, Calls Try.prog F #[R] w fun e w' => ∃ b, e = .returned (.slice (some ⟨b, 0, none⟩) 1 1) ∧ w.heap.size ≤ b ∧ w'.heap[b]? = some (.cells #[.iface tp vp] 42 (0, 0)) ∧ Below w.heap.size w w') (HBi : ∀ w, Calls Try.prog 46 #[.iface T V] w fun e w' => e = .returned (.tuple #[.int .u8 0, .bool false]) ∧ Below w.heap.size w w') (hv : ∀ acc w, I acc w → Calls Try.prog CF (#[.iface T V] ++ caps) w (VisPost bn I (acc ++ [t]) w))
    (ih : ∀ acc w, I acc w → Calls Try.prog 51 #[.iface tp vp, .int .u8 (a.toNat : Int), .func (.func CF) #[] caps] w (VisPost bn I (acc ++ ts) w)) (acc : List Tm) (w : World) (h0 : I acc w) :
    Calls Try.prog 51 #[.iface T V, .int .u8 (a.toNat : Int), .func (.func CF) #[] caps] w (VisPost bn I (acc ++ t :: ts) w) := by
  have HV := Lib.hid hv
  have HI := Lib.hid hI
  have HB := Lib.hid hB
  have HBi' := Lib.hid HBi
  obtain ⟨F, R, hm, hn, hc, hp⟩ := hP
  have HP := Lib.hid hp
  have IH := Lib.hid ih
  clear hv hI hB HBi hp ih
  go_enter Try.func51, Try.ntmps51
  go_wp2_with fail
  refine (HV.out acc w h0).mono ?_
  rintro e w1 ⟨rfl, i1, o1⟩
  have I1 := Lib.hid i1
  clear i1 h0
  go_wp2_with fail
  refine (HBi'.out w1).mono ?_
  rintro e w2 ⟨rfl, b2⟩
  have I2 := Lib.hid (HI.out _ _ _ I1.out b2)
  have o2 := o1.below b2
  clear b2 I1 o1
  go_wp2_with fail
  refine (HP.out w2).mono ?_
  rintro e w3 ⟨b, rfl, hb, hh, b3⟩
  have I3 := Lib.hid (HI.out _ _ _ I2.out b3)
  have c0 := cellOf1 hh
  clear hh
  go_wp2_with fail
  refine wp_loop_rounds 2 ?_
  rw [rounds_succ]
  go_wp2_with fail
  refine (IH.out _ _ I3.out).mono ?_
  rintro e w4 ⟨rfl, i4, o4⟩
  have I4 := Lib.hid i4
  clear c0 i4
  go_wp2_with fail
  rw [rounds_succ]
  go_wp2_with fail
  go_end0
  exact ⟨rfl, by have := I4.out; rw [List.append_assoc] at this; exact this, (o2.below b3).trans o4⟩

set_option maxHeartbeats 1000000 in
theorem vf1b (CF : FuncId) (caps : Array Value) (bn : Nat) (I : List Tm → World → Prop) (hF : ∀ args w, (callFunc CF args).run Try.prog w = .ok (.enter CF args) w)
    (hI : ∀ acc w w', I acc w → Below w.heap.size w w' → I acc w') (hB : ∀ acc w, I acc w → bn < w.heap.size)
    (T : TypeId) (V : Value) (t : Tm) (a : UInt8) (tp : TypeId) (vp : Value) (ts : List Tm) (x : UInt8) (hxa : ((x.toNat : Int) == (a.toNat : Int)) = false) (hP : ∃ (F : FuncId) (R : Value), (∀ n w, (method (n + 1) T V "loop.example/g01175/impl.parts").run Try.prog w = .ok (F, R) w) ∧ (∀ n w, (nilAhead (n + 1) T V "loop.example/g01175/impl.parts").run Try.prog w = .ok (some false) w) ∧ (∀ args w, (callFunc F args).run Try.prog w = .ok (.enter F args) w) ∧ ∀ w, Calls Try.prog F #[R] w fun e w' => ∃ b, e = .returned (.slice (some ⟨b, 0, none⟩) 1 1) ∧ w.heap.size ≤ b ∧ w'.heap[b]? = some (.cells #[.iface tp vp] 42 (0, 0)) ∧ Below w.heap.size w w') (HBi : ∀ w, Calls Try.prog 46 #[.iface T V] w fun e w' => e = .returned (.tuple #[.int .u8 (x.toNat : Int), .bool true]) ∧ Below w.heap.size w w') (hv : ∀ acc w, I acc w → Calls Try.prog CF (#[.iface T V] ++ caps) w (VisPost bn I (acc ++ [t]) w))
    (ih : ∀ acc w, I acc w → Calls Try.prog 51 #[.iface tp vp, .int .u8 (a.toNat : Int), .func (.func CF) #[] caps] w (VisPost bn I (acc ++ ts) w)) (acc : List Tm) (w : World) (h0 : I acc w) :
    Calls Try.prog 51 #[.iface T V, .int .u8 (a.toNat : Int), .func (.func CF) #[] caps] w (VisPost bn I (acc ++ t :: ts) w) := by
  have HV := Lib.hid hv
  have HI := Lib.hid hI
  have HB := Lib.hid hB
  have HBi' := Lib.hid HBi
  obtain ⟨F, R, hm, hn, hc, hp⟩ := hP
  have HP := Lib.hid hp
  have IH := Lib.hid ih
  clear hv hI hB HBi hp ih
  go_enter Try.func51, Try.ntmps51
  go_wp2_with fail
  refine (HV.out acc w h0).mono ?_
  rintro e w1 ⟨rfl, i1, o1⟩
  have I1 := Lib.hid i1
  clear i1 h0
  go_wp2_with fail
  refine (HBi'.out w1).mono ?_
  rintro e w2 ⟨rfl, b2⟩
  have I2 := Lib.hid (HI.out _ _ _ I1.out b2)
  have o2 := o1.below b2
  clear b2 I1 o1
  go_wp2_with fail
  refine (HP.out w2).mono ?_
  rintro e w3 ⟨b, rfl, hb, hh, b3⟩
  have I3 := Lib.hid (HI.out _ _ _ I2.out b3)
  have c0 := cellOf1 hh
  clear hh
  go_wp2_with fail
  refine wp_loop_rounds 2 ?_
  rw [rounds_succ]
  go_wp2_with fail
  refine (IH.out _ _ I3.out).mono ?_
  rintro e w4 ⟨rfl, i4, o4⟩
  have I4 := Lib.hid i4
  clear c0 i4
  go_wp2_with fail
  rw [rounds_succ]
  go_wp2_with fail
  go_end0
  exact ⟨rfl, by have := I4.out; rw [List.append_assoc] at this; exact this, (o2.below b3).trans o4⟩

set_option maxHeartbeats 1000000 in
theorem vf1s (CF : FuncId) (caps : Array Value) (bn : Nat) (I : List Tm → World → Prop) (hF : ∀ args w, (callFunc CF args).run Try.prog w = .ok (.enter CF args) w)
    (hI : ∀ acc w w', I acc w → Below w.heap.size w w' → I acc w') (hB : ∀ acc w, I acc w → bn < w.heap.size)
    (T : TypeId) (V : Value) (t : Tm) (a : UInt8) (x : UInt8) (hxa : ((x.toNat : Int) == (a.toNat : Int)) = true) (HBi : ∀ w, Calls Try.prog 46 #[.iface T V] w fun e w' => e = .returned (.tuple #[.int .u8 (x.toNat : Int), .bool true]) ∧ Below w.heap.size w w') (hv : ∀ acc w, I acc w → Calls Try.prog CF (#[.iface T V] ++ caps) w (VisPost bn I (acc ++ [t]) w)) (acc : List Tm) (w : World) (h0 : I acc w) :
    Calls Try.prog 51 #[.iface T V, .int .u8 (a.toNat : Int), .func (.func CF) #[] caps] w (VisPost bn I (acc ++ [t]) w) := by
  have HV := Lib.hid hv
  have HI := Lib.hid hI
  have HB := Lib.hid hB
  have HBi' := Lib.hid HBi
  clear hv hI hB HBi
  go_enter Try.func51, Try.ntmps51
  go_wp2_with fail
  refine (HV.out acc w h0).mono ?_
  rintro e w1 ⟨rfl, i1, o1⟩
  have I1 := Lib.hid i1
  clear i1 h0
  go_wp2_with fail
  refine (HBi'.out w1).mono ?_
  rintro e w2 ⟨rfl, b2⟩
  have I2 := Lib.hid (HI.out _ _ _ I1.out b2)
  have o2 := o1.below b2
  clear b2 I1 o1
  go_wp2_with fail
  (try simp only [Exit.inBlock, Exit.then]); refine bodyPost_ret (results_none rfl _ _ _) rfl ?_
  exact ⟨rfl, I2.out, o2⟩
set_option maxHeartbeats 1000000 in
theorem vf2 (CF : FuncId) (caps : Array Value) (bn : Nat) (I : List Tm → World → Prop) (hF : ∀ args w, (callFunc CF args).run Try.prog w = .ok (.enter CF args) w)
    (hI : ∀ acc w w', I acc w → Below w.heap.size w w' → I acc w') (hB : ∀ acc w, I acc w → bn < w.heap.size)
    (T : TypeId) (V : Value) (t : Tm) (a : UInt8) (tp : TypeId) (vp : Value) (tq : TypeId) (vq : Value) (ts us : List Tm) (hP : ∃ (F : FuncId) (R : Value), (∀ n w, (method (n + 1) T V "loop.example/g01175/impl.parts").run Try.prog w = .ok (F, R) w) ∧ (∀ n w, (nilAhead (n + 1) T V "loop.example/g01175/impl.parts").run Try.prog w = .ok (some false) w) ∧ (∀ args w, (callFunc F args).run Try.prog w = .ok (.enter F args) w) ∧ ∀ w, Calls Try.prog F #[R] w fun e w' => ∃ b, e = .returned (.slice (some ⟨b, 0, none⟩) 2 2) ∧ w.heap.size ≤ b ∧ w'.heap[b]? = some (.cells #[.iface tp vp, .iface tq vq] 42 (0, 0)) ∧ Below w.heap.size w w') (HBi : ∀ w, Calls Try.prog 46 #[.iface T V] w fun e w' => e = .returned (.tuple #[.int .u8 0, .bool false]) ∧ Below w.heap.size w w') (hv : ∀ acc w, I acc w → Calls Try.prog CF (#[.iface T V] ++ caps) w (VisPost bn I (acc ++ [t]) w))
    (ih : ∀ acc w, I acc w → Calls Try.prog 51 #[.iface tp vp, .int .u8 (a.toNat : Int), .func (.func CF) #[] caps] w (VisPost bn I (acc ++ ts) w)) (ih2 : ∀ acc w, I acc w → Calls Try.prog 51 #[.iface tq vq, .int .u8 (a.toNat : Int), .func (.func CF) #[] caps] w (VisPost bn I (acc ++ us) w)) (acc : List Tm) (w : World) (h0 : I acc w) :
    Calls Try.prog 51 #[.iface T V, .int .u8 (a.toNat : Int), .func (.func CF) #[] caps] w (VisPost bn I (acc ++ t :: (ts ++ us)) w) := by
  have HV := Lib.hid hv
  have HI := Lib.hid hI
  have HB := Lib.hid hB
  have HBi' := Lib.hid HBi
  obtain ⟨F, R, hm, hn, hc, hp⟩ := hP
  have HP := Lib.hid hp
  have IH := Lib.hid ih
  have IH2 := Lib.hid ih2
  clear hv hI hB HBi hp ih ih2
  go_enter Try.func51, Try.ntmps51
  go_wp2_with fail
  refine (HV.out acc w h0).mono ?_
  rintro e w1 ⟨rfl, i1, o1⟩
  have I1 := Lib.hid i1
  clear i1 h0
  go_wp2_with fail
  refine (HBi'.out w1).mono ?_
  rintro e w2 ⟨rfl, b2⟩
  have I2 := Lib.hid (HI.out _ _ _ I1.out b2)
  have o2 := o1.below b2
  clear b2 I1 o1
  go_wp2_with fail
  refine (HP.out w2).mono ?_
  rintro e w3 ⟨b, rfl, hb, hh, b3⟩
  have bb := HB.out _ _ I2.out
  have I3 := Lib.hid (HI.out _ _ _ I2.out b3)
  have c0 := cellOf2a hh
  have H := Lib.hid hh
  clear hh
  go_wp2_with fail
  refine wp_loop_rounds 3 ?_
  rw [rounds_succ]
  go_wp2_with fail
  refine (IH.out _ _ I3.out).mono ?_
  rintro e w4 ⟨rfl, i4, o4⟩
  have I4 := Lib.hid i4
  have h4 := (o4.block b (lt_of_block H.out) (by omega)).trans H.out
  have c1 := cellOf2b h4
  clear c0 i4 h4
  go_wp2_with fail
  rw [rounds_succ]
  go_wp2_with fail
  refine (IH2.out _ _ I4.out).mono ?_
  rintro e w5 ⟨rfl, i5, o5⟩
  have I5 := Lib.hid i5
  clear c1 i5
  go_wp2_with fail
  rw [rounds_succ]
  go_wp2_with fail
  go_end0
  exact ⟨rfl, by have := I5.out; rw [List.append_assoc, List.append_assoc] at this; exact this, ((o2.below b3).trans o4).trans o5⟩
theorem u8b (x a : UInt8) : ((x.toNat : Int) == (a.toNat : Int)) = (x == a) := by
  rw [Bool.eq_iff_iff, beq_iff_eq, beq_iff_eq]
  exact ⟨fun h => u8_ext (by omega), fun h => by rw [h]⟩
theorem visitFree_any (CF : FuncId) (caps : Array Value) (bn : Nat) (I : List Tm → World → Prop) (hF : ∀ args w, (callFunc CF args).run Try.prog w = .ok (.enter CF args) w)
    (hI : ∀ acc w w', I acc w → Below w.heap.size w w' → I acc w') (hB : ∀ acc w, I acc w → bn < w.heap.size) (a : UInt8) (t : Tm) (ho : t.ok nmL = true)
    (hv : ∀ t acc w, t.ok nmL = true → I acc w → Calls Try.prog CF (#[.iface (tyOf t) (pay t)] ++ caps) w (VisPost bn I (acc ++ [t]) w)) : ∀ (acc : List Tm) (w : World), I acc w →
    Calls Try.prog 51 #[.iface (tyOf t) (pay t), .int .u8 (a.toNat : Int), .func (.func CF) #[] caps] w (VisPost bn I (acc ++ t.vis a) w) := by
  induction t with
  | nil => exact vf0 CF caps bn I hF hI hB _ _ .nil a (parts_fact .nil).pf (binderOf_any .nil) (fun acc w => hv .nil acc w ho)
  | snd x y p ih =>
    have ho' := ho
    simp only [Tm.ok, Bool.and_eq_true] at ho'
    exact vf1 CF caps bn I hF hI hB _ _ (.snd x y p) a _ _ (p.vis a) (parts_fact (.snd x y p)).pf (binderOf_any (.snd x y p)) (fun acc w => hv _ acc w ho) (ih ho'.2)
  | mat x y p ih =>
    have ho' := ho
    simp only [Tm.ok, Bool.and_eq_true] at ho'
    exact vf1 CF caps bn I hF hI hB _ _ (.mat x y p) a _ _ (p.vis a) (parts_fact (.mat x y p)).pf (binderOf_any (.mat x y p)) (fun acc w => hv _ acc w ho) (ih ho'.2)
  | tau p ih =>
    have ho' := ho
    simp only [Tm.ok] at ho'
    exact vf1 CF caps bn I hF hI hB _ _ (.tau p) a _ _ (p.vis a) (parts_fact (.tau p)).pf (binderOf_any (.tau p)) (fun acc w => hv _ acc w ho) (ih ho')
  | rep p ih =>
    have ho' := ho
    simp only [Tm.ok] at ho'
    exact vf1 CF caps bn I hF hI hB _ _ (.rep p) a _ _ (p.vis a) (parts_fact (.rep p)).pf (binderOf_any (.rep p)) (fun acc w => hv _ acc w ho) (ih ho')
  | rcv x y p ih =>
    have ho' := ho
    simp only [Tm.ok, Bool.and_eq_true] at ho'
    by_cases e : y = a
    · rw [show (Tm.rcv x y p).vis a = [.rcv x y p] from by simp [Tm.vis, e]]
      exact vf1s CF caps bn I hF hI hB _ _ (.rcv x y p) a y (by rw [u8b, e]; simp) (binderOf_any (.rcv x y p)) (fun acc w => hv _ acc w ho)
    · rw [show (Tm.rcv x y p).vis a = .rcv x y p :: p.vis a from by simp [Tm.vis, e]]
      exact vf1b CF caps bn I hF hI hB _ _ (.rcv x y p) a _ _ (p.vis a) y (by rw [u8b]; simp [e]) (parts_fact (.rcv x y p)).pf (binderOf_any (.rcv x y p)) (fun acc w => hv _ acc w ho) (ih ho'.2)
  | own y p ih =>
    have ho' := ho
    simp only [Tm.ok, Bool.and_eq_true] at ho'
    by_cases e : y = a
    · rw [show (Tm.own y p).vis a = [.own y p] from by simp [Tm.vis, e]]
      exact vf1s CF caps bn I hF hI hB _ _ (.own y p) a y (by rw [u8b, e]; simp) (binderOf_any (.own y p)) (fun acc w => hv _ acc w ho)
    · rw [show (Tm.own y p).vis a = .own y p :: p.vis a from by simp [Tm.vis, e]]
      exact vf1b CF caps bn I hF hI hB _ _ (.own y p) a _ _ (p.vis a) y (by rw [u8b]; simp [e]) (parts_fact (.own y p)).pf (binderOf_any (.own y p)) (fun acc w => hv _ acc w ho) (ih ho'.2)
  | sum p q ih ih2 =>
    have ho' := ho
    simp only [Tm.ok, Bool.and_eq_true] at ho'
    exact vf2 CF caps bn I hF hI hB _ _ (.sum p q) a _ _ _ _ (p.vis a) (q.vis a) (parts_fact (.sum p q)).pf (binderOf_any (.sum p q)) (fun acc w => hv _ acc w ho) (ih ho'.1) (ih2 ho'.2)
  | par p q ih ih2 =>
    have ho' := ho
    simp only [Tm.ok, Bool.and_eq_true] at ho'
    exact vf2 CF caps bn I hF hI hB _ _ (.par p q) a _ _ _ _ (p.vis a) (q.vis a) (parts_fact (.par p q)).pf (binderOf_any (.par p q)) (fun acc w => hv _ acc w ho) (ih ho'.1) (ih2 ho'.2)

end Go.Proofs.Ytdfelpahacmdpab.T1
