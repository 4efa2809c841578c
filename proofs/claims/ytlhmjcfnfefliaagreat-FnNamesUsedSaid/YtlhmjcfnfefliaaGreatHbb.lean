/- Texts of the proof, put together: Qu, Qz. No conditions. -/
import Derived.Test.YtlhmjcfnfefliaaGreatHai
import Derived.Test.YtlhmjcfnfefliaaGreatHao
import Derived.Test.YtlhmjcfnfefliaaGreatHat
import Derived.Test.YtlhmjcfnfefliaaGreatHax
import Derived.Deep.RegionWith

/- Uses of a free name: the places at which no sign binds it; in the program. -/
namespace Go.Proofs.YtlhmjcfnfefliaaGreat.T1
open Go.RowKit
set_option maxRecDepth 100000
set_option linter.unusedVariables false
set_option linter.unusedSimpArgs false

/-- The subterms around which no sign binds a name, the whole first. -/
def Tm.vis (a : UInt8) : Tm → List Tm
  | .nil => [.nil]
  | .snd x y p => .snd x y p :: p.vis a
  | .rcv x y p => .rcv x y p :: (if y = a then [] else p.vis a)
  | .tau p => .tau p :: p.vis a
  | .sum p q => .sum p q :: (p.vis a ++ q.vis a)
  | .par p q => .par p q :: (p.vis a ++ q.vis a)
  | .own x p => .own x p :: (if x = a then [] else p.vis a)
  | .mat x y p => .mat x y p :: p.vis a
  | .rep p => .rep p :: p.vis a
def us0 (a : UInt8) : Tm → Bool
  | .snd x _ _ => x == a
  | _ => false
def us1 (a : UInt8) : Tm → Bool
  | .rcv x _ _ => x == a
  | _ => false
def us2 (a : UInt8) : Tm → Bool
  | .snd _ y _ => y == a
  | _ => false
def us3 (a : UInt8) : Tm → Bool
  | .mat x y _ => x == a || y == a
  | _ => false
def us4 (a : UInt8) : Tm → Bool
  | .rep p => decide (a ∈ p.free)
  | _ => false
theorem vis_len (a : UInt8) (t : Tm) : (t.vis a).length ≤ t.size := by
  induction t with
  | rcv x y p ih => simp only [Tm.vis, Tm.size, List.length_cons]; split <;> simp <;> omega
  | own x p ih => simp only [Tm.vis, Tm.size, List.length_cons]; split <;> simp <;> omega
  | _ => simp_all [Tm.vis, Tm.size] <;> omega

set_option maxHeartbeats 1000000 in
theorem vf0 (CF : FuncId) (caps : Array Value) (bn : Nat) (I : List Tm → World → Prop) (hF : ∀ args w, (callFunc CF args).run Tryz.prog w = .ok (.enter CF args) w)
    (hI : ∀ acc w w', I acc w → Below w.heap.size w w' → I acc w') (hB : ∀ acc w, I acc w → bn < w.heap.size)
    (T : TypeId) (V : Value) (t : Tm) (a : UInt8) (hP : ∃ (F : FuncId) (R : Value), (∀ n w, (method (n + 1) T V "loop.example/g01175/impl.parts").run Tryz.prog w = .ok (F, R) w) ∧ (∀ n w, (nilAhead (n + 1) T V "loop.example/g01175/impl.parts").run Tryz.prog w = .ok (some false) w) ∧ (∀ args w, (callFunc F args).run Tryz.prog w = .ok (.enter F args) w) ∧ ∀ w, Calls Tryz.prog F #[R] w (PartsPost [] w)) (HBi : ∀ w, Calls Tryz.prog 81 #[.iface T V] w fun e w' => e = .returned (.tuple #[.int .u8 0, .bool false]) ∧ Below w.heap.size w w') (hv : ∀ acc w, I acc w → Calls Tryz.prog CF (#[.iface T V] ++ caps) w (VisPost bn I (acc ++ [t]) w)) (acc : List Tm) (w : World) (h0 : I acc w) :
    Calls Tryz.prog 101 #[.iface T V, .int .u8 (a.toNat : Int), .func (.func CF) #[] caps] w (VisPost bn I (acc ++ [t]) w) := by
  have HV := Lib.hid hv
  have HI := Lib.hid hI
  have HB := Lib.hid hB
  have HBi' := Lib.hid HBi
  obtain ⟨F, R, hm, hn, hc, hp⟩ := hP
  have HP := Lib.hid hp
  clear hv hI hB HBi hp
  go_enter Tryz.func101, Tryz.ntmps101
  go_wp2_with fail
  refine (HV.out acc w h0).mono ?_
  rintro e w1 ⟨rfl, i1, o1⟩
  have I1 := Lib.hid i1
  clear i1 h0
  go_wp2_with fail
  refine (HBi'.out w1).mono ?_
  rintro e w2 ⟨rfl, b2⟩
  have I2 := Lib.hid (HI.out _ _ _ I1.out b2)
  have o2 := o1.below b2
  clear b2 I1 o1
  go_wp2_with fail
  refine (HP.out w2).mono ?_
  rintro e w3 ⟨rfl, b3⟩
  go_wp2_with fail
  refine wp_loop_rounds 1 ?_
  rw [rounds_succ]
  go_wp2_with fail
  go_end0
  exact ⟨rfl, HI.out _ _ _ I2.out b3, o2.below b3⟩

set_option maxHeartbeats 1000000 in
theorem vf1 (CF : FuncId) (caps : Array Value) (bn : Nat) (I : List Tm → World → Prop) (hF : ∀ args w, (callFunc CF args).run Tryz.prog w = .ok (.enter CF args) w)
    (hI : ∀ acc w w', I acc w → Below w.heap.size w w' → I acc w') (hB : ∀ acc w, I acc w → bn < w.heap.size)
    (T : TypeId) (V : Value) (t : Tm) (a : UInt8) (tp : TypeId) (vp : Value) (ts : List Tm) (hP : ∃ (F : FuncId) (R : Value), (∀ n w, (method (n + 1) T V "loop.example/g01175/impl.parts").run Tryz.prog w = .ok (F, R) w) ∧ (∀ n w, (nilAhead (n + 1) T V "loop.example/g01175/impl.parts").run Tryz.prog w = .ok (some false) w) ∧ (∀ args w, (callFunc F args).run Tryz.prog w = .ok (.enter F args) w) ∧ ∀ w, Calls Tryz.prog F #[R] w fun e w' => ∃ b, e = .returned (.slice (some ⟨b, 0, none⟩) 1 1) ∧ w.heap.size ≤ b ∧ w'.heap[b]? = some (.cells #[.iface tp vp] 67 (0, 0)) ∧ Below w.heap.size w w') (HBi : ∀ w, Calls Tryz.prog 81 #[.iface T V] w fun e w' => e = .returned (.tuple #[.int .u8 0, .bool false]) ∧ Below w.heap.size w w') (hv : ∀ acc w, I acc w → Calls Tryz.prog CF (#[.iface T V] ++ caps) w (VisPost bn I (acc ++ [t]) w))
    (ih : ∀ acc w, I acc w → Calls Tryz.prog 101 #[.iface tp vp, .int .u8 (a.toNat : Int), .func (.func CF) #[] caps] w (VisPost bn I (acc ++ ts) w)) (acc : List Tm) (w : World) (h0 : I acc w) :
    Calls Tryz.prog 101 #[.iface T V, .int .u8 (a.toNat : Int), .func (.func CF) #[] caps] w (VisPost bn I (acc ++ t :: ts) w) := by
  have HV := Lib.hid hv
  have HI := Lib.hid hI
  have HB := Lib.hid hB
  have HBi' := Lib.hid HBi
  obtain ⟨F, R, hm, hn, hc, hp⟩ := hP
  have HP := Lib.hid hp
  have IH := Lib.hid ih
  clear hv hI hB HBi hp ih
  go_enter Tryz.func101, Tryz.ntmps101
  go_wp2_with fail
  refine (HV.out acc w h0).mono ?_
  rintro e w1 ⟨rfl, i1, o1⟩
  have I1 := Lib.hid i1
  clear i1 h0
  go_wp2_with fail
  refine (HBi'.out w1).mono ?_
  rintro e w2 ⟨rfl, b2⟩
  have I2 := Lib.hid (HI.out _ _ _ I1.out b2)
  have o2 := o1.below b2
  clear b2 I1 o1
  go_wp2_with fail
  refine (HP.out w2).mono ?_
  rintro e w3 ⟨b, rfl, hb, hh, b3⟩
  have I3 := Lib.hid (HI.out _ _ _ I2.out b3)
  have c0 := cellOf1 hh
  clear hh
  go_wp2_with fail
  refine wp_loop_rounds 2 ?_
  rw [rounds_succ]
  go_wp2_with fail
  refine (IH.out _ _ I3.out).mono ?_
  rintro e w4 ⟨rfl, i4, o4⟩
  have I4 := Lib.hid i4
  clear c0 i4
  go_wp2_with fail
  rw [rounds_succ]
  go_wp2_with fail
  go_end0
  exact ⟨rfl, by have := I4.out; rw [List.append_assoc] at this; exact this, (o2.below b3).trans o4⟩

set_option maxHeartbeats 1000000 in
theorem vf1b (CF : FuncId) (caps : Array Value) (bn : Nat) (I : List Tm → World → Prop) (hF : ∀ args w, (callFunc CF args).run Tryz.prog w = .ok (.enter CF args) w)
    (hI : ∀ acc w w', I acc w → Below w.heap.size w w' → I acc w') (hB : ∀ acc w, I acc w → bn < w.heap.size)
    (T : TypeId) (V : Value) (t : Tm) (a : UInt8) (tp : TypeId) (vp : Value) (ts : List Tm) (x : UInt8) (hxa : ((x.toNat : Int) == (a.toNat : Int)) = false) (hP : ∃ (F : FuncId) (R : Value), (∀ n w, (method (n + 1) T V "loop.example/g01175/impl.parts").run Tryz.prog w = .ok (F, R) w) ∧ (∀ n w, (nilAhead (n + 1) T V "loop.example/g01175/impl.parts").run Tryz.prog w = .ok (some false) w) ∧ (∀ args w, (callFunc F args).run Tryz.prog w = .ok (.enter F args) w) ∧ ∀ w, Calls Tryz.prog F #[R] w fun e w' => ∃ b, e = .returned (.slice (some ⟨b, 0, none⟩) 1 1) ∧ w.heap.size ≤ b ∧ w'.heap[b]? = some (.cells #[.iface tp vp] 67 (0, 0)) ∧ Below w.heap.size w w') (HBi : ∀ w, Calls Tryz.prog 81 #[.iface T V] w fun e w' => e = .returned (.tuple #[.int .u8 (x.toNat : Int), .bool true]) ∧ Below w.heap.size w w') (hv : ∀ acc w, I acc w → Calls Tryz.prog CF (#[.iface T V] ++ caps) w (VisPost bn I (acc ++ [t]) w))
    (ih : ∀ acc w, I acc w → Calls Tryz.prog 101 #[.iface tp vp, .int .u8 (a.toNat : Int), .func (.func CF) #[] caps] w (VisPost bn I (acc ++ ts) w)) (acc : List Tm) (w : World) (h0 : I acc w) :
    Calls Tryz.prog 101 #[.iface T V, .int .u8 (a.toNat : Int), .func (.func CF) #[] caps] w (VisPost bn I (acc ++ t :: ts) w) := by
  have HV := Lib.hid hv
  have HI := Lib.hid hI
  have HB := Lib.hid hB
  have HBi' := Lib.hid HBi
  obtain ⟨F, R, hm, hn, hc, hp⟩ := hP
  have HP := Lib.hid hp
  have IH := Lib.hid ih
  clear hv hI hB HBi hp ih
  go_enter Tryz.func101, Tryz.ntmps101
  go_wp2_with fail
  refine (HV.out acc w h0).mono ?_
  rintro e w1 ⟨rfl, i1, o1⟩
  have I1 := Lib.hid i1
  clear i1 h0
  go_wp2_with fail
  refine (HBi'.out w1).mono ?_
  rintro e w2 ⟨rfl, b2⟩
  have I2 := Lib.hid (HI.out _ _ _ I1.out b2)
  have o2 := o1.below b2
  clear b2 I1 o1
  go_wp2_with fail
  refine (HP.out w2).mono ?_
  rintro e w3 ⟨b, rfl, hb, hh, b3⟩
  have I3 := Lib.hid (HI.out _ _ _ I2.out b3)
  have c0 := cellOf1 hh
  clear hh
  go_wp2_with fail
  refine wp_loop_rounds 2 ?_
  rw [rounds_succ]
  go_wp2_with fail
  refine (IH.out _ _ I3.out).mono ?_
  rintro e w4 ⟨rfl, i4, o4⟩
  have I4 := Lib.hid i4
  clear c0 i4
  go_wp2_with fail
  rw [rounds_succ]
  go_wp2_with fail
  go_end0
  exact ⟨rfl, by have := I4.out; rw [List.append_assoc] at this; exact this, (o2.below b3).trans o4⟩

set_option maxHeartbeats 1000000 in
theorem vf1s (CF : FuncId) (caps : Array Value) (bn : Nat) (I : List Tm → World → Prop) (hF : ∀ args w, (callFunc CF args).run Tryz.prog w = .ok (.enter CF args) w)
    (hI : ∀ acc w w', I acc w → Below w.heap.size w w' → I acc w') (hB : ∀ acc w, I acc w → bn < w.heap.size)
    (T : TypeId) (V : Value) (t : Tm) (a : UInt8) (x : UInt8) (hxa : ((x.toNat : Int) == (a.toNat : Int)) = true) (HBi : ∀ w, Calls Tryz.prog 81 #[.iface T V] w fun e w' => e = .returned (.tuple #[.int .u8 (x.toNat : Int), .bool true]) ∧ Below w.heap.size w w') (hv : ∀ acc w, I acc w → Calls Tryz.prog CF (#[.iface T V] ++ caps) w (VisPost bn I (acc ++ [t]) w)) (acc : List Tm) (w : World) (h0 : I acc w) :
    Calls Tryz.prog 101 #[.iface T V, .int .u8 (a.toNat : Int), .func (.func CF) #[] caps] w (VisPost bn I (acc ++ [t]) w) := by
  have HV := Lib.hid hv
  have HI := Lib.hid hI
  have HB := Lib.hid hB
  have HBi' := Lib.hid HBi
  clear hv hI hB HBi
  go_enter Tryz.func101, Tryz.ntmps101
  go_wp2_with fail
  refine (HV.out acc w h0).mono ?_
  rintro e w1 ⟨rfl, i1, o1⟩
  have I1 := Lib.hid i1
  clear i1 h0
  go_wp2_with fail
  refine (HBi'.out w1).mono ?_
  rintro e w2 ⟨rfl, b2⟩
  have I2 := Lib.hid (HI.out _ _ _ I1.out b2)
  have o2 := o1.below b2
  clear b2 I1 o1
  go_wp2_with fail
  (try simp only [Exit.inBlock, Exit.then]); refine bodyPost_ret (results_none rfl _ _ _) rfl ?_
  exact ⟨rfl, I2.out, o2⟩
set_option maxHeartbeats 1000000 in
theorem vf2 (CF : FuncId) (caps : Array Value) (bn : Nat) (I : List Tm → World → Prop) (hF : ∀ args w, (callFunc CF args).run Tryz.prog w = .ok (.enter CF args) w)
    (hI : ∀ acc w w', I acc w → Below w.heap.size w w' → I acc w') (hB : ∀ acc w, I acc w → bn < w.heap.size)
    (T : TypeId) (V : Value) (t : Tm) (a : UInt8) (tp : TypeId) (vp : Value) (tq : TypeId) (vq : Value) (ts us : List Tm) (hP : ∃ (F : FuncId) (R : Value), (∀ n w, (method (n + 1) T V "loop.example/g01175/impl.parts").run Tryz.prog w = .ok (F, R) w) ∧ (∀ n w, (nilAhead (n + 1) T V "loop.example/g01175/impl.parts").run Tryz.prog w = .ok (some false) w) ∧ (∀ args w, (callFunc F args).run Tryz.prog w = .ok (.enter F args) w) ∧ ∀ w, Calls Tryz.prog F #[R] w fun e w' => ∃ b, e = .returned (.slice (some ⟨b, 0, none⟩) 2 2) ∧ w.heap.size ≤ b ∧ w'.heap[b]? = some (.cells #[.iface tp vp, .iface tq vq] 67 (0, 0)) ∧ Below w.heap.size w w') (HBi : ∀ w, Calls Tryz.prog 81 #[.iface T V] w fun e w' => e = .returned (.tuple #[.int .u8 0, .bool false]) ∧ Below w.heap.size w w') (hv : ∀ acc w, I acc w → Calls Tryz.prog CF (#[.iface T V] ++ caps) w (VisPost bn I (acc ++ [t]) w))
    (ih : ∀ acc w, I acc w → Calls Tryz.prog 101 #[.iface tp vp, .int .u8 (a.toNat : Int), .func (.func CF) #[] caps] w (VisPost bn I (acc ++ ts) w)) (ih2 : ∀ acc w, I acc w → Calls Tryz.prog 101 #[.iface tq vq, .int .u8 (a.toNat : Int), .func (.func CF) #[] caps] w (VisPost bn I (acc ++ us) w)) (acc : List Tm) (w : World) (h0 : I acc w) :
    Calls Tryz.prog 101 #[.iface T V, .int .u8 (a.toNat : Int), .func (.func CF) #[] caps] w (VisPost bn I (acc ++ t :: (ts ++ us)) w) := by
  have HV := Lib.hid hv
  have HI := Lib.hid hI
  have HB := Lib.hid hB
  have HBi' := Lib.hid HBi
  obtain ⟨F, R, hm, hn, hc, hp⟩ := hP
  have HP := Lib.hid hp
  have IH := Lib.hid ih
  have IH2 := Lib.hid ih2
  clear hv hI hB HBi hp ih ih2
  go_enter Tryz.func101, Tryz.ntmps101
  go_wp2_with fail
  refine (HV.out acc w h0).mono ?_
  rintro e w1 ⟨rfl, i1, o1⟩
  have I1 := Lib.hid i1
  clear i1 h0
  go_wp2_with fail
  refine (HBi'.out w1).mono ?_
  rintro e w2 ⟨rfl, b2⟩
  have I2 := Lib.hid (HI.out _ _ _ I1.out b2)
  have o2 := o1.below b2
  clear b2 I1 o1
  go_wp2_with fail
  refine (HP.out w2).mono ?_
  rintro e w3 ⟨b, rfl, hb, hh, b3⟩
  have bb := HB.out _ _ I2.out
  have I3 := Lib.hid (HI.out _ _ _ I2.out b3)
  have c0 := cellOf2a hh
  have H := Lib.hid hh
  clear hh
  go_wp2_with fail
  refine wp_loop_rounds 3 ?_
  rw [rounds_succ]
  go_wp2_with fail
  refine (IH.out _ _ I3.out).mono ?_
  rintro e w4 ⟨rfl, i4, o4⟩
  have I4 := Lib.hid i4
  have h4 := (o4.block b (lt_of_block H.out) (by omega)).trans H.out
  have c1 := cellOf2b h4
  clear c0 i4 h4
  go_wp2_with fail
  rw [rounds_succ]
  go_wp2_with fail
  refine (IH2.out _ _ I4.out).mono ?_
  rintro e w5 ⟨rfl, i5, o5⟩
  have I5 := Lib.hid i5
  clear c1 i5
  go_wp2_with fail
  rw [rounds_succ]
  go_wp2_with fail
  go_end0
  exact ⟨rfl, by have := I5.out; rw [List.append_assoc, List.append_assoc] at this; exact this, ((o2.below b3).trans o4).trans o5⟩
theorem u8b (x a : UInt8) : ((x.toNat : Int) == (a.toNat : Int)) = (x == a) := by
  rw [Bool.eq_iff_iff, beq_iff_eq, beq_iff_eq]
  exact ⟨fun h => u8_ext (by omega), fun h => by rw [h]⟩
theorem visitFree_any (CF : FuncId) (caps : Array Value) (bn : Nat) (I : List Tm → World → Prop) (hF : ∀ args w, (callFunc CF args).run Tryz.prog w = .ok (.enter CF args) w)
    (hI : ∀ acc w w', I acc w → Below w.heap.size w w' → I acc w') (hB : ∀ acc w, I acc w → bn < w.heap.size) (a : UInt8) (t : Tm) (ho : t.ok nmL = true)
    (hv : ∀ t acc w, t.ok nmL = true → I acc w → Calls Tryz.prog CF (#[.iface (tyOf t) (pay t)] ++ caps) w (VisPost bn I (acc ++ [t]) w)) : ∀ (acc : List Tm) (w : World), I acc w →
    Calls Tryz.prog 101 #[.iface (tyOf t) (pay t), .int .u8 (a.toNat : Int), .func (.func CF) #[] caps] w (VisPost bn I (acc ++ t.vis a) w) := by
  induction t with
  | nil => exact vf0 CF caps bn I hF hI hB _ _ .nil a (parts_fact .nil).pf (binderOf_any .nil) (fun acc w => hv .nil acc w ho)
  | snd x y p ih =>
    have ho' := ho
    simp only [Tm.ok, Bool.and_eq_true] at ho'
    exact vf1 CF caps bn I hF hI hB _ _ (.snd x y p) a _ _ (p.vis a) (parts_fact (.snd x y p)).pf (binderOf_any (.snd x y p)) (fun acc w => hv _ acc w ho) (ih ho'.2)
  | mat x y p ih =>
    have ho' := ho
    simp only [Tm.ok, Bool.and_eq_true] at ho'
    exact vf1 CF caps bn I hF hI hB _ _ (.mat x y p) a _ _ (p.vis a) (parts_fact (.mat x y p)).pf (binderOf_any (.mat x y p)) (fun acc w => hv _ acc w ho) (ih ho'.2)
  | tau p ih =>
    have ho' := ho
    simp only [Tm.ok] at ho'
    exact vf1 CF caps bn I hF hI hB _ _ (.tau p) a _ _ (p.vis a) (parts_fact (.tau p)).pf (binderOf_any (.tau p)) (fun acc w => hv _ acc w ho) (ih ho')
  | rep p ih =>
    have ho' := ho
    simp only [Tm.ok] at ho'
    exact vf1 CF caps bn I hF hI hB _ _ (.rep p) a _ _ (p.vis a) (parts_fact (.rep p)).pf (binderOf_any (.rep p)) (fun acc w => hv _ acc w ho) (ih ho')
  | rcv x y p ih =>
    have ho' := ho
    simp only [Tm.ok, Bool.and_eq_true] at ho'
    by_cases e : y = a
    · rw [show (Tm.rcv x y p).vis a = [.rcv x y p] from by simp [Tm.vis, e]]
      exact vf1s CF caps bn I hF hI hB _ _ (.rcv x y p) a y (by rw [u8b, e]; simp) (binderOf_any (.rcv x y p)) (fun acc w => hv _ acc w ho)
    · rw [show (Tm.rcv x y p).vis a = .rcv x y p :: p.vis a from by simp [Tm.vis, e]]
      exact vf1b CF caps bn I hF hI hB _ _ (.rcv x y p) a _ _ (p.vis a) y (by rw [u8b]; simp [e]) (parts_fact (.rcv x y p)).pf (binderOf_any (.rcv x y p)) (fun acc w => hv _ acc w ho) (ih ho'.2)
  | own y p ih =>
    have ho' := ho
    simp only [Tm.ok, Bool.and_eq_true] at ho'
    by_cases e : y = a
    · rw [show (Tm.own y p).vis a = [.own y p] from by simp [Tm.vis, e]]
      exact vf1s CF caps bn I hF hI hB _ _ (.own y p) a y (by rw [u8b, e]; simp) (binderOf_any (.own y p)) (fun acc w => hv _ acc w ho)
    · rw [show (Tm.own y p).vis a = .own y p :: p.vis a from by simp [Tm.vis, e]]
      exact vf1b CF caps bn I hF hI hB _ _ (.own y p) a _ _ (p.vis a) y (by rw [u8b]; simp [e]) (parts_fact (.own y p)).pf (binderOf_any (.own y p)) (fun acc w => hv _ acc w ho) (ih ho'.2)
  | sum p q ih ih2 =>
    have ho' := ho
    simp only [Tm.ok, Bool.and_eq_true] at ho'
    exact vf2 CF caps bn I hF hI hB _ _ (.sum p q) a _ _ _ _ (p.vis a) (q.vis a) (parts_fact (.sum p q)).pf (binderOf_any (.sum p q)) (fun acc w => hv _ acc w ho) (ih ho'.1) (ih2 ho'.2)
  | par p q ih ih2 =>
    have ho' := ho
    simp only [Tm.ok, Bool.and_eq_true] at ho'
    exact vf2 CF caps bn I hF hI hB _ _ (.par p q) a _ _ _ _ (p.vis a) (q.vis a) (parts_fact (.par p q)).pf (binderOf_any (.par p q)) (fun acc w => hv _ acc w ho) (ih ho'.1) (ih2 ho'.2)

end Go.Proofs.YtlhmjcfnfefliaaGreat.T1

/- Uses of a free name in the specification: counted. MADE BY gen_Qz.py. -/
namespace Go.Proofs.YtlhmjcfnfefliaaGreat.T1
open Go.RowKit
set_option maxRecDepth 100000
set_option linter.unusedVariables false
set_option linter.unusedSimpArgs false

theorem mk4 (w : World) : (Instr.makeSlice 50 (.int .i64 4) (.int .i64 4)).run Tryz.prog w = .ok (.slice (some ⟨w.heap.size, 0, none⟩) 4 4) (w.alloc (.cells #[.int .i64 0, .int .i64 0, .int .i64 0, .int .i64 0] 3)) := by kernel_rfl
set_option maxHeartbeats 4000000 in
theorem su_nil (s : ByteArray) (a : UInt8) (kd : Int) (hz : s.size ≤ 700) (k33 : (kd == 33) = false) (k63 : (kd == 63) = false) (k61 : (kd == 61) = false) (HK : ∀ w, Calls Tryz.prog 66 #[.string s] w fun e w' => e = .returned (.int .u8 kd) ∧ w = w') (HB : ∀ w, Calls Tryz.prog 64 #[.string s] w fun e w' => e = .returned (.tuple #[.int .u8 0, .bool false]) ∧ w = w') (HP : ∀ w, Calls Tryz.prog 62 #[.string s] w (PartsS [] w)) (w : World) : Calls Tryz.prog 34 #[.string s, .int .u8 (a.toNat : Int)] w fun e w' => ∃ g, e = .returned (.slice (some ⟨g, 0, none⟩) 4 4) ∧ w.heap.size ≤ g ∧ w'.heap[g]? = some (.cells #[.int .i64 (0), .int .i64 (0), .int .i64 (0), .int .i64 (0)] 3 (0, 0)) ∧ Below w.heap.size w w' := by
  have XK := Lib.hid HK
  have XB := Lib.hid HB
  have XP := Lib.hid HP
  clear HK HB HP
  have nb := new_block w (.cells #[.int .i64 0, .int .i64 0, .int .i64 0, .int .i64 0] 3)
  have bl := (Below.refl w.heap.size w).alloc (Nat.le_refl _) (.cells #[.int .i64 0, .int .i64 0, .int .i64 0, .int .i64 0] 3)
  obtain ⟨W, hW⟩ : ∃ W, W = w.alloc (.cells #[.int .i64 0, .int .i64 0, .int .i64 0, .int .i64 0] 3) := ⟨_, rfl⟩
  have hmk := mk4 w
  rw [← hW] at nb bl hmk
  obtain ⟨g, hg⟩ : ∃ g, g = w.heap.size := ⟨_, rfl⟩
  have hgw : w.heap.size ≤ g := by omega
  rw [← hg] at nb hmk
  clear hW hg
  go_enter Tryz.func34, Tryz.ntmps34
  go_wp2_with fail
  clear hmk
  refine (XK.out _).mono ?_
  rintro e w2 ⟨rfl, rfl⟩
  have m0 := cellsAt nb 0 _ rfl
  have n0 := cellsFree nb 0
  have m1 := cellsAt nb 1 _ rfl
  have n1 := cellsFree nb 1
  have m2 := cellsAt nb 2 _ rfl
  have n2 := cellsFree nb 2
  have m3 := cellsAt nb 3 _ rfl
  have n3 := cellsFree nb 3
  go_wp2_with fail
  clear m0 m1 m2 m3 n0 n1 n2 n3
  refine (XB.out _).mono ?_
  rintro e w2 ⟨rfl, rfl⟩
  go_wp2_with fail
  refine (XP.out _).mono ?_
  rintro e w3 ⟨rfl, b3⟩
  replace nb := (b3.block _ (lt_of_block nb)).trans nb
  replace bl := below_trans bl b3 bl.size
  clear b3
  go_wp2_with fail
  refine wp_loop_rounds 1 ?_
  rw [rounds_succ]
  go_wp2_with fail
  go_ret
  exact ⟨g, rfl, hgw, nb, bl⟩
set_option maxHeartbeats 4000000 in
theorem su_one (s : ByteArray) (a : UInt8) (kd : Int) (u : ByteArray) (c0 c1 c2 c3 : Int) (hz : s.size ≤ 700) (k33 : (kd == 33) = false) (k63 : (kd == 63) = false) (k61 : (kd == 61) = false) (HK : ∀ w, Calls Tryz.prog 66 #[.string s] w fun e w' => e = .returned (.int .u8 kd) ∧ w = w') (HB : ∀ w, Calls Tryz.prog 64 #[.string s] w fun e w' => e = .returned (.tuple #[.int .u8 0, .bool false]) ∧ w = w') (HP : ∀ w, Calls Tryz.prog 62 #[.string s] w fun e w' => ∃ b, e = .returned (.slice (some ⟨b, 0, none⟩) 1 1) ∧ w.heap.size ≤ b ∧ w'.heap[b]? = some (.cells #[.string u] 9 (0, 0)) ∧ Below w.heap.size w w') (ih : ∀ w, Calls Tryz.prog 34 #[.string u, .int .u8 (a.toNat : Int)] w fun e w' => ∃ g, e = .returned (.slice (some ⟨g, 0, none⟩) 4 4) ∧ w.heap.size ≤ g ∧ w'.heap[g]? = some (.cells #[.int .i64 c0, .int .i64 c1, .int .i64 c2, .int .i64 c3] 3 (0, 0)) ∧ Below w.heap.size w w') (w : World) : Calls Tryz.prog 34 #[.string s, .int .u8 (a.toNat : Int)] w fun e w' => ∃ g, e = .returned (.slice (some ⟨g, 0, none⟩) 4 4) ∧ w.heap.size ≤ g ∧ w'.heap[g]? = some (.cells #[.int .i64 (wrap64 (0 + c0)), .int .i64 (wrap64 (0 + c1)), .int .i64 (wrap64 (0 + c2)), .int .i64 (wrap64 (0 + c3))] 3 (0, 0)) ∧ Below w.heap.size w w' := by
  have XK := Lib.hid HK
  have XB := Lib.hid HB
  have XP := Lib.hid HP
  have I1 := Lib.hid ih
  clear HK HB HP ih
  have nb := new_block w (.cells #[.int .i64 0, .int .i64 0, .int .i64 0, .int .i64 0] 3)
  have bl := (Below.refl w.heap.size w).alloc (Nat.le_refl _) (.cells #[.int .i64 0, .int .i64 0, .int .i64 0, .int .i64 0] 3)
  obtain ⟨W, hW⟩ : ∃ W, W = w.alloc (.cells #[.int .i64 0, .int .i64 0, .int .i64 0, .int .i64 0] 3) := ⟨_, rfl⟩
  have hmk := mk4 w
  rw [← hW] at nb bl hmk
  obtain ⟨g, hg⟩ : ∃ g, g = w.heap.size := ⟨_, rfl⟩
  have hgw : w.heap.size ≤ g := by omega
  rw [← hg] at nb hmk
  clear hW hg
  go_enter Tryz.func34, Tryz.ntmps34
  go_wp2_with fail
  clear hmk
  refine (XK.out _).mono ?_
  rintro e w2 ⟨rfl, rfl⟩
  have m0 := cellsAt nb 0 _ rfl
  have n0 := cellsFree nb 0
  have m1 := cellsAt nb 1 _ rfl
  have n1 := cellsFree nb 1
  have m2 := cellsAt nb 2 _ rfl
  have n2 := cellsFree nb 2
  have m3 := cellsAt nb 3 _ rfl
  have n3 := cellsFree nb 3
  go_wp2_with fail
  clear m0 m1 m2 m3 n0 n1 n2 n3
  refine (XB.out _).mono ?_
  rintro e w2 ⟨rfl, rfl⟩
  go_wp2_with fail
  obtain ⟨i0, e0⟩ : ∃ i : Int, i = 0 := ⟨_, rfl⟩
  obtain ⟨i1, e1⟩ : ∃ i : Int, i = 0 := ⟨_, rfl⟩
  obtain ⟨i2, e2⟩ : ∃ i : Int, i = 0 := ⟨_, rfl⟩
  obtain ⟨i3, e3⟩ : ∃ i : Int, i = 0 := ⟨_, rfl⟩
  replace nb := nb.trans (show some (Obj.cells #[.int .i64 0, .int .i64 0, .int .i64 0, .int .i64 0] 3 (0, 0)) = some (Obj.cells #[.int .i64 i0, .int .i64 i1, .int .i64 i2, .int .i64 i3] 3 (0, 0)) from by rw [e0, e1, e2, e3])
  have E0 := Lib.hid e0
  have E1 := Lib.hid e1
  have E2 := Lib.hid e2
  have E3 := Lib.hid e3
  clear e0 e1 e2 e3
  refine (XP.out _).mono ?_
  rintro e w3 ⟨b, rfl, hb, hh, b3⟩
  have hgb : g < b := Nat.lt_of_lt_of_le (lt_of_block nb) hb
  replace nb := (b3.block _ (lt_of_block nb)).trans nb
  replace bl := below_trans bl b3 bl.size
  clear b3
  have cu := cellOf1 hh
  have Hh := Lib.hid hh
  clear hh
  go_wp2_with fail
  refine wp_loop_rounds 2 ?_
  rw [rounds_succ]
  go_wp2_with fail
  refine (I1.out _).mono ?_
  rintro e w4 ⟨g2, rfl, hg2, hc, b4⟩
  have hgg : g ≠ g2 := by have := lt_of_block nb; omega
  have hgb2 : b ≠ g2 := by have := lt_of_block Hh.out; omega
  replace nb := (b4.block _ (lt_of_block nb)).trans nb
  have Hh := Lib.hid ((b4.block _ (lt_of_block Hh.out)).trans Hh.out)
  replace bl := below_trans bl b4 bl.size
  clear b4 cu
  go_wp2_with fail
  refine wp_loop_rounds 5 ?_
  rw [rounds_succ]
  have m := cellsAt nb 0 _ rfl
  have n := cellsFree nb 0
  have k := cellsAt hc 0 _ rfl
  go_wp2_with fail
  clear m n k
  obtain ⟨w5, h5⟩ : ∃ w5, w5 = w4.setCell ⟨g, 0, none⟩ (.int .i64 (wrap64 (i0 + c0))) := ⟨_, rfl⟩
  rw [← h5]
  have nb2 : w5.heap[g]? = some (.cells #[.int .i64 (wrap64 (i0 + c0)), .int .i64 i1, .int .i64 i2, .int .i64 i3] 3 (0, 0)) := by rw [h5, set_cells nb]; rfl
  have hc2 : w5.heap[g2]? = some (.cells #[.int .i64 c0, .int .i64 c1, .int .i64 c2, .int .i64 c3] 3 (0, 0)) := by rw [h5]; exact (Below.heap_setCell _ _ _ _ hgg.symm).trans hc
  have Hh := Lib.hid (show w5.heap[b]? = some (.cells #[.string u] 9 (0, 0)) from by rw [h5]; exact (Below.heap_setCell _ _ _ _ (by show b ≠ g; omega)).trans Hh.out)
  have bl2 : Below w.heap.size w w5 := by rw [h5]; exact bl.setCell hgw _
  clear h5 nb hc bl
  obtain ⟨w4, hw4⟩ : ∃ w4, w4 = w5 := ⟨_, rfl⟩
  rw [← hw4] at nb2 hc2 Hh bl2 ⊢
  clear hw4
  have nb := nb2
  have hc := hc2
  have bl := bl2
  clear nb2 hc2 bl2
  rw [rounds_succ]
  have m := cellsAt nb 1 _ rfl
  have n := cellsFree nb 1
  have k := cellsAt hc 1 _ rfl
  go_wp2_with fail
  clear m n k
  obtain ⟨w5, h5⟩ : ∃ w5, w5 = w4.setCell ⟨g, 1, none⟩ (.int .i64 (wrap64 (i1 + c1))) := ⟨_, rfl⟩
  rw [← h5]
  have nb2 : w5.heap[g]? = some (.cells #[.int .i64 (wrap64 (i0 + c0)), .int .i64 (wrap64 (i1 + c1)), .int .i64 i2, .int .i64 i3] 3 (0, 0)) := by rw [h5, set_cells nb]; rfl
  have hc2 : w5.heap[g2]? = some (.cells #[.int .i64 c0, .int .i64 c1, .int .i64 c2, .int .i64 c3] 3 (0, 0)) := by rw [h5]; exact (Below.heap_setCell _ _ _ _ hgg.symm).trans hc
  have Hh := Lib.hid (show w5.heap[b]? = some (.cells #[.string u] 9 (0, 0)) from by rw [h5]; exact (Below.heap_setCell _ _ _ _ (by show b ≠ g; omega)).trans Hh.out)
  have bl2 : Below w.heap.size w w5 := by rw [h5]; exact bl.setCell hgw _
  clear h5 nb hc bl
  obtain ⟨w4, hw4⟩ : ∃ w4, w4 = w5 := ⟨_, rfl⟩
  rw [← hw4] at nb2 hc2 Hh bl2 ⊢
  clear hw4
  have nb := nb2
  have hc := hc2
  have bl := bl2
  clear nb2 hc2 bl2
  rw [rounds_succ]
  have m := cellsAt nb 2 _ rfl
  have n := cellsFree nb 2
  have k := cellsAt hc 2 _ rfl
  go_wp2_with fail
  clear m n k
  obtain ⟨w5, h5⟩ : ∃ w5, w5 = w4.setCell ⟨g, 2, none⟩ (.int .i64 (wrap64 (i2 + c2))) := ⟨_, rfl⟩
  rw [← h5]
  have nb2 : w5.heap[g]? = some (.cells #[.int .i64 (wrap64 (i0 + c0)), .int .i64 (wrap64 (i1 + c1)), .int .i64 (wrap64 (i2 + c2)), .int .i64 i3] 3 (0, 0)) := by rw [h5, set_cells nb]; rfl
  have hc2 : w5.heap[g2]? = some (.cells #[.int .i64 c0, .int .i64 c1, .int .i64 c2, .int .i64 c3] 3 (0, 0)) := by rw [h5]; exact (Below.heap_setCell _ _ _ _ hgg.symm).trans hc
  have Hh := Lib.hid (show w5.heap[b]? = some (.cells #[.string u] 9 (0, 0)) from by rw [h5]; exact (Below.heap_setCell _ _ _ _ (by show b ≠ g; omega)).trans Hh.out)
  have bl2 : Below w.heap.size w w5 := by rw [h5]; exact bl.setCell hgw _
  clear h5 nb hc bl
  obtain ⟨w4, hw4⟩ : ∃ w4, w4 = w5 := ⟨_, rfl⟩
  rw [← hw4] at nb2 hc2 Hh bl2 ⊢
  clear hw4
  have nb := nb2
  have hc := hc2
  have bl := bl2
  clear nb2 hc2 bl2
  rw [rounds_succ]
  have m := cellsAt nb 3 _ rfl
  have n := cellsFree nb 3
  have k := cellsAt hc 3 _ rfl
  go_wp2_with fail
  clear m n k
  obtain ⟨w5, h5⟩ : ∃ w5, w5 = w4.setCell ⟨g, 3, none⟩ (.int .i64 (wrap64 (i3 + c3))) := ⟨_, rfl⟩
  rw [← h5]
  have nb2 : w5.heap[g]? = some (.cells #[.int .i64 (wrap64 (i0 + c0)), .int .i64 (wrap64 (i1 + c1)), .int .i64 (wrap64 (i2 + c2)), .int .i64 (wrap64 (i3 + c3))] 3 (0, 0)) := by rw [h5, set_cells nb]; rfl
  have hc2 : w5.heap[g2]? = some (.cells #[.int .i64 c0, .int .i64 c1, .int .i64 c2, .int .i64 c3] 3 (0, 0)) := by rw [h5]; exact (Below.heap_setCell _ _ _ _ hgg.symm).trans hc
  have Hh := Lib.hid (show w5.heap[b]? = some (.cells #[.string u] 9 (0, 0)) from by rw [h5]; exact (Below.heap_setCell _ _ _ _ (by show b ≠ g; omega)).trans Hh.out)
  have bl2 : Below w.heap.size w w5 := by rw [h5]; exact bl.setCell hgw _
  clear h5 nb hc bl
  obtain ⟨w4, hw4⟩ : ∃ w4, w4 = w5 := ⟨_, rfl⟩
  rw [← hw4] at nb2 hc2 Hh bl2 ⊢
  clear hw4
  have nb := nb2
  have hc := hc2
  have bl := bl2
  clear nb2 hc2 bl2
  rw [rounds_succ]
  skip
  go_wp2_with fail
  clear hc
  rw [rounds_succ]
  go_wp2_with fail
  go_ret
  exact ⟨g, rfl, hgw, by have h := nb; rw [E0.out, E1.out, E2.out, E3.out] at h; exact h, bl⟩
set_option maxHeartbeats 4000000 in
theorem su_two (s : ByteArray) (a : UInt8) (kd : Int) (u : ByteArray) (c0 c1 c2 c3 : Int) (v : ByteArray) (d0 d1 d2 d3 : Int) (hz : s.size ≤ 700) (k33 : (kd == 33) = false) (k63 : (kd == 63) = false) (k61 : (kd == 61) = false) (HK : ∀ w, Calls Tryz.prog 66 #[.string s] w fun e w' => e = .returned (.int .u8 kd) ∧ w = w') (HB : ∀ w, Calls Tryz.prog 64 #[.string s] w fun e w' => e = .returned (.tuple #[.int .u8 0, .bool false]) ∧ w = w') (HP : ∀ w, Calls Tryz.prog 62 #[.string s] w fun e w' => ∃ b, e = .returned (.slice (some ⟨b, 0, none⟩) 2 2) ∧ w.heap.size ≤ b ∧ w'.heap[b]? = some (.cells #[.string u, .string v] 9 (0, 0)) ∧ Below w.heap.size w w') (ih : ∀ w, Calls Tryz.prog 34 #[.string u, .int .u8 (a.toNat : Int)] w fun e w' => ∃ g, e = .returned (.slice (some ⟨g, 0, none⟩) 4 4) ∧ w.heap.size ≤ g ∧ w'.heap[g]? = some (.cells #[.int .i64 c0, .int .i64 c1, .int .i64 c2, .int .i64 c3] 3 (0, 0)) ∧ Below w.heap.size w w') (ih2 : ∀ w, Calls Tryz.prog 34 #[.string v, .int .u8 (a.toNat : Int)] w fun e w' => ∃ g, e = .returned (.slice (some ⟨g, 0, none⟩) 4 4) ∧ w.heap.size ≤ g ∧ w'.heap[g]? = some (.cells #[.int .i64 d0, .int .i64 d1, .int .i64 d2, .int .i64 d3] 3 (0, 0)) ∧ Below w.heap.size w w') (w : World) : Calls Tryz.prog 34 #[.string s, .int .u8 (a.toNat : Int)] w fun e w' => ∃ g, e = .returned (.slice (some ⟨g, 0, none⟩) 4 4) ∧ w.heap.size ≤ g ∧ w'.heap[g]? = some (.cells #[.int .i64 (wrap64 ((wrap64 (0 + c0)) + d0)), .int .i64 (wrap64 ((wrap64 (0 + c1)) + d1)), .int .i64 (wrap64 ((wrap64 (0 + c2)) + d2)), .int .i64 (wrap64 ((wrap64 (0 + c3)) + d3))] 3 (0, 0)) ∧ Below w.heap.size w w' := by
  have XK := Lib.hid HK
  have XB := Lib.hid HB
  have XP := Lib.hid HP
  have I1 := Lib.hid ih
  have I2 := Lib.hid ih2
  clear HK HB HP ih ih2
  have nb := new_block w (.cells #[.int .i64 0, .int .i64 0, .int .i64 0, .int .i64 0] 3)
  have bl := (Below.refl w.heap.size w).alloc (Nat.le_refl _) (.cells #[.int .i64 0, .int .i64 0, .int .i64 0, .int .i64 0] 3)
  obtain ⟨W, hW⟩ : ∃ W, W = w.alloc (.cells #[.int .i64 0, .int .i64 0, .int .i64 0, .int .i64 0] 3) := ⟨_, rfl⟩
  have hmk := mk4 w
  rw [← hW] at nb bl hmk
  obtain ⟨g, hg⟩ : ∃ g, g = w.heap.size := ⟨_, rfl⟩
  have hgw : w.heap.size ≤ g := by omega
  rw [← hg] at nb hmk
  clear hW hg
  go_enter Tryz.func34, Tryz.ntmps34
  go_wp2_with fail
  clear hmk
  refine (XK.out _).mono ?_
  rintro e w2 ⟨rfl, rfl⟩
  have m0 := cellsAt nb 0 _ rfl
  have n0 := cellsFree nb 0
  have m1 := cellsAt nb 1 _ rfl
  have n1 := cellsFree nb 1
  have m2 := cellsAt nb 2 _ rfl
  have n2 := cellsFree nb 2
  have m3 := cellsAt nb 3 _ rfl
  have n3 := cellsFree nb 3
  go_wp2_with fail
  clear m0 m1 m2 m3 n0 n1 n2 n3
  refine (XB.out _).mono ?_
  rintro e w2 ⟨rfl, rfl⟩
  go_wp2_with fail
  obtain ⟨i0, e0⟩ : ∃ i : Int, i = 0 := ⟨_, rfl⟩
  obtain ⟨i1, e1⟩ : ∃ i : Int, i = 0 := ⟨_, rfl⟩
  obtain ⟨i2, e2⟩ : ∃ i : Int, i = 0 := ⟨_, rfl⟩
  obtain ⟨i3, e3⟩ : ∃ i : Int, i = 0 := ⟨_, rfl⟩
  replace nb := nb.trans (show some (Obj.cells #[.int .i64 0, .int .i64 0, .int .i64 0, .int .i64 0] 3 (0, 0)) = some (Obj.cells #[.int .i64 i0, .int .i64 i1, .int .i64 i2, .int .i64 i3] 3 (0, 0)) from by rw [e0, e1, e2, e3])
  have E0 := Lib.hid e0
  have E1 := Lib.hid e1
  have E2 := Lib.hid e2
  have E3 := Lib.hid e3
  clear e0 e1 e2 e3
  refine (XP.out _).mono ?_
  rintro e w3 ⟨b, rfl, hb, hh, b3⟩
  have hgb : g < b := Nat.lt_of_lt_of_le (lt_of_block nb) hb
  replace nb := (b3.block _ (lt_of_block nb)).trans nb
  replace bl := below_trans bl b3 bl.size
  clear b3
  have cu := cellOf2a hh
  have Hh := Lib.hid hh
  clear hh
  go_wp2_with fail
  refine wp_loop_rounds 3 ?_
  rw [rounds_succ]
  go_wp2_with fail
  refine (I1.out _).mono ?_
  rintro e w4 ⟨g2, rfl, hg2, hc, b4⟩
  have hgg : g ≠ g2 := by have := lt_of_block nb; omega
  have hgb2 : b ≠ g2 := by have := lt_of_block Hh.out; omega
  replace nb := (b4.block _ (lt_of_block nb)).trans nb
  have Hh := Lib.hid ((b4.block _ (lt_of_block Hh.out)).trans Hh.out)
  replace bl := below_trans bl b4 bl.size
  clear b4 cu
  go_wp2_with fail
  refine wp_loop_rounds 5 ?_
  rw [rounds_succ]
  have m := cellsAt nb 0 _ rfl
  have n := cellsFree nb 0
  have k := cellsAt hc 0 _ rfl
  go_wp2_with fail
  clear m n k
  obtain ⟨w5, h5⟩ : ∃ w5, w5 = w4.setCell ⟨g, 0, none⟩ (.int .i64 (wrap64 (i0 + c0))) := ⟨_, rfl⟩
  rw [← h5]
  have nb2 : w5.heap[g]? = some (.cells #[.int .i64 (wrap64 (i0 + c0)), .int .i64 i1, .int .i64 i2, .int .i64 i3] 3 (0, 0)) := by rw [h5, set_cells nb]; rfl
  have hc2 : w5.heap[g2]? = some (.cells #[.int .i64 c0, .int .i64 c1, .int .i64 c2, .int .i64 c3] 3 (0, 0)) := by rw [h5]; exact (Below.heap_setCell _ _ _ _ hgg.symm).trans hc
  have Hh := Lib.hid (show w5.heap[b]? = some (.cells #[.string u, .string v] 9 (0, 0)) from by rw [h5]; exact (Below.heap_setCell _ _ _ _ (by show b ≠ g; omega)).trans Hh.out)
  have bl2 : Below w.heap.size w w5 := by rw [h5]; exact bl.setCell hgw _
  clear h5 nb hc bl
  obtain ⟨w4, hw4⟩ : ∃ w4, w4 = w5 := ⟨_, rfl⟩
  rw [← hw4] at nb2 hc2 Hh bl2 ⊢
  clear hw4
  have nb := nb2
  have hc := hc2
  have bl := bl2
  clear nb2 hc2 bl2
  rw [rounds_succ]
  have m := cellsAt nb 1 _ rfl
  have n := cellsFree nb 1
  have k := cellsAt hc 1 _ rfl
  go_wp2_with fail
  clear m n k
  obtain ⟨w5, h5⟩ : ∃ w5, w5 = w4.setCell ⟨g, 1, none⟩ (.int .i64 (wrap64 (i1 + c1))) := ⟨_, rfl⟩
  rw [← h5]
  have nb2 : w5.heap[g]? = some (.cells #[.int .i64 (wrap64 (i0 + c0)), .int .i64 (wrap64 (i1 + c1)), .int .i64 i2, .int .i64 i3] 3 (0, 0)) := by rw [h5, set_cells nb]; rfl
  have hc2 : w5.heap[g2]? = some (.cells #[.int .i64 c0, .int .i64 c1, .int .i64 c2, .int .i64 c3] 3 (0, 0)) := by rw [h5]; exact (Below.heap_setCell _ _ _ _ hgg.symm).trans hc
  have Hh := Lib.hid (show w5.heap[b]? = some (.cells #[.string u, .string v] 9 (0, 0)) from by rw [h5]; exact (Below.heap_setCell _ _ _ _ (by show b ≠ g; omega)).trans Hh.out)
  have bl2 : Below w.heap.size w w5 := by rw [h5]; exact bl.setCell hgw _
  clear h5 nb hc bl
  obtain ⟨w4, hw4⟩ : ∃ w4, w4 = w5 := ⟨_, rfl⟩
  rw [← hw4] at nb2 hc2 Hh bl2 ⊢
  clear hw4
  have nb := nb2
  have hc := hc2
  have bl := bl2
  clear nb2 hc2 bl2
  rw [rounds_succ]
  have m := cellsAt nb 2 _ rfl
  have n := cellsFree nb 2
  have k := cellsAt hc 2 _ rfl
  go_wp2_with fail
  clear m n k
  obtain ⟨w5, h5⟩ : ∃ w5, w5 = w4.setCell ⟨g, 2, none⟩ (.int .i64 (wrap64 (i2 + c2))) := ⟨_, rfl⟩
  rw [← h5]
  have nb2 : w5.heap[g]? = some (.cells #[.int .i64 (wrap64 (i0 + c0)), .int .i64 (wrap64 (i1 + c1)), .int .i64 (wrap64 (i2 + c2)), .int .i64 i3] 3 (0, 0)) := by rw [h5, set_cells nb]; rfl
  have hc2 : w5.heap[g2]? = some (.cells #[.int .i64 c0, .int .i64 c1, .int .i64 c2, .int .i64 c3] 3 (0, 0)) := by rw [h5]; exact (Below.heap_setCell _ _ _ _ hgg.symm).trans hc
  have Hh := Lib.hid (show w5.heap[b]? = some (.cells #[.string u, .string v] 9 (0, 0)) from by rw [h5]; exact (Below.heap_setCell _ _ _ _ (by show b ≠ g; omega)).trans Hh.out)
  have bl2 : Below w.heap.size w w5 := by rw [h5]; exact bl.setCell hgw _
  clear h5 nb hc bl
  obtain ⟨w4, hw4⟩ : ∃ w4, w4 = w5 := ⟨_, rfl⟩
  rw [← hw4] at nb2 hc2 Hh bl2 ⊢
  clear hw4
  have nb := nb2
  have hc := hc2
  have bl := bl2
  clear nb2 hc2 bl2
  rw [rounds_succ]
  have m := cellsAt nb 3 _ rfl
  have n := cellsFree nb 3
  have k := cellsAt hc 3 _ rfl
  go_wp2_with fail
  clear m n k
  obtain ⟨w5, h5⟩ : ∃ w5, w5 = w4.setCell ⟨g, 3, none⟩ (.int .i64 (wrap64 (i3 + c3))) := ⟨_, rfl⟩
  rw [← h5]
  have nb2 : w5.heap[g]? = some (.cells #[.int .i64 (wrap64 (i0 + c0)), .int .i64 (wrap64 (i1 + c1)), .int .i64 (wrap64 (i2 + c2)), .int .i64 (wrap64 (i3 + c3))] 3 (0, 0)) := by rw [h5, set_cells nb]; rfl
  have hc2 : w5.heap[g2]? = some (.cells #[.int .i64 c0, .int .i64 c1, .int .i64 c2, .int .i64 c3] 3 (0, 0)) := by rw [h5]; exact (Below.heap_setCell _ _ _ _ hgg.symm).trans hc
  have Hh := Lib.hid (show w5.heap[b]? = some (.cells #[.string u, .string v] 9 (0, 0)) from by rw [h5]; exact (Below.heap_setCell _ _ _ _ (by show b ≠ g; omega)).trans Hh.out)
  have bl2 : Below w.heap.size w w5 := by rw [h5]; exact bl.setCell hgw _
  clear h5 nb hc bl
  obtain ⟨w4, hw4⟩ : ∃ w4, w4 = w5 := ⟨_, rfl⟩
  rw [← hw4] at nb2 hc2 Hh bl2 ⊢
  clear hw4
  have nb := nb2
  have hc := hc2
  have bl := bl2
  clear nb2 hc2 bl2
  rw [rounds_succ]
  have cu := cellOf2b Hh.out
  go_wp2_with fail
  clear hc
  rw [rounds_succ]
  go_wp2_with fail
  refine (I2.out _).mono ?_
  rintro e w4 ⟨g2, rfl, hg2, hc, b4⟩
  have hgg : g ≠ g2 := by have := lt_of_block nb; omega
  have hgb2 : b ≠ g2 := by have := lt_of_block Hh.out; omega
  replace nb := (b4.block _ (lt_of_block nb)).trans nb
  have Hh := Lib.hid ((b4.block _ (lt_of_block Hh.out)).trans Hh.out)
  replace bl := below_trans bl b4 bl.size
  clear b4 cu
  go_wp2_with fail
  refine wp_loop_rounds 5 ?_
  rw [rounds_succ]
  have m := cellsAt nb 0 _ rfl
  have n := cellsFree nb 0
  have k := cellsAt hc 0 _ rfl
  go_wp2_with fail
  clear m n k
  obtain ⟨w5, h5⟩ : ∃ w5, w5 = w4.setCell ⟨g, 0, none⟩ (.int .i64 (wrap64 ((wrap64 (i0 + c0)) + d0))) := ⟨_, rfl⟩
  rw [← h5]
  have nb2 : w5.heap[g]? = some (.cells #[.int .i64 (wrap64 ((wrap64 (i0 + c0)) + d0)), .int .i64 (wrap64 (i1 + c1)), .int .i64 (wrap64 (i2 + c2)), .int .i64 (wrap64 (i3 + c3))] 3 (0, 0)) := by rw [h5, set_cells nb]; rfl
  have hc2 : w5.heap[g2]? = some (.cells #[.int .i64 d0, .int .i64 d1, .int .i64 d2, .int .i64 d3] 3 (0, 0)) := by rw [h5]; exact (Below.heap_setCell _ _ _ _ hgg.symm).trans hc
  have Hh := Lib.hid (show w5.heap[b]? = some (.cells #[.string u, .string v] 9 (0, 0)) from by rw [h5]; exact (Below.heap_setCell _ _ _ _ (by show b ≠ g; omega)).trans Hh.out)
  have bl2 : Below w.heap.size w w5 := by rw [h5]; exact bl.setCell hgw _
  clear h5 nb hc bl
  obtain ⟨w4, hw4⟩ : ∃ w4, w4 = w5 := ⟨_, rfl⟩
  rw [← hw4] at nb2 hc2 Hh bl2 ⊢
  clear hw4
  have nb := nb2
  have hc := hc2
  have bl := bl2
  clear nb2 hc2 bl2
  rw [rounds_succ]
  have m := cellsAt nb 1 _ rfl
  have n := cellsFree nb 1
  have k := cellsAt hc 1 _ rfl
  go_wp2_with fail
  clear m n k
  obtain ⟨w5, h5⟩ : ∃ w5, w5 = w4.setCell ⟨g, 1, none⟩ (.int .i64 (wrap64 ((wrap64 (i1 + c1)) + d1))) := ⟨_, rfl⟩
  rw [← h5]
  have nb2 : w5.heap[g]? = some (.cells #[.int .i64 (wrap64 ((wrap64 (i0 + c0)) + d0)), .int .i64 (wrap64 ((wrap64 (i1 + c1)) + d1)), .int .i64 (wrap64 (i2 + c2)), .int .i64 (wrap64 (i3 + c3))] 3 (0, 0)) := by rw [h5, set_cells nb]; rfl
  have hc2 : w5.heap[g2]? = some (.cells #[.int .i64 d0, .int .i64 d1, .int .i64 d2, .int .i64 d3] 3 (0, 0)) := by rw [h5]; exact (Below.heap_setCell _ _ _ _ hgg.symm).trans hc
  have Hh := Lib.hid (show w5.heap[b]? = some (.cells #[.string u, .string v] 9 (0, 0)) from by rw [h5]; exact (Below.heap_setCell _ _ _ _ (by show b ≠ g; omega)).trans Hh.out)
  have bl2 : Below w.heap.size w w5 := by rw [h5]; exact bl.setCell hgw _
  clear h5 nb hc bl
  obtain ⟨w4, hw4⟩ : ∃ w4, w4 = w5 := ⟨_, rfl⟩
  rw [← hw4] at nb2 hc2 Hh bl2 ⊢
  clear hw4
  have nb := nb2
  have hc := hc2
  have bl := bl2
  clear nb2 hc2 bl2
  rw [rounds_succ]
  have m := cellsAt nb 2 _ rfl
  have n := cellsFree nb 2
  have k := cellsAt hc 2 _ rfl
  go_wp2_with fail
  clear m n k
  obtain ⟨w5, h5⟩ : ∃ w5, w5 = w4.setCell ⟨g, 2, none⟩ (.int .i64 (wrap64 ((wrap64 (i2 + c2)) + d2))) := ⟨_, rfl⟩
  rw [← h5]
  have nb2 : w5.heap[g]? = some (.cells #[.int .i64 (wrap64 ((wrap64 (i0 + c0)) + d0)), .int .i64 (wrap64 ((wrap64 (i1 + c1)) + d1)), .int .i64 (wrap64 ((wrap64 (i2 + c2)) + d2)), .int .i64 (wrap64 (i3 + c3))] 3 (0, 0)) := by rw [h5, set_cells nb]; rfl
  have hc2 : w5.heap[g2]? = some (.cells #[.int .i64 d0, .int .i64 d1, .int .i64 d2, .int .i64 d3] 3 (0, 0)) := by rw [h5]; exact (Below.heap_setCell _ _ _ _ hgg.symm).trans hc
  have Hh := Lib.hid (show w5.heap[b]? = some (.cells #[.string u, .string v] 9 (0, 0)) from by rw [h5]; exact (Below.heap_setCell _ _ _ _ (by show b ≠ g; omega)).trans Hh.out)
  have bl2 : Below w.heap.size w w5 := by rw [h5]; exact bl.setCell hgw _
  clear h5 nb hc bl
  obtain ⟨w4, hw4⟩ : ∃ w4, w4 = w5 := ⟨_, rfl⟩
  rw [← hw4] at nb2 hc2 Hh bl2 ⊢
  clear hw4
  have nb := nb2
  have hc := hc2
  have bl := bl2
  clear nb2 hc2 bl2
  rw [rounds_succ]
  have m := cellsAt nb 3 _ rfl
  have n := cellsFree nb 3
  have k := cellsAt hc 3 _ rfl
  go_wp2_with fail
  clear m n k
  obtain ⟨w5, h5⟩ : ∃ w5, w5 = w4.setCell ⟨g, 3, none⟩ (.int .i64 (wrap64 ((wrap64 (i3 + c3)) + d3))) := ⟨_, rfl⟩
  rw [← h5]
  have nb2 : w5.heap[g]? = some (.cells #[.int .i64 (wrap64 ((wrap64 (i0 + c0)) + d0)), .int .i64 (wrap64 ((wrap64 (i1 + c1)) + d1)), .int .i64 (wrap64 ((wrap64 (i2 + c2)) + d2)), .int .i64 (wrap64 ((wrap64 (i3 + c3)) + d3))] 3 (0, 0)) := by rw [h5, set_cells nb]; rfl
  have hc2 : w5.heap[g2]? = some (.cells #[.int .i64 d0, .int .i64 d1, .int .i64 d2, .int .i64 d3] 3 (0, 0)) := by rw [h5]; exact (Below.heap_setCell _ _ _ _ hgg.symm).trans hc
  have Hh := Lib.hid (show w5.heap[b]? = some (.cells #[.string u, .string v] 9 (0, 0)) from by rw [h5]; exact (Below.heap_setCell _ _ _ _ (by show b ≠ g; omega)).trans Hh.out)
  have bl2 : Below w.heap.size w w5 := by rw [h5]; exact bl.setCell hgw _
  clear h5 nb hc bl
  obtain ⟨w4, hw4⟩ : ∃ w4, w4 = w5 := ⟨_, rfl⟩
  rw [← hw4] at nb2 hc2 Hh bl2 ⊢
  clear hw4
  have nb := nb2
  have hc := hc2
  have bl := bl2
  clear nb2 hc2 bl2
  rw [rounds_succ]
  skip
  go_wp2_with fail
  clear hc
  rw [rounds_succ]
  go_wp2_with fail
  go_ret
  exact ⟨g, rfl, hgw, by have h := nb; rw [E0.out, E1.out, E2.out, E3.out] at h; exact h, bl⟩
set_option maxHeartbeats 4000000 in
theorem su_snd (s : ByteArray) (a : UInt8) (kd : Int) (u : ByteArray) (c0 c1 c2 c3 : Int) (hz : s.size ≤ 700) (k33 : (kd == 33) = true) (k63 : (kd == 63) = false) (k61 : (kd == 61) = false) (h0 : 0 < s.size) (p0 : Bool) (q0 : (((s[0]'h0).toNat : Int) == (a.toNat : Int)) = p0) (h2 : 2 < s.size) (p2 : Bool) (q2 : (((s[2]'h2).toNat : Int) == (a.toNat : Int)) = p2) (HK : ∀ w, Calls Tryz.prog 66 #[.string s] w fun e w' => e = .returned (.int .u8 kd) ∧ w = w') (HB : ∀ w, Calls Tryz.prog 64 #[.string s] w fun e w' => e = .returned (.tuple #[.int .u8 0, .bool false]) ∧ w = w') (HP : ∀ w, Calls Tryz.prog 62 #[.string s] w fun e w' => ∃ b, e = .returned (.slice (some ⟨b, 0, none⟩) 1 1) ∧ w.heap.size ≤ b ∧ w'.heap[b]? = some (.cells #[.string u] 9 (0, 0)) ∧ Below w.heap.size w w') (ih : ∀ w, Calls Tryz.prog 34 #[.string u, .int .u8 (a.toNat : Int)] w fun e w' => ∃ g, e = .returned (.slice (some ⟨g, 0, none⟩) 4 4) ∧ w.heap.size ≤ g ∧ w'.heap[g]? = some (.cells #[.int .i64 c0, .int .i64 c1, .int .i64 c2, .int .i64 c3] 3 (0, 0)) ∧ Below w.heap.size w w') (w : World) : Calls Tryz.prog 34 #[.string s, .int .u8 (a.toNat : Int)] w fun e w' => ∃ g, e = .returned (.slice (some ⟨g, 0, none⟩) 4 4) ∧ w.heap.size ≤ g ∧ w'.heap[g]? = some (.cells #[.int .i64 (wrap64 (cond p0 1 0 + c0)), .int .i64 (wrap64 (0 + c1)), .int .i64 (wrap64 (cond p2 1 0 + c2)), .int .i64 (wrap64 (0 + c3))] 3 (0, 0)) ∧ Below w.heap.size w w' := by
  have XK := Lib.hid HK
  have XB := Lib.hid HB
  have XP := Lib.hid HP
  have I1 := Lib.hid ih
  clear HK HB HP ih
  have nb := new_block w (.cells #[.int .i64 0, .int .i64 0, .int .i64 0, .int .i64 0] 3)
  have bl := (Below.refl w.heap.size w).alloc (Nat.le_refl _) (.cells #[.int .i64 0, .int .i64 0, .int .i64 0, .int .i64 0] 3)
  obtain ⟨W, hW⟩ : ∃ W, W = w.alloc (.cells #[.int .i64 0, .int .i64 0, .int .i64 0, .int .i64 0] 3) := ⟨_, rfl⟩
  have hmk := mk4 w
  rw [← hW] at nb bl hmk
  obtain ⟨g, hg⟩ : ∃ g, g = w.heap.size := ⟨_, rfl⟩
  have hgw : w.heap.size ≤ g := by omega
  rw [← hg] at nb hmk
  clear hW hg
  cases p0
  · cases p2
    · go_enter Tryz.func34, Tryz.ntmps34
      go_wp2_with fail
      clear hmk
      refine (XK.out _).mono ?_
      rintro e w2 ⟨rfl, rfl⟩
      have m0 := cellsAt nb 0 _ rfl
      have n0 := cellsFree nb 0
      have m1 := cellsAt nb 1 _ rfl
      have n1 := cellsFree nb 1
      have m2 := cellsAt nb 2 _ rfl
      have n2 := cellsFree nb 2
      have m3 := cellsAt nb 3 _ rfl
      have n3 := cellsFree nb 3
      go_wp2_with fail
      clear m0 m1 m2 m3 n0 n1 n2 n3
      refine (XB.out _).mono ?_
      rintro e w2 ⟨rfl, rfl⟩
      go_wp2_with fail
      obtain ⟨i0, e0⟩ : ∃ i : Int, i = 0 := ⟨_, rfl⟩
      obtain ⟨i1, e1⟩ : ∃ i : Int, i = 0 := ⟨_, rfl⟩
      obtain ⟨i2, e2⟩ : ∃ i : Int, i = 0 := ⟨_, rfl⟩
      obtain ⟨i3, e3⟩ : ∃ i : Int, i = 0 := ⟨_, rfl⟩
      replace nb := nb.trans (show some (Obj.cells #[.int .i64 0, .int .i64 0, .int .i64 0, .int .i64 0] 3 (0, 0)) = some (Obj.cells #[.int .i64 i0, .int .i64 i1, .int .i64 i2, .int .i64 i3] 3 (0, 0)) from by rw [e0, e1, e2, e3])
      have E0 := Lib.hid e0
      have E1 := Lib.hid e1
      have E2 := Lib.hid e2
      have E3 := Lib.hid e3
      clear e0 e1 e2 e3
      refine (XP.out _).mono ?_
      rintro e w3 ⟨b, rfl, hb, hh, b3⟩
      have hgb : g < b := Nat.lt_of_lt_of_le (lt_of_block nb) hb
      replace nb := (b3.block _ (lt_of_block nb)).trans nb
      replace bl := below_trans bl b3 bl.size
      clear b3
      have cu := cellOf1 hh
      have Hh := Lib.hid hh
      clear hh
      go_wp2_with fail
      refine wp_loop_rounds 2 ?_
      rw [rounds_succ]
      go_wp2_with fail
      refine (I1.out _).mono ?_
      rintro e w4 ⟨g2, rfl, hg2, hc, b4⟩
      have hgg : g ≠ g2 := by have := lt_of_block nb; omega
      have hgb2 : b ≠ g2 := by have := lt_of_block Hh.out; omega
      replace nb := (b4.block _ (lt_of_block nb)).trans nb
      have Hh := Lib.hid ((b4.block _ (lt_of_block Hh.out)).trans Hh.out)
      replace bl := below_trans bl b4 bl.size
      clear b4 cu
      go_wp2_with fail
      refine wp_loop_rounds 5 ?_
      rw [rounds_succ]
      have m := cellsAt nb 0 _ rfl
      have n := cellsFree nb 0
      have k := cellsAt hc 0 _ rfl
      go_wp2_with fail
      clear m n k
      obtain ⟨w5, h5⟩ : ∃ w5, w5 = w4.setCell ⟨g, 0, none⟩ (.int .i64 (wrap64 (i0 + c0))) := ⟨_, rfl⟩
      rw [← h5]
      have nb2 : w5.heap[g]? = some (.cells #[.int .i64 (wrap64 (i0 + c0)), .int .i64 i1, .int .i64 i2, .int .i64 i3] 3 (0, 0)) := by rw [h5, set_cells nb]; rfl
      have hc2 : w5.heap[g2]? = some (.cells #[.int .i64 c0, .int .i64 c1, .int .i64 c2, .int .i64 c3] 3 (0, 0)) := by rw [h5]; exact (Below.heap_setCell _ _ _ _ hgg.symm).trans hc
      have Hh := Lib.hid (show w5.heap[b]? = some (.cells #[.string u] 9 (0, 0)) from by rw [h5]; exact (Below.heap_setCell _ _ _ _ (by show b ≠ g; omega)).trans Hh.out)
      have bl2 : Below w.heap.size w w5 := by rw [h5]; exact bl.setCell hgw _
      clear h5 nb hc bl
      obtain ⟨w4, hw4⟩ : ∃ w4, w4 = w5 := ⟨_, rfl⟩
      rw [← hw4] at nb2 hc2 Hh bl2 ⊢
      clear hw4
      have nb := nb2
      have hc := hc2
      have bl := bl2
      clear nb2 hc2 bl2
      rw [rounds_succ]
      have m := cellsAt nb 1 _ rfl
      have n := cellsFree nb 1
      have k := cellsAt hc 1 _ rfl
      go_wp2_with fail
      clear m n k
      obtain ⟨w5, h5⟩ : ∃ w5, w5 = w4.setCell ⟨g, 1, none⟩ (.int .i64 (wrap64 (i1 + c1))) := ⟨_, rfl⟩
      rw [← h5]
      have nb2 : w5.heap[g]? = some (.cells #[.int .i64 (wrap64 (i0 + c0)), .int .i64 (wrap64 (i1 + c1)), .int .i64 i2, .int .i64 i3] 3 (0, 0)) := by rw [h5, set_cells nb]; rfl
      have hc2 : w5.heap[g2]? = some (.cells #[.int .i64 c0, .int .i64 c1, .int .i64 c2, .int .i64 c3] 3 (0, 0)) := by rw [h5]; exact (Below.heap_setCell _ _ _ _ hgg.symm).trans hc
      have Hh := Lib.hid (show w5.heap[b]? = some (.cells #[.string u] 9 (0, 0)) from by rw [h5]; exact (Below.heap_setCell _ _ _ _ (by show b ≠ g; omega)).trans Hh.out)
      have bl2 : Below w.heap.size w w5 := by rw [h5]; exact bl.setCell hgw _
      clear h5 nb hc bl
      obtain ⟨w4, hw4⟩ : ∃ w4, w4 = w5 := ⟨_, rfl⟩
      rw [← hw4] at nb2 hc2 Hh bl2 ⊢
      clear hw4
      have nb := nb2
      have hc := hc2
      have bl := bl2
      clear nb2 hc2 bl2
      rw [rounds_succ]
      have m := cellsAt nb 2 _ rfl
      have n := cellsFree nb 2
      have k := cellsAt hc 2 _ rfl
      go_wp2_with fail
      clear m n k
      obtain ⟨w5, h5⟩ : ∃ w5, w5 = w4.setCell ⟨g, 2, none⟩ (.int .i64 (wrap64 (i2 + c2))) := ⟨_, rfl⟩
      rw [← h5]
      have nb2 : w5.heap[g]? = some (.cells #[.int .i64 (wrap64 (i0 + c0)), .int .i64 (wrap64 (i1 + c1)), .int .i64 (wrap64 (i2 + c2)), .int .i64 i3] 3 (0, 0)) := by rw [h5, set_cells nb]; rfl
      have hc2 : w5.heap[g2]? = some (.cells #[.int .i64 c0, .int .i64 c1, .int .i64 c2, .int .i64 c3] 3 (0, 0)) := by rw [h5]; exact (Below.heap_setCell _ _ _ _ hgg.symm).trans hc
      have Hh := Lib.hid (show w5.heap[b]? = some (.cells #[.string u] 9 (0, 0)) from by rw [h5]; exact (Below.heap_setCell _ _ _ _ (by show b ≠ g; omega)).trans Hh.out)
      have bl2 : Below w.heap.size w w5 := by rw [h5]; exact bl.setCell hgw _
      clear h5 nb hc bl
      obtain ⟨w4, hw4⟩ : ∃ w4, w4 = w5 := ⟨_, rfl⟩
      rw [← hw4] at nb2 hc2 Hh bl2 ⊢
      clear hw4
      have nb := nb2
      have hc := hc2
      have bl := bl2
      clear nb2 hc2 bl2
      rw [rounds_succ]
      have m := cellsAt nb 3 _ rfl
      have n := cellsFree nb 3
      have k := cellsAt hc 3 _ rfl
      go_wp2_with fail
      clear m n k
      obtain ⟨w5, h5⟩ : ∃ w5, w5 = w4.setCell ⟨g, 3, none⟩ (.int .i64 (wrap64 (i3 + c3))) := ⟨_, rfl⟩
      rw [← h5]
      have nb2 : w5.heap[g]? = some (.cells #[.int .i64 (wrap64 (i0 + c0)), .int .i64 (wrap64 (i1 + c1)), .int .i64 (wrap64 (i2 + c2)), .int .i64 (wrap64 (i3 + c3))] 3 (0, 0)) := by rw [h5, set_cells nb]; rfl
      have hc2 : w5.heap[g2]? = some (.cells #[.int .i64 c0, .int .i64 c1, .int .i64 c2, .int .i64 c3] 3 (0, 0)) := by rw [h5]; exact (Below.heap_setCell _ _ _ _ hgg.symm).trans hc
      have Hh := Lib.hid (show w5.heap[b]? = some (.cells #[.string u] 9 (0, 0)) from by rw [h5]; exact (Below.heap_setCell _ _ _ _ (by show b ≠ g; omega)).trans Hh.out)
      have bl2 : Below w.heap.size w w5 := by rw [h5]; exact bl.setCell hgw _
      clear h5 nb hc bl
      obtain ⟨w4, hw4⟩ : ∃ w4, w4 = w5 := ⟨_, rfl⟩
      rw [← hw4] at nb2 hc2 Hh bl2 ⊢
      clear hw4
      have nb := nb2
      have hc := hc2
      have bl := bl2
      clear nb2 hc2 bl2
      rw [rounds_succ]
      skip
      go_wp2_with fail
      clear hc
      rw [rounds_succ]
      go_wp2_with fail
      go_ret
      exact ⟨g, rfl, hgw, by have h := nb; rw [E0.out, E1.out, E2.out, E3.out] at h; exact h, bl⟩
    · go_enter Tryz.func34, Tryz.ntmps34
      go_wp2_with fail
      clear hmk
      refine (XK.out _).mono ?_
      rintro e w2 ⟨rfl, rfl⟩
      have m0 := cellsAt nb 0 _ rfl
      have n0 := cellsFree nb 0
      have m1 := cellsAt nb 1 _ rfl
      have n1 := cellsFree nb 1
      have m2 := cellsAt nb 2 _ rfl
      have n2 := cellsFree nb 2
      have m3 := cellsAt nb 3 _ rfl
      have n3 := cellsFree nb 3
      go_wp2_with fail
      clear m0 m1 m2 m3 n0 n1 n2 n3
      have nb1 : (W.setCell ⟨g, 2, none⟩ (.int .i64 1)).heap[g]? = some (.cells #[.int .i64 0, .int .i64 0, .int .i64 1, .int .i64 0] 3 (0, 0)) := by rw [set_cells nb]; rfl
      replace bl := bl.setCell (p := ⟨g, 2, none⟩) hgw (.int .i64 1)
      obtain ⟨W1, hW1⟩ : ∃ W1, W1 = (W.setCell ⟨g, 2, none⟩ (.int .i64 1)) := ⟨_, rfl⟩
      rw [← hW1] at nb1 bl ⊢
      clear hW1
      replace nb := nb1
      refine (XB.out _).mono ?_
      rintro e w2 ⟨rfl, rfl⟩
      go_wp2_with fail
      obtain ⟨i0, e0⟩ : ∃ i : Int, i = 0 := ⟨_, rfl⟩
      obtain ⟨i1, e1⟩ : ∃ i : Int, i = 0 := ⟨_, rfl⟩
      obtain ⟨i2, e2⟩ : ∃ i : Int, i = 1 := ⟨_, rfl⟩
      obtain ⟨i3, e3⟩ : ∃ i : Int, i = 0 := ⟨_, rfl⟩
      replace nb := nb.trans (show some (Obj.cells #[.int .i64 0, .int .i64 0, .int .i64 1, .int .i64 0] 3 (0, 0)) = some (Obj.cells #[.int .i64 i0, .int .i64 i1, .int .i64 i2, .int .i64 i3] 3 (0, 0)) from by rw [e0, e1, e2, e3])
      have E0 := Lib.hid e0
      have E1 := Lib.hid e1
      have E2 := Lib.hid e2
      have E3 := Lib.hid e3
      clear e0 e1 e2 e3
      refine (XP.out _).mono ?_
      rintro e w3 ⟨b, rfl, hb, hh, b3⟩
      have hgb : g < b := Nat.lt_of_lt_of_le (lt_of_block nb) hb
      replace nb := (b3.block _ (lt_of_block nb)).trans nb
      replace bl := below_trans bl b3 bl.size
      clear b3
      have cu := cellOf1 hh
      have Hh := Lib.hid hh
      clear hh
      go_wp2_with fail
      refine wp_loop_rounds 2 ?_
      rw [rounds_succ]
      go_wp2_with fail
      refine (I1.out _).mono ?_
      rintro e w4 ⟨g2, rfl, hg2, hc, b4⟩
      have hgg : g ≠ g2 := by have := lt_of_block nb; omega
      have hgb2 : b ≠ g2 := by have := lt_of_block Hh.out; omega
      replace nb := (b4.block _ (lt_of_block nb)).trans nb
      have Hh := Lib.hid ((b4.block _ (lt_of_block Hh.out)).trans Hh.out)
      replace bl := below_trans bl b4 bl.size
      clear b4 cu
      go_wp2_with fail
      refine wp_loop_rounds 5 ?_
      rw [rounds_succ]
      have m := cellsAt nb 0 _ rfl
      have n := cellsFree nb 0
      have k := cellsAt hc 0 _ rfl
      go_wp2_with fail
      clear m n k
      obtain ⟨w5, h5⟩ : ∃ w5, w5 = w4.setCell ⟨g, 0, none⟩ (.int .i64 (wrap64 (i0 + c0))) := ⟨_, rfl⟩
      rw [← h5]
      have nb2 : w5.heap[g]? = some (.cells #[.int .i64 (wrap64 (i0 + c0)), .int .i64 i1, .int .i64 i2, .int .i64 i3] 3 (0, 0)) := by rw [h5, set_cells nb]; rfl
      have hc2 : w5.heap[g2]? = some (.cells #[.int .i64 c0, .int .i64 c1, .int .i64 c2, .int .i64 c3] 3 (0, 0)) := by rw [h5]; exact (Below.heap_setCell _ _ _ _ hgg.symm).trans hc
      have Hh := Lib.hid (show w5.heap[b]? = some (.cells #[.string u] 9 (0, 0)) from by rw [h5]; exact (Below.heap_setCell _ _ _ _ (by show b ≠ g; omega)).trans Hh.out)
      have bl2 : Below w.heap.size w w5 := by rw [h5]; exact bl.setCell hgw _
      clear h5 nb hc bl
      obtain ⟨w4, hw4⟩ : ∃ w4, w4 = w5 := ⟨_, rfl⟩
      rw [← hw4] at nb2 hc2 Hh bl2 ⊢
      clear hw4
      have nb := nb2
      have hc := hc2
      have bl := bl2
      clear nb2 hc2 bl2
      rw [rounds_succ]
      have m := cellsAt nb 1 _ rfl
      have n := cellsFree nb 1
      have k := cellsAt hc 1 _ rfl
      go_wp2_with fail
      clear m n k
      obtain ⟨w5, h5⟩ : ∃ w5, w5 = w4.setCell ⟨g, 1, none⟩ (.int .i64 (wrap64 (i1 + c1))) := ⟨_, rfl⟩
      rw [← h5]
      have nb2 : w5.heap[g]? = some (.cells #[.int .i64 (wrap64 (i0 + c0)), .int .i64 (wrap64 (i1 + c1)), .int .i64 i2, .int .i64 i3] 3 (0, 0)) := by rw [h5, set_cells nb]; rfl
      have hc2 : w5.heap[g2]? = some (.cells #[.int .i64 c0, .int .i64 c1, .int .i64 c2, .int .i64 c3] 3 (0, 0)) := by rw [h5]; exact (Below.heap_setCell _ _ _ _ hgg.symm).trans hc
      have Hh := Lib.hid (show w5.heap[b]? = some (.cells #[.string u] 9 (0, 0)) from by rw [h5]; exact (Below.heap_setCell _ _ _ _ (by show b ≠ g; omega)).trans Hh.out)
      have bl2 : Below w.heap.size w w5 := by rw [h5]; exact bl.setCell hgw _
      clear h5 nb hc bl
      obtain ⟨w4, hw4⟩ : ∃ w4, w4 = w5 := ⟨_, rfl⟩
      rw [← hw4] at nb2 hc2 Hh bl2 ⊢
      clear hw4
      have nb := nb2
      have hc := hc2
      have bl := bl2
      clear nb2 hc2 bl2
      rw [rounds_succ]
      have m := cellsAt nb 2 _ rfl
      have n := cellsFree nb 2
      have k := cellsAt hc 2 _ rfl
      go_wp2_with fail
      clear m n k
      obtain ⟨w5, h5⟩ : ∃ w5, w5 = w4.setCell ⟨g, 2, none⟩ (.int .i64 (wrap64 (i2 + c2))) := ⟨_, rfl⟩
      rw [← h5]
      have nb2 : w5.heap[g]? = some (.cells #[.int .i64 (wrap64 (i0 + c0)), .int .i64 (wrap64 (i1 + c1)), .int .i64 (wrap64 (i2 + c2)), .int .i64 i3] 3 (0, 0)) := by rw [h5, set_cells nb]; rfl
      have hc2 : w5.heap[g2]? = some (.cells #[.int .i64 c0, .int .i64 c1, .int .i64 c2, .int .i64 c3] 3 (0, 0)) := by rw [h5]; exact (Below.heap_setCell _ _ _ _ hgg.symm).trans hc
      have Hh := Lib.hid (show w5.heap[b]? = some (.cells #[.string u] 9 (0, 0)) from by rw [h5]; exact (Below.heap_setCell _ _ _ _ (by show b ≠ g; omega)).trans Hh.out)
      have bl2 : Below w.heap.size w w5 := by rw [h5]; exact bl.setCell hgw _
      clear h5 nb hc bl
      obtain ⟨w4, hw4⟩ : ∃ w4, w4 = w5 := ⟨_, rfl⟩
      rw [← hw4] at nb2 hc2 Hh bl2 ⊢
      clear hw4
      have nb := nb2
      have hc := hc2
      have bl := bl2
      clear nb2 hc2 bl2
      rw [rounds_succ]
      have m := cellsAt nb 3 _ rfl
      have n := cellsFree nb 3
      have k := cellsAt hc 3 _ rfl
      go_wp2_with fail
      clear m n k
      obtain ⟨w5, h5⟩ : ∃ w5, w5 = w4.setCell ⟨g, 3, none⟩ (.int .i64 (wrap64 (i3 + c3))) := ⟨_, rfl⟩
      rw [← h5]
      have nb2 : w5.heap[g]? = some (.cells #[.int .i64 (wrap64 (i0 + c0)), .int .i64 (wrap64 (i1 + c1)), .int .i64 (wrap64 (i2 + c2)), .int .i64 (wrap64 (i3 + c3))] 3 (0, 0)) := by rw [h5, set_cells nb]; rfl
      have hc2 : w5.heap[g2]? = some (.cells #[.int .i64 c0, .int .i64 c1, .int .i64 c2, .int .i64 c3] 3 (0, 0)) := by rw [h5]; exact (Below.heap_setCell _ _ _ _ hgg.symm).trans hc
      have Hh := Lib.hid (show w5.heap[b]? = some (.cells #[.string u] 9 (0, 0)) from by rw [h5]; exact (Below.heap_setCell _ _ _ _ (by show b ≠ g; omega)).trans Hh.out)
      have bl2 : Below w.heap.size w w5 := by rw [h5]; exact bl.setCell hgw _
      clear h5 nb hc bl
      obtain ⟨w4, hw4⟩ : ∃ w4, w4 = w5 := ⟨_, rfl⟩
      rw [← hw4] at nb2 hc2 Hh bl2 ⊢
      clear hw4
      have nb := nb2
      have hc := hc2
      have bl := bl2
      clear nb2 hc2 bl2
      rw [rounds_succ]
      skip
      go_wp2_with fail
      clear hc
      rw [rounds_succ]
      go_wp2_with fail
      go_ret
      exact ⟨g, rfl, hgw, by have h := nb; rw [E0.out, E1.out, E2.out, E3.out] at h; exact h, bl⟩
  · cases p2
    · go_enter Tryz.func34, Tryz.ntmps34
      go_wp2_with fail
      clear hmk
      refine (XK.out _).mono ?_
      rintro e w2 ⟨rfl, rfl⟩
      have m0 := cellsAt nb 0 _ rfl
      have n0 := cellsFree nb 0
      have m1 := cellsAt nb 1 _ rfl
      have n1 := cellsFree nb 1
      have m2 := cellsAt nb 2 _ rfl
      have n2 := cellsFree nb 2
      have m3 := cellsAt nb 3 _ rfl
      have n3 := cellsFree nb 3
      go_wp2_with fail
      clear m0 m1 m2 m3 n0 n1 n2 n3
      have nb1 : (W.setCell ⟨g, 0, none⟩ (.int .i64 1)).heap[g]? = some (.cells #[.int .i64 1, .int .i64 0, .int .i64 0, .int .i64 0] 3 (0, 0)) := by rw [set_cells nb]; rfl
      replace bl := bl.setCell (p := ⟨g, 0, none⟩) hgw (.int .i64 1)
      obtain ⟨W1, hW1⟩ : ∃ W1, W1 = (W.setCell ⟨g, 0, none⟩ (.int .i64 1)) := ⟨_, rfl⟩
      rw [← hW1] at nb1 bl ⊢
      clear hW1
      replace nb := nb1
      refine (XB.out _).mono ?_
      rintro e w2 ⟨rfl, rfl⟩
      go_wp2_with fail
      obtain ⟨i0, e0⟩ : ∃ i : Int, i = 1 := ⟨_, rfl⟩
      obtain ⟨i1, e1⟩ : ∃ i : Int, i = 0 := ⟨_, rfl⟩
      obtain ⟨i2, e2⟩ : ∃ i : Int, i = 0 := ⟨_, rfl⟩
      obtain ⟨i3, e3⟩ : ∃ i : Int, i = 0 := ⟨_, rfl⟩
      replace nb := nb.trans (show some (Obj.cells #[.int .i64 1, .int .i64 0, .int .i64 0, .int .i64 0] 3 (0, 0)) = some (Obj.cells #[.int .i64 i0, .int .i64 i1, .int .i64 i2, .int .i64 i3] 3 (0, 0)) from by rw [e0, e1, e2, e3])
      have E0 := Lib.hid e0
      have E1 := Lib.hid e1
      have E2 := Lib.hid e2
      have E3 := Lib.hid e3
      clear e0 e1 e2 e3
      refine (XP.out _).mono ?_
      rintro e w3 ⟨b, rfl, hb, hh, b3⟩
      have hgb : g < b := Nat.lt_of_lt_of_le (lt_of_block nb) hb
      replace nb := (b3.block _ (lt_of_block nb)).trans nb
      replace bl := below_trans bl b3 bl.size
      clear b3
      have cu := cellOf1 hh
      have Hh := Lib.hid hh
      clear hh
      go_wp2_with fail
      refine wp_loop_rounds 2 ?_
      rw [rounds_succ]
      go_wp2_with fail
      refine (I1.out _).mono ?_
      rintro e w4 ⟨g2, rfl, hg2, hc, b4⟩
      have hgg : g ≠ g2 := by have := lt_of_block nb; omega
      have hgb2 : b ≠ g2 := by have := lt_of_block Hh.out; omega
      replace nb := (b4.block _ (lt_of_block nb)).trans nb
      have Hh := Lib.hid ((b4.block _ (lt_of_block Hh.out)).trans Hh.out)
      replace bl := below_trans bl b4 bl.size
      clear b4 cu
      go_wp2_with fail
      refine wp_loop_rounds 5 ?_
      rw [rounds_succ]
      have m := cellsAt nb 0 _ rfl
      have n := cellsFree nb 0
      have k := cellsAt hc 0 _ rfl
      go_wp2_with fail
      clear m n k
      obtain ⟨w5, h5⟩ : ∃ w5, w5 = w4.setCell ⟨g, 0, none⟩ (.int .i64 (wrap64 (i0 + c0))) := ⟨_, rfl⟩
      rw [← h5]
      have nb2 : w5.heap[g]? = some (.cells #[.int .i64 (wrap64 (i0 + c0)), .int .i64 i1, .int .i64 i2, .int .i64 i3] 3 (0, 0)) := by rw [h5, set_cells nb]; rfl
      have hc2 : w5.heap[g2]? = some (.cells #[.int .i64 c0, .int .i64 c1, .int .i64 c2, .int .i64 c3] 3 (0, 0)) := by rw [h5]; exact (Below.heap_setCell _ _ _ _ hgg.symm).trans hc
      have Hh := Lib.hid (show w5.heap[b]? = some (.cells #[.string u] 9 (0, 0)) from by rw [h5]; exact (Below.heap_setCell _ _ _ _ (by show b ≠ g; omega)).trans Hh.out)
      have bl2 : Below w.heap.size w w5 := by rw [h5]; exact bl.setCell hgw _
      clear h5 nb hc bl
      obtain ⟨w4, hw4⟩ : ∃ w4, w4 = w5 := ⟨_, rfl⟩
      rw [← hw4] at nb2 hc2 Hh bl2 ⊢
      clear hw4
      have nb := nb2
      have hc := hc2
      have bl := bl2
      clear nb2 hc2 bl2
      rw [rounds_succ]
      have m := cellsAt nb 1 _ rfl
      have n := cellsFree nb 1
      have k := cellsAt hc 1 _ rfl
      go_wp2_with fail
      clear m n k
      obtain ⟨w5, h5⟩ : ∃ w5, w5 = w4.setCell ⟨g, 1, none⟩ (.int .i64 (wrap64 (i1 + c1))) := ⟨_, rfl⟩
      rw [← h5]
      have nb2 : w5.heap[g]? = some (.cells #[.int .i64 (wrap64 (i0 + c0)), .int .i64 (wrap64 (i1 + c1)), .int .i64 i2, .int .i64 i3] 3 (0, 0)) := by rw [h5, set_cells nb]; rfl
      have hc2 : w5.heap[g2]? = some (.cells #[.int .i64 c0, .int .i64 c1, .int .i64 c2, .int .i64 c3] 3 (0, 0)) := by rw [h5]; exact (Below.heap_setCell _ _ _ _ hgg.symm).trans hc
      have Hh := Lib.hid (show w5.heap[b]? = some (.cells #[.string u] 9 (0, 0)) from by rw [h5]; exact (Below.heap_setCell _ _ _ _ (by show b ≠ g; omega)).trans Hh.out)
      have bl2 : Below w.heap.size w w5 := by rw [h5]; exact bl.setCell hgw _
      clear h5 nb hc bl
      obtain ⟨w4, hw4⟩ : ∃ w4, w4 = w5 := ⟨_, rfl⟩
      rw [← hw4] at nb2 hc2 Hh bl2 ⊢
      clear hw4
      have nb := nb2
      have hc := hc2
      have bl := bl2
      clear nb2 hc2 bl2
      rw [rounds_succ]
      have m := cellsAt nb 2 _ rfl
      have n := cellsFree nb 2
      have k := cellsAt hc 2 _ rfl
      go_wp2_with fail
      clear m n k
      obtain ⟨w5, h5⟩ : ∃ w5, w5 = w4.setCell ⟨g, 2, none⟩ (.int .i64 (wrap64 (i2 + c2))) := ⟨_, rfl⟩
      rw [← h5]
      have nb2 : w5.heap[g]? = some (.cells #[.int .i64 (wrap64 (i0 + c0)), .int .i64 (wrap64 (i1 + c1)), .int .i64 (wrap64 (i2 + c2)), .int .i64 i3] 3 (0, 0)) := by rw [h5, set_cells nb]; rfl
      have hc2 : w5.heap[g2]? = some (.cells #[.int .i64 c0, .int .i64 c1, .int .i64 c2, .int .i64 c3] 3 (0, 0)) := by rw [h5]; exact (Below.heap_setCell _ _ _ _ hgg.symm).trans hc
      have Hh := Lib.hid (show w5.heap[b]? = some (.cells #[.string u] 9 (0, 0)) from by rw [h5]; exact (Below.heap_setCell _ _ _ _ (by show b ≠ g; omega)).trans Hh.out)
      have bl2 : Below w.heap.size w w5 := by rw [h5]; exact bl.setCell hgw _
      clear h5 nb hc bl
      obtain ⟨w4, hw4⟩ : ∃ w4, w4 = w5 := ⟨_, rfl⟩
      rw [← hw4] at nb2 hc2 Hh bl2 ⊢
      clear hw4
      have nb := nb2
      have hc := hc2
      have bl := bl2
      clear nb2 hc2 bl2
      rw [rounds_succ]
      have m := cellsAt nb 3 _ rfl
      have n := cellsFree nb 3
      have k := cellsAt hc 3 _ rfl
      go_wp2_with fail
      clear m n k
      obtain ⟨w5, h5⟩ : ∃ w5, w5 = w4.setCell ⟨g, 3, none⟩ (.int .i64 (wrap64 (i3 + c3))) := ⟨_, rfl⟩
      rw [← h5]
      have nb2 : w5.heap[g]? = some (.cells #[.int .i64 (wrap64 (i0 + c0)), .int .i64 (wrap64 (i1 + c1)), .int .i64 (wrap64 (i2 + c2)), .int .i64 (wrap64 (i3 + c3))] 3 (0, 0)) := by rw [h5, set_cells nb]; rfl
      have hc2 : w5.heap[g2]? = some (.cells #[.int .i64 c0, .int .i64 c1, .int .i64 c2, .int .i64 c3] 3 (0, 0)) := by rw [h5]; exact (Below.heap_setCell _ _ _ _ hgg.symm).trans hc
      have Hh := Lib.hid (show w5.heap[b]? = some (.cells #[.string u] 9 (0, 0)) from by rw [h5]; exact (Below.heap_setCell _ _ _ _ (by show b ≠ g; omega)).trans Hh.out)
      have bl2 : Below w.heap.size w w5 := by rw [h5]; exact bl.setCell hgw _
      clear h5 nb hc bl
      obtain ⟨w4, hw4⟩ : ∃ w4, w4 = w5 := ⟨_, rfl⟩
      rw [← hw4] at nb2 hc2 Hh bl2 ⊢
      clear hw4
      have nb := nb2
      have hc := hc2
      have bl := bl2
      clear nb2 hc2 bl2
      rw [rounds_succ]
      skip
      go_wp2_with fail
      clear hc
      rw [rounds_succ]
      go_wp2_with fail
      go_ret
      exact ⟨g, rfl, hgw, by have h := nb; rw [E0.out, E1.out, E2.out, E3.out] at h; exact h, bl⟩
    · go_enter Tryz.func34, Tryz.ntmps34
      go_wp2_with fail
      clear hmk
      refine (XK.out _).mono ?_
      rintro e w2 ⟨rfl, rfl⟩
      have m0 := cellsAt nb 0 _ rfl
      have n0 := cellsFree nb 0
      have m1 := cellsAt nb 1 _ rfl
      have n1 := cellsFree nb 1
      have m2 := cellsAt nb 2 _ rfl
      have n2 := cellsFree nb 2
      have m3 := cellsAt nb 3 _ rfl
      have n3 := cellsFree nb 3
      go_wp2_with fail
      clear m0 m1 m2 m3 n0 n1 n2 n3
      have nb1 : (W.setCell ⟨g, 0, none⟩ (.int .i64 1)).heap[g]? = some (.cells #[.int .i64 1, .int .i64 0, .int .i64 0, .int .i64 0] 3 (0, 0)) := by rw [set_cells nb]; rfl
      replace bl := bl.setCell (p := ⟨g, 0, none⟩) hgw (.int .i64 1)
      have nb2 : ((W.setCell ⟨g, 0, none⟩ (.int .i64 1)).setCell ⟨g, 2, none⟩ (.int .i64 1)).heap[g]? = some (.cells #[.int .i64 1, .int .i64 0, .int .i64 1, .int .i64 0] 3 (0, 0)) := by rw [set_cells nb1]; rfl
      replace bl := bl.setCell (p := ⟨g, 2, none⟩) hgw (.int .i64 1)
      obtain ⟨W1, hW1⟩ : ∃ W1, W1 = ((W.setCell ⟨g, 0, none⟩ (.int .i64 1)).setCell ⟨g, 2, none⟩ (.int .i64 1)) := ⟨_, rfl⟩
      rw [← hW1] at nb2 bl ⊢
      clear hW1
      replace nb := nb2
      refine (XB.out _).mono ?_
      rintro e w2 ⟨rfl, rfl⟩
      go_wp2_with fail
      obtain ⟨i0, e0⟩ : ∃ i : Int, i = 1 := ⟨_, rfl⟩
      obtain ⟨i1, e1⟩ : ∃ i : Int, i = 0 := ⟨_, rfl⟩
      obtain ⟨i2, e2⟩ : ∃ i : Int, i = 1 := ⟨_, rfl⟩
      obtain ⟨i3, e3⟩ : ∃ i : Int, i = 0 := ⟨_, rfl⟩
      replace nb := nb.trans (show some (Obj.cells #[.int .i64 1, .int .i64 0, .int .i64 1, .int .i64 0] 3 (0, 0)) = some (Obj.cells #[.int .i64 i0, .int .i64 i1, .int .i64 i2, .int .i64 i3] 3 (0, 0)) from by rw [e0, e1, e2, e3])
      have E0 := Lib.hid e0
      have E1 := Lib.hid e1
      have E2 := Lib.hid e2
      have E3 := Lib.hid e3
      clear e0 e1 e2 e3
      refine (XP.out _).mono ?_
      rintro e w3 ⟨b, rfl, hb, hh, b3⟩
      have hgb : g < b := Nat.lt_of_lt_of_le (lt_of_block nb) hb
      replace nb := (b3.block _ (lt_of_block nb)).trans nb
      replace bl := below_trans bl b3 bl.size
      clear b3
      have cu := cellOf1 hh
      have Hh := Lib.hid hh
      clear hh
      go_wp2_with fail
      refine wp_loop_rounds 2 ?_
      rw [rounds_succ]
      go_wp2_with fail
      refine (I1.out _).mono ?_
      rintro e w4 ⟨g2, rfl, hg2, hc, b4⟩
      have hgg : g ≠ g2 := by have := lt_of_block nb; omega
      have hgb2 : b ≠ g2 := by have := lt_of_block Hh.out; omega
      replace nb := (b4.block _ (lt_of_block nb)).trans nb
      have Hh := Lib.hid ((b4.block _ (lt_of_block Hh.out)).trans Hh.out)
      replace bl := below_trans bl b4 bl.size
      clear b4 cu
      go_wp2_with fail
      refine wp_loop_rounds 5 ?_
      rw [rounds_succ]
      have m := cellsAt nb 0 _ rfl
      have n := cellsFree nb 0
      have k := cellsAt hc 0 _ rfl
      go_wp2_with fail
      clear m n k
      obtain ⟨w5, h5⟩ : ∃ w5, w5 = w4.setCell ⟨g, 0, none⟩ (.int .i64 (wrap64 (i0 + c0))) := ⟨_, rfl⟩
      rw [← h5]
      have nb2 : w5.heap[g]? = some (.cells #[.int .i64 (wrap64 (i0 + c0)), .int .i64 i1, .int .i64 i2, .int .i64 i3] 3 (0, 0)) := by rw [h5, set_cells nb]; rfl
      have hc2 : w5.heap[g2]? = some (.cells #[.int .i64 c0, .int .i64 c1, .int .i64 c2, .int .i64 c3] 3 (0, 0)) := by rw [h5]; exact (Below.heap_setCell _ _ _ _ hgg.symm).trans hc
      have Hh := Lib.hid (show w5.heap[b]? = some (.cells #[.string u] 9 (0, 0)) from by rw [h5]; exact (Below.heap_setCell _ _ _ _ (by show b ≠ g; omega)).trans Hh.out)
      have bl2 : Below w.heap.size w w5 := by rw [h5]; exact bl.setCell hgw _
      clear h5 nb hc bl
      obtain ⟨w4, hw4⟩ : ∃ w4, w4 = w5 := ⟨_, rfl⟩
      rw [← hw4] at nb2 hc2 Hh bl2 ⊢
      clear hw4
      have nb := nb2
      have hc := hc2
      have bl := bl2
      clear nb2 hc2 bl2
      rw [rounds_succ]
      have m := cellsAt nb 1 _ rfl
      have n := cellsFree nb 1
      have k := cellsAt hc 1 _ rfl
      go_wp2_with fail
      clear m n k
      obtain ⟨w5, h5⟩ : ∃ w5, w5 = w4.setCell ⟨g, 1, none⟩ (.int .i64 (wrap64 (i1 + c1))) := ⟨_, rfl⟩
      rw [← h5]
      have nb2 : w5.heap[g]? = some (.cells #[.int .i64 (wrap64 (i0 + c0)), .int .i64 (wrap64 (i1 + c1)), .int .i64 i2, .int .i64 i3] 3 (0, 0)) := by rw [h5, set_cells nb]; rfl
      have hc2 : w5.heap[g2]? = some (.cells #[.int .i64 c0, .int .i64 c1, .int .i64 c2, .int .i64 c3] 3 (0, 0)) := by rw [h5]; exact (Below.heap_setCell _ _ _ _ hgg.symm).trans hc
      have Hh := Lib.hid (show w5.heap[b]? = some (.cells #[.string u] 9 (0, 0)) from by rw [h5]; exact (Below.heap_setCell _ _ _ _ (by show b ≠ g; omega)).trans Hh.out)
      have bl2 : Below w.heap.size w w5 := by rw [h5]; exact bl.setCell hgw _
      clear h5 nb hc bl
      obtain ⟨w4, hw4⟩ : ∃ w4, w4 = w5 := ⟨_, rfl⟩
      rw [← hw4] at nb2 hc2 Hh bl2 ⊢
      clear hw4
      have nb := nb2
      have hc := hc2
      have bl := bl2
      clear nb2 hc2 bl2
      rw [rounds_succ]
      have m := cellsAt nb 2 _ rfl
      have n := cellsFree nb 2
      have k := cellsAt hc 2 _ rfl
      go_wp2_with fail
      clear m n k
      obtain ⟨w5, h5⟩ : ∃ w5, w5 = w4.setCell ⟨g, 2, none⟩ (.int .i64 (wrap64 (i2 + c2))) := ⟨_, rfl⟩
      rw [← h5]
      have nb2 : w5.heap[g]? = some (.cells #[.int .i64 (wrap64 (i0 + c0)), .int .i64 (wrap64 (i1 + c1)), .int .i64 (wrap64 (i2 + c2)), .int .i64 i3] 3 (0, 0)) := by rw [h5, set_cells nb]; rfl
      have hc2 : w5.heap[g2]? = some (.cells #[.int .i64 c0, .int .i64 c1, .int .i64 c2, .int .i64 c3] 3 (0, 0)) := by rw [h5]; exact (Below.heap_setCell _ _ _ _ hgg.symm).trans hc
      have Hh := Lib.hid (show w5.heap[b]? = some (.cells #[.string u] 9 (0, 0)) from by rw [h5]; exact (Below.heap_setCell _ _ _ _ (by show b ≠ g; omega)).trans Hh.out)
      have bl2 : Below w.heap.size w w5 := by rw [h5]; exact bl.setCell hgw _
      clear h5 nb hc bl
      obtain ⟨w4, hw4⟩ : ∃ w4, w4 = w5 := ⟨_, rfl⟩
      rw [← hw4] at nb2 hc2 Hh bl2 ⊢
      clear hw4
      have nb := nb2
      have hc := hc2
      have bl := bl2
      clear nb2 hc2 bl2
      rw [rounds_succ]
      have m := cellsAt nb 3 _ rfl
      have n := cellsFree nb 3
      have k := cellsAt hc 3 _ rfl
      go_wp2_with fail
      clear m n k
      obtain ⟨w5, h5⟩ : ∃ w5, w5 = w4.setCell ⟨g, 3, none⟩ (.int .i64 (wrap64 (i3 + c3))) := ⟨_, rfl⟩
      rw [← h5]
      have nb2 : w5.heap[g]? = some (.cells #[.int .i64 (wrap64 (i0 + c0)), .int .i64 (wrap64 (i1 + c1)), .int .i64 (wrap64 (i2 + c2)), .int .i64 (wrap64 (i3 + c3))] 3 (0, 0)) := by rw [h5, set_cells nb]; rfl
      have hc2 : w5.heap[g2]? = some (.cells #[.int .i64 c0, .int .i64 c1, .int .i64 c2, .int .i64 c3] 3 (0, 0)) := by rw [h5]; exact (Below.heap_setCell _ _ _ _ hgg.symm).trans hc
      have Hh := Lib.hid (show w5.heap[b]? = some (.cells #[.string u] 9 (0, 0)) from by rw [h5]; exact (Below.heap_setCell _ _ _ _ (by show b ≠ g; omega)).trans Hh.out)
      have bl2 : Below w.heap.size w w5 := by rw [h5]; exact bl.setCell hgw _
      clear h5 nb hc bl
      obtain ⟨w4, hw4⟩ : ∃ w4, w4 = w5 := ⟨_, rfl⟩
      rw [← hw4] at nb2 hc2 Hh bl2 ⊢
      clear hw4
      have nb := nb2
      have hc := hc2
      have bl := bl2
      clear nb2 hc2 bl2
      rw [rounds_succ]
      skip
      go_wp2_with fail
      clear hc
      rw [rounds_succ]
      go_wp2_with fail
      go_ret
      exact ⟨g, rfl, hgw, by have h := nb; rw [E0.out, E1.out, E2.out, E3.out] at h; exact h, bl⟩
set_option maxHeartbeats 4000000 in
theorem su_rcvS (s : ByteArray) (a : UInt8) (kd : Int) (u : ByteArray) (c0 c1 c2 c3 : Int) (hz : s.size ≤ 700) (k33 : (kd == 33) = false) (k63 : (kd == 63) = true) (k61 : (kd == 61) = false) (h0 : 0 < s.size) (p0 : Bool) (q0 : (((s[0]'h0).toNat : Int) == (a.toNat : Int)) = p0) (HK : ∀ w, Calls Tryz.prog 66 #[.string s] w fun e w' => e = .returned (.int .u8 kd) ∧ w = w') (x : UInt8) (qx : ((x.toNat : Int) == (a.toNat : Int)) = true) (HB : ∀ w, Calls Tryz.prog 64 #[.string s] w fun e w' => e = .returned (.tuple #[.int .u8 (x.toNat : Int), .bool true]) ∧ w = w') (w : World) : Calls Tryz.prog 34 #[.string s, .int .u8 (a.toNat : Int)] w fun e w' => ∃ g, e = .returned (.slice (some ⟨g, 0, none⟩) 4 4) ∧ w.heap.size ≤ g ∧ w'.heap[g]? = some (.cells #[.int .i64 (0), .int .i64 (cond p0 1 0), .int .i64 (0), .int .i64 (0)] 3 (0, 0)) ∧ Below w.heap.size w w' := by
  have XK := Lib.hid HK
  have XB := Lib.hid HB
  clear HK HB
  have nb := new_block w (.cells #[.int .i64 0, .int .i64 0, .int .i64 0, .int .i64 0] 3)
  have bl := (Below.refl w.heap.size w).alloc (Nat.le_refl _) (.cells #[.int .i64 0, .int .i64 0, .int .i64 0, .int .i64 0] 3)
  obtain ⟨W, hW⟩ : ∃ W, W = w.alloc (.cells #[.int .i64 0, .int .i64 0, .int .i64 0, .int .i64 0] 3) := ⟨_, rfl⟩
  have hmk := mk4 w
  rw [← hW] at nb bl hmk
  obtain ⟨g, hg⟩ : ∃ g, g = w.heap.size := ⟨_, rfl⟩
  have hgw : w.heap.size ≤ g := by omega
  rw [← hg] at nb hmk
  clear hW hg
  cases p0
  · go_enter Tryz.func34, Tryz.ntmps34
    go_wp2_with fail
    clear hmk
    refine (XK.out _).mono ?_
    rintro e w2 ⟨rfl, rfl⟩
    have m0 := cellsAt nb 0 _ rfl
    have n0 := cellsFree nb 0
    have m1 := cellsAt nb 1 _ rfl
    have n1 := cellsFree nb 1
    have m2 := cellsAt nb 2 _ rfl
    have n2 := cellsFree nb 2
    have m3 := cellsAt nb 3 _ rfl
    have n3 := cellsFree nb 3
    go_wp2_with fail
    clear m0 m1 m2 m3 n0 n1 n2 n3
    refine (XB.out _).mono ?_
    rintro e w2 ⟨rfl, rfl⟩
    go_wp2_with fail
    go_ret
    exact ⟨g, rfl, hgw, nb, bl⟩
  · go_enter Tryz.func34, Tryz.ntmps34
    go_wp2_with fail
    clear hmk
    refine (XK.out _).mono ?_
    rintro e w2 ⟨rfl, rfl⟩
    have m0 := cellsAt nb 0 _ rfl
    have n0 := cellsFree nb 0
    have m1 := cellsAt nb 1 _ rfl
    have n1 := cellsFree nb 1
    have m2 := cellsAt nb 2 _ rfl
    have n2 := cellsFree nb 2
    have m3 := cellsAt nb 3 _ rfl
    have n3 := cellsFree nb 3
    go_wp2_with fail
    clear m0 m1 m2 m3 n0 n1 n2 n3
    have nb1 : (W.setCell ⟨g, 1, none⟩ (.int .i64 1)).heap[g]? = some (.cells #[.int .i64 0, .int .i64 1, .int .i64 0, .int .i64 0] 3 (0, 0)) := by rw [set_cells nb]; rfl
    replace bl := bl.setCell (p := ⟨g, 1, none⟩) hgw (.int .i64 1)
    obtain ⟨W1, hW1⟩ : ∃ W1, W1 = (W.setCell ⟨g, 1, none⟩ (.int .i64 1)) := ⟨_, rfl⟩
    rw [← hW1] at nb1 bl ⊢
    clear hW1
    replace nb := nb1
    refine (XB.out _).mono ?_
    rintro e w2 ⟨rfl, rfl⟩
    go_wp2_with fail
    go_ret
    exact ⟨g, rfl, hgw, nb, bl⟩
set_option maxHeartbeats 4000000 in
theorem su_rcvD (s : ByteArray) (a : UInt8) (kd : Int) (u : ByteArray) (c0 c1 c2 c3 : Int) (hz : s.size ≤ 700) (k33 : (kd == 33) = false) (k63 : (kd == 63) = true) (k61 : (kd == 61) = false) (h0 : 0 < s.size) (p0 : Bool) (q0 : (((s[0]'h0).toNat : Int) == (a.toNat : Int)) = p0) (HK : ∀ w, Calls Tryz.prog 66 #[.string s] w fun e w' => e = .returned (.int .u8 kd) ∧ w = w') (x : UInt8) (qx : ((x.toNat : Int) == (a.toNat : Int)) = false) (HB : ∀ w, Calls Tryz.prog 64 #[.string s] w fun e w' => e = .returned (.tuple #[.int .u8 (x.toNat : Int), .bool true]) ∧ w = w') (HP : ∀ w, Calls Tryz.prog 62 #[.string s] w fun e w' => ∃ b, e = .returned (.slice (some ⟨b, 0, none⟩) 1 1) ∧ w.heap.size ≤ b ∧ w'.heap[b]? = some (.cells #[.string u] 9 (0, 0)) ∧ Below w.heap.size w w') (ih : ∀ w, Calls Tryz.prog 34 #[.string u, .int .u8 (a.toNat : Int)] w fun e w' => ∃ g, e = .returned (.slice (some ⟨g, 0, none⟩) 4 4) ∧ w.heap.size ≤ g ∧ w'.heap[g]? = some (.cells #[.int .i64 c0, .int .i64 c1, .int .i64 c2, .int .i64 c3] 3 (0, 0)) ∧ Below w.heap.size w w') (w : World) : Calls Tryz.prog 34 #[.string s, .int .u8 (a.toNat : Int)] w fun e w' => ∃ g, e = .returned (.slice (some ⟨g, 0, none⟩) 4 4) ∧ w.heap.size ≤ g ∧ w'.heap[g]? = some (.cells #[.int .i64 (wrap64 (0 + c0)), .int .i64 (wrap64 (cond p0 1 0 + c1)), .int .i64 (wrap64 (0 + c2)), .int .i64 (wrap64 (0 + c3))] 3 (0, 0)) ∧ Below w.heap.size w w' := by
  have XK := Lib.hid HK
  have XB := Lib.hid HB
  have XP := Lib.hid HP
  have I1 := Lib.hid ih
  clear HK HB HP ih
  have nb := new_block w (.cells #[.int .i64 0, .int .i64 0, .int .i64 0, .int .i64 0] 3)
  have bl := (Below.refl w.heap.size w).alloc (Nat.le_refl _) (.cells #[.int .i64 0, .int .i64 0, .int .i64 0, .int .i64 0] 3)
  obtain ⟨W, hW⟩ : ∃ W, W = w.alloc (.cells #[.int .i64 0, .int .i64 0, .int .i64 0, .int .i64 0] 3) := ⟨_, rfl⟩
  have hmk := mk4 w
  rw [← hW] at nb bl hmk
  obtain ⟨g, hg⟩ : ∃ g, g = w.heap.size := ⟨_, rfl⟩
  have hgw : w.heap.size ≤ g := by omega
  rw [← hg] at nb hmk
  clear hW hg
  cases p0
  · go_enter Tryz.func34, Tryz.ntmps34
    go_wp2_with fail
    clear hmk
    refine (XK.out _).mono ?_
    rintro e w2 ⟨rfl, rfl⟩
    have m0 := cellsAt nb 0 _ rfl
    have n0 := cellsFree nb 0
    have m1 := cellsAt nb 1 _ rfl
    have n1 := cellsFree nb 1
    have m2 := cellsAt nb 2 _ rfl
    have n2 := cellsFree nb 2
    have m3 := cellsAt nb 3 _ rfl
    have n3 := cellsFree nb 3
    go_wp2_with fail
    clear m0 m1 m2 m3 n0 n1 n2 n3
    refine (XB.out _).mono ?_
    rintro e w2 ⟨rfl, rfl⟩
    go_wp2_with fail
    obtain ⟨i0, e0⟩ : ∃ i : Int, i = 0 := ⟨_, rfl⟩
    obtain ⟨i1, e1⟩ : ∃ i : Int, i = 0 := ⟨_, rfl⟩
    obtain ⟨i2, e2⟩ : ∃ i : Int, i = 0 := ⟨_, rfl⟩
    obtain ⟨i3, e3⟩ : ∃ i : Int, i = 0 := ⟨_, rfl⟩
    replace nb := nb.trans (show some (Obj.cells #[.int .i64 0, .int .i64 0, .int .i64 0, .int .i64 0] 3 (0, 0)) = some (Obj.cells #[.int .i64 i0, .int .i64 i1, .int .i64 i2, .int .i64 i3] 3 (0, 0)) from by rw [e0, e1, e2, e3])
    have E0 := Lib.hid e0
    have E1 := Lib.hid e1
    have E2 := Lib.hid e2
    have E3 := Lib.hid e3
    clear e0 e1 e2 e3
    refine (XP.out _).mono ?_
    rintro e w3 ⟨b, rfl, hb, hh, b3⟩
    have hgb : g < b := Nat.lt_of_lt_of_le (lt_of_block nb) hb
    replace nb := (b3.block _ (lt_of_block nb)).trans nb
    replace bl := below_trans bl b3 bl.size
    clear b3
    have cu := cellOf1 hh
    have Hh := Lib.hid hh
    clear hh
    go_wp2_with fail
    refine wp_loop_rounds 2 ?_
    rw [rounds_succ]
    go_wp2_with fail
    refine (I1.out _).mono ?_
    rintro e w4 ⟨g2, rfl, hg2, hc, b4⟩
    have hgg : g ≠ g2 := by have := lt_of_block nb; omega
    have hgb2 : b ≠ g2 := by have := lt_of_block Hh.out; omega
    replace nb := (b4.block _ (lt_of_block nb)).trans nb
    have Hh := Lib.hid ((b4.block _ (lt_of_block Hh.out)).trans Hh.out)
    replace bl := below_trans bl b4 bl.size
    clear b4 cu
    go_wp2_with fail
    refine wp_loop_rounds 5 ?_
    rw [rounds_succ]
    have m := cellsAt nb 0 _ rfl
    have n := cellsFree nb 0
    have k := cellsAt hc 0 _ rfl
    go_wp2_with fail
    clear m n k
    obtain ⟨w5, h5⟩ : ∃ w5, w5 = w4.setCell ⟨g, 0, none⟩ (.int .i64 (wrap64 (i0 + c0))) := ⟨_, rfl⟩
    rw [← h5]
    have nb2 : w5.heap[g]? = some (.cells #[.int .i64 (wrap64 (i0 + c0)), .int .i64 i1, .int .i64 i2, .int .i64 i3] 3 (0, 0)) := by rw [h5, set_cells nb]; rfl
    have hc2 : w5.heap[g2]? = some (.cells #[.int .i64 c0, .int .i64 c1, .int .i64 c2, .int .i64 c3] 3 (0, 0)) := by rw [h5]; exact (Below.heap_setCell _ _ _ _ hgg.symm).trans hc
    have Hh := Lib.hid (show w5.heap[b]? = some (.cells #[.string u] 9 (0, 0)) from by rw [h5]; exact (Below.heap_setCell _ _ _ _ (by show b ≠ g; omega)).trans Hh.out)
    have bl2 : Below w.heap.size w w5 := by rw [h5]; exact bl.setCell hgw _
    clear h5 nb hc bl
    obtain ⟨w4, hw4⟩ : ∃ w4, w4 = w5 := ⟨_, rfl⟩
    rw [← hw4] at nb2 hc2 Hh bl2 ⊢
    clear hw4
    have nb := nb2
    have hc := hc2
    have bl := bl2
    clear nb2 hc2 bl2
    rw [rounds_succ]
    have m := cellsAt nb 1 _ rfl
    have n := cellsFree nb 1
    have k := cellsAt hc 1 _ rfl
    go_wp2_with fail
    clear m n k
    obtain ⟨w5, h5⟩ : ∃ w5, w5 = w4.setCell ⟨g, 1, none⟩ (.int .i64 (wrap64 (i1 + c1))) := ⟨_, rfl⟩
    rw [← h5]
    have nb2 : w5.heap[g]? = some (.cells #[.int .i64 (wrap64 (i0 + c0)), .int .i64 (wrap64 (i1 + c1)), .int .i64 i2, .int .i64 i3] 3 (0, 0)) := by rw [h5, set_cells nb]; rfl
    have hc2 : w5.heap[g2]? = some (.cells #[.int .i64 c0, .int .i64 c1, .int .i64 c2, .int .i64 c3] 3 (0, 0)) := by rw [h5]; exact (Below.heap_setCell _ _ _ _ hgg.symm).trans hc
    have Hh := Lib.hid (show w5.heap[b]? = some (.cells #[.string u] 9 (0, 0)) from by rw [h5]; exact (Below.heap_setCell _ _ _ _ (by show b ≠ g; omega)).trans Hh.out)
    have bl2 : Below w.heap.size w w5 := by rw [h5]; exact bl.setCell hgw _
    clear h5 nb hc bl
    obtain ⟨w4, hw4⟩ : ∃ w4, w4 = w5 := ⟨_, rfl⟩
    rw [← hw4] at nb2 hc2 Hh bl2 ⊢
    clear hw4
    have nb := nb2
    have hc := hc2
    have bl := bl2
    clear nb2 hc2 bl2
    rw [rounds_succ]
    have m := cellsAt nb 2 _ rfl
    have n := cellsFree nb 2
    have k := cellsAt hc 2 _ rfl
    go_wp2_with fail
    clear m n k
    obtain ⟨w5, h5⟩ : ∃ w5, w5 = w4.setCell ⟨g, 2, none⟩ (.int .i64 (wrap64 (i2 + c2))) := ⟨_, rfl⟩
    rw [← h5]
    have nb2 : w5.heap[g]? = some (.cells #[.int .i64 (wrap64 (i0 + c0)), .int .i64 (wrap64 (i1 + c1)), .int .i64 (wrap64 (i2 + c2)), .int .i64 i3] 3 (0, 0)) := by rw [h5, set_cells nb]; rfl
    have hc2 : w5.heap[g2]? = some (.cells #[.int .i64 c0, .int .i64 c1, .int .i64 c2, .int .i64 c3] 3 (0, 0)) := by rw [h5]; exact (Below.heap_setCell _ _ _ _ hgg.symm).trans hc
    have Hh := Lib.hid (show w5.heap[b]? = some (.cells #[.string u] 9 (0, 0)) from by rw [h5]; exact (Below.heap_setCell _ _ _ _ (by show b ≠ g; omega)).trans Hh.out)
    have bl2 : Below w.heap.size w w5 := by rw [h5]; exact bl.setCell hgw _
    clear h5 nb hc bl
    obtain ⟨w4, hw4⟩ : ∃ w4, w4 = w5 := ⟨_, rfl⟩
    rw [← hw4] at nb2 hc2 Hh bl2 ⊢
    clear hw4
    have nb := nb2
    have hc := hc2
    have bl := bl2
    clear nb2 hc2 bl2
    rw [rounds_succ]
    have m := cellsAt nb 3 _ rfl
    have n := cellsFree nb 3
    have k := cellsAt hc 3 _ rfl
    go_wp2_with fail
    clear m n k
    obtain ⟨w5, h5⟩ : ∃ w5, w5 = w4.setCell ⟨g, 3, none⟩ (.int .i64 (wrap64 (i3 + c3))) := ⟨_, rfl⟩
    rw [← h5]
    have nb2 : w5.heap[g]? = some (.cells #[.int .i64 (wrap64 (i0 + c0)), .int .i64 (wrap64 (i1 + c1)), .int .i64 (wrap64 (i2 + c2)), .int .i64 (wrap64 (i3 + c3))] 3 (0, 0)) := by rw [h5, set_cells nb]; rfl
    have hc2 : w5.heap[g2]? = some (.cells #[.int .i64 c0, .int .i64 c1, .int .i64 c2, .int .i64 c3] 3 (0, 0)) := by rw [h5]; exact (Below.heap_setCell _ _ _ _ hgg.symm).trans hc
    have Hh := Lib.hid (show w5.heap[b]? = some (.cells #[.string u] 9 (0, 0)) from by rw [h5]; exact (Below.heap_setCell _ _ _ _ (by show b ≠ g; omega)).trans Hh.out)
    have bl2 : Below w.heap.size w w5 := by rw [h5]; exact bl.setCell hgw _
    clear h5 nb hc bl
    obtain ⟨w4, hw4⟩ : ∃ w4, w4 = w5 := ⟨_, rfl⟩
    rw [← hw4] at nb2 hc2 Hh bl2 ⊢
    clear hw4
    have nb := nb2
    have hc := hc2
    have bl := bl2
    clear nb2 hc2 bl2
    rw [rounds_succ]
    skip
    go_wp2_with fail
    clear hc
    rw [rounds_succ]
    go_wp2_with fail
    go_ret
    exact ⟨g, rfl, hgw, by have h := nb; rw [E0.out, E1.out, E2.out, E3.out] at h; exact h, bl⟩
  · go_enter Tryz.func34, Tryz.ntmps34
    go_wp2_with fail
    clear hmk
    refine (XK.out _).mono ?_
    rintro e w2 ⟨rfl, rfl⟩
    have m0 := cellsAt nb 0 _ rfl
    have n0 := cellsFree nb 0
    have m1 := cellsAt nb 1 _ rfl
    have n1 := cellsFree nb 1
    have m2 := cellsAt nb 2 _ rfl
    have n2 := cellsFree nb 2
    have m3 := cellsAt nb 3 _ rfl
    have n3 := cellsFree nb 3
    go_wp2_with fail
    clear m0 m1 m2 m3 n0 n1 n2 n3
    have nb1 : (W.setCell ⟨g, 1, none⟩ (.int .i64 1)).heap[g]? = some (.cells #[.int .i64 0, .int .i64 1, .int .i64 0, .int .i64 0] 3 (0, 0)) := by rw [set_cells nb]; rfl
    replace bl := bl.setCell (p := ⟨g, 1, none⟩) hgw (.int .i64 1)
    obtain ⟨W1, hW1⟩ : ∃ W1, W1 = (W.setCell ⟨g, 1, none⟩ (.int .i64 1)) := ⟨_, rfl⟩
    rw [← hW1] at nb1 bl ⊢
    clear hW1
    replace nb := nb1
    refine (XB.out _).mono ?_
    rintro e w2 ⟨rfl, rfl⟩
    go_wp2_with fail
    obtain ⟨i0, e0⟩ : ∃ i : Int, i = 0 := ⟨_, rfl⟩
    obtain ⟨i1, e1⟩ : ∃ i : Int, i = 1 := ⟨_, rfl⟩
    obtain ⟨i2, e2⟩ : ∃ i : Int, i = 0 := ⟨_, rfl⟩
    obtain ⟨i3, e3⟩ : ∃ i : Int, i = 0 := ⟨_, rfl⟩
    replace nb := nb.trans (show some (Obj.cells #[.int .i64 0, .int .i64 1, .int .i64 0, .int .i64 0] 3 (0, 0)) = some (Obj.cells #[.int .i64 i0, .int .i64 i1, .int .i64 i2, .int .i64 i3] 3 (0, 0)) from by rw [e0, e1, e2, e3])
    have E0 := Lib.hid e0
    have E1 := Lib.hid e1
    have E2 := Lib.hid e2
    have E3 := Lib.hid e3
    clear e0 e1 e2 e3
    refine (XP.out _).mono ?_
    rintro e w3 ⟨b, rfl, hb, hh, b3⟩
    have hgb : g < b := Nat.lt_of_lt_of_le (lt_of_block nb) hb
    replace nb := (b3.block _ (lt_of_block nb)).trans nb
    replace bl := below_trans bl b3 bl.size
    clear b3
    have cu := cellOf1 hh
    have Hh := Lib.hid hh
    clear hh
    go_wp2_with fail
    refine wp_loop_rounds 2 ?_
    rw [rounds_succ]
    go_wp2_with fail
    refine (I1.out _).mono ?_
    rintro e w4 ⟨g2, rfl, hg2, hc, b4⟩
    have hgg : g ≠ g2 := by have := lt_of_block nb; omega
    have hgb2 : b ≠ g2 := by have := lt_of_block Hh.out; omega
    replace nb := (b4.block _ (lt_of_block nb)).trans nb
    have Hh := Lib.hid ((b4.block _ (lt_of_block Hh.out)).trans Hh.out)
    replace bl := below_trans bl b4 bl.size
    clear b4 cu
    go_wp2_with fail
    refine wp_loop_rounds 5 ?_
    rw [rounds_succ]
    have m := cellsAt nb 0 _ rfl
    have n := cellsFree nb 0
    have k := cellsAt hc 0 _ rfl
    go_wp2_with fail
    clear m n k
    obtain ⟨w5, h5⟩ : ∃ w5, w5 = w4.setCell ⟨g, 0, none⟩ (.int .i64 (wrap64 (i0 + c0))) := ⟨_, rfl⟩
    rw [← h5]
    have nb2 : w5.heap[g]? = some (.cells #[.int .i64 (wrap64 (i0 + c0)), .int .i64 i1, .int .i64 i2, .int .i64 i3] 3 (0, 0)) := by rw [h5, set_cells nb]; rfl
    have hc2 : w5.heap[g2]? = some (.cells #[.int .i64 c0, .int .i64 c1, .int .i64 c2, .int .i64 c3] 3 (0, 0)) := by rw [h5]; exact (Below.heap_setCell _ _ _ _ hgg.symm).trans hc
    have Hh := Lib.hid (show w5.heap[b]? = some (.cells #[.string u] 9 (0, 0)) from by rw [h5]; exact (Below.heap_setCell _ _ _ _ (by show b ≠ g; omega)).trans Hh.out)
    have bl2 : Below w.heap.size w w5 := by rw [h5]; exact bl.setCell hgw _
    clear h5 nb hc bl
    obtain ⟨w4, hw4⟩ : ∃ w4, w4 = w5 := ⟨_, rfl⟩
    rw [← hw4] at nb2 hc2 Hh bl2 ⊢
    clear hw4
    have nb := nb2
    have hc := hc2
    have bl := bl2
    clear nb2 hc2 bl2
    rw [rounds_succ]
    have m := cellsAt nb 1 _ rfl
    have n := cellsFree nb 1
    have k := cellsAt hc 1 _ rfl
    go_wp2_with fail
    clear m n k
    obtain ⟨w5, h5⟩ : ∃ w5, w5 = w4.setCell ⟨g, 1, none⟩ (.int .i64 (wrap64 (i1 + c1))) := ⟨_, rfl⟩
    rw [← h5]
    have nb2 : w5.heap[g]? = some (.cells #[.int .i64 (wrap64 (i0 + c0)), .int .i64 (wrap64 (i1 + c1)), .int .i64 i2, .int .i64 i3] 3 (0, 0)) := by rw [h5, set_cells nb]; rfl
    have hc2 : w5.heap[g2]? = some (.cells #[.int .i64 c0, .int .i64 c1, .int .i64 c2, .int .i64 c3] 3 (0, 0)) := by rw [h5]; exact (Below.heap_setCell _ _ _ _ hgg.symm).trans hc
    have Hh := Lib.hid (show w5.heap[b]? = some (.cells #[.string u] 9 (0, 0)) from by rw [h5]; exact (Below.heap_setCell _ _ _ _ (by show b ≠ g; omega)).trans Hh.out)
    have bl2 : Below w.heap.size w w5 := by rw [h5]; exact bl.setCell hgw _
    clear h5 nb hc bl
    obtain ⟨w4, hw4⟩ : ∃ w4, w4 = w5 := ⟨_, rfl⟩
    rw [← hw4] at nb2 hc2 Hh bl2 ⊢
    clear hw4
    have nb := nb2
    have hc := hc2
    have bl := bl2
    clear nb2 hc2 bl2
    rw [rounds_succ]
    have m := cellsAt nb 2 _ rfl
    have n := cellsFree nb 2
    have k := cellsAt hc 2 _ rfl
    go_wp2_with fail
    clear m n k
    obtain ⟨w5, h5⟩ : ∃ w5, w5 = w4.setCell ⟨g, 2, none⟩ (.int .i64 (wrap64 (i2 + c2))) := ⟨_, rfl⟩
    rw [← h5]
    have nb2 : w5.heap[g]? = some (.cells #[.int .i64 (wrap64 (i0 + c0)), .int .i64 (wrap64 (i1 + c1)), .int .i64 (wrap64 (i2 + c2)), .int .i64 i3] 3 (0, 0)) := by rw [h5, set_cells nb]; rfl
    have hc2 : w5.heap[g2]? = some (.cells #[.int .i64 c0, .int .i64 c1, .int .i64 c2, .int .i64 c3] 3 (0, 0)) := by rw [h5]; exact (Below.heap_setCell _ _ _ _ hgg.symm).trans hc
    have Hh := Lib.hid (show w5.heap[b]? = some (.cells #[.string u] 9 (0, 0)) from by rw [h5]; exact (Below.heap_setCell _ _ _ _ (by show b ≠ g; omega)).trans Hh.out)
    have bl2 : Below w.heap.size w w5 := by rw [h5]; exact bl.setCell hgw _
    clear h5 nb hc bl
    obtain ⟨w4, hw4⟩ : ∃ w4, w4 = w5 := ⟨_, rfl⟩
    rw [← hw4] at nb2 hc2 Hh bl2 ⊢
    clear hw4
    have nb := nb2
    have hc := hc2
    have bl := bl2
    clear nb2 hc2 bl2
    rw [rounds_succ]
    have m := cellsAt nb 3 _ rfl
    have n := cellsFree nb 3
    have k := cellsAt hc 3 _ rfl
    go_wp2_with fail
    clear m n k
    obtain ⟨w5, h5⟩ : ∃ w5, w5 = w4.setCell ⟨g, 3, none⟩ (.int .i64 (wrap64 (i3 + c3))) := ⟨_, rfl⟩
    rw [← h5]
    have nb2 : w5.heap[g]? = some (.cells #[.int .i64 (wrap64 (i0 + c0)), .int .i64 (wrap64 (i1 + c1)), .int .i64 (wrap64 (i2 + c2)), .int .i64 (wrap64 (i3 + c3))] 3 (0, 0)) := by rw [h5, set_cells nb]; rfl
    have hc2 : w5.heap[g2]? = some (.cells #[.int .i64 c0, .int .i64 c1, .int .i64 c2, .int .i64 c3] 3 (0, 0)) := by rw [h5]; exact (Below.heap_setCell _ _ _ _ hgg.symm).trans hc
    have Hh := Lib.hid (show w5.heap[b]? = some (.cells #[.string u] 9 (0, 0)) from by rw [h5]; exact (Below.heap_setCell _ _ _ _ (by show b ≠ g; omega)).trans Hh.out)
    have bl2 : Below w.heap.size w w5 := by rw [h5]; exact bl.setCell hgw _
    clear h5 nb hc bl
    obtain ⟨w4, hw4⟩ : ∃ w4, w4 = w5 := ⟨_, rfl⟩
    rw [← hw4] at nb2 hc2 Hh bl2 ⊢
    clear hw4
    have nb := nb2
    have hc := hc2
    have bl := bl2
    clear nb2 hc2 bl2
    rw [rounds_succ]
    skip
    go_wp2_with fail
    clear hc
    rw [rounds_succ]
    go_wp2_with fail
    go_ret
    exact ⟨g, rfl, hgw, by have h := nb; rw [E0.out, E1.out, E2.out, E3.out] at h; exact h, bl⟩
set_option maxHeartbeats 4000000 in
theorem su_ownS (s : ByteArray) (a : UInt8) (kd : Int) (u : ByteArray) (c0 c1 c2 c3 : Int) (hz : s.size ≤ 700) (k33 : (kd == 33) = false) (k63 : (kd == 63) = false) (k61 : (kd == 61) = false) (HK : ∀ w, Calls Tryz.prog 66 #[.string s] w fun e w' => e = .returned (.int .u8 kd) ∧ w = w') (x : UInt8) (qx : ((x.toNat : Int) == (a.toNat : Int)) = true) (HB : ∀ w, Calls Tryz.prog 64 #[.string s] w fun e w' => e = .returned (.tuple #[.int .u8 (x.toNat : Int), .bool true]) ∧ w = w') (w : World) : Calls Tryz.prog 34 #[.string s, .int .u8 (a.toNat : Int)] w fun e w' => ∃ g, e = .returned (.slice (some ⟨g, 0, none⟩) 4 4) ∧ w.heap.size ≤ g ∧ w'.heap[g]? = some (.cells #[.int .i64 (0), .int .i64 (0), .int .i64 (0), .int .i64 (0)] 3 (0, 0)) ∧ Below w.heap.size w w' := by
  have XK := Lib.hid HK
  have XB := Lib.hid HB
  clear HK HB
  have nb := new_block w (.cells #[.int .i64 0, .int .i64 0, .int .i64 0, .int .i64 0] 3)
  have bl := (Below.refl w.heap.size w).alloc (Nat.le_refl _) (.cells #[.int .i64 0, .int .i64 0, .int .i64 0, .int .i64 0] 3)
  obtain ⟨W, hW⟩ : ∃ W, W = w.alloc (.cells #[.int .i64 0, .int .i64 0, .int .i64 0, .int .i64 0] 3) := ⟨_, rfl⟩
  have hmk := mk4 w
  rw [← hW] at nb bl hmk
  obtain ⟨g, hg⟩ : ∃ g, g = w.heap.size := ⟨_, rfl⟩
  have hgw : w.heap.size ≤ g := by omega
  rw [← hg] at nb hmk
  clear hW hg
  go_enter Tryz.func34, Tryz.ntmps34
  go_wp2_with fail
  clear hmk
  refine (XK.out _).mono ?_
  rintro e w2 ⟨rfl, rfl⟩
  have m0 := cellsAt nb 0 _ rfl
  have n0 := cellsFree nb 0
  have m1 := cellsAt nb 1 _ rfl
  have n1 := cellsFree nb 1
  have m2 := cellsAt nb 2 _ rfl
  have n2 := cellsFree nb 2
  have m3 := cellsAt nb 3 _ rfl
  have n3 := cellsFree nb 3
  go_wp2_with fail
  clear m0 m1 m2 m3 n0 n1 n2 n3
  refine (XB.out _).mono ?_
  rintro e w2 ⟨rfl, rfl⟩
  go_wp2_with fail
  go_ret
  exact ⟨g, rfl, hgw, nb, bl⟩
set_option maxHeartbeats 4000000 in
theorem su_ownD (s : ByteArray) (a : UInt8) (kd : Int) (u : ByteArray) (c0 c1 c2 c3 : Int) (hz : s.size ≤ 700) (k33 : (kd == 33) = false) (k63 : (kd == 63) = false) (k61 : (kd == 61) = false) (HK : ∀ w, Calls Tryz.prog 66 #[.string s] w fun e w' => e = .returned (.int .u8 kd) ∧ w = w') (x : UInt8) (qx : ((x.toNat : Int) == (a.toNat : Int)) = false) (HB : ∀ w, Calls Tryz.prog 64 #[.string s] w fun e w' => e = .returned (.tuple #[.int .u8 (x.toNat : Int), .bool true]) ∧ w = w') (HP : ∀ w, Calls Tryz.prog 62 #[.string s] w fun e w' => ∃ b, e = .returned (.slice (some ⟨b, 0, none⟩) 1 1) ∧ w.heap.size ≤ b ∧ w'.heap[b]? = some (.cells #[.string u] 9 (0, 0)) ∧ Below w.heap.size w w') (ih : ∀ w, Calls Tryz.prog 34 #[.string u, .int .u8 (a.toNat : Int)] w fun e w' => ∃ g, e = .returned (.slice (some ⟨g, 0, none⟩) 4 4) ∧ w.heap.size ≤ g ∧ w'.heap[g]? = some (.cells #[.int .i64 c0, .int .i64 c1, .int .i64 c2, .int .i64 c3] 3 (0, 0)) ∧ Below w.heap.size w w') (w : World) : Calls Tryz.prog 34 #[.string s, .int .u8 (a.toNat : Int)] w fun e w' => ∃ g, e = .returned (.slice (some ⟨g, 0, none⟩) 4 4) ∧ w.heap.size ≤ g ∧ w'.heap[g]? = some (.cells #[.int .i64 (wrap64 (0 + c0)), .int .i64 (wrap64 (0 + c1)), .int .i64 (wrap64 (0 + c2)), .int .i64 (wrap64 (0 + c3))] 3 (0, 0)) ∧ Below w.heap.size w w' := by
  have XK := Lib.hid HK
  have XB := Lib.hid HB
  have XP := Lib.hid HP
  have I1 := Lib.hid ih
  clear HK HB HP ih
  have nb := new_block w (.cells #[.int .i64 0, .int .i64 0, .int .i64 0, .int .i64 0] 3)
  have bl := (Below.refl w.heap.size w).alloc (Nat.le_refl _) (.cells #[.int .i64 0, .int .i64 0, .int .i64 0, .int .i64 0] 3)
  obtain ⟨W, hW⟩ : ∃ W, W = w.alloc (.cells #[.int .i64 0, .int .i64 0, .int .i64 0, .int .i64 0] 3) := ⟨_, rfl⟩
  have hmk := mk4 w
  rw [← hW] at nb bl hmk
  obtain ⟨g, hg⟩ : ∃ g, g = w.heap.size := ⟨_, rfl⟩
  have hgw : w.heap.size ≤ g := by omega
  rw [← hg] at nb hmk
  clear hW hg
  go_enter Tryz.func34, Tryz.ntmps34
  go_wp2_with fail
  clear hmk
  refine (XK.out _).mono ?_
  rintro e w2 ⟨rfl, rfl⟩
  have m0 := cellsAt nb 0 _ rfl
  have n0 := cellsFree nb 0
  have m1 := cellsAt nb 1 _ rfl
  have n1 := cellsFree nb 1
  have m2 := cellsAt nb 2 _ rfl
  have n2 := cellsFree nb 2
  have m3 := cellsAt nb 3 _ rfl
  have n3 := cellsFree nb 3
  go_wp2_with fail
  clear m0 m1 m2 m3 n0 n1 n2 n3
  refine (XB.out _).mono ?_
  rintro e w2 ⟨rfl, rfl⟩
  go_wp2_with fail
  obtain ⟨i0, e0⟩ : ∃ i : Int, i = 0 := ⟨_, rfl⟩
  obtain ⟨i1, e1⟩ : ∃ i : Int, i = 0 := ⟨_, rfl⟩
  obtain ⟨i2, e2⟩ : ∃ i : Int, i = 0 := ⟨_, rfl⟩
  obtain ⟨i3, e3⟩ : ∃ i : Int, i = 0 := ⟨_, rfl⟩
  replace nb := nb.trans (show some (Obj.cells #[.int .i64 0, .int .i64 0, .int .i64 0, .int .i64 0] 3 (0, 0)) = some (Obj.cells #[.int .i64 i0, .int .i64 i1, .int .i64 i2, .int .i64 i3] 3 (0, 0)) from by rw [e0, e1, e2, e3])
  have E0 := Lib.hid e0
  have E1 := Lib.hid e1
  have E2 := Lib.hid e2
  have E3 := Lib.hid e3
  clear e0 e1 e2 e3
  refine (XP.out _).mono ?_
  rintro e w3 ⟨b, rfl, hb, hh, b3⟩
  have hgb : g < b := Nat.lt_of_lt_of_le (lt_of_block nb) hb
  replace nb := (b3.block _ (lt_of_block nb)).trans nb
  replace bl := below_trans bl b3 bl.size
  clear b3
  have cu := cellOf1 hh
  have Hh := Lib.hid hh
  clear hh
  go_wp2_with fail
  refine wp_loop_rounds 2 ?_
  rw [rounds_succ]
  go_wp2_with fail
  refine (I1.out _).mono ?_
  rintro e w4 ⟨g2, rfl, hg2, hc, b4⟩
  have hgg : g ≠ g2 := by have := lt_of_block nb; omega
  have hgb2 : b ≠ g2 := by have := lt_of_block Hh.out; omega
  replace nb := (b4.block _ (lt_of_block nb)).trans nb
  have Hh := Lib.hid ((b4.block _ (lt_of_block Hh.out)).trans Hh.out)
  replace bl := below_trans bl b4 bl.size
  clear b4 cu
  go_wp2_with fail
  refine wp_loop_rounds 5 ?_
  rw [rounds_succ]
  have m := cellsAt nb 0 _ rfl
  have n := cellsFree nb 0
  have k := cellsAt hc 0 _ rfl
  go_wp2_with fail
  clear m n k
  obtain ⟨w5, h5⟩ : ∃ w5, w5 = w4.setCell ⟨g, 0, none⟩ (.int .i64 (wrap64 (i0 + c0))) := ⟨_, rfl⟩
  rw [← h5]
  have nb2 : w5.heap[g]? = some (.cells #[.int .i64 (wrap64 (i0 + c0)), .int .i64 i1, .int .i64 i2, .int .i64 i3] 3 (0, 0)) := by rw [h5, set_cells nb]; rfl
  have hc2 : w5.heap[g2]? = some (.cells #[.int .i64 c0, .int .i64 c1, .int .i64 c2, .int .i64 c3] 3 (0, 0)) := by rw [h5]; exact (Below.heap_setCell _ _ _ _ hgg.symm).trans hc
  have Hh := Lib.hid (show w5.heap[b]? = some (.cells #[.string u] 9 (0, 0)) from by rw [h5]; exact (Below.heap_setCell _ _ _ _ (by show b ≠ g; omega)).trans Hh.out)
  have bl2 : Below w.heap.size w w5 := by rw [h5]; exact bl.setCell hgw _
  clear h5 nb hc bl
  obtain ⟨w4, hw4⟩ : ∃ w4, w4 = w5 := ⟨_, rfl⟩
  rw [← hw4] at nb2 hc2 Hh bl2 ⊢
  clear hw4
  have nb := nb2
  have hc := hc2
  have bl := bl2
  clear nb2 hc2 bl2
  rw [rounds_succ]
  have m := cellsAt nb 1 _ rfl
  have n := cellsFree nb 1
  have k := cellsAt hc 1 _ rfl
  go_wp2_with fail
  clear m n k
  obtain ⟨w5, h5⟩ : ∃ w5, w5 = w4.setCell ⟨g, 1, none⟩ (.int .i64 (wrap64 (i1 + c1))) := ⟨_, rfl⟩
  rw [← h5]
  have nb2 : w5.heap[g]? = some (.cells #[.int .i64 (wrap64 (i0 + c0)), .int .i64 (wrap64 (i1 + c1)), .int .i64 i2, .int .i64 i3] 3 (0, 0)) := by rw [h5, set_cells nb]; rfl
  have hc2 : w5.heap[g2]? = some (.cells #[.int .i64 c0, .int .i64 c1, .int .i64 c2, .int .i64 c3] 3 (0, 0)) := by rw [h5]; exact (Below.heap_setCell _ _ _ _ hgg.symm).trans hc
  have Hh := Lib.hid (show w5.heap[b]? = some (.cells #[.string u] 9 (0, 0)) from by rw [h5]; exact (Below.heap_setCell _ _ _ _ (by show b ≠ g; omega)).trans Hh.out)
  have bl2 : Below w.heap.size w w5 := by rw [h5]; exact bl.setCell hgw _
  clear h5 nb hc bl
  obtain ⟨w4, hw4⟩ : ∃ w4, w4 = w5 := ⟨_, rfl⟩
  rw [← hw4] at nb2 hc2 Hh bl2 ⊢
  clear hw4
  have nb := nb2
  have hc := hc2
  have bl := bl2
  clear nb2 hc2 bl2
  rw [rounds_succ]
  have m := cellsAt nb 2 _ rfl
  have n := cellsFree nb 2
  have k := cellsAt hc 2 _ rfl
  go_wp2_with fail
  clear m n k
  obtain ⟨w5, h5⟩ : ∃ w5, w5 = w4.setCell ⟨g, 2, none⟩ (.int .i64 (wrap64 (i2 + c2))) := ⟨_, rfl⟩
  rw [← h5]
  have nb2 : w5.heap[g]? = some (.cells #[.int .i64 (wrap64 (i0 + c0)), .int .i64 (wrap64 (i1 + c1)), .int .i64 (wrap64 (i2 + c2)), .int .i64 i3] 3 (0, 0)) := by rw [h5, set_cells nb]; rfl
  have hc2 : w5.heap[g2]? = some (.cells #[.int .i64 c0, .int .i64 c1, .int .i64 c2, .int .i64 c3] 3 (0, 0)) := by rw [h5]; exact (Below.heap_setCell _ _ _ _ hgg.symm).trans hc
  have Hh := Lib.hid (show w5.heap[b]? = some (.cells #[.string u] 9 (0, 0)) from by rw [h5]; exact (Below.heap_setCell _ _ _ _ (by show b ≠ g; omega)).trans Hh.out)
  have bl2 : Below w.heap.size w w5 := by rw [h5]; exact bl.setCell hgw _
  clear h5 nb hc bl
  obtain ⟨w4, hw4⟩ : ∃ w4, w4 = w5 := ⟨_, rfl⟩
  rw [← hw4] at nb2 hc2 Hh bl2 ⊢
  clear hw4
  have nb := nb2
  have hc := hc2
  have bl := bl2
  clear nb2 hc2 bl2
  rw [rounds_succ]
  have m := cellsAt nb 3 _ rfl
  have n := cellsFree nb 3
  have k := cellsAt hc 3 _ rfl
  go_wp2_with fail
  clear m n k
  obtain ⟨w5, h5⟩ : ∃ w5, w5 = w4.setCell ⟨g, 3, none⟩ (.int .i64 (wrap64 (i3 + c3))) := ⟨_, rfl⟩
  rw [← h5]
  have nb2 : w5.heap[g]? = some (.cells #[.int .i64 (wrap64 (i0 + c0)), .int .i64 (wrap64 (i1 + c1)), .int .i64 (wrap64 (i2 + c2)), .int .i64 (wrap64 (i3 + c3))] 3 (0, 0)) := by rw [h5, set_cells nb]; rfl
  have hc2 : w5.heap[g2]? = some (.cells #[.int .i64 c0, .int .i64 c1, .int .i64 c2, .int .i64 c3] 3 (0, 0)) := by rw [h5]; exact (Below.heap_setCell _ _ _ _ hgg.symm).trans hc
  have Hh := Lib.hid (show w5.heap[b]? = some (.cells #[.string u] 9 (0, 0)) from by rw [h5]; exact (Below.heap_setCell _ _ _ _ (by show b ≠ g; omega)).trans Hh.out)
  have bl2 : Below w.heap.size w w5 := by rw [h5]; exact bl.setCell hgw _
  clear h5 nb hc bl
  obtain ⟨w4, hw4⟩ : ∃ w4, w4 = w5 := ⟨_, rfl⟩
  rw [← hw4] at nb2 hc2 Hh bl2 ⊢
  clear hw4
  have nb := nb2
  have hc := hc2
  have bl := bl2
  clear nb2 hc2 bl2
  rw [rounds_succ]
  skip
  go_wp2_with fail
  clear hc
  rw [rounds_succ]
  go_wp2_with fail
  go_ret
  exact ⟨g, rfl, hgw, by have h := nb; rw [E0.out, E1.out, E2.out, E3.out] at h; exact h, bl⟩
set_option maxHeartbeats 4000000 in
theorem su_mat (s : ByteArray) (a : UInt8) (kd : Int) (u : ByteArray) (c0 c1 c2 c3 : Int) (hz : s.size ≤ 700) (k33 : (kd == 33) = false) (k63 : (kd == 63) = false) (k61 : (kd == 61) = true) (h1 : 1 < s.size) (p1 : Bool) (q1 : (((s[1]'h1).toNat : Int) == (a.toNat : Int)) = p1) (h3 : 3 < s.size) (p3 : Bool) (q3 : (((s[3]'h3).toNat : Int) == (a.toNat : Int)) = p3) (HK : ∀ w, Calls Tryz.prog 66 #[.string s] w fun e w' => e = .returned (.int .u8 kd) ∧ w = w') (HB : ∀ w, Calls Tryz.prog 64 #[.string s] w fun e w' => e = .returned (.tuple #[.int .u8 0, .bool false]) ∧ w = w') (HP : ∀ w, Calls Tryz.prog 62 #[.string s] w fun e w' => ∃ b, e = .returned (.slice (some ⟨b, 0, none⟩) 1 1) ∧ w.heap.size ≤ b ∧ w'.heap[b]? = some (.cells #[.string u] 9 (0, 0)) ∧ Below w.heap.size w w') (ih : ∀ w, Calls Tryz.prog 34 #[.string u, .int .u8 (a.toNat : Int)] w fun e w' => ∃ g, e = .returned (.slice (some ⟨g, 0, none⟩) 4 4) ∧ w.heap.size ≤ g ∧ w'.heap[g]? = some (.cells #[.int .i64 c0, .int .i64 c1, .int .i64 c2, .int .i64 c3] 3 (0, 0)) ∧ Below w.heap.size w w') (w : World) : Calls Tryz.prog 34 #[.string s, .int .u8 (a.toNat : Int)] w fun e w' => ∃ g, e = .returned (.slice (some ⟨g, 0, none⟩) 4 4) ∧ w.heap.size ≤ g ∧ w'.heap[g]? = some (.cells #[.int .i64 (wrap64 (0 + c0)), .int .i64 (wrap64 (0 + c1)), .int .i64 (wrap64 (0 + c2)), .int .i64 (wrap64 (cond (p1 || p3) 1 0 + c3))] 3 (0, 0)) ∧ Below w.heap.size w w' := by
  have XK := Lib.hid HK
  have XB := Lib.hid HB
  have XP := Lib.hid HP
  have I1 := Lib.hid ih
  clear HK HB HP ih
  have nb := new_block w (.cells #[.int .i64 0, .int .i64 0, .int .i64 0, .int .i64 0] 3)
  have bl := (Below.refl w.heap.size w).alloc (Nat.le_refl _) (.cells #[.int .i64 0, .int .i64 0, .int .i64 0, .int .i64 0] 3)
  obtain ⟨W, hW⟩ : ∃ W, W = w.alloc (.cells #[.int .i64 0, .int .i64 0, .int .i64 0, .int .i64 0] 3) := ⟨_, rfl⟩
  have hmk := mk4 w
  rw [← hW] at nb bl hmk
  obtain ⟨g, hg⟩ : ∃ g, g = w.heap.size := ⟨_, rfl⟩
  have hgw : w.heap.size ≤ g := by omega
  rw [← hg] at nb hmk
  clear hW hg
  cases p1
  · cases p3
    · go_enter Tryz.func34, Tryz.ntmps34
      go_wp2_with fail
      clear hmk
      refine (XK.out _).mono ?_
      rintro e w2 ⟨rfl, rfl⟩
      have m0 := cellsAt nb 0 _ rfl
      have n0 := cellsFree nb 0
      have m1 := cellsAt nb 1 _ rfl
      have n1 := cellsFree nb 1
      have m2 := cellsAt nb 2 _ rfl
      have n2 := cellsFree nb 2
      have m3 := cellsAt nb 3 _ rfl
      have n3 := cellsFree nb 3
      go_wp2_with fail
      clear m0 m1 m2 m3 n0 n1 n2 n3
      refine (XB.out _).mono ?_
      rintro e w2 ⟨rfl, rfl⟩
      go_wp2_with fail
      obtain ⟨i0, e0⟩ : ∃ i : Int, i = 0 := ⟨_, rfl⟩
      obtain ⟨i1, e1⟩ : ∃ i : Int, i = 0 := ⟨_, rfl⟩
      obtain ⟨i2, e2⟩ : ∃ i : Int, i = 0 := ⟨_, rfl⟩
      obtain ⟨i3, e3⟩ : ∃ i : Int, i = 0 := ⟨_, rfl⟩
      replace nb := nb.trans (show some (Obj.cells #[.int .i64 0, .int .i64 0, .int .i64 0, .int .i64 0] 3 (0, 0)) = some (Obj.cells #[.int .i64 i0, .int .i64 i1, .int .i64 i2, .int .i64 i3] 3 (0, 0)) from by rw [e0, e1, e2, e3])
      have E0 := Lib.hid e0
      have E1 := Lib.hid e1
      have E2 := Lib.hid e2
      have E3 := Lib.hid e3
      clear e0 e1 e2 e3
      refine (XP.out _).mono ?_
      rintro e w3 ⟨b, rfl, hb, hh, b3⟩
      have hgb : g < b := Nat.lt_of_lt_of_le (lt_of_block nb) hb
      replace nb := (b3.block _ (lt_of_block nb)).trans nb
      replace bl := below_trans bl b3 bl.size
      clear b3
      have cu := cellOf1 hh
      have Hh := Lib.hid hh
      clear hh
      go_wp2_with fail
      refine wp_loop_rounds 2 ?_
      rw [rounds_succ]
      go_wp2_with fail
      refine (I1.out _).mono ?_
      rintro e w4 ⟨g2, rfl, hg2, hc, b4⟩
      have hgg : g ≠ g2 := by have := lt_of_block nb; omega
      have hgb2 : b ≠ g2 := by have := lt_of_block Hh.out; omega
      replace nb := (b4.block _ (lt_of_block nb)).trans nb
      have Hh := Lib.hid ((b4.block _ (lt_of_block Hh.out)).trans Hh.out)
      replace bl := below_trans bl b4 bl.size
      clear b4 cu
      go_wp2_with fail
      refine wp_loop_rounds 5 ?_
      rw [rounds_succ]
      have m := cellsAt nb 0 _ rfl
      have n := cellsFree nb 0
      have k := cellsAt hc 0 _ rfl
      go_wp2_with fail
      clear m n k
      obtain ⟨w5, h5⟩ : ∃ w5, w5 = w4.setCell ⟨g, 0, none⟩ (.int .i64 (wrap64 (i0 + c0))) := ⟨_, rfl⟩
      rw [← h5]
      have nb2 : w5.heap[g]? = some (.cells #[.int .i64 (wrap64 (i0 + c0)), .int .i64 i1, .int .i64 i2, .int .i64 i3] 3 (0, 0)) := by rw [h5, set_cells nb]; rfl
      have hc2 : w5.heap[g2]? = some (.cells #[.int .i64 c0, .int .i64 c1, .int .i64 c2, .int .i64 c3] 3 (0, 0)) := by rw [h5]; exact (Below.heap_setCell _ _ _ _ hgg.symm).trans hc
      have Hh := Lib.hid (show w5.heap[b]? = some (.cells #[.string u] 9 (0, 0)) from by rw [h5]; exact (Below.heap_setCell _ _ _ _ (by show b ≠ g; omega)).trans Hh.out)
      have bl2 : Below w.heap.size w w5 := by rw [h5]; exact bl.setCell hgw _
      clear h5 nb hc bl
      obtain ⟨w4, hw4⟩ : ∃ w4, w4 = w5 := ⟨_, rfl⟩
      rw [← hw4] at nb2 hc2 Hh bl2 ⊢
      clear hw4
      have nb := nb2
      have hc := hc2
      have bl := bl2
      clear nb2 hc2 bl2
      rw [rounds_succ]
      have m := cellsAt nb 1 _ rfl
      have n := cellsFree nb 1
      have k := cellsAt hc 1 _ rfl
      go_wp2_with fail
      clear m n k
      obtain ⟨w5, h5⟩ : ∃ w5, w5 = w4.setCell ⟨g, 1, none⟩ (.int .i64 (wrap64 (i1 + c1))) := ⟨_, rfl⟩
      rw [← h5]
      have nb2 : w5.heap[g]? = some (.cells #[.int .i64 (wrap64 (i0 + c0)), .int .i64 (wrap64 (i1 + c1)), .int .i64 i2, .int .i64 i3] 3 (0, 0)) := by rw [h5, set_cells nb]; rfl
      have hc2 : w5.heap[g2]? = some (.cells #[.int .i64 c0, .int .i64 c1, .int .i64 c2, .int .i64 c3] 3 (0, 0)) := by rw [h5]; exact (Below.heap_setCell _ _ _ _ hgg.symm).trans hc
      have Hh := Lib.hid (show w5.heap[b]? = some (.cells #[.string u] 9 (0, 0)) from by rw [h5]; exact (Below.heap_setCell _ _ _ _ (by show b ≠ g; omega)).trans Hh.out)
      have bl2 : Below w.heap.size w w5 := by rw [h5]; exact bl.setCell hgw _
      clear h5 nb hc bl
      obtain ⟨w4, hw4⟩ : ∃ w4, w4 = w5 := ⟨_, rfl⟩
      rw [← hw4] at nb2 hc2 Hh bl2 ⊢
      clear hw4
      have nb := nb2
      have hc := hc2
      have bl := bl2
      clear nb2 hc2 bl2
      rw [rounds_succ]
      have m := cellsAt nb 2 _ rfl
      have n := cellsFree nb 2
      have k := cellsAt hc 2 _ rfl
      go_wp2_with fail
      clear m n k
      obtain ⟨w5, h5⟩ : ∃ w5, w5 = w4.setCell ⟨g, 2, none⟩ (.int .i64 (wrap64 (i2 + c2))) := ⟨_, rfl⟩
      rw [← h5]
      have nb2 : w5.heap[g]? = some (.cells #[.int .i64 (wrap64 (i0 + c0)), .int .i64 (wrap64 (i1 + c1)), .int .i64 (wrap64 (i2 + c2)), .int .i64 i3] 3 (0, 0)) := by rw [h5, set_cells nb]; rfl
      have hc2 : w5.heap[g2]? = some (.cells #[.int .i64 c0, .int .i64 c1, .int .i64 c2, .int .i64 c3] 3 (0, 0)) := by rw [h5]; exact (Below.heap_setCell _ _ _ _ hgg.symm).trans hc
      have Hh := Lib.hid (show w5.heap[b]? = some (.cells #[.string u] 9 (0, 0)) from by rw [h5]; exact (Below.heap_setCell _ _ _ _ (by show b ≠ g; omega)).trans Hh.out)
      have bl2 : Below w.heap.size w w5 := by rw [h5]; exact bl.setCell hgw _
      clear h5 nb hc bl
      obtain ⟨w4, hw4⟩ : ∃ w4, w4 = w5 := ⟨_, rfl⟩
      rw [← hw4] at nb2 hc2 Hh bl2 ⊢
      clear hw4
      have nb := nb2
      have hc := hc2
      have bl := bl2
      clear nb2 hc2 bl2
      rw [rounds_succ]
      have m := cellsAt nb 3 _ rfl
      have n := cellsFree nb 3
      have k := cellsAt hc 3 _ rfl
      go_wp2_with fail
      clear m n k
      obtain ⟨w5, h5⟩ : ∃ w5, w5 = w4.setCell ⟨g, 3, none⟩ (.int .i64 (wrap64 (i3 + c3))) := ⟨_, rfl⟩
      rw [← h5]
      have nb2 : w5.heap[g]? = some (.cells #[.int .i64 (wrap64 (i0 + c0)), .int .i64 (wrap64 (i1 + c1)), .int .i64 (wrap64 (i2 + c2)), .int .i64 (wrap64 (i3 + c3))] 3 (0, 0)) := by rw [h5, set_cells nb]; rfl
      have hc2 : w5.heap[g2]? = some (.cells #[.int .i64 c0, .int .i64 c1, .int .i64 c2, .int .i64 c3] 3 (0, 0)) := by rw [h5]; exact (Below.heap_setCell _ _ _ _ hgg.symm).trans hc
      have Hh := Lib.hid (show w5.heap[b]? = some (.cells #[.string u] 9 (0, 0)) from by rw [h5]; exact (Below.heap_setCell _ _ _ _ (by show b ≠ g; omega)).trans Hh.out)
      have bl2 : Below w.heap.size w w5 := by rw [h5]; exact bl.setCell hgw _
      clear h5 nb hc bl
      obtain ⟨w4, hw4⟩ : ∃ w4, w4 = w5 := ⟨_, rfl⟩
      rw [← hw4] at nb2 hc2 Hh bl2 ⊢
      clear hw4
      have nb := nb2
      have hc := hc2
      have bl := bl2
      clear nb2 hc2 bl2
      rw [rounds_succ]
      skip
      go_wp2_with fail
      clear hc
      rw [rounds_succ]
      go_wp2_with fail
      go_ret
      exact ⟨g, rfl, hgw, by have h := nb; rw [E0.out, E1.out, E2.out, E3.out] at h; exact h, bl⟩
    · go_enter Tryz.func34, Tryz.ntmps34
      go_wp2_with fail
      clear hmk
      refine (XK.out _).mono ?_
      rintro e w2 ⟨rfl, rfl⟩
      have m0 := cellsAt nb 0 _ rfl
      have n0 := cellsFree nb 0
      have m1 := cellsAt nb 1 _ rfl
      have n1 := cellsFree nb 1
      have m2 := cellsAt nb 2 _ rfl
      have n2 := cellsFree nb 2
      have m3 := cellsAt nb 3 _ rfl
      have n3 := cellsFree nb 3
      go_wp2_with fail
      clear m0 m1 m2 m3 n0 n1 n2 n3
      have nb1 : (W.setCell ⟨g, 3, none⟩ (.int .i64 1)).heap[g]? = some (.cells #[.int .i64 0, .int .i64 0, .int .i64 0, .int .i64 1] 3 (0, 0)) := by rw [set_cells nb]; rfl
      replace bl := bl.setCell (p := ⟨g, 3, none⟩) hgw (.int .i64 1)
      obtain ⟨W1, hW1⟩ : ∃ W1, W1 = (W.setCell ⟨g, 3, none⟩ (.int .i64 1)) := ⟨_, rfl⟩
      rw [← hW1] at nb1 bl ⊢
      clear hW1
      replace nb := nb1
      refine (XB.out _).mono ?_
      rintro e w2 ⟨rfl, rfl⟩
      go_wp2_with fail
      obtain ⟨i0, e0⟩ : ∃ i : Int, i = 0 := ⟨_, rfl⟩
      obtain ⟨i1, e1⟩ : ∃ i : Int, i = 0 := ⟨_, rfl⟩
      obtain ⟨i2, e2⟩ : ∃ i : Int, i = 0 := ⟨_, rfl⟩
      obtain ⟨i3, e3⟩ : ∃ i : Int, i = 1 := ⟨_, rfl⟩
      replace nb := nb.trans (show some (Obj.cells #[.int .i64 0, .int .i64 0, .int .i64 0, .int .i64 1] 3 (0, 0)) = some (Obj.cells #[.int .i64 i0, .int .i64 i1, .int .i64 i2, .int .i64 i3] 3 (0, 0)) from by rw [e0, e1, e2, e3])
      have E0 := Lib.hid e0
      have E1 := Lib.hid e1
      have E2 := Lib.hid e2
      have E3 := Lib.hid e3
      clear e0 e1 e2 e3
      refine (XP.out _).mono ?_
      rintro e w3 ⟨b, rfl, hb, hh, b3⟩
      have hgb : g < b := Nat.lt_of_lt_of_le (lt_of_block nb) hb
      replace nb := (b3.block _ (lt_of_block nb)).trans nb
      replace bl := below_trans bl b3 bl.size
      clear b3
      have cu := cellOf1 hh
      have Hh := Lib.hid hh
      clear hh
      go_wp2_with fail
      refine wp_loop_rounds 2 ?_
      rw [rounds_succ]
      go_wp2_with fail
      refine (I1.out _).mono ?_
      rintro e w4 ⟨g2, rfl, hg2, hc, b4⟩
      have hgg : g ≠ g2 := by have := lt_of_block nb; omega
      have hgb2 : b ≠ g2 := by have := lt_of_block Hh.out; omega
      replace nb := (b4.block _ (lt_of_block nb)).trans nb
      have Hh := Lib.hid ((b4.block _ (lt_of_block Hh.out)).trans Hh.out)
      replace bl := below_trans bl b4 bl.size
      clear b4 cu
      go_wp2_with fail
      refine wp_loop_rounds 5 ?_
      rw [rounds_succ]
      have m := cellsAt nb 0 _ rfl
      have n := cellsFree nb 0
      have k := cellsAt hc 0 _ rfl
      go_wp2_with fail
      clear m n k
      obtain ⟨w5, h5⟩ : ∃ w5, w5 = w4.setCell ⟨g, 0, none⟩ (.int .i64 (wrap64 (i0 + c0))) := ⟨_, rfl⟩
      rw [← h5]
      have nb2 : w5.heap[g]? = some (.cells #[.int .i64 (wrap64 (i0 + c0)), .int .i64 i1, .int .i64 i2, .int .i64 i3] 3 (0, 0)) := by rw [h5, set_cells nb]; rfl
      have hc2 : w5.heap[g2]? = some (.cells #[.int .i64 c0, .int .i64 c1, .int .i64 c2, .int .i64 c3] 3 (0, 0)) := by rw [h5]; exact (Below.heap_setCell _ _ _ _ hgg.symm).trans hc
      have Hh := Lib.hid (show w5.heap[b]? = some (.cells #[.string u] 9 (0, 0)) from by rw [h5]; exact (Below.heap_setCell _ _ _ _ (by show b ≠ g; omega)).trans Hh.out)
      have bl2 : Below w.heap.size w w5 := by rw [h5]; exact bl.setCell hgw _
      clear h5 nb hc bl
      obtain ⟨w4, hw4⟩ : ∃ w4, w4 = w5 := ⟨_, rfl⟩
      rw [← hw4] at nb2 hc2 Hh bl2 ⊢
      clear hw4
      have nb := nb2
      have hc := hc2
      have bl := bl2
      clear nb2 hc2 bl2
      rw [rounds_succ]
      have m := cellsAt nb 1 _ rfl
      have n := cellsFree nb 1
      have k := cellsAt hc 1 _ rfl
      go_wp2_with fail
      clear m n k
      obtain ⟨w5, h5⟩ : ∃ w5, w5 = w4.setCell ⟨g, 1, none⟩ (.int .i64 (wrap64 (i1 + c1))) := ⟨_, rfl⟩
      rw [← h5]
      have nb2 : w5.heap[g]? = some (.cells #[.int .i64 (wrap64 (i0 + c0)), .int .i64 (wrap64 (i1 + c1)), .int .i64 i2, .int .i64 i3] 3 (0, 0)) := by rw [h5, set_cells nb]; rfl
      have hc2 : w5.heap[g2]? = some (.cells #[.int .i64 c0, .int .i64 c1, .int .i64 c2, .int .i64 c3] 3 (0, 0)) := by rw [h5]; exact (Below.heap_setCell _ _ _ _ hgg.symm).trans hc
      have Hh := Lib.hid (show w5.heap[b]? = some (.cells #[.string u] 9 (0, 0)) from by rw [h5]; exact (Below.heap_setCell _ _ _ _ (by show b ≠ g; omega)).trans Hh.out)
      have bl2 : Below w.heap.size w w5 := by rw [h5]; exact bl.setCell hgw _
      clear h5 nb hc bl
      obtain ⟨w4, hw4⟩ : ∃ w4, w4 = w5 := ⟨_, rfl⟩
      rw [← hw4] at nb2 hc2 Hh bl2 ⊢
      clear hw4
      have nb := nb2
      have hc := hc2
      have bl := bl2
      clear nb2 hc2 bl2
      rw [rounds_succ]
      have m := cellsAt nb 2 _ rfl
      have n := cellsFree nb 2
      have k := cellsAt hc 2 _ rfl
      go_wp2_with fail
      clear m n k
      obtain ⟨w5, h5⟩ : ∃ w5, w5 = w4.setCell ⟨g, 2, none⟩ (.int .i64 (wrap64 (i2 + c2))) := ⟨_, rfl⟩
      rw [← h5]
      have nb2 : w5.heap[g]? = some (.cells #[.int .i64 (wrap64 (i0 + c0)), .int .i64 (wrap64 (i1 + c1)), .int .i64 (wrap64 (i2 + c2)), .int .i64 i3] 3 (0, 0)) := by rw [h5, set_cells nb]; rfl
      have hc2 : w5.heap[g2]? = some (.cells #[.int .i64 c0, .int .i64 c1, .int .i64 c2, .int .i64 c3] 3 (0, 0)) := by rw [h5]; exact (Below.heap_setCell _ _ _ _ hgg.symm).trans hc
      have Hh := Lib.hid (show w5.heap[b]? = some (.cells #[.string u] 9 (0, 0)) from by rw [h5]; exact (Below.heap_setCell _ _ _ _ (by show b ≠ g; omega)).trans Hh.out)
      have bl2 : Below w.heap.size w w5 := by rw [h5]; exact bl.setCell hgw _
      clear h5 nb hc bl
      obtain ⟨w4, hw4⟩ : ∃ w4, w4 = w5 := ⟨_, rfl⟩
      rw [← hw4] at nb2 hc2 Hh bl2 ⊢
      clear hw4
      have nb := nb2
      have hc := hc2
      have bl := bl2
      clear nb2 hc2 bl2
      rw [rounds_succ]
      have m := cellsAt nb 3 _ rfl
      have n := cellsFree nb 3
      have k := cellsAt hc 3 _ rfl
      go_wp2_with fail
      clear m n k
      obtain ⟨w5, h5⟩ : ∃ w5, w5 = w4.setCell ⟨g, 3, none⟩ (.int .i64 (wrap64 (i3 + c3))) := ⟨_, rfl⟩
      rw [← h5]
      have nb2 : w5.heap[g]? = some (.cells #[.int .i64 (wrap64 (i0 + c0)), .int .i64 (wrap64 (i1 + c1)), .int .i64 (wrap64 (i2 + c2)), .int .i64 (wrap64 (i3 + c3))] 3 (0, 0)) := by rw [h5, set_cells nb]; rfl
      have hc2 : w5.heap[g2]? = some (.cells #[.int .i64 c0, .int .i64 c1, .int .i64 c2, .int .i64 c3] 3 (0, 0)) := by rw [h5]; exact (Below.heap_setCell _ _ _ _ hgg.symm).trans hc
      have Hh := Lib.hid (show w5.heap[b]? = some (.cells #[.string u] 9 (0, 0)) from by rw [h5]; exact (Below.heap_setCell _ _ _ _ (by show b ≠ g; omega)).trans Hh.out)
      have bl2 : Below w.heap.size w w5 := by rw [h5]; exact bl.setCell hgw _
      clear h5 nb hc bl
      obtain ⟨w4, hw4⟩ : ∃ w4, w4 = w5 := ⟨_, rfl⟩
      rw [← hw4] at nb2 hc2 Hh bl2 ⊢
      clear hw4
      have nb := nb2
      have hc := hc2
      have bl := bl2
      clear nb2 hc2 bl2
      rw [rounds_succ]
      skip
      go_wp2_with fail
      clear hc
      rw [rounds_succ]
      go_wp2_with fail
      go_ret
      exact ⟨g, rfl, hgw, by have h := nb; rw [E0.out, E1.out, E2.out, E3.out] at h; exact h, bl⟩
  · cases p3
    · go_enter Tryz.func34, Tryz.ntmps34
      go_wp2_with fail
      clear hmk
      refine (XK.out _).mono ?_
      rintro e w2 ⟨rfl, rfl⟩
      have m0 := cellsAt nb 0 _ rfl
      have n0 := cellsFree nb 0
      have m1 := cellsAt nb 1 _ rfl
      have n1 := cellsFree nb 1
      have m2 := cellsAt nb 2 _ rfl
      have n2 := cellsFree nb 2
      have m3 := cellsAt nb 3 _ rfl
      have n3 := cellsFree nb 3
      go_wp2_with fail
      clear m0 m1 m2 m3 n0 n1 n2 n3
      have nb1 : (W.setCell ⟨g, 3, none⟩ (.int .i64 1)).heap[g]? = some (.cells #[.int .i64 0, .int .i64 0, .int .i64 0, .int .i64 1] 3 (0, 0)) := by rw [set_cells nb]; rfl
      replace bl := bl.setCell (p := ⟨g, 3, none⟩) hgw (.int .i64 1)
      obtain ⟨W1, hW1⟩ : ∃ W1, W1 = (W.setCell ⟨g, 3, none⟩ (.int .i64 1)) := ⟨_, rfl⟩
      rw [← hW1] at nb1 bl ⊢
      clear hW1
      replace nb := nb1
      refine (XB.out _).mono ?_
      rintro e w2 ⟨rfl, rfl⟩
      go_wp2_with fail
      obtain ⟨i0, e0⟩ : ∃ i : Int, i = 0 := ⟨_, rfl⟩
      obtain ⟨i1, e1⟩ : ∃ i : Int, i = 0 := ⟨_, rfl⟩
      obtain ⟨i2, e2⟩ : ∃ i : Int, i = 0 := ⟨_, rfl⟩
      obtain ⟨i3, e3⟩ : ∃ i : Int, i = 1 := ⟨_, rfl⟩
      replace nb := nb.trans (show some (Obj.cells #[.int .i64 0, .int .i64 0, .int .i64 0, .int .i64 1] 3 (0, 0)) = some (Obj.cells #[.int .i64 i0, .int .i64 i1, .int .i64 i2, .int .i64 i3] 3 (0, 0)) from by rw [e0, e1, e2, e3])
      have E0 := Lib.hid e0
      have E1 := Lib.hid e1
      have E2 := Lib.hid e2
      have E3 := Lib.hid e3
      clear e0 e1 e2 e3
      refine (XP.out _).mono ?_
      rintro e w3 ⟨b, rfl, hb, hh, b3⟩
      have hgb : g < b := Nat.lt_of_lt_of_le (lt_of_block nb) hb
      replace nb := (b3.block _ (lt_of_block nb)).trans nb
      replace bl := below_trans bl b3 bl.size
      clear b3
      have cu := cellOf1 hh
      have Hh := Lib.hid hh
      clear hh
      go_wp2_with fail
      refine wp_loop_rounds 2 ?_
      rw [rounds_succ]
      go_wp2_with fail
      refine (I1.out _).mono ?_
      rintro e w4 ⟨g2, rfl, hg2, hc, b4⟩
      have hgg : g ≠ g2 := by have := lt_of_block nb; omega
      have hgb2 : b ≠ g2 := by have := lt_of_block Hh.out; omega
      replace nb := (b4.block _ (lt_of_block nb)).trans nb
      have Hh := Lib.hid ((b4.block _ (lt_of_block Hh.out)).trans Hh.out)
      replace bl := below_trans bl b4 bl.size
      clear b4 cu
      go_wp2_with fail
      refine wp_loop_rounds 5 ?_
      rw [rounds_succ]
      have m := cellsAt nb 0 _ rfl
      have n := cellsFree nb 0
      have k := cellsAt hc 0 _ rfl
      go_wp2_with fail
      clear m n k
      obtain ⟨w5, h5⟩ : ∃ w5, w5 = w4.setCell ⟨g, 0, none⟩ (.int .i64 (wrap64 (i0 + c0))) := ⟨_, rfl⟩
      rw [← h5]
      have nb2 : w5.heap[g]? = some (.cells #[.int .i64 (wrap64 (i0 + c0)), .int .i64 i1, .int .i64 i2, .int .i64 i3] 3 (0, 0)) := by rw [h5, set_cells nb]; rfl
      have hc2 : w5.heap[g2]? = some (.cells #[.int .i64 c0, .int .i64 c1, .int .i64 c2, .int .i64 c3] 3 (0, 0)) := by rw [h5]; exact (Below.heap_setCell _ _ _ _ hgg.symm).trans hc
      have Hh := Lib.hid (show w5.heap[b]? = some (.cells #[.string u] 9 (0, 0)) from by rw [h5]; exact (Below.heap_setCell _ _ _ _ (by show b ≠ g; omega)).trans Hh.out)
      have bl2 : Below w.heap.size w w5 := by rw [h5]; exact bl.setCell hgw _
      clear h5 nb hc bl
      obtain ⟨w4, hw4⟩ : ∃ w4, w4 = w5 := ⟨_, rfl⟩
      rw [← hw4] at nb2 hc2 Hh bl2 ⊢
      clear hw4
      have nb := nb2
      have hc := hc2
      have bl := bl2
      clear nb2 hc2 bl2
      rw [rounds_succ]
      have m := cellsAt nb 1 _ rfl
      have n := cellsFree nb 1
      have k := cellsAt hc 1 _ rfl
      go_wp2_with fail
      clear m n k
      obtain ⟨w5, h5⟩ : ∃ w5, w5 = w4.setCell ⟨g, 1, none⟩ (.int .i64 (wrap64 (i1 + c1))) := ⟨_, rfl⟩
      rw [← h5]
      have nb2 : w5.heap[g]? = some (.cells #[.int .i64 (wrap64 (i0 + c0)), .int .i64 (wrap64 (i1 + c1)), .int .i64 i2, .int .i64 i3] 3 (0, 0)) := by rw [h5, set_cells nb]; rfl
      have hc2 : w5.heap[g2]? = some (.cells #[.int .i64 c0, .int .i64 c1, .int .i64 c2, .int .i64 c3] 3 (0, 0)) := by rw [h5]; exact (Below.heap_setCell _ _ _ _ hgg.symm).trans hc
      have Hh := Lib.hid (show w5.heap[b]? = some (.cells #[.string u] 9 (0, 0)) from by rw [h5]; exact (Below.heap_setCell _ _ _ _ (by show b ≠ g; omega)).trans Hh.out)
      have bl2 : Below w.heap.size w w5 := by rw [h5]; exact bl.setCell hgw _
      clear h5 nb hc bl
      obtain ⟨w4, hw4⟩ : ∃ w4, w4 = w5 := ⟨_, rfl⟩
      rw [← hw4] at nb2 hc2 Hh bl2 ⊢
      clear hw4
      have nb := nb2
      have hc := hc2
      have bl := bl2
      clear nb2 hc2 bl2
      rw [rounds_succ]
      have m := cellsAt nb 2 _ rfl
      have n := cellsFree nb 2
      have k := cellsAt hc 2 _ rfl
      go_wp2_with fail
      clear m n k
      obtain ⟨w5, h5⟩ : ∃ w5, w5 = w4.setCell ⟨g, 2, none⟩ (.int .i64 (wrap64 (i2 + c2))) := ⟨_, rfl⟩
      rw [← h5]
      have nb2 : w5.heap[g]? = some (.cells #[.int .i64 (wrap64 (i0 + c0)), .int .i64 (wrap64 (i1 + c1)), .int .i64 (wrap64 (i2 + c2)), .int .i64 i3] 3 (0, 0)) := by rw [h5, set_cells nb]; rfl
      have hc2 : w5.heap[g2]? = some (.cells #[.int .i64 c0, .int .i64 c1, .int .i64 c2, .int .i64 c3] 3 (0, 0)) := by rw [h5]; exact (Below.heap_setCell _ _ _ _ hgg.symm).trans hc
      have Hh := Lib.hid (show w5.heap[b]? = some (.cells #[.string u] 9 (0, 0)) from by rw [h5]; exact (Below.heap_setCell _ _ _ _ (by show b ≠ g; omega)).trans Hh.out)
      have bl2 : Below w.heap.size w w5 := by rw [h5]; exact bl.setCell hgw _
      clear h5 nb hc bl
      obtain ⟨w4, hw4⟩ : ∃ w4, w4 = w5 := ⟨_, rfl⟩
      rw [← hw4] at nb2 hc2 Hh bl2 ⊢
      clear hw4
      have nb := nb2
      have hc := hc2
      have bl := bl2
      clear nb2 hc2 bl2
      rw [rounds_succ]
      have m := cellsAt nb 3 _ rfl
      have n := cellsFree nb 3
      have k := cellsAt hc 3 _ rfl
      go_wp2_with fail
      clear m n k
      obtain ⟨w5, h5⟩ : ∃ w5, w5 = w4.setCell ⟨g, 3, none⟩ (.int .i64 (wrap64 (i3 + c3))) := ⟨_, rfl⟩
      rw [← h5]
      have nb2 : w5.heap[g]? = some (.cells #[.int .i64 (wrap64 (i0 + c0)), .int .i64 (wrap64 (i1 + c1)), .int .i64 (wrap64 (i2 + c2)), .int .i64 (wrap64 (i3 + c3))] 3 (0, 0)) := by rw [h5, set_cells nb]; rfl
      have hc2 : w5.heap[g2]? = some (.cells #[.int .i64 c0, .int .i64 c1, .int .i64 c2, .int .i64 c3] 3 (0, 0)) := by rw [h5]; exact (Below.heap_setCell _ _ _ _ hgg.symm).trans hc
      have Hh := Lib.hid (show w5.heap[b]? = some (.cells #[.string u] 9 (0, 0)) from by rw [h5]; exact (Below.heap_setCell _ _ _ _ (by show b ≠ g; omega)).trans Hh.out)
      have bl2 : Below w.heap.size w w5 := by rw [h5]; exact bl.setCell hgw _
      clear h5 nb hc bl
      obtain ⟨w4, hw4⟩ : ∃ w4, w4 = w5 := ⟨_, rfl⟩
      rw [← hw4] at nb2 hc2 Hh bl2 ⊢
      clear hw4
      have nb := nb2
      have hc := hc2
      have bl := bl2
      clear nb2 hc2 bl2
      rw [rounds_succ]
      skip
      go_wp2_with fail
      clear hc
      rw [rounds_succ]
      go_wp2_with fail
      go_ret
      exact ⟨g, rfl, hgw, by have h := nb; rw [E0.out, E1.out, E2.out, E3.out] at h; exact h, bl⟩
    · go_enter Tryz.func34, Tryz.ntmps34
      go_wp2_with fail
      clear hmk
      refine (XK.out _).mono ?_
      rintro e w2 ⟨rfl, rfl⟩
      have m0 := cellsAt nb 0 _ rfl
      have n0 := cellsFree nb 0
      have m1 := cellsAt nb 1 _ rfl
      have n1 := cellsFree nb 1
      have m2 := cellsAt nb 2 _ rfl
      have n2 := cellsFree nb 2
      have m3 := cellsAt nb 3 _ rfl
      have n3 := cellsFree nb 3
      go_wp2_with fail
      clear m0 m1 m2 m3 n0 n1 n2 n3
      have nb1 : (W.setCell ⟨g, 3, none⟩ (.int .i64 1)).heap[g]? = some (.cells #[.int .i64 0, .int .i64 0, .int .i64 0, .int .i64 1] 3 (0, 0)) := by rw [set_cells nb]; rfl
      replace bl := bl.setCell (p := ⟨g, 3, none⟩) hgw (.int .i64 1)
      obtain ⟨W1, hW1⟩ : ∃ W1, W1 = (W.setCell ⟨g, 3, none⟩ (.int .i64 1)) := ⟨_, rfl⟩
      rw [← hW1] at nb1 bl ⊢
      clear hW1
      replace nb := nb1
      refine (XB.out _).mono ?_
      rintro e w2 ⟨rfl, rfl⟩
      go_wp2_with fail
      obtain ⟨i0, e0⟩ : ∃ i : Int, i = 0 := ⟨_, rfl⟩
      obtain ⟨i1, e1⟩ : ∃ i : Int, i = 0 := ⟨_, rfl⟩
      obtain ⟨i2, e2⟩ : ∃ i : Int, i = 0 := ⟨_, rfl⟩
      obtain ⟨i3, e3⟩ : ∃ i : Int, i = 1 := ⟨_, rfl⟩
      replace nb := nb.trans (show some (Obj.cells #[.int .i64 0, .int .i64 0, .int .i64 0, .int .i64 1] 3 (0, 0)) = some (Obj.cells #[.int .i64 i0, .int .i64 i1, .int .i64 i2, .int .i64 i3] 3 (0, 0)) from by rw [e0, e1, e2, e3])
      have E0 := Lib.hid e0
      have E1 := Lib.hid e1
      have E2 := Lib.hid e2
      have E3 := Lib.hid e3
      clear e0 e1 e2 e3
      refine (XP.out _).mono ?_
      rintro e w3 ⟨b, rfl, hb, hh, b3⟩
      have hgb : g < b := Nat.lt_of_lt_of_le (lt_of_block nb) hb
      replace nb := (b3.block _ (lt_of_block nb)).trans nb
      replace bl := below_trans bl b3 bl.size
      clear b3
      have cu := cellOf1 hh
      have Hh := Lib.hid hh
      clear hh
      go_wp2_with fail
      refine wp_loop_rounds 2 ?_
      rw [rounds_succ]
      go_wp2_with fail
      refine (I1.out _).mono ?_
      rintro e w4 ⟨g2, rfl, hg2, hc, b4⟩
      have hgg : g ≠ g2 := by have := lt_of_block nb; omega
      have hgb2 : b ≠ g2 := by have := lt_of_block Hh.out; omega
      replace nb := (b4.block _ (lt_of_block nb)).trans nb
      have Hh := Lib.hid ((b4.block _ (lt_of_block Hh.out)).trans Hh.out)
      replace bl := below_trans bl b4 bl.size
      clear b4 cu
      go_wp2_with fail
      refine wp_loop_rounds 5 ?_
      rw [rounds_succ]
      have m := cellsAt nb 0 _ rfl
      have n := cellsFree nb 0
      have k := cellsAt hc 0 _ rfl
      go_wp2_with fail
      clear m n k
      obtain ⟨w5, h5⟩ : ∃ w5, w5 = w4.setCell ⟨g, 0, none⟩ (.int .i64 (wrap64 (i0 + c0))) := ⟨_, rfl⟩
      rw [← h5]
      have nb2 : w5.heap[g]? = some (.cells #[.int .i64 (wrap64 (i0 + c0)), .int .i64 i1, .int .i64 i2, .int .i64 i3] 3 (0, 0)) := by rw [h5, set_cells nb]; rfl
      have hc2 : w5.heap[g2]? = some (.cells #[.int .i64 c0, .int .i64 c1, .int .i64 c2, .int .i64 c3] 3 (0, 0)) := by rw [h5]; exact (Below.heap_setCell _ _ _ _ hgg.symm).trans hc
      have Hh := Lib.hid (show w5.heap[b]? = some (.cells #[.string u] 9 (0, 0)) from by rw [h5]; exact (Below.heap_setCell _ _ _ _ (by show b ≠ g; omega)).trans Hh.out)
      have bl2 : Below w.heap.size w w5 := by rw [h5]; exact bl.setCell hgw _
      clear h5 nb hc bl
      obtain ⟨w4, hw4⟩ : ∃ w4, w4 = w5 := ⟨_, rfl⟩
      rw [← hw4] at nb2 hc2 Hh bl2 ⊢
      clear hw4
      have nb := nb2
      have hc := hc2
      have bl := bl2
      clear nb2 hc2 bl2
      rw [rounds_succ]
      have m := cellsAt nb 1 _ rfl
      have n := cellsFree nb 1
      have k := cellsAt hc 1 _ rfl
      go_wp2_with fail
      clear m n k
      obtain ⟨w5, h5⟩ : ∃ w5, w5 = w4.setCell ⟨g, 1, none⟩ (.int .i64 (wrap64 (i1 + c1))) := ⟨_, rfl⟩
      rw [← h5]
      have nb2 : w5.heap[g]? = some (.cells #[.int .i64 (wrap64 (i0 + c0)), .int .i64 (wrap64 (i1 + c1)), .int .i64 i2, .int .i64 i3] 3 (0, 0)) := by rw [h5, set_cells nb]; rfl
      have hc2 : w5.heap[g2]? = some (.cells #[.int .i64 c0, .int .i64 c1, .int .i64 c2, .int .i64 c3] 3 (0, 0)) := by rw [h5]; exact (Below.heap_setCell _ _ _ _ hgg.symm).trans hc
      have Hh := Lib.hid (show w5.heap[b]? = some (.cells #[.string u] 9 (0, 0)) from by rw [h5]; exact (Below.heap_setCell _ _ _ _ (by show b ≠ g; omega)).trans Hh.out)
      have bl2 : Below w.heap.size w w5 := by rw [h5]; exact bl.setCell hgw _
      clear h5 nb hc bl
      obtain ⟨w4, hw4⟩ : ∃ w4, w4 = w5 := ⟨_, rfl⟩
      rw [← hw4] at nb2 hc2 Hh bl2 ⊢
      clear hw4
      have nb := nb2
      have hc := hc2
      have bl := bl2
      clear nb2 hc2 bl2
      rw [rounds_succ]
      have m := cellsAt nb 2 _ rfl
      have n := cellsFree nb 2
      have k := cellsAt hc 2 _ rfl
      go_wp2_with fail
      clear m n k
      obtain ⟨w5, h5⟩ : ∃ w5, w5 = w4.setCell ⟨g, 2, none⟩ (.int .i64 (wrap64 (i2 + c2))) := ⟨_, rfl⟩
      rw [← h5]
      have nb2 : w5.heap[g]? = some (.cells #[.int .i64 (wrap64 (i0 + c0)), .int .i64 (wrap64 (i1 + c1)), .int .i64 (wrap64 (i2 + c2)), .int .i64 i3] 3 (0, 0)) := by rw [h5, set_cells nb]; rfl
      have hc2 : w5.heap[g2]? = some (.cells #[.int .i64 c0, .int .i64 c1, .int .i64 c2, .int .i64 c3] 3 (0, 0)) := by rw [h5]; exact (Below.heap_setCell _ _ _ _ hgg.symm).trans hc
      have Hh := Lib.hid (show w5.heap[b]? = some (.cells #[.string u] 9 (0, 0)) from by rw [h5]; exact (Below.heap_setCell _ _ _ _ (by show b ≠ g; omega)).trans Hh.out)
      have bl2 : Below w.heap.size w w5 := by rw [h5]; exact bl.setCell hgw _
      clear h5 nb hc bl
      obtain ⟨w4, hw4⟩ : ∃ w4, w4 = w5 := ⟨_, rfl⟩
      rw [← hw4] at nb2 hc2 Hh bl2 ⊢
      clear hw4
      have nb := nb2
      have hc := hc2
      have bl := bl2
      clear nb2 hc2 bl2
      rw [rounds_succ]
      have m := cellsAt nb 3 _ rfl
      have n := cellsFree nb 3
      have k := cellsAt hc 3 _ rfl
      go_wp2_with fail
      clear m n k
      obtain ⟨w5, h5⟩ : ∃ w5, w5 = w4.setCell ⟨g, 3, none⟩ (.int .i64 (wrap64 (i3 + c3))) := ⟨_, rfl⟩
      rw [← h5]
      have nb2 : w5.heap[g]? = some (.cells #[.int .i64 (wrap64 (i0 + c0)), .int .i64 (wrap64 (i1 + c1)), .int .i64 (wrap64 (i2 + c2)), .int .i64 (wrap64 (i3 + c3))] 3 (0, 0)) := by rw [h5, set_cells nb]; rfl
      have hc2 : w5.heap[g2]? = some (.cells #[.int .i64 c0, .int .i64 c1, .int .i64 c2, .int .i64 c3] 3 (0, 0)) := by rw [h5]; exact (Below.heap_setCell _ _ _ _ hgg.symm).trans hc
      have Hh := Lib.hid (show w5.heap[b]? = some (.cells #[.string u] 9 (0, 0)) from by rw [h5]; exact (Below.heap_setCell _ _ _ _ (by show b ≠ g; omega)).trans Hh.out)
      have bl2 : Below w.heap.size w w5 := by rw [h5]; exact bl.setCell hgw _
      clear h5 nb hc bl
      obtain ⟨w4, hw4⟩ : ∃ w4, w4 = w5 := ⟨_, rfl⟩
      rw [← hw4] at nb2 hc2 Hh bl2 ⊢
      clear hw4
      have nb := nb2
      have hc := hc2
      have bl := bl2
      clear nb2 hc2 bl2
      rw [rounds_succ]
      skip
      go_wp2_with fail
      clear hc
      rw [rounds_succ]
      go_wp2_with fail
      go_ret
      exact ⟨g, rfl, hgw, by have h := nb; rw [E0.out, E1.out, E2.out, E3.out] at h; exact h, bl⟩
end Go.Proofs.YtlhmjcfnfefliaaGreat.T1
