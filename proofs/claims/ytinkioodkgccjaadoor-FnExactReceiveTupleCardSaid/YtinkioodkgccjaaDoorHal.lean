/- Texts of the proof, put together: Visit. No conditions. -/
import Derived.Test.YtinkioodkgccjaaDoorHak
import Derived.LoopN

/- Every subterm is visited, the whole first. -/
namespace Go.Proofs.YtinkioodkgccjaaDoor.T1
open Go.RowKit
set_option maxRecDepth 100000

/-- All subterms, the whole first. -/
def Tm.subs : Tm → List Tm
  | .nil => [.nil]
  | .snd a b p => .snd a b p :: p.subs
  | .rcv a b p => .rcv a b p :: p.subs
  | .tau p => .tau p :: p.subs
  | .sum p q => .sum p q :: (p.subs ++ q.subs)
  | .par p q => .par p q :: (p.subs ++ q.subs)
  | .own x p => .own x p :: p.subs
  | .mat a b p => .mat a b p :: p.subs
  | .rep p => .rep p :: p.subs

/-- What a visit of the signs ts leaves behind: nothing handed back; the invariant; one block written. -/
def VisPost (bn : Nat) (I : List Tm → World → Prop) (acc : List Tm) (w : World) (e : Ending) (w' : World) : Prop := e = .returned (.tuple #[]) ∧ I acc w' ∧ Only bn w w'

theorem cellOf1 {w : World} {b : Nat} {x : Value} {T : TypeId} (h : w.heap[b]? = some (.cells #[x] T (0, 0))) : w.cell? ⟨b, 0, none⟩ = some x := by simp [World.cell?, h]
theorem cellOf2a {w : World} {b : Nat} {x y : Value} {T : TypeId} (h : w.heap[b]? = some (.cells #[x, y] T (0, 0))) : w.cell? ⟨b, 0, none⟩ = some x := by simp [World.cell?, h]
theorem cellOf2b {w : World} {b : Nat} {x y : Value} {T : TypeId} (h : w.heap[b]? = some (.cells #[x, y] T (0, 0))) : w.cell? ⟨b, 1, none⟩ = some y := by simp [World.cell?, h]

set_option maxHeartbeats 1000000 in
theorem visit0 (CF : FuncId) (caps : Array Value) (bn : Nat) (I : List Tm → World → Prop) (hF : ∀ args w, (callFunc CF args).run Tryd.prog w = .ok (.enter CF args) w)
    (hI : ∀ acc w w', I acc w → Below w.heap.size w w' → I acc w') (hB : ∀ acc w, I acc w → bn < w.heap.size)
    (T : TypeId) (V : Value) (t : Tm) (hP : PartsFact T V [])
    (hv : ∀ acc w, I acc w → Calls Tryd.prog CF (#[.iface T V] ++ caps) w (VisPost bn I (acc ++ [t]) w)) (acc : List Tm) (w : World) (h0 : I acc w) :
    Calls Tryd.prog 78 #[.iface T V, .func (.func CF) #[] caps] w (VisPost bn I (acc ++ [t]) w) := by
  obtain ⟨F, R, hm, hn, hc, hp⟩ := hP
  have HV := Lib.hid hv
  have HI := Lib.hid hI
  have HB := Lib.hid hB
  have HP := Lib.hid hp
  clear hv hI hB hp
  go_enter Tryd.func78, Tryd.ntmps78
  go_wp2_with fail
  refine (HV.out acc w h0).mono ?_
  rintro e w1 ⟨rfl, i1, o1⟩
  go_wp2_with fail
  refine (HP.out w1).mono ?_
  rintro e w2 ⟨rfl, bl⟩
  go_wp2_with fail
  refine wp_loop_rounds 1 ?_
  rw [rounds_succ]
  go_wp2_with fail
  go_end0
  exact ⟨rfl, HI.out _ _ _ i1 bl, o1.below bl⟩

set_option maxHeartbeats 1000000 in
theorem visit1 (CF : FuncId) (caps : Array Value) (bn : Nat) (I : List Tm → World → Prop) (hF : ∀ args w, (callFunc CF args).run Tryd.prog w = .ok (.enter CF args) w)
    (hI : ∀ acc w w', I acc w → Below w.heap.size w w' → I acc w') (hB : ∀ acc w, I acc w → bn < w.heap.size)
    (T : TypeId) (V : Value) (tp : TypeId) (vp : Value) (t : Tm) (ts : List Tm)
    (hP : ∃ (F : FuncId) (R : Value), (∀ n w, (method (n + 1) T V "loop.example/g01175/impl.parts").run Tryd.prog w = .ok (F, R) w) ∧ (∀ n w, (nilAhead (n + 1) T V "loop.example/g01175/impl.parts").run Tryd.prog w = .ok (some false) w) ∧ (∀ args w, (callFunc F args).run Tryd.prog w = .ok (.enter F args) w) ∧ ∀ w, Calls Tryd.prog F #[R] w fun e w' => ∃ b, e = .returned (.slice (some ⟨b, 0, none⟩) 1 1) ∧ w.heap.size ≤ b ∧ w'.heap[b]? = some (.cells #[.iface tp vp] 30 (0, 0)) ∧ Below w.heap.size w w')
    (hv : ∀ acc w, I acc w → Calls Tryd.prog CF (#[.iface T V] ++ caps) w (VisPost bn I (acc ++ [t]) w))
    (ih : ∀ acc w, I acc w → Calls Tryd.prog 78 #[.iface tp vp, .func (.func CF) #[] caps] w (VisPost bn I (acc ++ ts) w)) (acc : List Tm) (w : World) (h0 : I acc w) :
    Calls Tryd.prog 78 #[.iface T V, .func (.func CF) #[] caps] w (VisPost bn I (acc ++ t :: ts) w) := by
  obtain ⟨F, R, hm, hn, hc, hp⟩ := hP
  have HV := Lib.hid hv
  have HI := Lib.hid hI
  have HB := Lib.hid hB
  have HP := Lib.hid hp
  have IH := Lib.hid ih
  clear hv hI hB hp ih
  go_enter Tryd.func78, Tryd.ntmps78
  go_wp2_with fail
  refine (HV.out acc w h0).mono ?_
  rintro e w1 ⟨rfl, i1, o1⟩
  go_wp2_with fail
  refine (HP.out w1).mono ?_
  rintro e w2 ⟨b, rfl, hb, hh, bl⟩
  have c0 := cellOf1 hh
  have H := Lib.hid hh
  clear hh
  go_wp2_with fail
  refine wp_loop_rounds 2 ?_
  rw [rounds_succ]
  go_wp2_with fail
  refine (IH.out _ _ (HI.out _ _ _ i1 bl)).mono ?_
  rintro e w3 ⟨rfl, i3, o3⟩
  clear c0
  go_wp2_with fail
  rw [rounds_succ]
  go_wp2_with fail
  go_end0
  exact ⟨rfl, by rw [List.append_assoc] at i3; exact i3, (o1.below bl).trans o3⟩

set_option maxHeartbeats 1000000 in
theorem visit2 (CF : FuncId) (caps : Array Value) (bn : Nat) (I : List Tm → World → Prop) (hF : ∀ args w, (callFunc CF args).run Tryd.prog w = .ok (.enter CF args) w)
    (hI : ∀ acc w w', I acc w → Below w.heap.size w w' → I acc w') (hB : ∀ acc w, I acc w → bn < w.heap.size)
    (T : TypeId) (V : Value) (tp : TypeId) (vp : Value) (tq : TypeId) (vq : Value) (t : Tm) (ts us : List Tm)
    (hP : ∃ (F : FuncId) (R : Value), (∀ n w, (method (n + 1) T V "loop.example/g01175/impl.parts").run Tryd.prog w = .ok (F, R) w) ∧ (∀ n w, (nilAhead (n + 1) T V "loop.example/g01175/impl.parts").run Tryd.prog w = .ok (some false) w) ∧ (∀ args w, (callFunc F args).run Tryd.prog w = .ok (.enter F args) w) ∧ ∀ w, Calls Tryd.prog F #[R] w fun e w' => ∃ b, e = .returned (.slice (some ⟨b, 0, none⟩) 2 2) ∧ w.heap.size ≤ b ∧ w'.heap[b]? = some (.cells #[.iface tp vp, .iface tq vq] 30 (0, 0)) ∧ Below w.heap.size w w')
    (hv : ∀ acc w, I acc w → Calls Tryd.prog CF (#[.iface T V] ++ caps) w (VisPost bn I (acc ++ [t]) w))
    (ih : ∀ acc w, I acc w → Calls Tryd.prog 78 #[.iface tp vp, .func (.func CF) #[] caps] w (VisPost bn I (acc ++ ts) w))
    (ih2 : ∀ acc w, I acc w → Calls Tryd.prog 78 #[.iface tq vq, .func (.func CF) #[] caps] w (VisPost bn I (acc ++ us) w)) (acc : List Tm) (w : World) (h0 : I acc w) :
    Calls Tryd.prog 78 #[.iface T V, .func (.func CF) #[] caps] w (VisPost bn I (acc ++ t :: (ts ++ us)) w) := by
  obtain ⟨F, R, hm, hn, hc, hp⟩ := hP
  have HV := Lib.hid hv
  have HI := Lib.hid hI
  have HB := Lib.hid hB
  have HP := Lib.hid hp
  have IH := Lib.hid ih
  have IH2 := Lib.hid ih2
  clear hv hI hB hp ih ih2
  go_enter Tryd.func78, Tryd.ntmps78
  go_wp2_with fail
  refine (HV.out acc w h0).mono ?_
  rintro e w1 ⟨rfl, i1, o1⟩
  go_wp2_with fail
  refine (HP.out w1).mono ?_
  rintro e w2 ⟨b, rfl, hb, hh, bl⟩
  have c0 := cellOf2a hh
  have H := Lib.hid hh
  clear hh
  have bb := HB.out _ _ i1
  go_wp2_with fail
  refine wp_loop_rounds 3 ?_
  rw [rounds_succ]
  go_wp2_with fail
  refine (IH.out _ _ (HI.out _ _ _ i1 bl)).mono ?_
  rintro e w3 ⟨rfl, i3, o3⟩
  have h3 : w3.heap[b]? = some (.cells #[.iface tp vp, .iface tq vq] 30 (0, 0)) := (o3.block b (lt_of_block H.out) (by omega)).trans H.out
  clear c0
  have c1 := cellOf2b h3
  clear h3
  go_wp2_with fail
  rw [rounds_succ]
  go_wp2_with fail
  refine (IH2.out _ _ i3).mono ?_
  rintro e w4 ⟨rfl, i4, o4⟩
  clear c1
  go_wp2_with fail
  rw [rounds_succ]
  go_wp2_with fail
  go_end0
  exact ⟨rfl, by rw [List.append_assoc, List.append_assoc] at i4; exact i4, ((o1.below bl).trans o3).trans o4⟩

theorem visitAll_any (CF : FuncId) (caps : Array Value) (bn : Nat) (I : List Tm → World → Prop) (hF : ∀ args w, (callFunc CF args).run Tryd.prog w = .ok (.enter CF args) w)
    (hI : ∀ acc w w', I acc w → Below w.heap.size w w' → I acc w') (hB : ∀ acc w, I acc w → bn < w.heap.size)
    (hv : ∀ t acc w, I acc w → Calls Tryd.prog CF (#[.iface (tyOf t) (pay t)] ++ caps) w (VisPost bn I (acc ++ [t]) w)) (t : Tm) : ∀ (acc : List Tm) (w : World), I acc w →
    Calls Tryd.prog 78 #[.iface (tyOf t) (pay t), .func (.func CF) #[] caps] w (VisPost bn I (acc ++ t.subs) w) := by
  induction t with
  | nil => exact visit0 CF caps bn I hF hI hB _ _ .nil (parts_fact .nil) (hv .nil)
  | snd a b p ih => exact visit1 CF caps bn I hF hI hB _ _ _ _ (.snd a b p) p.subs (parts_fact (.snd a b p)).pf (hv _) ih
  | rcv a b p ih => exact visit1 CF caps bn I hF hI hB _ _ _ _ (.rcv a b p) p.subs (parts_fact (.rcv a b p)).pf (hv _) ih
  | tau p ih => exact visit1 CF caps bn I hF hI hB _ _ _ _ (.tau p) p.subs (parts_fact (.tau p)).pf (hv _) ih
  | sum p q ih ih2 => exact visit2 CF caps bn I hF hI hB _ _ _ _ _ _ (.sum p q) p.subs q.subs (parts_fact (.sum p q)).pf (hv _) ih ih2
  | par p q ih ih2 => exact visit2 CF caps bn I hF hI hB _ _ _ _ _ _ (.par p q) p.subs q.subs (parts_fact (.par p q)).pf (hv _) ih ih2
  | own x p ih => exact visit1 CF caps bn I hF hI hB _ _ _ _ (.own x p) p.subs (parts_fact (.own x p)).pf (hv _) ih
  | mat a b p ih => exact visit1 CF caps bn I hF hI hB _ _ _ _ (.mat a b p) p.subs (parts_fact (.mat a b p)).pf (hv _) ih
  | rep p ih => exact visit1 CF caps bn I hF hI hB _ _ _ _ (.rep p) p.subs (parts_fact (.rep p)).pf (hv _) ih

end Go.Proofs.YtinkioodkgccjaaDoor.T1
