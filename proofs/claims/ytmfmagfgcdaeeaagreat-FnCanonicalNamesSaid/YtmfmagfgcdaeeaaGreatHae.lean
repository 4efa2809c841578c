/- Texts of the proof, put together: Parts, Visit. No conditions. -/
import Derived.Test.YtmfmagfgcdaeeaaGreatHad
import Derived.LoopN

/- The parts of a sign, asked through its interface. -/
namespace Go.Proofs.YtmfmagfgcdaeeaaGreat.T1
open Go.RowKit
set_option maxRecDepth 100000

/-- A slice that holds the given parts, in memory of the call's own. -/
def PartsPost (ps : List Tm) (w : World) (e : Ending) (w' : World) : Prop :=
  match ps with
  | [] => e = .returned (.slice none 0 0) ∧ Below w.heap.size w w'
  | [p] => ∃ b, e = .returned (.slice (some ⟨b, 0, none⟩) 1 1) ∧ w.heap.size ≤ b ∧ w'.heap[b]? = some (.cells #[.iface (tyOf p) (pay p)] 43 (0, 0)) ∧ Below w.heap.size w w'
  | [p, q] => ∃ b, e = .returned (.slice (some ⟨b, 0, none⟩) 2 2) ∧ w.heap.size ≤ b ∧ w'.heap[b]? = some (.cells #[.iface (tyOf p) (pay p), .iface (tyOf q) (pay q)] 43 (0, 0)) ∧ Below w.heap.size w w'
  | _ => False

/-- What is known of a sign whose parts are asked: which function answers, over which receiver, and what. -/
structure PartsFact (T : TypeId) (V : Value) (ps : List Tm) : Prop where
  pf : ∃ (F : FuncId) (R : Value), (∀ n w, (method (n + 1) T V "loop.example/g01175/impl.parts").run Tryz.prog w = .ok (F, R) w) ∧ (∀ n w, (nilAhead (n + 1) T V "loop.example/g01175/impl.parts").run Tryz.prog w = .ok (some false) w) ∧ (∀ args w, (callFunc F args).run Tryz.prog w = .ok (.enter F args) w) ∧ ∀ w, Calls Tryz.prog F #[R] w (PartsPost ps w)

theorem last_block (w : World) (o o' : Obj) : ((w.alloc o).alloc o').heap[w.heap.size + 1]? = some o' := by
  show ((w.heap.push o).push o')[w.heap.size + 1]? = _
  rw [Array.getElem?_push, if_pos (by simp)]

theorem nothing_parts (w : World) : Calls Tryz.prog 245 #[.agg #[]] w (PartsPost [] w) := by
  go_enter Tryz.func245, Tryz.ntmps245
  go_wp2_with fail
  go_ret
  exact ⟨rfl, by first | exact Below.refl _ _ | exact (Below.refl _ _).alloc (Nat.le_refl _) _⟩
theorem single_parts0 (tz : TypeId) (vz : Value) (w : World) : Calls Tryz.prog 241 #[.agg #[.iface tz vz]] w fun e w' => e = .returned (.slice (some ⟨w.heap.size + 1, 0, none⟩) 1 1) ∧ (w.alloc (.cells #[.iface tz vz] 98)).alloc (.cells #[.iface tz vz] 43) = w' := by
  go_enter Tryz.func241, Tryz.ntmps241
  go_wp2_with fail
  go_ret
  exact ⟨rfl, rfl⟩
theorem pair_parts0 (tz : TypeId) (vz : Value) (ty : TypeId) (vy : Value) (w : World) : Calls Tryz.prog 238 #[.agg #[.iface tz vz, .iface ty vy]] w fun e w' => e = .returned (.slice (some ⟨w.heap.size + 1, 0, none⟩) 2 2) ∧ (w.alloc (.cells #[.iface tz vz, .iface ty vy] 90)).alloc (.cells #[.iface tz vz, .iface ty vy] 43) = w' := by
  go_enter Tryz.func238, Tryz.ntmps238
  go_wp2_with fail
  go_ret
  exact ⟨rfl, rfl⟩

theorem below_two (w : World) (o o' : Obj) : Below w.heap.size w ((w.alloc o).alloc o') := ((Below.refl _ _).alloc (Nat.le_refl _) o).alloc (by simp) o'
theorem single_parts (p : Tm) (w : World) : Calls Tryz.prog 241 #[.agg #[.iface (tyOf p) (pay p)]] w (PartsPost [p] w) := by
  refine (single_parts0 _ _ w).mono ?_
  rintro e w' ⟨rfl, rfl⟩
  exact ⟨_, rfl, by omega, last_block _ _ _, below_two _ _ _⟩
theorem pair_parts (p q : Tm) (w : World) : Calls Tryz.prog 238 #[.agg #[.iface (tyOf p) (pay p), .iface (tyOf q) (pay q)]] w (PartsPost [p, q] w) := by
  refine (pair_parts0 _ _ _ _ w).mono ?_
  rintro e w' ⟨rfl, rfl⟩
  exact ⟨_, rfl, by omega, last_block _ _ _, below_two _ _ _⟩

theorem mp_nothing (n : Nat) (w : World) : (method (n + 1) 132 (.agg #[]) "loop.example/g01175/impl.parts").run Tryz.prog w = .ok (245, .agg #[]) w := by kernel_rfl
theorem np_nothing (n : Nat) (w : World) : (nilAhead (n + 1) 132 (.agg #[]) "loop.example/g01175/impl.parts").run Tryz.prog w = .ok (some false) w := by kernel_rfl
theorem mp_send (x y z : Value) (n : Nat) (w : World) : (method (n + 1) 144 (.agg #[x, y, z]) "loop.example/g01175/impl.parts").run Tryz.prog w = .ok (241, .agg #[z]) w := by kernel_rfl
theorem np_send (x y z : Value) (n : Nat) (w : World) : (nilAhead (n + 1) 144 (.agg #[x, y, z]) "loop.example/g01175/impl.parts").run Tryz.prog w = .ok (some false) w := by kernel_rfl
theorem mp_receive (x y z : Value) (n : Nat) (w : World) : (method (n + 1) 142 (.agg #[x, y, z]) "loop.example/g01175/impl.parts").run Tryz.prog w = .ok (241, .agg #[z]) w := by kernel_rfl
theorem np_receive (x y z : Value) (n : Nat) (w : World) : (nilAhead (n + 1) 142 (.agg #[x, y, z]) "loop.example/g01175/impl.parts").run Tryz.prog w = .ok (some false) w := by kernel_rfl
theorem mp_match (x y z : Value) (n : Nat) (w : World) : (method (n + 1) 146 (.agg #[x, y, z]) "loop.example/g01175/impl.parts").run Tryz.prog w = .ok (241, .agg #[z]) w := by kernel_rfl
theorem np_match (x y z : Value) (n : Nat) (w : World) : (nilAhead (n + 1) 146 (.agg #[x, y, z]) "loop.example/g01175/impl.parts").run Tryz.prog w = .ok (some false) w := by kernel_rfl
theorem mp_own (x z : Value) (n : Nat) (w : World) : (method (n + 1) 100 (.agg #[x, z]) "loop.example/g01175/impl.parts").run Tryz.prog w = .ok (241, .agg #[z]) w := by kernel_rfl
theorem np_own (x z : Value) (n : Nat) (w : World) : (nilAhead (n + 1) 100 (.agg #[x, z]) "loop.example/g01175/impl.parts").run Tryz.prog w = .ok (some false) w := by kernel_rfl
theorem mp_silent (z : Value) (n : Nat) (w : World) : (method (n + 1) 147 (.agg #[z]) "loop.example/g01175/impl.parts").run Tryz.prog w = .ok (241, .agg #[z]) w := by kernel_rfl
theorem np_silent (z : Value) (n : Nat) (w : World) : (nilAhead (n + 1) 147 (.agg #[z]) "loop.example/g01175/impl.parts").run Tryz.prog w = .ok (some false) w := by kernel_rfl
theorem mp_repeat (z : Value) (n : Nat) (w : World) : (method (n + 1) 103 (.agg #[z]) "loop.example/g01175/impl.parts").run Tryz.prog w = .ok (241, .agg #[z]) w := by kernel_rfl
theorem np_repeat (z : Value) (n : Nat) (w : World) : (nilAhead (n + 1) 103 (.agg #[z]) "loop.example/g01175/impl.parts").run Tryz.prog w = .ok (some false) w := by kernel_rfl
theorem mp_choice (z y : Value) (n : Nat) (w : World) : (method (n + 1) 93 (.agg #[z, y]) "loop.example/g01175/impl.parts").run Tryz.prog w = .ok (238, .agg #[z, y]) w := by kernel_rfl
theorem np_choice (z y : Value) (n : Nat) (w : World) : (nilAhead (n + 1) 93 (.agg #[z, y]) "loop.example/g01175/impl.parts").run Tryz.prog w = .ok (some false) w := by kernel_rfl
theorem mp_beside (z y : Value) (n : Nat) (w : World) : (method (n + 1) 92 (.agg #[z, y]) "loop.example/g01175/impl.parts").run Tryz.prog w = .ok (238, .agg #[z, y]) w := by kernel_rfl
theorem np_beside (z y : Value) (n : Nat) (w : World) : (nilAhead (n + 1) 92 (.agg #[z, y]) "loop.example/g01175/impl.parts").run Tryz.prog w = .ok (some false) w := by kernel_rfl
theorem cf_np (args : Array Value) (w : World) : (callFunc 245 args).run Tryz.prog w = .ok (.enter 245 args) w := by kernel_rfl
theorem cf_sp (args : Array Value) (w : World) : (callFunc 241 args).run Tryz.prog w = .ok (.enter 241 args) w := by kernel_rfl
theorem cf_pp (args : Array Value) (w : World) : (callFunc 238 args).run Tryz.prog w = .ok (.enter 238 args) w := by kernel_rfl
theorem parts_fact (t : Tm) : PartsFact (tyOf t) (pay t) t.parts := by
  cases t with
  | nil => exact ⟨_, _, mp_nothing, np_nothing, cf_np, nothing_parts⟩
  | snd a b p => exact ⟨_, _, mp_send _ _ _, np_send _ _ _, cf_sp, single_parts p⟩
  | rcv a b p => exact ⟨_, _, mp_receive _ _ _, np_receive _ _ _, cf_sp, single_parts p⟩
  | tau p => exact ⟨_, _, mp_silent _, np_silent _, cf_sp, single_parts p⟩
  | sum p q => exact ⟨_, _, mp_choice _ _, np_choice _ _, cf_pp, pair_parts p q⟩
  | par p q => exact ⟨_, _, mp_beside _ _, np_beside _ _, cf_pp, pair_parts p q⟩
  | own x p => exact ⟨_, _, mp_own _ _, np_own _ _, cf_sp, single_parts p⟩
  | mat a b p => exact ⟨_, _, mp_match _ _ _, np_match _ _ _, cf_sp, single_parts p⟩
  | rep p => exact ⟨_, _, mp_repeat _, np_repeat _, cf_sp, single_parts p⟩

end Go.Proofs.YtmfmagfgcdaeeaaGreat.T1

/- Every subterm is visited, the whole first. -/
namespace Go.Proofs.YtmfmagfgcdaeeaaGreat.T1
open Go.RowKit
set_option maxRecDepth 100000

/-- All subterms, the whole first. -/
def Tm.subs : Tm → List Tm
  | .nil => [.nil]
  | .snd a b p => .snd a b p :: p.subs
  | .rcv a b p => .rcv a b p :: p.subs
  | .tau p => .tau p :: p.subs
  | .sum p q => .sum p q :: (p.subs ++ q.subs)
  | .par p q => .par p q :: (p.subs ++ q.subs)
  | .own x p => .own x p :: p.subs
  | .mat a b p => .mat a b p :: p.subs
  | .rep p => .rep p :: p.subs

/-- What a visit of the signs ts leaves behind: nothing handed back; the invariant; one block written. -/
def VisPost (bn : Nat) (I : List Tm → World → Prop) (acc : List Tm) (w : World) (e : Ending) (w' : World) : Prop := e = .returned (.tuple #[]) ∧ I acc w' ∧ Only bn w w'

theorem cellOf1 {w : World} {b : Nat} {x : Value} {T : TypeId} (h : w.heap[b]? = some (.cells #[x] T (0, 0))) : w.cell? ⟨b, 0, none⟩ = some x := by simp [World.cell?, h]
theorem cellOf2a {w : World} {b : Nat} {x y : Value} {T : TypeId} (h : w.heap[b]? = some (.cells #[x, y] T (0, 0))) : w.cell? ⟨b, 0, none⟩ = some x := by simp [World.cell?, h]
theorem cellOf2b {w : World} {b : Nat} {x y : Value} {T : TypeId} (h : w.heap[b]? = some (.cells #[x, y] T (0, 0))) : w.cell? ⟨b, 1, none⟩ = some y := by simp [World.cell?, h]

set_option maxHeartbeats 1000000 in
theorem visit0 (CF : FuncId) (caps : Array Value) (bn : Nat) (I : List Tm → World → Prop) (hF : ∀ args w, (callFunc CF args).run Tryz.prog w = .ok (.enter CF args) w)
    (hI : ∀ acc w w', I acc w → Below w.heap.size w w' → I acc w') (hB : ∀ acc w, I acc w → bn < w.heap.size)
    (T : TypeId) (V : Value) (t : Tm) (hP : PartsFact T V [])
    (hv : ∀ acc w, I acc w → Calls Tryz.prog CF (#[.iface T V] ++ caps) w (VisPost bn I (acc ++ [t]) w)) (acc : List Tm) (w : World) (h0 : I acc w) :
    Calls Tryz.prog 130 #[.iface T V, .func (.func CF) #[] caps] w (VisPost bn I (acc ++ [t]) w) := by
  obtain ⟨F, R, hm, hn, hc, hp⟩ := hP
  have HV := Lib.hid hv
  have HI := Lib.hid hI
  have HB := Lib.hid hB
  have HP := Lib.hid hp
  clear hv hI hB hp
  go_enter Tryz.func130, Tryz.ntmps130
  go_wp2_with fail
  refine (HV.out acc w h0).mono ?_
  rintro e w1 ⟨rfl, i1, o1⟩
  go_wp2_with fail
  refine (HP.out w1).mono ?_
  rintro e w2 ⟨rfl, bl⟩
  go_wp2_with fail
  refine wp_loop_rounds 1 ?_
  rw [rounds_succ]
  go_wp2_with fail
  go_end0
  exact ⟨rfl, HI.out _ _ _ i1 bl, o1.below bl⟩

set_option maxHeartbeats 1000000 in
theorem visit1 (CF : FuncId) (caps : Array Value) (bn : Nat) (I : List Tm → World → Prop) (hF : ∀ args w, (callFunc CF args).run Tryz.prog w = .ok (.enter CF args) w)
    (hI : ∀ acc w w', I acc w → Below w.heap.size w w' → I acc w') (hB : ∀ acc w, I acc w → bn < w.heap.size)
    (T : TypeId) (V : Value) (tp : TypeId) (vp : Value) (t : Tm) (ts : List Tm)
    (hP : ∃ (F : FuncId) (R : Value), (∀ n w, (method (n + 1) T V "loop.example/g01175/impl.parts").run Tryz.prog w = .ok (F, R) w) ∧ (∀ n w, (nilAhead (n + 1) T V "loop.example/g01175/impl.parts").run Tryz.prog w = .ok (some false) w) ∧ (∀ args w, (callFunc F args).run Tryz.prog w = .ok (.enter F args) w) ∧ ∀ w, Calls Tryz.prog F #[R] w fun e w' => ∃ b, e = .returned (.slice (some ⟨b, 0, none⟩) 1 1) ∧ w.heap.size ≤ b ∧ w'.heap[b]? = some (.cells #[.iface tp vp] 43 (0, 0)) ∧ Below w.heap.size w w')
    (hv : ∀ acc w, I acc w → Calls Tryz.prog CF (#[.iface T V] ++ caps) w (VisPost bn I (acc ++ [t]) w))
    (ih : ∀ acc w, I acc w → Calls Tryz.prog 130 #[.iface tp vp, .func (.func CF) #[] caps] w (VisPost bn I (acc ++ ts) w)) (acc : List Tm) (w : World) (h0 : I acc w) :
    Calls Tryz.prog 130 #[.iface T V, .func (.func CF) #[] caps] w (VisPost bn I (acc ++ t :: ts) w) := by
  obtain ⟨F, R, hm, hn, hc, hp⟩ := hP
  have HV := Lib.hid hv
  have HI := Lib.hid hI
  have HB := Lib.hid hB
  have HP := Lib.hid hp
  have IH := Lib.hid ih
  clear hv hI hB hp ih
  go_enter Tryz.func130, Tryz.ntmps130
  go_wp2_with fail
  refine (HV.out acc w h0).mono ?_
  rintro e w1 ⟨rfl, i1, o1⟩
  go_wp2_with fail
  refine (HP.out w1).mono ?_
  rintro e w2 ⟨b, rfl, hb, hh, bl⟩
  have c0 := cellOf1 hh
  have H := Lib.hid hh
  clear hh
  go_wp2_with fail
  refine wp_loop_rounds 2 ?_
  rw [rounds_succ]
  go_wp2_with fail
  refine (IH.out _ _ (HI.out _ _ _ i1 bl)).mono ?_
  rintro e w3 ⟨rfl, i3, o3⟩
  clear c0
  go_wp2_with fail
  rw [rounds_succ]
  go_wp2_with fail
  go_end0
  exact ⟨rfl, by rw [List.append_assoc] at i3; exact i3, (o1.below bl).trans o3⟩

set_option maxHeartbeats 1000000 in
theorem visit2 (CF : FuncId) (caps : Array Value) (bn : Nat) (I : List Tm → World → Prop) (hF : ∀ args w, (callFunc CF args).run Tryz.prog w = .ok (.enter CF args) w)
    (hI : ∀ acc w w', I acc w → Below w.heap.size w w' → I acc w') (hB : ∀ acc w, I acc w → bn < w.heap.size)
    (T : TypeId) (V : Value) (tp : TypeId) (vp : Value) (tq : TypeId) (vq : Value) (t : Tm) (ts us : List Tm)
    (hP : ∃ (F : FuncId) (R : Value), (∀ n w, (method (n + 1) T V "loop.example/g01175/impl.parts").run Tryz.prog w = .ok (F, R) w) ∧ (∀ n w, (nilAhead (n + 1) T V "loop.example/g01175/impl.parts").run Tryz.prog w = .ok (some false) w) ∧ (∀ args w, (callFunc F args).run Tryz.prog w = .ok (.enter F args) w) ∧ ∀ w, Calls Tryz.prog F #[R] w fun e w' => ∃ b, e = .returned (.slice (some ⟨b, 0, none⟩) 2 2) ∧ w.heap.size ≤ b ∧ w'.heap[b]? = some (.cells #[.iface tp vp, .iface tq vq] 43 (0, 0)) ∧ Below w.heap.size w w')
    (hv : ∀ acc w, I acc w → Calls Tryz.prog CF (#[.iface T V] ++ caps) w (VisPost bn I (acc ++ [t]) w))
    (ih : ∀ acc w, I acc w → Calls Tryz.prog 130 #[.iface tp vp, .func (.func CF) #[] caps] w (VisPost bn I (acc ++ ts) w))
    (ih2 : ∀ acc w, I acc w → Calls Tryz.prog 130 #[.iface tq vq, .func (.func CF) #[] caps] w (VisPost bn I (acc ++ us) w)) (acc : List Tm) (w : World) (h0 : I acc w) :
    Calls Tryz.prog 130 #[.iface T V, .func (.func CF) #[] caps] w (VisPost bn I (acc ++ t :: (ts ++ us)) w) := by
  obtain ⟨F, R, hm, hn, hc, hp⟩ := hP
  have HV := Lib.hid hv
  have HI := Lib.hid hI
  have HB := Lib.hid hB
  have HP := Lib.hid hp
  have IH := Lib.hid ih
  have IH2 := Lib.hid ih2
  clear hv hI hB hp ih ih2
  go_enter Tryz.func130, Tryz.ntmps130
  go_wp2_with fail
  refine (HV.out acc w h0).mono ?_
  rintro e w1 ⟨rfl, i1, o1⟩
  go_wp2_with fail
  refine (HP.out w1).mono ?_
  rintro e w2 ⟨b, rfl, hb, hh, bl⟩
  have c0 := cellOf2a hh
  have H := Lib.hid hh
  clear hh
  have bb := HB.out _ _ i1
  go_wp2_with fail
  refine wp_loop_rounds 3 ?_
  rw [rounds_succ]
  go_wp2_with fail
  refine (IH.out _ _ (HI.out _ _ _ i1 bl)).mono ?_
  rintro e w3 ⟨rfl, i3, o3⟩
  have h3 : w3.heap[b]? = some (.cells #[.iface tp vp, .iface tq vq] 43 (0, 0)) := (o3.block b (lt_of_block H.out) (by omega)).trans H.out
  clear c0
  have c1 := cellOf2b h3
  clear h3
  go_wp2_with fail
  rw [rounds_succ]
  go_wp2_with fail
  refine (IH2.out _ _ i3).mono ?_
  rintro e w4 ⟨rfl, i4, o4⟩
  clear c1
  go_wp2_with fail
  rw [rounds_succ]
  go_wp2_with fail
  go_end0
  exact ⟨rfl, by rw [List.append_assoc, List.append_assoc] at i4; exact i4, ((o1.below bl).trans o3).trans o4⟩

theorem visitAll_any (CF : FuncId) (caps : Array Value) (bn : Nat) (I : List Tm → World → Prop) (hF : ∀ args w, (callFunc CF args).run Tryz.prog w = .ok (.enter CF args) w)
    (hI : ∀ acc w w', I acc w → Below w.heap.size w w' → I acc w') (hB : ∀ acc w, I acc w → bn < w.heap.size)
    (hv : ∀ t acc w, I acc w → Calls Tryz.prog CF (#[.iface (tyOf t) (pay t)] ++ caps) w (VisPost bn I (acc ++ [t]) w)) (t : Tm) : ∀ (acc : List Tm) (w : World), I acc w →
    Calls Tryz.prog 130 #[.iface (tyOf t) (pay t), .func (.func CF) #[] caps] w (VisPost bn I (acc ++ t.subs) w) := by
  induction t with
  | nil => exact visit0 CF caps bn I hF hI hB _ _ .nil (parts_fact .nil) (hv .nil)
  | snd a b p ih => exact visit1 CF caps bn I hF hI hB _ _ _ _ (.snd a b p) p.subs (parts_fact (.snd a b p)).pf (hv _) ih
  | rcv a b p ih => exact visit1 CF caps bn I hF hI hB _ _ _ _ (.rcv a b p) p.subs (parts_fact (.rcv a b p)).pf (hv _) ih
  | tau p ih => exact visit1 CF caps bn I hF hI hB _ _ _ _ (.tau p) p.subs (parts_fact (.tau p)).pf (hv _) ih
  | sum p q ih ih2 => exact visit2 CF caps bn I hF hI hB _ _ _ _ _ _ (.sum p q) p.subs q.subs (parts_fact (.sum p q)).pf (hv _) ih ih2
  | par p q ih ih2 => exact visit2 CF caps bn I hF hI hB _ _ _ _ _ _ (.par p q) p.subs q.subs (parts_fact (.par p q)).pf (hv _) ih ih2
  | own x p ih => exact visit1 CF caps bn I hF hI hB _ _ _ _ (.own x p) p.subs (parts_fact (.own x p)).pf (hv _) ih
  | mat a b p ih => exact visit1 CF caps bn I hF hI hB _ _ _ _ (.mat a b p) p.subs (parts_fact (.mat a b p)).pf (hv _) ih
  | rep p ih => exact visit1 CF caps bn I hF hI hB _ _ _ _ (.rep p) p.subs (parts_fact (.rep p)).pf (hv _) ih

end Go.Proofs.YtmfmagfgcdaeeaaGreat.T1
