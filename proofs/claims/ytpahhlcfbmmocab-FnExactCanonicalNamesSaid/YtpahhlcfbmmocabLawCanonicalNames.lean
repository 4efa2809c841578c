/- For every input the law FnExactCanonicalNames returns true, and each text reads behind the call as it read before. No conditions. -/
import Derived.Test.YtpahhlcfbmmocabRows
import Derived.Test.YtpahhlcfbmmocabBj
import Derived.Test.YtpahhlcfbmmocabTy
import Derived.Test.YtpahhlcfbmmocabLs
import Derived.Test.YtpahhlcfbmmocabBn
import Derived.WalkKit
import Derived.ProofKit
import Derived.OpenShut
import Derived.ShutString
import Derived.ChangeOld
import Derived.Below
namespace Go.Proofs.Ytpahhlcfbmmocab
namespace LawCanonicalNames
open Go.ChangeShapes Go.WideShapes Go.ChangeAt Go.RowKit Go.Proofs.Ytpahhlcfbmmocab.T1
open Go.ChangeMaps (open_string shut_string)
set_option linter.unusedVariables false

theorem own : ownKnob Try.prog.godebug = none := by kernel_rfl
theorem laidOut : laidOutB Try.prog = true := by kernel_rfl


theorem blw {u v w : World} (h : Below u.heap.size u v) (k : Below v.heap.size v w) : Below u.heap.size u w := below_trans h k h.size
/-- A slice of names in some block. -/
def NmX (w : World) (v : Value) (ns : List UInt8) : Prop := ∃ g, g ≤ w.heap.size ∧ NmS w g v ns
theorem NmX.below {w w' : World} {v : Value} {ns : List UInt8} (h : NmX w v ns) (k : Below w.heap.size w w') : NmX w' v ns := by
  obtain ⟨g, h1, h2⟩ := h
  exact ⟨g, Nat.le_trans h1 k.size, h2.below k⟩
theorem nm_of_row {w : World} {base : Nat} {v : Value} {ns : List UInt8} (h : w.ownsRow base 5 1 v ns.length (ns.map ub)) : ∃ a c, v = .slice a ns.length c ∧ NmX w v ns := by
  rcases h.2 with ⟨rfl, h4⟩ | ⟨g, cap, cur, rfl, h4, h5⟩
  · have hl : ns = [] := List.length_eq_zero_iff.1 h4
    subst hl
    exact ⟨_, _, rfl, 0, Nat.zero_le _, ⟨⟨_, _, rfl, by simp, fun h => absurd rfl h⟩⟩⟩
  · refine ⟨_, _, rfl, ?_⟩
    cases hns : ns with
    | nil => exact ⟨0, Nat.zero_le _, ⟨⟨_, _, rfl, by simp, fun h => absurd rfl h⟩⟩⟩
    | cons n0 r =>
      rw [← hns]
      have hc : ∀ j (hj : j < ns.length), w.cell? ⟨g, j, none⟩ = some (.int .u8 (ns[j].toNat : Int)) := fun j hj => by
        rw [h.cellAt j (by omega)]; simp [ub, hj]
      have hpos : 0 < ns.length := by rw [hns]; simp
      refine ⟨g, Nat.le_of_lt (lt_cell (hc 0 hpos)), ⟨⟨_, _, rfl, h5.2.1, fun _ => ⟨0, rfl, fun j hj => by rw [Nat.zero_add]; exact hc j hj⟩⟩⟩⟩
set_option maxHeartbeats 2000000 in
theorem s_no (s : ByteArray) (F X L : ByteArray) (G1 : ∀ w, Calls Try.prog 30 #[.string s] w fun e w' => e = .returned (.bool true) ∧ Below w.heap.size w w') (HF : ∀ w, Calls Try.prog 47 #[.string s] w fun e w' => e = .returned (.string F) ∧ Below w.heap.size w w') (HT : ∀ w, Calls Try.prog 46 #[.string s, .string F] w fun e w' => e = .returned (.tuple #[.string X, .string L]) ∧ Below w.heap.size w w') (HI : ∀ w, Calls Try.prog 48 #[.string L, .int .u8 0] w fun e w' => e = .returned (.bool true) ∧ w = w') (w : World) : Calls Try.prog 18 #[.string s] w fun e w' => e = .returned (.tuple #[.string ⟨#[]⟩, .bool false]) ∧ Below w.heap.size w w' := by
  have G1' := Lib.hid G1
  have HF' := Lib.hid HF
  have HT' := Lib.hid HT
  have HI' := Lib.hid HI
  clear G1 HF HT HI
  go_enter Try.func18, Try.ntmps18
  go_wp2_with fail
  refine (G1'.out _).mono ?_
  rintro e w1 ⟨rfl, b1⟩
  go_wp2_with fail
  refine (HF'.out _).mono ?_
  rintro e w2 ⟨rfl, b2⟩
  have bl2 := blw b1 b2
  go_wp2_with fail
  refine (HT'.out _).mono ?_
  rintro e w3 ⟨rfl, b3⟩
  have bl3 := blw bl2 b3
  go_wp2_with fail
  refine (HI'.out _).mono ?_
  rintro e w4 ⟨rfl, rfl⟩
  go_wp2_with fail
  go_ret2
  exact ⟨rfl, bl3⟩
set_option maxHeartbeats 2000000 in
theorem s_yes (s : ByteArray) (F X L Y : ByteArray) (y : Bool) (G1 : ∀ w, Calls Try.prog 30 #[.string s] w fun e w' => e = .returned (.bool true) ∧ Below w.heap.size w w') (HF : ∀ w, Calls Try.prog 47 #[.string s] w fun e w' => e = .returned (.string F) ∧ Below w.heap.size w w') (HT : ∀ w, Calls Try.prog 46 #[.string s, .string F] w fun e w' => e = .returned (.tuple #[.string X, .string L]) ∧ Below w.heap.size w w') (HI : ∀ w, Calls Try.prog 48 #[.string L, .int .u8 0] w fun e w' => e = .returned (.bool false) ∧ w = w') (HY : ∀ w, Calls Try.prog 41 #[.string X] w fun e w' => e = .returned (.tuple #[.string Y, .bool y]) ∧ Below w.heap.size w w') (w : World) : Calls Try.prog 18 #[.string s] w fun e w' => e = .returned (.tuple #[.string Y, .bool y]) ∧ Below w.heap.size w w' := by
  have G1' := Lib.hid G1
  have HF' := Lib.hid HF
  have HT' := Lib.hid HT
  have HI' := Lib.hid HI
  have HY' := Lib.hid HY
  clear G1 HF HT HI HY
  go_enter Try.func18, Try.ntmps18
  go_wp2_with fail
  refine (G1'.out _).mono ?_
  rintro e w1 ⟨rfl, b1⟩
  go_wp2_with fail
  refine (HF'.out _).mono ?_
  rintro e w2 ⟨rfl, b2⟩
  have bl2 := blw b1 b2
  go_wp2_with fail
  refine (HT'.out _).mono ?_
  rintro e w3 ⟨rfl, b3⟩
  have bl3 := blw bl2 b3
  go_wp2_with fail
  refine (HI'.out _).mono ?_
  rintro e w4 ⟨rfl, rfl⟩
  go_wp2_with fail
  refine (HY'.out _).mono ?_
  rintro e w5 ⟨rfl, b5⟩
  have bl5 := blw bl3 b5
  go_wp2_with fail
  go_ret2
  exact ⟨rfl, bl5⟩
set_option maxHeartbeats 2000000 in
theorem i_no (s : ByteArray) (T : TypeId) (V : Value) (Fi : Int) (K : Nat) (ns : List UInt8) (hK : ns.length < K) (hK2 : K ≤ 1000) (G1 : ∀ w, Calls Try.prog 33 #[.string s] w fun e w' => e = .returned (.tuple #[.iface T V, .bool true]) ∧ Below w.heap.size w w') (HF : ∀ w, Calls Try.prog 49 #[.iface T V] w fun e w' => e = .returned (.int .u32 Fi) ∧ Below w.heap.size w w') (HO : ∀ w, Calls Try.prog 50 #[.int .u32 Fi] w fun e w' => ∃ a c, e = .returned (.slice a ns.length c) ∧ NmX w' (.slice a ns.length c) ns ∧ Below w.heap.size w w') (HB : ∀ w, Calls Try.prog 51 #[.iface T V] w fun e w' => e = .returned (.int .i64 (K : Int)) ∧ Below w.heap.size w w') (w : World) : Calls Try.prog 19 #[.string s] w fun e w' => e = .returned (.tuple #[.string ⟨#[]⟩, .bool false]) ∧ Below w.heap.size w w' := by
  have G1' := Lib.hid G1
  have HF' := Lib.hid HF
  have HO' := Lib.hid HO
  have HB' := Lib.hid HB
  clear G1 HF HO HB
  go_enter Try.func19, Try.ntmps19
  go_wp2_with fail
  refine (G1'.out _).mono ?_
  rintro e w1 ⟨rfl, b1⟩
  go_wp2_with fail
  refine (HF'.out _).mono ?_
  rintro e w2 ⟨rfl, b2⟩
  have bl2 := blw b1 b2
  go_wp2_with fail
  refine (HO'.out _).mono ?_
  rintro e w3 ⟨a, c, rfl, nx, b3⟩
  have bl3 := blw bl2 b3
  go_wp2_with fail
  refine (HB'.out _).mono ?_
  rintro e w4 ⟨rfl, b4⟩
  have bl4 := blw bl3 b4
  go_wp2_with fail
  go_ret2
  exact ⟨rfl, bl4⟩
set_option maxHeartbeats 2000000 in
theorem i_yes (s : ByteArray) (T T2 : TypeId) (V V2 : Value) (Fi : Int) (K : Nat) (ns : List UInt8) (hK : K ≤ ns.length) (hK2 : ns.length ≤ 1000) (Y : ByteArray) (G1 : ∀ w, Calls Try.prog 33 #[.string s] w fun e w' => e = .returned (.tuple #[.iface T V, .bool true]) ∧ Below w.heap.size w w') (HF : ∀ w, Calls Try.prog 49 #[.iface T V] w fun e w' => e = .returned (.int .u32 Fi) ∧ Below w.heap.size w w') (HO : ∀ w, Calls Try.prog 50 #[.int .u32 Fi] w fun e w' => ∃ a c, e = .returned (.slice a ns.length c) ∧ NmX w' (.slice a ns.length c) ns ∧ Below w.heap.size w w') (HB : ∀ w, Calls Try.prog 51 #[.iface T V] w fun e w' => e = .returned (.int .i64 (K : Int)) ∧ Below w.heap.size w w') (HS : ∀ w, Calls Try.prog 53 #[] w fun e w' => ∃ C, e = .returned (.agg C) ∧ ScOf C id ∧ Below w.heap.size w w') (HBI : ∀ C v w, ScOf C id → NmX w v ns → Calls Try.prog 52 #[.iface T V, .agg C, v] w fun e w' => ∃ v', e = .returned (.tuple #[.iface T2 V2, v']) ∧ Below w.heap.size w w') (HX : ∀ w, Calls Try.prog 54 #[.iface T2 V2] w fun e w' => e = .returned (.string Y) ∧ Below w.heap.size w w') (w : World) : Calls Try.prog 19 #[.string s] w fun e w' => e = .returned (.tuple #[.string Y, .bool true]) ∧ Below w.heap.size w w' := by
  have G1' := Lib.hid G1
  have HF' := Lib.hid HF
  have HO' := Lib.hid HO
  have HB' := Lib.hid HB
  have HS' := Lib.hid HS
  have HBI' := Lib.hid HBI
  have HX' := Lib.hid HX
  clear G1 HF HO HB HS HBI HX
  go_enter Try.func19, Try.ntmps19
  go_wp2_with fail
  refine (G1'.out _).mono ?_
  rintro e w1 ⟨rfl, b1⟩
  go_wp2_with fail
  refine (HF'.out _).mono ?_
  rintro e w2 ⟨rfl, b2⟩
  have bl2 := blw b1 b2
  go_wp2_with fail
  refine (HO'.out _).mono ?_
  rintro e w3 ⟨a, c, rfl, nx, b3⟩
  have bl3 := blw bl2 b3
  go_wp2_with fail
  refine (HB'.out _).mono ?_
  rintro e w4 ⟨rfl, b4⟩
  have bl4 := blw bl3 b4
  have NX := Lib.hid (nx.below b4)
  clear nx
  go_wp2_with fail
  refine (HS'.out _).mono ?_
  rintro e w5 ⟨C, rfl, hsc, b5⟩
  have HSC := Lib.hid hsc
  have bl5 := blw bl4 b5
  have NX5 := Lib.hid (NX.out.below b5)
  clear hsc
  go_wp2_with fail
  refine (HBI'.out _ _ _ HSC.out NX5.out).mono ?_
  rintro e w6 ⟨v6, rfl, b6⟩
  have bl6 := blw bl5 b6
  go_wp2_with fail
  refine (HX'.out _).mono ?_
  rintro e w7 ⟨rfl, b7⟩
  have bl7 := blw bl6 b7
  go_wp2_with fail
  go_ret2
  exact ⟨rfl, bl7⟩

set_option maxHeartbeats 1000000 in
theorem spec_none (s : ByteArray) (hg : good s.data.toList = none) (hm : s.size ≤ 9223372036854775807) (w : World) : Calls Try.prog 18 #[.string s] w fun e w' => e = .returned (.tuple #[.string ⟨#[]⟩, .bool false]) ∧ Below w.heap.size w w' := by
  have H := Lib.hid (tmGood_none hg w hm)
  clear hg
  go_enter Try.func18, Try.ntmps18
  go_wp2_with fail
  refine (H.out).mono ?_
  rintro e w1 ⟨rfl, bl⟩
  go_wp2_with fail
  go_ret2
  exact ⟨rfl, bl⟩
set_option maxHeartbeats 1000000 in
theorem impl_none (s : ByteArray) (hg : good s.data.toList = none) (hm : s.size ≤ 9223372036854775807) (w : World) : Calls Try.prog 19 #[.string s] w fun e w' => e = .returned (.tuple #[.string ⟨#[]⟩, .bool false]) ∧ Below w.heap.size w w' := by
  have H := Lib.hid (parse_none hg w hm)
  clear hg
  go_enter Try.func19, Try.ntmps19
  go_wp2_with fail
  refine (H.out).mono ?_
  rintro e w1 ⟨rfl, bl⟩
  go_wp2_with fail
  go_ret2
  exact ⟨rfl, bl⟩
theorem out_if (b : Bool) (X Y : ByteArray) : (if b = true then (.tuple #[.string X, .bool true] : Value) else .tuple #[.string Y, .bool false]) = .tuple #[.string (if b then X else Y), .bool b] := by cases b <;> rfl
theorem oth_len (l : List UInt8) : (othL l).length ≤ 26 := by
  unfold othL
  have := List.length_filter_le (fun c => decide (c ∉ l)) ((List.range 26).map fun i => UInt8.ofNat (97 + i))
  simpa using this
theorem free_len (t : Tm) (h : t.ok nmL = true) : t.free.length ≤ 26 := by
  have := srt_sub (srt_free t) lowL_srt (fun z hz => (mem_low z).2 (lets_free t h z hz))
  have h2 : lowL.length = 26 := by unfold lowL; simp
  omega
theorem bnd_lt (t : Tm) : t.bnd.length + 1 ≤ t.size := by
  induction t <;> simp_all [Tm.bnd, Tm.size] <;> omega
theorem both (s : ByteArray) (hm : s.size ≤ 9223372036854775807) : ∃ (n : ByteArray) (b : Bool), (∀ w, Calls Try.prog 18 #[.string s] w fun e w' => e = .returned (.tuple #[.string n, .bool b]) ∧ Below w.heap.size w w') ∧ (∀ w, Calls Try.prog 19 #[.string s] w fun e w' => e = .returned (.tuple #[.string n, .bool b]) ∧ Below w.heap.size w w') := by
  cases hg : good s.data.toList with
  | none => exact ⟨_, _, spec_none s hg hm, impl_none s hg hm⟩
  | some t =>
    have h1 := fun w => tmGood_some hg w hm
    have h2 := fun w => parse_some hg w hm
    obtain ⟨es, hL, hE, h300, h60⟩ := good_S hg
    have hfl := free_len t hL
    have hbl := bnd_lt t
    have hF := tmFree_any t hE (by omega)
    have hT := tmCanonical_any t.size t t.free (Nat.le_refl _) hE (by omega) (by omega)
    have hk : Tk t t.free := ⟨srt_free t, fun z h => h, by omega⟩
    have hOT : ∀ w, Calls Try.prog 50 #[.int .u32 (setN t.free : Nat)] w fun e w' => ∃ a c, e = .returned (.slice a (othL t.free).length c) ∧ NmX w' (.slice a (othL t.free).length c) (othL t.free) ∧ Below w.heap.size w w' := fun w =>
      (others_set t.free (lets_free t hL) w).mono fun e w' ⟨v, h1, h2, h3⟩ => by
        obtain ⟨a, c, rfl, h4⟩ := nm_of_row h2
        exact ⟨a, c, h1, h4, h3⟩
    have hol := oth_len t.free
    have hlen := canS_len t.size t t.free
    have hIn : ∀ w, Calls Try.prog 48 #[.string (B (canS t.size t t.free).2), .int .u8 0] w fun e w' => e = .returned (.bool (decide (0 ∈ (canS t.size t t.free).2))) ∧ w = w' := fun w => by
      have h := tmIn_any (B (canS t.size t t.free).2) (((0 : UInt8).toNat : Nat) : Int) w (by rw [B_size]; omega)
      rw [inB_of, B_list] at h
      exact h
    rw [← es] at hT hF
    rcases Nat.lt_or_ge (othL t.free).length t.bnd.length with hlt | hge
    · have h0 := canS_no t.size t t.free (Nat.le_refl _) hk hlt
      rw [decide_eq_true h0] at hIn
      exact ⟨_, _, s_no s _ _ _ h1 hF hT hIn, i_no s _ _ _ _ _ hlt (by omega) h2 (freeNames_any t hL) hOT (bindersIn_any t (by omega))⟩
    · have hok := canS_ok t.size t t.free (Nat.le_refl _) hk hge
      have h0 : (0 : UInt8) ∉ (canS t.size t t.free).2 := by
        rw [hok]
        show (0 : UInt8) ∉ bothL t.free _
        rw [mem_bothL]
        rintro (h | h)
        · have := lets_free t hL 0 h; simp at this
        · have := (mem_oth _ _).1 (List.mem_of_mem_take h); simp at this
      rw [decide_eq_false h0] at hIn
      have hcl := can_len t id (othL t.free)
      have hcok : (can t id (othL t.free)).ok nmL = true := can_ok t id (othL t.free) (fun z hz => (nmL_iff z).2 (lets_free t hL z hz)) (fun z hz => (nmL_iff z).2 ((mem_oth _ z).1 hz).1) hge
      have hY := tmIf_any (can t id (othL t.free)) (ok_EL _ hcok) (by omega)
      have hokT : okT (can t id (othL t.free)) = true := (okT_iff _).2 ⟨hcok, by omega, by omega⟩
      rw [hokT, if_pos rfl] at hY
      rw [hok] at hT hIn
      have hX := textOf_any (can t id (othL t.free)) (by omega)
      exact ⟨_, _, s_yes s _ _ _ _ _ h1 hF hT hIn hY, i_yes s _ _ _ _ _ _ _ hge (by omega) _ h2 (freeNames_any t hL) hOT (bindersIn_any t (by omega)) (fun w => freeScope_any w) (fun C v w hsc ⟨g, hg, hn⟩ => (bindInOrder_any t id C _ v g w hL hsc hg hn hge).mono fun e w' ⟨v', h1, _, h3⟩ => ⟨v', h1, h3⟩) hX⟩
set_option maxHeartbeats 1000000 in
theorem walk (a0 : ByteArray) (w0 : a0.size ≤ maxLen) (w : World) : Calls Try.prog 6 #[.string a0] w fun e w' => e = .returned (.bool true) ∧ Below w.heap.size w w' := by
  unfold maxLen at w0
  by_cases hl : 1048576 < a0.size
  · go_enter Try.func6, Try.ntmps6
    go_wp2_with fail
    go_ret
    exact ⟨rfl, Below.refl _ _⟩
  · obtain ⟨n, b, hs, hi⟩ := both a0 w0
    have H1 := Lib.hid hs
    have H2 := Lib.hid hi
    clear hs hi
    go_enter Try.func6, Try.ntmps6
    go_wp2_with fail
    refine (H1.out _).mono ?_
    rintro e w2 ⟨rfl, b1⟩
    go_wp2_with fail
    refine (H2.out _).mono ?_
    rintro e w3 ⟨rfl, b2⟩
    go_wp2_with fail
    go_ret
    exact ⟨rfl, below_trans b1 b2 b1.size⟩


set_option maxRecDepth 100000 in
theorem lifted (os : Os) (started : os.Started) (H : Type) (enc : TypeId × Value → H) :
    ReturnsInHanded {} Try.checked os 6 .any (Rows.fnExactCanonicalNamesSpec.pre6 enc Try.prog Try.f6 Rows.fnExactCanonicalNamesRow.domain false) (Rows.fnExactCanonicalNamesSpec.post enc Try.prog Try.f6 false true false false) := by
  refine returnsInHanded_of_change (C := Try.checked) own started (by kernel_rfl) Try.func6
    (ChangeSpec.witness6 (enc := enc) (C := Try.checked) false ⟨#[], #[.string ByteArray.empty], []⟩ 8 (by kernel_rfl) (by kernel_rfl) (by kernel_rfl) (by kernel_rfl)) ?_
  intro W base args ds gs before hval0 hW hcnd _
  have hval : ∀ (j : Nat) t v, Try.f6.params[j]? = some t → args[j]? = some v → Value.okWide Try.prog W .any base t v := hval0
  have hW' := hW
  obtain ⟨p, q, hA0, hV, rfl, hfz, hnd⟩ := hW
  have hA : DataW.TrodAll enc Try.prog W 0 (fun _ => true) true Try.f6.params.toList args.toList ds p := hA0
  rw [Try.params6] at hA hval
  obtain ⟨v0, vs0, d0, ds0, p0, q0, hargs, rfl, rfl, h0, r0⟩ := trodAll_cons hA
  obtain ⟨rfl, rfl, rfl⟩ := trodAll_nil r0
  obtain rfl : args = #[v0] := by cases args; simp_all
  obtain ⟨rfl, rfl⟩ := trodVars_none hV
  obtain ⟨a0, rfl, rfl, rfl, w0⟩ := open_string Try.underlying9 (hval 0 9 v0 rfl rfl) h0
  clear hA0 hval0
  simp only [List.append_nil] at hW'
  refine (walk a0 w0 W).mono fun e W' ⟨he, bel⟩ => ?_
  subst he
  exact ⟨_, rfl, _, _, _, [], [], [], hW', trodAll_mk1 (shut_bool Try.underlying4 _), (trodAll_cons_mk (shut_string Try.underlying9 w0) trodAll_mk0), rfl, bel.frame _, fun h => by cases h⟩

theorem over : Rows.fnExactCanonicalNamesRow.holds Try.pinned (OpenSpec.ofChange Rows.fnExactCanonicalNamesSpec) :=
  OpenClaim.holds_of_wide 6 Try.f6 rfl rfl rfl rfl rfl rfl rfl ⟨rfl, rfl, rfl, rfl, rfl⟩ rfl rfl rfl rfl rfl (by kernel_rfl) Try.func6 (by kernel_rfl)
    (of_decide_eq_true (by kernel_rfl)) (by unfold Func.isWrapper; first | (rw [if_pos (by decide +kernel)]; kernel_rfl) | (rw [if_neg (by decide +kernel)]; exact ⟨rfl, rfl⟩))
    (fun os started H enc _ => lifted os started H enc)
end LawCanonicalNames

theorem fnExactCanonicalNames_holds : Rows.FnExactCanonicalNamesSaid := LawCanonicalNames.over
#print axioms fnExactCanonicalNames_holds
end Go.Proofs.Ytpahhlcfbmmocab
