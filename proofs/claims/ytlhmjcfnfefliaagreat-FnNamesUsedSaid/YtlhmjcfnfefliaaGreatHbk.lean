/- Texts of the proof, put together: In, Qs. No conditions. -/
import Derived.Test.YtlhmjcfnfefliaaGreatHao
import Derived.Test.YtlhmjcfnfefliaaGreatHap
import Derived.Test.YtlhmjcfnfefliaaGreatHav
import Derived.Test.YtlhmjcfnfefliaaGreatHbb
import Derived.Lib.OthersKept
import Derived.Deep.LoopGhost

/- Is a byte in a text, in the specification. -/
namespace Go.Proofs.YtlhmjcfnfefliaaGreat.T1
open Go.RowKit
set_option maxRecDepth 100000

/-- Is a byte among those of a text? -/
def inB (s : ByteArray) (c : Int) : Bool := s.data.toList.any fun x => (x.toNat : Int) == c
theorem inB_yes (s : ByteArray) (c : Int) (k : Nat) (h : k < s.size) (h1 : (s[k].toNat : Int) = c) : inB s c = true := by
  unfold inB
  rw [List.any_eq_true]
  exact ⟨s[k], by show s.data[k] ∈ _; simp, by simp [h1]⟩
theorem inB_no (s : ByteArray) (c : Int) (h : (s.data.toList.take s.size).any (fun x => (x.toNat : Int) == c) = false) : inB s c = false := by
  rw [List.take_of_length_le (by simp)] at h
  exact h

set_option maxHeartbeats 400000 in
theorem tmIn_any (s : ByteArray) (c : Int) (w : World) (hs : s.size ≤ 100000000) :
    Calls Tryz.prog 70 #[.string s, .int .u8 c] w fun e w' => e = .returned (.bool (inB s c)) ∧ w = w' := by
  go_enter Tryz.func70, Tryz.ntmps70
  go_wp2_with fail
  go_loop [5] (fun i => ∃ k : Nat, k ≤ s.size ∧ i = .int .i64 k ∧ Hid ((s.data.toList.take k).any (fun x => (x.toNat : Int) == c) = false)) (fun i => s.size - (intOf i).toNat)
  case atStart => exact ⟨0, Nat.zero_le _, rfl, by simp [Hid]⟩
  case round =>
    obtain ⟨k, hk, rfl, H⟩ := hrel
    by_cases hlt : k < s.size
    · by_cases hc : (s[k].toNat : Int) = c
      · have hT : Hid (inB s c = true) := inB_yes s c k hlt hc
        have b1 : ((s[k].toNat : Int) == c) = true := by simp [hc]
        clear hc
        go_wp2_with fail
        go_ret
        exact ⟨by rw [hT.out]; rfl, rfl⟩
      · have b1 : ((s[k].toNat : Int) == c) = false := by simp [hc]
        have hT : Hid ((s.data.toList.take (k + 1)).any (fun x => (x.toNat : Int) == c) = false) := by
          have h0 := H.out
          rw [take_snoc s k hlt, List.any_append, h0]; simp [Hid, hc]
        clear hc
        go_wp2_with fail
        go_round
        case rel => exact ⟨k + 1, by omega, by go_num, hT⟩
        case measure => simp [intOf]; omega
    · have hT : Hid (inB s c = false) := inB_no s c (by have := H.out; rw [show k = s.size by omega] at this; exact this)
      go_wp2_with fail
      go_ret
      exact ⟨by rw [hT.out]; rfl, rfl⟩

end Go.Proofs.YtlhmjcfnfefliaaGreat.T1

/- Uses of a free name in the specification: all of a process. MADE BY gen_Qs.py. -/
namespace Go.Proofs.YtlhmjcfnfefliaaGreat.T1
open Go.RowKit
set_option maxRecDepth 100000
set_option linter.unusedVariables false
set_option linter.unusedSimpArgs false

theorem inB_of6 (s : ByteArray) (c : UInt8) : inB s (c.toNat : Int) = decide (c ∈ s.data.toList) := by
  rw [Bool.eq_iff_iff, decide_eq_true_iff]
  unfold inB
  rw [List.any_eq_true]
  constructor
  · rintro ⟨x, hx, h⟩
    have : x = c := u8_ext (by have := eq_of_beq h; omega)
    rw [← this]; exact hx
  · intro h; exact ⟨c, h, by simp⟩
theorem su_conv {F : FuncId} {args : Array Value} {w : World} {v0 v1 v2 v3 u0 u1 u2 u3 : Int} (h : Calls Tryz.prog F args w fun e w' => ∃ g, e = .returned (.slice (some ⟨g, 0, none⟩) 4 4) ∧ w.heap.size ≤ g ∧ w'.heap[g]? = some (.cells #[.int .i64 v0, .int .i64 v1, .int .i64 v2, .int .i64 v3] 3 (0, 0)) ∧ Below w.heap.size w w') (e0 : v0 = u0) (e1 : v1 = u1) (e2 : v2 = u2) (e3 : v3 = u3) : Calls Tryz.prog F args w fun e w' => ∃ g, e = .returned (.slice (some ⟨g, 0, none⟩) 4 4) ∧ w.heap.size ≤ g ∧ w'.heap[g]? = some (.cells #[.int .i64 u0, .int .i64 u1, .int .i64 u2, .int .i64 u3] 3 (0, 0)) ∧ Below w.heap.size w w' := by
  subst e0 e1 e2 e3; exact h
theorem cw1 (b : Bool) (n m : Nat) (hn : n ≤ 1000) (e : m = n + (if b = true then 1 else 0)) : wrap64 (cond b 1 0 + (n : Int)) = (m : Int) := by
  subst e
  cases b <;> simp <;> unfold wrap64 <;> omega
theorem cw2 (n k m : Nat) (hn : n + k ≤ 1000) (e : m = n + k) : wrap64 (wrap64 (0 + (n : Int)) + (k : Int)) = (m : Int) := by
  subst e
  simp only [Int.zero_add]; unfold wrap64; omega
theorem cq_le (a : UInt8) (t : Tm) (f : Tm → Bool) : (t.vis a).countP f ≤ t.size := Nat.le_trans List.countP_le_length (vis_len a t)
theorem cq_two (a : UInt8) (p q : Tm) (f : Tm → Bool) (u : Tm) (hu : f u = false) : (u :: (p.vis a ++ q.vis a)).countP f = (p.vis a).countP f + (q.vis a).countP f := by
  rw [List.countP_cons, List.countP_append, hu]; simp
theorem at_S (t : Tm) (i : Nat) (h : i < (S t).size) (x a : UInt8) (e : t.pr[i]? = some x) : ((((S t)[i]'h).toNat : Int) == (a.toNat : Int)) = (x == a) := by
  have h2 : i < t.pr.length := by rw [← S_size]; exact h
  rw [S_at, u8b]
  rw [List.getElem?_eq_getElem h2] at e
  simp only [Option.some.injEq] at e
  rw [e]
theorem soUses_any (a : UInt8) (t : Tm) : t.ok nmE = true → t.pr.length ≤ 700 → t.size ≤ 1000 → ∀ w, Calls Tryz.prog 34 #[.string (S t), .int .u8 (a.toNat : Int)] w fun e w' => ∃ g, e = .returned (.slice (some ⟨g, 0, none⟩) 4 4) ∧ w.heap.size ≤ g ∧ w'.heap[g]? = some (.cells #[.int .i64 (((t.vis a).countP (us0 a) : Nat) : Int), .int .i64 (((t.vis a).countP (us1 a) : Nat) : Int), .int .i64 (((t.vis a).countP (us2 a) : Nat) : Int), .int .i64 (((t.vis a).countP (us3 a) : Nat) : Int)] 3 (0, 0)) ∧ Below w.heap.size w w' := by
  induction t with
  | nil =>
    intro ho hl hs w
    exact su_conv (su_nil _ a _ (by rw [S_size]; exact hl) (by simp only [Tm.kind]; decide) (by simp only [Tm.kind]; decide) (by simp only [Tm.kind]; decide) (tmKind_any .nil ho hl) (tmBinds_any .nil ho hl) (tmParts_any .nil ho hl) w) (by simp [Tm.vis, us0]) (by simp [Tm.vis, us1]) (by simp [Tm.vis, us2]) (by simp [Tm.vis, us3])
  | tau p ih =>
    intro ho hl hs w
    have ho' := ho
    simp only [Tm.ok] at ho'
    have hl' := hl
    simp only [Tm.pr, List.length_cons, List.length_append, List.length_nil] at hl'
    simp only [Tm.size] at hs
    have hq := fun f => cq_le a p f
    have IH := ih ho' (by omega) (by omega)
    exact su_conv (su_one _ a _ _ _ _ _ _ (by rw [S_size]; exact hl) (by simp only [Tm.kind]; decide) (by simp only [Tm.kind]; decide) (by simp only [Tm.kind]; decide) (tmKind_any (.tau p) ho hl) (tmBinds_any (.tau p) ho hl) (tmParts_any (.tau p) ho hl) IH w) (cw1 false _ _ (Nat.le_trans (hq _) (by omega)) (by simp [Tm.vis, us0, List.countP_cons])) (cw1 false _ _ (Nat.le_trans (hq _) (by omega)) (by simp [Tm.vis, us1, List.countP_cons])) (cw1 false _ _ (Nat.le_trans (hq _) (by omega)) (by simp [Tm.vis, us2, List.countP_cons])) (cw1 false _ _ (Nat.le_trans (hq _) (by omega)) (by simp [Tm.vis, us3, List.countP_cons]))
  | rep p ih =>
    intro ho hl hs w
    have ho' := ho
    simp only [Tm.ok] at ho'
    have hl' := hl
    simp only [Tm.pr, List.length_cons, List.length_append, List.length_nil] at hl'
    simp only [Tm.size] at hs
    have hq := fun f => cq_le a p f
    have IH := ih ho' (by omega) (by omega)
    exact su_conv (su_one _ a _ _ _ _ _ _ (by rw [S_size]; exact hl) (by simp only [Tm.kind]; decide) (by simp only [Tm.kind]; decide) (by simp only [Tm.kind]; decide) (tmKind_any (.rep p) ho hl) (tmBinds_any (.rep p) ho hl) (tmParts_any (.rep p) ho hl) IH w) (cw1 false _ _ (Nat.le_trans (hq _) (by omega)) (by simp [Tm.vis, us0, List.countP_cons])) (cw1 false _ _ (Nat.le_trans (hq _) (by omega)) (by simp [Tm.vis, us1, List.countP_cons])) (cw1 false _ _ (Nat.le_trans (hq _) (by omega)) (by simp [Tm.vis, us2, List.countP_cons])) (cw1 false _ _ (Nat.le_trans (hq _) (by omega)) (by simp [Tm.vis, us3, List.countP_cons]))
  | snd x y p ih =>
    intro ho hl hs w
    have ho' := ho
    simp only [Tm.ok, Bool.and_eq_true] at ho'
    have hl' := hl
    simp only [Tm.pr, List.length_cons, List.length_append, List.length_nil] at hl'
    simp only [Tm.size] at hs
    have hq := fun f => cq_le a p f
    have IH := ih ho'.2 (by omega) (by omega)
    exact su_conv (su_snd _ a _ _ _ _ _ _ (by rw [S_size]; exact hl) (by simp only [Tm.kind]; decide) (by simp only [Tm.kind]; decide) (by simp only [Tm.kind]; decide) (by rw [S_size]; simp [Tm.pr]) (x == a) (at_S _ 0 _ x a (by simp [Tm.pr])) (by rw [S_size]; simp [Tm.pr]) (y == a) (at_S _ 2 _ y a (by simp [Tm.pr])) (tmKind_any (.snd x y p) ho hl) (tmBinds_any (.snd x y p) ho hl) (tmParts_any (.snd x y p) ho hl) IH w) (cw1 (x == a) _ _ (Nat.le_trans (hq _) (by omega)) (by simp [Tm.vis, us0, List.countP_cons])) (cw1 false _ _ (Nat.le_trans (hq _) (by omega)) (by simp [Tm.vis, us1, List.countP_cons])) (cw1 (y == a) _ _ (Nat.le_trans (hq _) (by omega)) (by simp [Tm.vis, us2, List.countP_cons])) (cw1 false _ _ (Nat.le_trans (hq _) (by omega)) (by simp [Tm.vis, us3, List.countP_cons]))
  | mat x y p ih =>
    intro ho hl hs w
    have ho' := ho
    simp only [Tm.ok, Bool.and_eq_true] at ho'
    have hl' := hl
    simp only [Tm.pr, List.length_cons, List.length_append, List.length_nil] at hl'
    simp only [Tm.size] at hs
    have hq := fun f => cq_le a p f
    have IH := ih ho'.2 (by omega) (by omega)
    exact su_conv (su_mat _ a _ _ _ _ _ _ (by rw [S_size]; exact hl) (by simp only [Tm.kind]; decide) (by simp only [Tm.kind]; decide) (by simp only [Tm.kind]; decide) (by rw [S_size]; simp [Tm.pr]) (x == a) (at_S _ 1 _ x a (by simp [Tm.pr])) (by rw [S_size]; simp [Tm.pr]) (y == a) (at_S _ 3 _ y a (by simp [Tm.pr])) (tmKind_any (.mat x y p) ho hl) (tmBinds_any (.mat x y p) ho hl) (tmParts_any (.mat x y p) ho hl) IH w) (cw1 false _ _ (Nat.le_trans (hq _) (by omega)) (by simp [Tm.vis, us0, List.countP_cons])) (cw1 false _ _ (Nat.le_trans (hq _) (by omega)) (by simp [Tm.vis, us1, List.countP_cons])) (cw1 false _ _ (Nat.le_trans (hq _) (by omega)) (by simp [Tm.vis, us2, List.countP_cons])) (cw1 (x == a || y == a) _ _ (Nat.le_trans (hq _) (by omega)) (by simp [Tm.vis, us3, List.countP_cons]))
  | rcv x y p ih =>
    intro ho hl hs w
    have ho' := ho
    simp only [Tm.ok, Bool.and_eq_true] at ho'
    have hl' := hl
    simp only [Tm.pr, List.length_cons, List.length_append, List.length_nil] at hl'
    simp only [Tm.size] at hs
    have hq := fun f => cq_le a p f
    have IH := ih ho'.2 (by omega) (by omega)
    by_cases e : y = a
    · exact su_conv (su_rcvS _ a _ ⟨#[]⟩ 0 0 0 0 (by rw [S_size]; exact hl) (by simp only [Tm.kind]; decide) (by simp only [Tm.kind]; decide) (by simp only [Tm.kind]; decide) (by rw [S_size]; simp [Tm.pr]) (x == a) (at_S _ 0 _ x a (by simp [Tm.pr])) (tmKind_any (.rcv x y p) ho hl) y (by rw [u8b, e]; simp) (tmBinds_any (.rcv x y p) ho hl) w) (by simp [Tm.vis, us0, List.countP_cons, e]) (by cases h : (x == a) <;> simp_all [Tm.vis, us1, List.countP_cons]) (by simp [Tm.vis, us2, List.countP_cons, e]) (by simp [Tm.vis, us3, List.countP_cons, e])
    · exact su_conv (su_rcvD _ a _ _ _ _ _ _ (by rw [S_size]; exact hl) (by simp only [Tm.kind]; decide) (by simp only [Tm.kind]; decide) (by simp only [Tm.kind]; decide) (by rw [S_size]; simp [Tm.pr]) (x == a) (at_S _ 0 _ x a (by simp [Tm.pr])) (tmKind_any (.rcv x y p) ho hl) y (by rw [u8b]; simp [e]) (tmBinds_any (.rcv x y p) ho hl) (tmParts_any (.rcv x y p) ho hl) IH w) (cw1 false _ _ (Nat.le_trans (hq _) (by omega)) (by simp [Tm.vis, us0, List.countP_cons, e])) (cw1 (x == a) _ _ (Nat.le_trans (hq _) (by omega)) (by simp [Tm.vis, us1, List.countP_cons, e])) (cw1 false _ _ (Nat.le_trans (hq _) (by omega)) (by simp [Tm.vis, us2, List.countP_cons, e])) (cw1 false _ _ (Nat.le_trans (hq _) (by omega)) (by simp [Tm.vis, us3, List.countP_cons, e]))
  | own x p ih =>
    intro ho hl hs w
    have ho' := ho
    simp only [Tm.ok, Bool.and_eq_true] at ho'
    have hl' := hl
    simp only [Tm.pr, List.length_cons, List.length_append, List.length_nil] at hl'
    simp only [Tm.size] at hs
    have hq := fun f => cq_le a p f
    have IH := ih ho'.2 (by omega) (by omega)
    by_cases e : x = a
    · exact su_conv (su_ownS _ a _ ⟨#[]⟩ 0 0 0 0 (by rw [S_size]; exact hl) (by simp only [Tm.kind]; decide) (by simp only [Tm.kind]; decide) (by simp only [Tm.kind]; decide) (tmKind_any (.own x p) ho hl) x (by rw [u8b, e]; simp) (tmBinds_any (.own x p) ho hl) w) (by simp [Tm.vis, us0, List.countP_cons, e]) (by simp [Tm.vis, us1, List.countP_cons, e]) (by simp [Tm.vis, us2, List.countP_cons, e]) (by simp [Tm.vis, us3, List.countP_cons, e])
    · exact su_conv (su_ownD _ a _ _ _ _ _ _ (by rw [S_size]; exact hl) (by simp only [Tm.kind]; decide) (by simp only [Tm.kind]; decide) (by simp only [Tm.kind]; decide) (tmKind_any (.own x p) ho hl) x (by rw [u8b]; simp [e]) (tmBinds_any (.own x p) ho hl) (tmParts_any (.own x p) ho hl) IH w) (cw1 false _ _ (Nat.le_trans (hq _) (by omega)) (by simp [Tm.vis, us0, List.countP_cons, e])) (cw1 false _ _ (Nat.le_trans (hq _) (by omega)) (by simp [Tm.vis, us1, List.countP_cons, e])) (cw1 false _ _ (Nat.le_trans (hq _) (by omega)) (by simp [Tm.vis, us2, List.countP_cons, e])) (cw1 false _ _ (Nat.le_trans (hq _) (by omega)) (by simp [Tm.vis, us3, List.countP_cons, e]))
  | sum p q ih ih2 =>
    intro ho hl hs w
    have ho' := ho
    simp only [Tm.ok, Bool.and_eq_true] at ho'
    have hl' := hl
    simp only [Tm.pr, List.length_cons, List.length_append, List.length_nil] at hl'
    simp only [Tm.size] at hs
    have hq := fun f => cq_le a p f
    have hq2 := fun f => cq_le a q f
    exact su_conv (su_two _ a _ _ _ _ _ _ _ _ _ _ _ (by rw [S_size]; exact hl) (by simp only [Tm.kind]; decide) (by simp only [Tm.kind]; decide) (by simp only [Tm.kind]; decide) (tmKind_any (.sum p q) ho hl) (tmBinds_any (.sum p q) ho hl) (tmParts_any (.sum p q) ho hl) (ih ho'.1 (by omega) (by omega)) (ih2 ho'.2 (by omega) (by omega)) w) (cw2 _ _ _ (by have := hq (us0 a); have := hq2 (us0 a); omega) (cq_two a p q (us0 a) _ rfl)) (cw2 _ _ _ (by have := hq (us1 a); have := hq2 (us1 a); omega) (cq_two a p q (us1 a) _ rfl)) (cw2 _ _ _ (by have := hq (us2 a); have := hq2 (us2 a); omega) (cq_two a p q (us2 a) _ rfl)) (cw2 _ _ _ (by have := hq (us3 a); have := hq2 (us3 a); omega) (cq_two a p q (us3 a) _ rfl))
  | par p q ih ih2 =>
    intro ho hl hs w
    have ho' := ho
    simp only [Tm.ok, Bool.and_eq_true] at ho'
    have hl' := hl
    simp only [Tm.pr, List.length_cons, List.length_append, List.length_nil] at hl'
    simp only [Tm.size] at hs
    have hq := fun f => cq_le a p f
    have hq2 := fun f => cq_le a q f
    exact su_conv (su_two _ a _ _ _ _ _ _ _ _ _ _ _ (by rw [S_size]; exact hl) (by simp only [Tm.kind]; decide) (by simp only [Tm.kind]; decide) (by simp only [Tm.kind]; decide) (tmKind_any (.par p q) ho hl) (tmBinds_any (.par p q) ho hl) (tmParts_any (.par p q) ho hl) (ih ho'.1 (by omega) (by omega)) (ih2 ho'.2 (by omega) (by omega)) w) (cw2 _ _ _ (by have := hq (us0 a); have := hq2 (us0 a); omega) (cq_two a p q (us0 a) _ rfl)) (cw2 _ _ _ (by have := hq (us1 a); have := hq2 (us1 a); omega) (cq_two a p q (us1 a) _ rfl)) (cw2 _ _ _ (by have := hq (us2 a); have := hq2 (us2 a); omega) (cq_two a p q (us2 a) _ rfl)) (cw2 _ _ _ (by have := hq (us3 a); have := hq2 (us3 a); omega) (cq_two a p q (us3 a) _ rfl))
end Go.Proofs.YtlhmjcfnfefliaaGreat.T1
