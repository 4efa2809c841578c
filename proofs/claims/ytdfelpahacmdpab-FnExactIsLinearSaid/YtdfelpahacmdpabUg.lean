/- What a process asks of sorts: who carries whom, and who is the same, each binder and each free name for itself. Plain lemmas. -/
import Derived.Test.YtdfelpahacmdpabUf
import Derived.Test.YtdfelpahacmdpabRf
namespace Go.Proofs.Ytdfelpahacmdpab.T1
set_option linter.unusedVariables false

def upd6 (f : UInt8 → Nat) (x : UInt8) (n : Nat) (y : UInt8) : Nat := if y = x then n else f y
/-- The askings in order ('true': carries), with the sort of each name, and the number of the next new sort. -/
def ask6 : Tm → (UInt8 → Nat) → Nat → List (Bool × Nat × Nat) × Nat
  | .nil, _, n => ([], n)
  | .snd a b p, f, n => ((true, f a, f b) :: (ask6 p f n).1, (ask6 p f n).2)
  | .rcv a x p, f, n => ((true, f a, n) :: (ask6 p (upd6 f x n) (n + 1)).1, (ask6 p (upd6 f x n) (n + 1)).2)
  | .tau p, f, n => ask6 p f n
  | .sum p q, f, n => ((ask6 p f n).1 ++ (ask6 q f (ask6 p f n).2).1, (ask6 q f (ask6 p f n).2).2)
  | .par p q, f, n => ((ask6 p f n).1 ++ (ask6 q f (ask6 p f n).2).1, (ask6 q f (ask6 p f n).2).2)
  | .own x p, f, n => ask6 p (upd6 f x n) (n + 1)
  | .mat a b p, f, n => ((false, f a, f b) :: (ask6 p f n).1, (ask6 p f n).2)
  | .rep p, f, n => ask6 p f n
theorem ask6_next : ∀ (t : Tm) (f : UInt8 → Nat) (n : Nat), n ≤ (ask6 t f n).2 ∧ (ask6 t f n).2 ≤ n + t.size
  | .nil, _, n => ⟨Nat.le_refl _, Nat.le_add_right _ _⟩
  | .snd a b p, f, n => by have := ask6_next p f n; simp only [ask6, Tm.size]; omega
  | .rcv a x p, f, n => by have := ask6_next p (upd6 f x n) (n + 1); simp only [ask6, Tm.size]; omega
  | .tau p, f, n => by have := ask6_next p f n; simp only [ask6, Tm.size]; omega
  | .sum p q, f, n => by have h1 := ask6_next p f n; have h2 := ask6_next q f (ask6 p f n).2; simp only [ask6, Tm.size]; omega
  | .par p q, f, n => by have h1 := ask6_next p f n; have h2 := ask6_next q f (ask6 p f n).2; simp only [ask6, Tm.size]; omega
  | .own x p, f, n => by have := ask6_next p (upd6 f x n) (n + 1); simp only [ask6, Tm.size]; omega
  | .mat a b p, f, n => by have := ask6_next p f n; simp only [ask6, Tm.size]; omega
  | .rep p, f, n => by have := ask6_next p f n; simp only [ask6, Tm.size]; omega
theorem ask6_lt : ∀ (t : Tm) (f : UInt8 → Nat) (n : Nat), (∀ c, c ∈ t.free → f c < n) → ∀ e ∈ (ask6 t f n).1, e.2.1 < (ask6 t f n).2 ∧ e.2.2 < (ask6 t f n).2 := by
  intro t
  induction t with
  | nil => intro f n _ e he; simp [ask6] at he
  | tau p ih => intro f n h; exact ih f n fun c hc => h c ((mf_tau _ _).2 hc)
  | rep p ih => intro f n h; exact ih f n fun c hc => h c ((mf_rep _ _).2 hc)
  | snd a b p ih =>
    intro f n h e he
    have hn := ask6_next p f n
    simp only [ask6, List.mem_cons] at he ⊢
    rcases he with rfl | he
    · have h1 := h a (by simp [mf_snd]); have h2 := h b (by simp [mf_snd]); exact ⟨by simp only []; omega, by simp only []; omega⟩
    · exact ih f n (fun c hc => h c (by simp [mf_snd, hc])) e he
  | mat a b p ih =>
    intro f n h e he
    have hn := ask6_next p f n
    simp only [ask6, List.mem_cons] at he ⊢
    rcases he with rfl | he
    · have h1 := h a (by simp [mf_mat]); have h2 := h b (by simp [mf_mat]); exact ⟨by simp only []; omega, by simp only []; omega⟩
    · exact ih f n (fun c hc => h c (by simp [mf_mat, hc])) e he
  | rcv a x p ih =>
    intro f n h e he
    have hn := ask6_next p (upd6 f x n) (n + 1)
    simp only [ask6, List.mem_cons] at he ⊢
    rcases he with rfl | he
    · have h1 := h a (by simp [mf_rcv]); exact ⟨by simp only []; omega, by simp only []; omega⟩
    · refine ih (upd6 f x n) (n + 1) (fun c hc => ?_) e he
      unfold upd6
      split
      · omega
      · rename_i hx; have := h c (by simp [mf_rcv, hc, hx]); omega
  | own x p ih =>
    intro f n h e he
    refine ih (upd6 f x n) (n + 1) (fun c hc => ?_) e he
    unfold upd6
    split
    · omega
    · rename_i hx; have := h c (by simp [mf_own, hc, hx]); omega
  | sum p q ih ih2 =>
    intro f n h e he
    have hn := ask6_next p f n
    have hn2 := ask6_next q f (ask6 p f n).2
    simp only [ask6, List.mem_append] at he ⊢
    rcases he with he | he
    · have := ih f n (fun c hc => h c (by simp [mf_sum, hc])) e he; omega
    · exact ih2 f _ (fun c hc => by have := h c (by simp [mf_sum, hc]); omega) e he
  | par p q ih ih2 =>
    intro f n h e he
    have hn := ask6_next p f n
    have hn2 := ask6_next q f (ask6 p f n).2
    simp only [ask6, List.mem_append] at he ⊢
    rcases he with he | he
    · have := ih f n (fun c hc => h c (by simp [mf_par, hc])) e he; omega
    · exact ih2 f _ (fun c hc => by have := h c (by simp [mf_par, hc]); omega) e he
/-- The same, and who carries, by a list of askings. -/
def S6 (l : List (Bool × Nat × Nat)) (i j : Nat) : Prop := (false, i, j) ∈ l
def C6 (l : List (Bool × Nat × Nat)) (i j : Nat) : Prop := (true, i, j) ∈ l
theorem S6_same (l : List (Bool × Nat × Nat)) (a b : Nat) : S6 (l ++ [(false, a, b)]) = fun i j => S6 l i j ∨ (i = a ∧ j = b) := by
  funext i j; simp [S6]
theorem C6_same (l : List (Bool × Nat × Nat)) (a b : Nat) : C6 (l ++ [(false, a, b)]) = C6 l := by
  funext i j; simp [C6]
theorem C6_carry (l : List (Bool × Nat × Nat)) (a b : Nat) : C6 (l ++ [(true, a, b)]) = fun i j => C6 l i j ∨ (i = a ∧ j = b) := by
  funext i j; simp [C6]
theorem S6_carry (l : List (Bool × Nat × Nat)) (a b : Nat) : S6 (l ++ [(true, a, b)]) = S6 l := by
  funext i j; simp [S6]
theorem S6_nil : S6 [] = fun _ _ => False := by funext i j; simp [S6]
theorem C6_nil : C6 [] = fun _ _ => False := by funext i j; simp [C6]
end Go.Proofs.Ytdfelpahacmdpab.T1
