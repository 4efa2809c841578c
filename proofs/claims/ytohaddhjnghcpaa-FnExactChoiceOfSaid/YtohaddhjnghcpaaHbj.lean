/- Texts of the proof, put together: Cdj. No conditions. -/
import Derived.Test.YtohaddhjnghcpaaHad

/- The trees of chapter 7's codings: plain lemmas. No conditions. -/
namespace Go.Proofs.Ytohaddhjnghcpaa.T1

def truthC (x y a told : UInt8) : Tm := .rep (recvC a [x, y] (.snd told told .nil))
def testC (x y z a : UInt8) (p q : Tm) : Tm := .own x (.own y (.par (sendC a [x, y] .nil) (.par (.rcv x z p) (.rcv y z q))))
def notC (x y a b : UInt8) : Tm := .rep (recvC a [x, y] (sendC b [y, x] .nil))
def bothC (x y u z b c : UInt8) : Tm := .own u (.par (sendC b [u, y] .nil) (.rcv u z (sendC c [x, y] .nil)))
def andC (x y u z a b c : UInt8) : Tm := .rep (recvC a [x, y] (bothC x y u z b c))
def forwC (x a b : UInt8) : Tm := .rep (.rcv a x (.snd b x .nil))
def choiceC (s z : UInt8) (p q : Tm) : Tm := .own s (.par (.snd s s .nil) (.par (.rcv s z p) (.rcv s z q)))
def cellC (a x v : UInt8) (p : Tm) : Tm := .rcv a x (.par (.snd a v .nil) p)

theorem fresh_few {l m : List UInt8} (h : ∀ x ∈ l, x ∈ m) (hm : m.length ≤ 25) : nmL (fresh l) = true := by
  refine fresh_some fun h0 => ?_
  have h1 := oth_len m
  cases ho : othL m with
  | nil => rw [ho] at h1; simp at h1; omega
  | cons c r =>
    have h2 := (mem_oth m c).1 (by rw [ho]; simp)
    have h3 := (mem_oth l c).2 ⟨h2.1, fun hc => h2.2 (h c hc)⟩
    rw [h0] at h3; cases h3
theorem mem_bn (l : List UInt8) (z : UInt8) : z ∈ bothL [] l ↔ z ∈ l := by rw [mem_bothL]; simp
theorem mem_snds (w : UInt8) (l : List UInt8) (p : Tm) (z : UInt8) : z ∈ (snds w l p).free → z = w ∨ z ∈ l ∨ z ∈ p.free := by
  induction l with
  | nil => intro h; exact .inr (.inr h)
  | cons b l ih => simp only [snds, Tm.free, mem_addL, mem_bn, List.mem_cons]; grind
theorem mem_sendW (w a : UInt8) (l : List UInt8) (p : Tm) (z : UInt8) : z ∈ (sendW w a l p).free → z = a ∨ z ∈ l ∨ z ∈ p.free := by
  have := mem_snds w l p z
  simp only [sendW, Tm.free, mem_addL, mem_lessL, mem_bn]; grind
/-- A link is a letter where few names are taken. -/
theorem link_few (a : UInt8) (l : List UInt8) (p : Tm) (m : List UInt8) (h : ∀ x, x = a ∨ x ∈ l ∨ x ∈ p.free → x ∈ m) (hm : m.length ≤ 25) : nmL (linkN a l p) = true :=
  fresh_few (fun x hx => h x (by simpa using hx)) hm
theorem link_nil (a b c : UInt8) : nmL (linkN a [b, c] .nil) = true :=
  link_few a [b, c] .nil [a, b, c] (fun x h => by simpa [Tm.free] using h) (by simp)
theorem link_truth (a x y t : UInt8) : nmL (linkN a [x, y] (.snd t t .nil)) = true :=
  link_few a [x, y] _ [a, x, y, t] (fun z h => by simp only [Tm.free, mem_addL, mem_bn] at h; simp at h ⊢; grind) (by simp)
theorem link_not (a b x y : UInt8) : nmL (linkN a [x, y] (sendC b [y, x] .nil)) = true :=
  link_few a [x, y] _ [a, x, y, b] (fun z h => by have := mem_sendW (linkN b [y, x] .nil) b [y, x] .nil z; unfold sendC at h; simp [Tm.free] at h this ⊢; grind) (by simp)
theorem link_and (x y u z a b c : UInt8) : nmL (linkN a [x, y] (bothC x y u z b c)) = true :=
  link_few a [x, y] _ [a, x, y, b, c, u] (fun v h => by
    have h1 := mem_sendW (linkN b [u, y] .nil) b [u, y] .nil v
    have h2 := mem_sendW (linkN c [x, y] .nil) c [x, y] .nil v
    unfold bothC sendC at h
    simp only [Tm.free, mem_addL, mem_lessL, mem_bothL] at h h1 h2
    simp at h h1 h2 ⊢; grind) (by simp)

theorem nm2 {x y : UInt8} {nm : UInt8 → Bool} (hx : nm x = true) (hy : nm y = true) : ∀ c ∈ [x, y], nm c = true := by simp [hx, hy]
theorem sendC_okL {a : UInt8} {l : List UInt8} {p : Tm} (hw : nmL (linkN a l p) = true) (ha : nmL a = true) (hl : ∀ c ∈ l, nmL c = true) (hp : p.ok nmL = true) : (sendC a l p).ok nmL = true := sendW_ok hw ha hl hp
theorem recvC_okL {a : UInt8} {l : List UInt8} {p : Tm} (hw : nmL (linkN a l p) = true) (ha : nmL a = true) (hl : ∀ c ∈ l, nmL c = true) (hp : p.ok nmL = true) : (recvC a l p).ok nmL = true := recvW_ok hw ha hl hp
theorem truthC_ok {x y a t : UInt8} (hx : nmL x = true) (hy : nmL y = true) (ha : nmL a = true) (ht : nmL t = true) : (truthC x y a t).ok nmL = true :=
  recvC_okL (link_truth a x y t) ha (nm2 hx hy) (by simp [Tm.ok, ht])
theorem notC_ok {x y a b : UInt8} (hx : nmL x = true) (hy : nmL y = true) (ha : nmL a = true) (hb : nmL b = true) : (notC x y a b).ok nmL = true :=
  recvC_okL (link_not a b x y) ha (nm2 hx hy) (sendC_okL (link_nil b y x) hb (nm2 hy hx) rfl)
theorem bothC_ok {x y u z b c : UInt8} (hx : nmL x = true) (hy : nmL y = true) (hu : nmL u = true) (hz : nmL z = true) (hb : nmL b = true) (hc : nmL c = true) : (bothC x y u z b c).ok nmL = true := by
  simp only [bothC, Tm.ok, hu, hz, sendC_okL (link_nil b u y) hb (nm2 hu hy) rfl, sendC_okL (link_nil c x y) hc (nm2 hx hy) rfl, Bool.and_self]
theorem andC_ok {x y u z a b c : UInt8} (hx : nmL x = true) (hy : nmL y = true) (hu : nmL u = true) (hz : nmL z = true) (ha : nmL a = true) (hb : nmL b = true) (hc : nmL c = true) : (andC x y u z a b c).ok nmL = true :=
  recvC_okL (link_and x y u z a b c) ha (nm2 hx hy) (bothC_ok hx hy hu hz hb hc)
theorem testC_okE {x y z a : UInt8} {p q : Tm} (hx : nmE x = true) (hy : nmE y = true) (hz : nmE z = true) (ha : nmE a = true) (hp : p.ok nmE = true) (hq : q.ok nmE = true) : (testC x y z a p q).ok nmE = true := by
  simp only [testC, Tm.ok, hx, hy, hz, hp, hq, sendC_okE (p := .nil) ha (nm2 hx hy) rfl, Bool.and_self]
theorem testC_okL {x y z a : UInt8} {p q : Tm} (hx : nmL x = true) (hy : nmL y = true) (hz : nmL z = true) (ha : nmL a = true) (hp : p.ok nmL = true) (hq : q.ok nmL = true) : (testC x y z a p q).ok nmL = true := by
  simp only [testC, Tm.ok, hx, hy, hz, hp, hq, sendC_okL (link_nil a x y) ha (nm2 hx hy) rfl, Bool.and_self]
theorem testC_no {x y z a : UInt8} {p q : Tm} {c : UInt8} (h : c ∈ [x, y, z]) (hc : nmL c = false) : (testC x y z a p q).ok nmL = false := by
  simp at h
  rcases h with rfl | rfl | rfl <;> simp [testC, Tm.ok, hc]
theorem choiceC_ok (nm : UInt8 → Bool) (s z : UInt8) (p q : Tm) : (choiceC s z p q).ok nm = (nm s && nm z && (p.ok nm && q.ok nm)) := by
  simp only [choiceC, Tm.ok]; cases nm s <;> cases nm z <;> simp
theorem cellC_ok (nm : UInt8 → Bool) (a x v : UInt8) (p : Tm) : (cellC a x v p).ok nm = (nm a && nm x && nm v && p.ok nm) := by
  simp only [cellC, Tm.ok]; cases nm a <;> cases nm x <;> cases nm v <;> simp
theorem forwC_ok (nm : UInt8 → Bool) (x a b : UInt8) : (forwC x a b).ok nm = (nm a && nm x && nm b) := by
  simp only [forwC, Tm.ok]; cases nm a <;> cases nm x <;> cases nm b <;> simp

/-- The first letters of those that the program holds as not taken. -/
theorem frs_of {L l : List UInt8} (n : Nat) (h : ∀ x, x ∈ L ↔ x ∈ l) (hn : n ≤ (othL L).length) : (othL L).take n = frs n l := by
  rw [oth_ext h] at hn ⊢
  exact (frs_take n l hn).symm
theorem oth_few {L m : List UInt8} (h : ∀ x ∈ L, x ∈ m) (n : Nat) (hm : m.length + n ≤ 26) : n ≤ (othL L).length := by
  have h1 := oth_len m
  have h2 : (othL m).length ≤ (othL L).length := by
    have hs : ∀ x ∈ othL m, x ∈ othL L := fun x hx => (mem_oth _ _).2 ⟨((mem_oth _ _).1 hx).1, fun hL => ((mem_oth _ _).1 hx).2 (h x hL)⟩
    have e : (othL m) = (othL L).filter fun x => decide (x ∈ othL m) := by
      refine srt_ext (othL_srt _) (List.Pairwise.filter _ (othL_srt L)) fun x => ?_
      rw [List.mem_filter]; simp; exact hs x
    rw [e]; exact List.length_filter_le _ _
  omega
theorem frs_nm (n : Nat) (l : List UInt8) (h : n ≤ (othL l).length) : ∀ c ∈ frs n l, nmL c = true := by
  rw [frs_take n l h]
  intro c hc
  exact (nmL_iff c).2 ((mem_oth l c).1 (List.mem_of_mem_take hc)).1
end Go.Proofs.Ytohaddhjnghcpaa.T1
