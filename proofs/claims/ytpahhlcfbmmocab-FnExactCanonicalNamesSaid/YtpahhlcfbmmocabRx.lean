/- A free name renamed, with no capture: in the program, for every process. -/
import Derived.Test.YtpahhlcfbmmocabRr
import Derived.Test.YtpahhlcfbmmocabLs
import Derived.Test.YtpahhlcfbmmocabCn
namespace Go.Proofs.Ytpahhlcfbmmocab.T1
open Go.RowKit
set_option maxRecDepth 100000
set_option linter.unusedVariables false

theorem cf_r1 (args : Array Value) (w : World) : (callFunc 82 args).run Try.prog w = .ok (.enter 82 args) w := by kernel_rfl
set_option maxHeartbeats 1000000 in
theorem r1_yes (o m : Int) (ao am : Nat) (w : World) (h1 : w.cell? ⟨ao, 0, none⟩ = some (.int .u8 o)) (h2 : w.cell? ⟨am, 0, none⟩ = some (.int .u8 m)) :
    Calls Try.prog 82 #[.int .u8 o, .pointer (some ⟨ao, 0, none⟩), .pointer (some ⟨am, 0, none⟩)] w fun e w' => e = .returned (.int .u8 m) ∧ w = w' := by
  go_enter Try.func82, Try.ntmps82
  go_wp2_with fail
  go_ret
  exact ⟨rfl, rfl⟩
set_option maxHeartbeats 1000000 in
theorem r1_no (c o m : Int) (ao am : Nat) (w : World) (hne : (c == o) = false) (h1 : w.cell? ⟨ao, 0, none⟩ = some (.int .u8 o)) (h2 : w.cell? ⟨am, 0, none⟩ = some (.int .u8 m)) :
    Calls Try.prog 82 #[.int .u8 c, .pointer (some ⟨ao, 0, none⟩), .pointer (some ⟨am, 0, none⟩)] w fun e w' => e = .returned (.int .u8 c) ∧ w = w' := by
  go_enter Try.func82, Try.ntmps82
  go_wp2_with fail
  go_ret
  exact ⟨rfl, rfl⟩
theorem u8_beq (a b : UInt8) : (((a.toNat : Nat) : Int) == ((b.toNat : Nat) : Int)) = decide (a = b) := by
  rw [Bool.eq_iff_iff, decide_eq_true_iff, beq_iff_eq]
  exact ⟨fun h => u8_ext (by omega), fun h => by rw [h]⟩
theorem u8_bne (a b : UInt8) : (((a.toNat : Nat) : Int) != ((b.toNat : Nat) : Int)) = !decide (a = b) := by rw [bne, u8_beq]
theorem r1_any (c o m : UInt8) (ao am : Nat) (w : World) (h1 : w.cell? ⟨ao, 0, none⟩ = some (.int .u8 (o.toNat : Int))) (h2 : w.cell? ⟨am, 0, none⟩ = some (.int .u8 (m.toNat : Int))) :
    Calls Try.prog 82 (#[.int .u8 (c.toNat : Int)] ++ #[.pointer (some ⟨ao, 0, none⟩), .pointer (some ⟨am, 0, none⟩)]) w fun e w' => e = .returned (.int .u8 ((sw c o m).toNat : Int)) ∧ w = w' := by
  unfold sw
  split
  · rename_i h; subst h; exact r1_yes _ _ ao am w h1 h2
  · rename_i h; exact r1_no _ _ _ ao am w (by rw [u8_beq]; exact decide_eq_false h) h1 h2
/-- The names in the sign itself renamed. -/
theorem wu_sw (t : Tm) (o m : UInt8) (ao am : Nat) (v : World) (h1 : v.cell? ⟨ao, 0, none⟩ = some (.int .u8 (o.toNat : Int))) (h2 : v.cell? ⟨am, 0, none⟩ = some (.int .u8 (m.toNat : Int))) :
    Calls Try.prog 80 #[.iface (tyOf t) (pay t), .func (.func 82) #[] #[.pointer (some ⟨ao, 0, none⟩), .pointer (some ⟨am, 0, none⟩)]] v fun e v' => e = .returned (.iface (tyOf (t.mapU fun c => sw c o m)) (pay (t.mapU fun c => sw c o m))) ∧ Below v.heap.size v v' :=
  withUsed_any t 82 _ (fun c => sw c o m) cf_r1 v fun c _ v1 b1 =>
    r1_any c o m ao am v1 ((b1.cell (p := ⟨ao, 0, none⟩) (lt_cell h1)).trans h1) ((b1.cell (p := ⟨am, 0, none⟩) (lt_cell h2)).trans h2)

theorem has_free (t : Tm) (ho : t.ok nmL = true) (o : UInt8) (hn : nmL o = true) : ∀ w, Calls Try.prog 74 #[.int .u32 (setN t.free : Nat), .int .u8 (o.toNat : Int)] w fun e w' => e = .returned (.bool (decide (o ∈ t.free))) ∧ w = w' := by
  intro w
  have h := (nmL_iff o).1 hn
  have h1 := has_any (setN t.free) o.toNat (setN_lt32 _ (lets_free t ho)) h.1 h.2 w
  have e : (setN t.free).testBit (o.toNat - 97) = decide (o ∈ t.free) := by
    rw [Bool.eq_iff_iff, decide_eq_true_iff, setN_bit _ (lets_free t ho)]
    exact ⟨fun ⟨c, hc, e⟩ => by rw [← u8_ext (show c.toNat = o.toNat by omega)]; exact hc, fun hc => ⟨o, hc, by omega⟩⟩
  rw [e] at h1
  exact h1
theorem flip_oth (l : List UInt8) (h : Lets l) : lets (flip32 (setN l)) 26 = othL l := by
  have h26 : lets (flip32 (setN l)) 26 = ((List.range 26).filter fun i => (flip32 (setN l)).testBit i).map fun i => UInt8.ofNat (97 + i) := rfl
  unfold othL
  rw [h26, List.filter_map]
  congr 1
  refine List.filter_congr fun i hi => ?_
  rw [List.mem_range] at hi
  rw [flip_bit _ i (by omega)]
  show (!(setN l).testBit i) = decide (UInt8.ofNat (97 + i) ∉ l)
  rw [decide_not]
  congr 1
  rw [Bool.eq_iff_iff, decide_eq_true_iff, setN_bit l h]
  exact ⟨fun ⟨c, hc, e⟩ => by rw [show UInt8.ofNat (97 + i) = c from u8_ext (by rw [UInt8.toNat_ofNat']; omega)]; exact hc, fun hc => ⟨_, hc, by rw [UInt8.toNat_ofNat']; omega⟩⟩
theorem others_set (l : List UInt8) (h : Lets l) (w : World) : Calls Try.prog 50 #[.int .u32 (setN l : Nat)] w fun e w' => ∃ v, e = .returned v ∧ w'.ownsRow w.heap.size 5 1 v (othL l).length ((othL l).map ub) ∧ Below w.heap.size w w' := by
  have := others_any (setN l) (setN_lt32 l h) w
  rw [flip_oth l h] at this
  exact this
theorem others_nil (l : List UInt8) (h : Lets l) (he : othL l = []) (w : World) : Calls Try.prog 50 #[.int .u32 (setN l : Nat)] w fun e w' => ∃ v xs, e = .returned v ∧ w'.ownsRow w.heap.size 5 1 v 0 xs ∧ Below w.heap.size w w' := by
  have := others_set l h w
  rw [he] at this
  exact this.mono fun e w' ⟨v, h1, h2, h3⟩ => ⟨v, _, h1, h2, h3⟩
theorem others_cons (l : List UInt8) (h : Lets l) (y : UInt8) (r : List UInt8) (he : othL l = y :: r) (w : World) : Calls Try.prog 50 #[.int .u32 (setN l : Nat)] w fun e w' => ∃ g n cap, e = .returned (.slice (some ⟨g, 0, none⟩) (n + 1) cap) ∧ w.heap.size ≤ g ∧ w'.cell? ⟨g, 0, none⟩ = some (.int .u8 (y.toNat : Int)) ∧ Below w.heap.size w w' := by
  have := others_set l h w
  rw [he] at this
  refine this.mono fun e w' ⟨v, h1, h2, h3⟩ => ?_
  rcases h2.2 with ⟨rfl, h4⟩ | ⟨g, cap, cur, rfl, h4, _⟩
  · simp at h4
  · exact ⟨g, r.length, cap, h1, h4, by rw [h2.cellAt 0 (by simp)]; rfl, h3⟩
theorem with_set (l : List UInt8) (h : Lets l) (m : UInt8) (hm : nmL m = true) : ∀ w, Calls Try.prog 38 #[.int .u32 (setN l : Nat), .int .u8 (m.toNat : Int)] w fun e w' => e = .returned (.int .u32 (setN (addL l m) : Nat)) ∧ w = w' := by
  intro w
  have hm' := (nmL_iff m).1 hm
  rw [setN_addL h hm']
  exact with_any (setN l) m.toNat (setN_lt32 l h) hm'.1 hm'.2 w

/-- The renamed process, if it is one. -/
def renO (t : Tm) (o m : UInt8) : Option Tm := if (R t o m).ok nmL = true then some (R t o m) else none
theorem sub_some {t : Tm} {F : FuncId} {args : Array Value} (h : ∀ w, Calls Try.prog F args w (SubPost (some t) w)) : ∀ w, Calls Try.prog F args w fun e w' => e = .returned (.tuple #[.iface (tyOf t) (pay t), .bool true]) ∧ Below w.heap.size w w' := fun w =>
  (h w).mono fun e w' hh => by
    rcases hh with ⟨⟨p, h1, h2⟩ | ⟨h1, _⟩, h3⟩
    · cases h1; exact ⟨h2, h3⟩
    · cases h1
theorem sub_none {F : FuncId} {args : Array Value} (h : ∀ w, Calls Try.prog F args w (SubPost none w)) : ∀ w, Calls Try.prog F args w fun e w' => e = .returned (.tuple #[.nilIface, .bool false]) ∧ Below w.heap.size w w' := fun w =>
  (h w).mono fun e w' hh => by
    rcases hh with ⟨⟨p, h1, _⟩ | ⟨_, h2⟩, h3⟩
    · cases h1
    · exact ⟨h2, h3⟩
theorem capX_fresh {p : Tm} {x o m : UInt8} (hc : x = m ∧ o ∈ p.free) : capX p x o m = fresh (addL p.free m) := by
  unfold capX
  rw [if_pos hc]
  have : addL p.free o = p.free := srt_ext (srt_addL (srt_free p) o) (srt_free p) fun z => by rw [mem_addL]; constructor; (rintro (h | rfl); exact h; exact hc.2); exact .inl
  show fresh (addL (addL p.free o) m) = _
  rw [this]

/-- What is left of a sign behind the look for a capture. -/
theorem wc_any_rcv (a : UInt8) (x o m : UInt8) (p : Tm) (ho : ((.rcv a x p) : Tm).ok nmL = true) (hx : nmL x = true) (hp : p.ok nmL = true) (hon : nmL o = true) (hm : nmL m = true)
    (IH : ∀ y, nmL y = true → ∀ w, Calls Try.prog 44 #[.iface (tyOf p) (pay p), .int .u8 (m.toNat : Int), .int .u8 (y.toNat : Int)] w (SubPost (renO p m y) w)) (w : World) :
    Calls Try.prog 79 #[.iface (tyOf (.rcv a x p)) (pay (.rcv a x p)), .int .u8 (o.toNat : Int), .int .u8 (m.toNat : Int)] w
      (SubPost (if x = m ∧ o ∈ p.free then (if nmL (capX p x o m) = true ∧ (R p x (capX p x o m)).ok nmL = true then some (.rcv a (capX p x o m) (R p x (capX p x o m))) else none) else some (.rcv a x p)) w) := by
  have hB := binderOf_any (.rcv a x p)
  by_cases hxm : x = m
  · subst hxm
    have hPF := (parts_fact (.rcv a x p)).pf
    have hF := freeNames_any p hp
    have hH := has_free p hp o hon
    by_cases hf : o ∈ p.free
    · have hc : x = x ∧ o ∈ p.free := ⟨rfl, hf⟩
      rw [if_pos hc, capX_fresh hc]
      rw [decide_eq_true hf] at hH
      have hW := with_set p.free (lets_free p hp) x hx
      have hl : Lets (addL p.free x) := lets_addL (lets_free p hp) ((nmL_iff x).1 hx)
      rcases fresh_oth (addL p.free x) with ⟨y, r, h1, h2, h3⟩ | ⟨h1, h2⟩
      · have hy : nmL y = true := by rw [nmL_iff]; exact ((mem_oth _ y).1 (by rw [h1]; simp)).1
        rw [h2]
        have hO := others_cons _ hl y r h1
        have hI := IH y hy
        by_cases hok : (R p x y).ok nmL = true
        · rw [if_pos ⟨hy, hok⟩]
          have hr : renO p x y = some (R p x y) := by unfold renO; rw [if_pos hok]
          rw [hr] at hI
          exact (wc_ok _ _ _ _ _ _ _ hPF hB hF _ hH hW _ hO _ _ (sub_some hI) _ _ _ _ (fun bk w hc => withP_one (.rcv a x p) p (R p x y) rfl bk 1 w (by omega) hc) (wb_receive _ _ _ _ _) w).mono fun _ _ h => SubPost.yes rfl h
        · rw [if_neg (fun h => hok h.2)]
          have hr : renO p x y = none := by unfold renO; rw [if_neg hok]
          rw [hr] at hI
          exact (wc_fail _ _ _ _ _ _ _ hPF hB hF _ hH hW _ hO (sub_none hI) w).mono fun _ _ h => SubPost.no rfl h
      · rw [if_neg (fun h => by have := (nmL_iff _).1 h.1; omega)]
        exact (wc_none _ _ _ _ _ _ _ hPF hB hF _ hH hW (others_nil _ hl h1) w).mono fun _ _ h => SubPost.no rfl h
    · rw [if_neg (fun h => hf h.2)]
      rw [decide_eq_false hf] at hH
      exact (wc_nofree _ _ _ _ _ _ _ hPF hB hF hH w).mono fun _ _ h => SubPost.yes rfl h
  · rw [if_neg (fun h => hxm h.1)]
    exact (wc_other _ _ _ _ _ (by rw [u8_bne]; simp [hxm]) hB w).mono fun _ _ h => SubPost.yes rfl h

/-- What is left of a sign behind the look for a capture. -/
theorem wc_any_own (x o m : UInt8) (p : Tm) (ho : ((.own x p) : Tm).ok nmL = true) (hx : nmL x = true) (hp : p.ok nmL = true) (hon : nmL o = true) (hm : nmL m = true)
    (IH : ∀ y, nmL y = true → ∀ w, Calls Try.prog 44 #[.iface (tyOf p) (pay p), .int .u8 (m.toNat : Int), .int .u8 (y.toNat : Int)] w (SubPost (renO p m y) w)) (w : World) :
    Calls Try.prog 79 #[.iface (tyOf (.own x p)) (pay (.own x p)), .int .u8 (o.toNat : Int), .int .u8 (m.toNat : Int)] w
      (SubPost (if x = m ∧ o ∈ p.free then (if nmL (capX p x o m) = true ∧ (R p x (capX p x o m)).ok nmL = true then some (.own (capX p x o m) (R p x (capX p x o m))) else none) else some (.own x p)) w) := by
  have hB := binderOf_any (.own x p)
  by_cases hxm : x = m
  · subst hxm
    have hPF := (parts_fact (.own x p)).pf
    have hF := freeNames_any p hp
    have hH := has_free p hp o hon
    by_cases hf : o ∈ p.free
    · have hc : x = x ∧ o ∈ p.free := ⟨rfl, hf⟩
      rw [if_pos hc, capX_fresh hc]
      rw [decide_eq_true hf] at hH
      have hW := with_set p.free (lets_free p hp) x hx
      have hl : Lets (addL p.free x) := lets_addL (lets_free p hp) ((nmL_iff x).1 hx)
      rcases fresh_oth (addL p.free x) with ⟨y, r, h1, h2, h3⟩ | ⟨h1, h2⟩
      · have hy : nmL y = true := by rw [nmL_iff]; exact ((mem_oth _ y).1 (by rw [h1]; simp)).1
        rw [h2]
        have hO := others_cons _ hl y r h1
        have hI := IH y hy
        by_cases hok : (R p x y).ok nmL = true
        · rw [if_pos ⟨hy, hok⟩]
          have hr : renO p x y = some (R p x y) := by unfold renO; rw [if_pos hok]
          rw [hr] at hI
          exact (wc_ok _ _ _ _ _ _ _ hPF hB hF _ hH hW _ hO _ _ (sub_some hI) _ _ _ _ (fun bk w hc => withP_one (.own x p) p (R p x y) rfl bk 1 w (by omega) hc) (wb_own _ _ _ _) w).mono fun _ _ h => SubPost.yes rfl h
        · rw [if_neg (fun h => hok h.2)]
          have hr : renO p x y = none := by unfold renO; rw [if_neg hok]
          rw [hr] at hI
          exact (wc_fail _ _ _ _ _ _ _ hPF hB hF _ hH hW _ hO (sub_none hI) w).mono fun _ _ h => SubPost.no rfl h
      · rw [if_neg (fun h => by have := (nmL_iff _).1 h.1; omega)]
        exact (wc_none _ _ _ _ _ _ _ hPF hB hF _ hH hW (others_nil _ hl h1) w).mono fun _ _ h => SubPost.no rfl h
    · rw [if_neg (fun h => hf h.2)]
      rw [decide_eq_false hf] at hH
      exact (wc_nofree _ _ _ _ _ _ _ hPF hB hF hH w).mono fun _ _ h => SubPost.yes rfl h
  · rw [if_neg (fun h => hxm h.1)]
    exact (wc_other _ _ _ _ _ (by rw [u8_bne]; simp [hxm]) hB w).mono fun _ _ h => SubPost.yes rfl h

theorem R_rev {t : Tm} {o m : UInt8} (ho : nmL o = true) (hm : nmL m = true) (h : (R t o m).ok nmL = true) : t.ok nmL = true := ren_rev _ _ _ _ ho hm h
set_option maxHeartbeats 1600000 in
theorem rx_rcv (n : Nat) (ih : ∀ (t : Tm) (o m : UInt8), t.size ≤ n → t.ok nmL = true → nmL o = true → nmL m = true → ∀ w, Calls Try.prog 44 #[.iface (tyOf t) (pay t), .int .u8 (o.toNat : Int), .int .u8 (m.toNat : Int)] w (SubPost (renO t o m) w))
    (a : UInt8) (x : UInt8) (p : Tm) (o m : UInt8) (hn : p.size ≤ n) (ht : ((.rcv a x p) : Tm).ok nmL = true) (ho : nmL o = true) (hm : nmL m = true) (hq : (((o.toNat : Nat) : Int) == ((m.toNat : Nat) : Int)) = false) (hne : ¬ (o = m ∨ o ∉ ((.rcv a x p) : Tm).free))
    (hF : ∀ w, Calls Try.prog 49 #[.iface (tyOf (.rcv a x p)) (pay (.rcv a x p))] w fun e w' => e = .returned (.int .u32 (setN (Tm.free (.rcv a x p)) : Nat)) ∧ Below w.heap.size w w') (hH : ∀ w, Calls Try.prog 74 #[.int .u32 (setN (Tm.free (.rcv a x p)) : Nat), .int .u8 (o.toNat : Int)] w fun e w' => e = .returned (.bool true) ∧ w = w') (w : World) :
    Calls Try.prog 44 #[.iface (tyOf (.rcv a x p)) (pay (.rcv a x p)), .int .u8 (o.toNat : Int), .int .u8 (m.toNat : Int)] w (SubPost (renO (.rcv a x p) o m) w) := by
  have ht0 := ht
  simp only [Tm.ok, Bool.and_eq_true] at ht
  have hW := wc_any_rcv a x o m p ht0 ht.1.2 ht.2 ho hm (fun y hy => ih p m y hn ht.2 hm hy)
  have hRt : R (.rcv a x p) o m = .rcv (sw a o m) (capX p x o m) (RB p x o m) := R_rcv hne
  obtain ⟨P2, hP2⟩ : ∃ P2, P2 = if x = m ∧ o ∈ p.free then R p x (capX p x o m) else p := ⟨_, rfl⟩
  have hsz : P2.size ≤ n := by
    rw [hP2]; split
    · rw [R_size]; exact hn
    · exact hn
  have hRB : RB p x o m = if (capX p x o m) = o then P2 else R P2 o m := by unfold RB; rw [hP2]
  by_cases hbad : x = m ∧ o ∈ p.free ∧ ¬ (nmL (capX p x o m) = true ∧ (R p x (capX p x o m)).ok nmL = true)
  · have hr2 : renO (.rcv a x p) o m = none := by
      unfold renO; rw [hRt, if_neg]
      intro h
      simp only [Tm.ok, Bool.and_eq_true] at h
      refine hbad.2.2 ⟨h.1.2, ?_⟩
      have h3 := h.2
      rw [if_pos ⟨hbad.1, hbad.2.1⟩] at hP2
      rw [hRB, hP2] at h3
      split at h3
      · exact h3
      · exact R_rev ho hm h3
    have hW1 : ∀ w, Calls Try.prog 79 #[.iface (tyOf (.rcv a x p)) (pay (.rcv a x p)), .int .u8 (o.toNat : Int), .int .u8 (m.toNat : Int)] w (SubPost none w) := fun w => by
      have := hW w
      rw [if_pos ⟨hbad.1, hbad.2.1⟩, if_neg hbad.2.2] at this
      exact this
    exact (rf_wcfail _ _ _ _ _ hq w hF hH (sub_none hW1)).mono fun _ _ h => SubPost.no hr2 h
  · have hg : x = m ∧ o ∈ p.free → nmL (capX p x o m) = true ∧ (R p x (capX p x o m)).ok nmL = true := fun hc => Decidable.not_not.1 fun h => hbad ⟨hc.1, hc.2, h⟩
    have hXx : ¬ (x = m ∧ o ∈ p.free) → (capX p x o m) = x := fun hc => by unfold capX; rw [if_neg hc]
    have hW2 : ∀ w, Calls Try.prog 79 #[.iface (tyOf (.rcv a x p)) (pay (.rcv a x p)), .int .u8 (o.toNat : Int), .int .u8 (m.toNat : Int)] w (SubPost (some (.rcv a (capX p x o m) P2)) w) := fun w => by
      have hw := hW w
      by_cases hc : x = m ∧ o ∈ p.free
      · rw [if_pos hc, if_pos (hg hc)] at hw
        rw [if_pos hc] at hP2
        rw [hP2]; exact hw
      · rw [if_neg hc] at hw hP2
        rw [hP2, hXx hc]; exact hw
    have hX : nmL (capX p x o m) = true := by
      by_cases hc : x = m ∧ o ∈ p.free
      · exact (hg hc).1
      · rw [hXx hc]; exact ht.1.2
    have hok2 : P2.ok nmL = true := by
      rw [hP2]; split
      · rename_i hc; exact (hg hc).2
      · exact ht.2
    clear hP2 hbad hg hXx hW ht0
    obtain ⟨Y, hY⟩ : ∃ Y, Y = (capX p x o m) := ⟨_, rfl⟩
    rw [← hY] at hRt hRB hW2 hX
    clear hY
    have hB := binderOf_any (.rcv a Y P2)
    have hP := (parts_fact (.rcv a Y P2)).pf
    have hW3 := sub_some hW2
    by_cases hXo : Y = o
    · rw [if_pos hXo] at hRB
      have hr2 : renO (.rcv a x p) o m = some (Tm.mapU (fun c => sw c o m) (Tm.rcv a Y P2)) := by
        unfold renO; rw [hRt, hRB, if_pos (by simp only [Tm.ok, Bool.and_eq_true]; exact ⟨⟨sw_ok ht.1.1 hm, hX⟩, hok2⟩)]; rfl
      subst hXo
      exact (rf_skip _ _ _ _ _ hq _ _ _ _ _ _ _ _ (by simp) w hP hF hH hW3 hB (fun bk w hc => withP_one (.rcv a Y P2) P2 P2 rfl bk 1 w (by omega) hc) (fun v h1 h2 => wu_sw (Tm.rcv a Y P2) Y m _ _ v h1 h2)).mono fun _ _ h => SubPost.yes hr2 h
    · rw [if_neg hXo] at hRB
      have hI := ih P2 o m hsz hok2 ho hm
      by_cases hok : (R P2 o m).ok nmL = true
      · have hr : renO P2 o m = some (R P2 o m) := by unfold renO; rw [if_pos hok]
        rw [hr] at hI
        have hr2 : renO (.rcv a x p) o m = some (Tm.mapU (fun c => sw c o m) (Tm.rcv a Y (R P2 o m))) := by
          unfold renO; rw [hRt, hRB, if_pos (by simp only [Tm.ok, Bool.and_eq_true]; exact ⟨⟨sw_ok ht.1.1 hm, hX⟩, hok⟩)]; rfl
        obtain ⟨r, hr0⟩ : ∃ r, r = R P2 o m := ⟨_, rfl⟩
        rw [← hr0] at hI hr2
        exact (rf_oneB _ _ _ _ _ hq _ _ _ _ _ _ _ _ _ _ _ (by rw [u8_bne]; simp [hXo]) w hP hF hH hW3 hB (sub_some hI) (fun bk w hc => withP_one (.rcv a Y P2) P2 r rfl bk 1 w (by omega) hc) (fun v h1 h2 => wu_sw (Tm.rcv a Y r) o m _ _ v h1 h2)).mono fun _ _ h => SubPost.yes hr2 h
      · have hr : renO P2 o m = none := by unfold renO; rw [if_neg hok]
        rw [hr] at hI
        have hr2 : renO (.rcv a x p) o m = none := by
          unfold renO; rw [hRt, hRB, if_neg (fun h => by simp only [Tm.ok, Bool.and_eq_true] at h; exact hok h.2)]
        exact (rf_oneBF _ _ _ _ _ hq _ _ _ _ _ (by rw [u8_bne]; simp [hXo]) w hP hF hH hW3 hB (sub_none hI)).mono fun _ _ h => SubPost.no hr2 h
set_option maxHeartbeats 1600000 in
theorem rx_own (n : Nat) (ih : ∀ (t : Tm) (o m : UInt8), t.size ≤ n → t.ok nmL = true → nmL o = true → nmL m = true → ∀ w, Calls Try.prog 44 #[.iface (tyOf t) (pay t), .int .u8 (o.toNat : Int), .int .u8 (m.toNat : Int)] w (SubPost (renO t o m) w))
    (x : UInt8) (p : Tm) (o m : UInt8) (hn : p.size ≤ n) (ht : ((.own x p) : Tm).ok nmL = true) (ho : nmL o = true) (hm : nmL m = true) (hq : (((o.toNat : Nat) : Int) == ((m.toNat : Nat) : Int)) = false) (hne : ¬ (o = m ∨ o ∉ ((.own x p) : Tm).free))
    (hF : ∀ w, Calls Try.prog 49 #[.iface (tyOf (.own x p)) (pay (.own x p))] w fun e w' => e = .returned (.int .u32 (setN (Tm.free (.own x p)) : Nat)) ∧ Below w.heap.size w w') (hH : ∀ w, Calls Try.prog 74 #[.int .u32 (setN (Tm.free (.own x p)) : Nat), .int .u8 (o.toNat : Int)] w fun e w' => e = .returned (.bool true) ∧ w = w') (w : World) :
    Calls Try.prog 44 #[.iface (tyOf (.own x p)) (pay (.own x p)), .int .u8 (o.toNat : Int), .int .u8 (m.toNat : Int)] w (SubPost (renO (.own x p) o m) w) := by
  have ht0 := ht
  simp only [Tm.ok, Bool.and_eq_true] at ht
  have hW := wc_any_own x o m p ht0 ht.1 ht.2 ho hm (fun y hy => ih p m y hn ht.2 hm hy)
  have hRt : R (.own x p) o m = .own (capX p x o m) (RB p x o m) := R_own hne
  obtain ⟨P2, hP2⟩ : ∃ P2, P2 = if x = m ∧ o ∈ p.free then R p x (capX p x o m) else p := ⟨_, rfl⟩
  have hsz : P2.size ≤ n := by
    rw [hP2]; split
    · rw [R_size]; exact hn
    · exact hn
  have hRB : RB p x o m = if (capX p x o m) = o then P2 else R P2 o m := by unfold RB; rw [hP2]
  by_cases hbad : x = m ∧ o ∈ p.free ∧ ¬ (nmL (capX p x o m) = true ∧ (R p x (capX p x o m)).ok nmL = true)
  · have hr2 : renO (.own x p) o m = none := by
      unfold renO; rw [hRt, if_neg]
      intro h
      simp only [Tm.ok, Bool.and_eq_true] at h
      refine hbad.2.2 ⟨h.1, ?_⟩
      have h3 := h.2
      rw [if_pos ⟨hbad.1, hbad.2.1⟩] at hP2
      rw [hRB, hP2] at h3
      split at h3
      · exact h3
      · exact R_rev ho hm h3
    have hW1 : ∀ w, Calls Try.prog 79 #[.iface (tyOf (.own x p)) (pay (.own x p)), .int .u8 (o.toNat : Int), .int .u8 (m.toNat : Int)] w (SubPost none w) := fun w => by
      have := hW w
      rw [if_pos ⟨hbad.1, hbad.2.1⟩, if_neg hbad.2.2] at this
      exact this
    exact (rf_wcfail _ _ _ _ _ hq w hF hH (sub_none hW1)).mono fun _ _ h => SubPost.no hr2 h
  · have hg : x = m ∧ o ∈ p.free → nmL (capX p x o m) = true ∧ (R p x (capX p x o m)).ok nmL = true := fun hc => Decidable.not_not.1 fun h => hbad ⟨hc.1, hc.2, h⟩
    have hXx : ¬ (x = m ∧ o ∈ p.free) → (capX p x o m) = x := fun hc => by unfold capX; rw [if_neg hc]
    have hW2 : ∀ w, Calls Try.prog 79 #[.iface (tyOf (.own x p)) (pay (.own x p)), .int .u8 (o.toNat : Int), .int .u8 (m.toNat : Int)] w (SubPost (some (.own (capX p x o m) P2)) w) := fun w => by
      have hw := hW w
      by_cases hc : x = m ∧ o ∈ p.free
      · rw [if_pos hc, if_pos (hg hc)] at hw
        rw [if_pos hc] at hP2
        rw [hP2]; exact hw
      · rw [if_neg hc] at hw hP2
        rw [hP2, hXx hc]; exact hw
    have hX : nmL (capX p x o m) = true := by
      by_cases hc : x = m ∧ o ∈ p.free
      · exact (hg hc).1
      · rw [hXx hc]; exact ht.1
    have hok2 : P2.ok nmL = true := by
      rw [hP2]; split
      · rename_i hc; exact (hg hc).2
      · exact ht.2
    clear hP2 hbad hg hXx hW ht0
    obtain ⟨Y, hY⟩ : ∃ Y, Y = (capX p x o m) := ⟨_, rfl⟩
    rw [← hY] at hRt hRB hW2 hX
    clear hY
    have hB := binderOf_any (.own Y P2)
    have hP := (parts_fact (.own Y P2)).pf
    have hW3 := sub_some hW2
    by_cases hXo : Y = o
    · rw [if_pos hXo] at hRB
      have hr2 : renO (.own x p) o m = some (Tm.mapU (fun c => sw c o m) (Tm.own Y P2)) := by
        unfold renO; rw [hRt, hRB, if_pos (by simp only [Tm.ok, Bool.and_eq_true]; exact ⟨hX, hok2⟩)]; rfl
      subst hXo
      exact (rf_skip _ _ _ _ _ hq _ _ _ _ _ _ _ _ (by simp) w hP hF hH hW3 hB (fun bk w hc => withP_one (.own Y P2) P2 P2 rfl bk 1 w (by omega) hc) (fun v h1 h2 => wu_sw (Tm.own Y P2) Y m _ _ v h1 h2)).mono fun _ _ h => SubPost.yes hr2 h
    · rw [if_neg hXo] at hRB
      have hI := ih P2 o m hsz hok2 ho hm
      by_cases hok : (R P2 o m).ok nmL = true
      · have hr : renO P2 o m = some (R P2 o m) := by unfold renO; rw [if_pos hok]
        rw [hr] at hI
        have hr2 : renO (.own x p) o m = some (Tm.mapU (fun c => sw c o m) (Tm.own Y (R P2 o m))) := by
          unfold renO; rw [hRt, hRB, if_pos (by simp only [Tm.ok, Bool.and_eq_true]; exact ⟨hX, hok⟩)]; rfl
        obtain ⟨r, hr0⟩ : ∃ r, r = R P2 o m := ⟨_, rfl⟩
        rw [← hr0] at hI hr2
        exact (rf_oneB _ _ _ _ _ hq _ _ _ _ _ _ _ _ _ _ _ (by rw [u8_bne]; simp [hXo]) w hP hF hH hW3 hB (sub_some hI) (fun bk w hc => withP_one (.own Y P2) P2 r rfl bk 1 w (by omega) hc) (fun v h1 h2 => wu_sw (Tm.own Y r) o m _ _ v h1 h2)).mono fun _ _ h => SubPost.yes hr2 h
      · have hr : renO P2 o m = none := by unfold renO; rw [if_neg hok]
        rw [hr] at hI
        have hr2 : renO (.own x p) o m = none := by
          unfold renO; rw [hRt, hRB, if_neg (fun h => by simp only [Tm.ok, Bool.and_eq_true] at h; exact hok h.2)]
        exact (rf_oneBF _ _ _ _ _ hq _ _ _ _ _ (by rw [u8_bne]; simp [hXo]) w hP hF hH hW3 hB (sub_none hI)).mono fun _ _ h => SubPost.no hr2 h
set_option maxHeartbeats 8000000 in
theorem renameFree_any (n : Nat) : ∀ (t : Tm) (o m : UInt8), t.size ≤ n → t.ok nmL = true → nmL o = true → nmL m = true → ∀ w, Calls Try.prog 44 #[.iface (tyOf t) (pay t), .int .u8 (o.toNat : Int), .int .u8 (m.toNat : Int)] w (SubPost (renO t o m) w) := by
  induction n with
  | zero => intro t o m h; have := size_pos t; omega
  | succ n ih =>
    intro t o m hn ht ho hm w
    by_cases e : o = m
    · subst e
      have hr : renO t o o = some t := by unfold renO; rw [R_same _ _ _ (.inl rfl), if_pos ht]
      exact (rf_same _ _ _ w).mono fun _ _ h => SubPost.yes hr h
    have hq : (((o.toNat : Nat) : Int) == ((m.toNat : Nat) : Int)) = false := by rw [u8_beq]; exact decide_eq_false e
    have hF := freeNames_any t ht
    have hH := has_free t ht o ho
    by_cases hf : o ∈ t.free
    case neg =>
      rw [decide_eq_false hf] at hH
      have hr : renO t o m = some t := by unfold renO; rw [R_same _ _ _ (.inr hf), if_pos ht]
      exact (rf_nofree _ _ _ _ _ hq w hF hH).mono fun _ _ h => SubPost.yes hr h
    rw [decide_eq_true hf] at hH
    have hne : ¬ (o = m ∨ o ∉ t.free) := fun h => h.elim e (fun h => h hf)
    cases t with
    | nil => simp [Tm.free] at hf
    | snd a b p =>
      simp only [Tm.size] at hn
      have hB := binderOf_any (.snd a b p)
      have hP := (parts_fact (.snd a b p)).pf
      simp only [Tm.ok, Bool.and_eq_true] at ht
      have hI := ih p o m (by omega) ht.2 ho hm
      by_cases hok : (R p o m).ok nmL = true
      · have hr : renO p o m = some (R p o m) := by unfold renO; rw [if_pos hok]
        rw [hr] at hI
        have hr2 : renO (.snd a b p) o m = some (Tm.mapU (fun c => sw c o m) (Tm.snd a b (R p o m))) := by
          unfold renO; rw [R_snd hne, if_pos (by simp only [Tm.ok, Bool.and_eq_true]; exact ⟨⟨sw_ok ht.1.1 hm, sw_ok ht.1.2 hm⟩, hok⟩)]; rfl
        exact (rf_one _ _ _ _ _ hq _ _ _ _ _ _ _ _ _ _ w hP hF hH (wc_nb _ _ _ _ hB) hB (sub_some hI) (fun bk w hc => withP_one (.snd a b p) p (R p o m) rfl bk 1 w (by omega) hc) (fun v h1 h2 => wu_sw (Tm.snd a b (R p o m)) o m _ _ v h1 h2)).mono fun _ _ h => SubPost.yes hr2 h
      · have hr : renO p o m = none := by unfold renO; rw [if_neg hok]
        rw [hr] at hI
        have hr2 : renO (.snd a b p) o m = none := by
          unfold renO; rw [R_snd hne, if_neg (fun h => by simp only [Tm.ok, Bool.and_eq_true] at h; exact hok h.2)]
        exact (rf_oneF _ _ _ _ _ hq _ _ _ _ w hP hF hH (wc_nb _ _ _ _ hB) hB (sub_none hI)).mono fun _ _ h => SubPost.no hr2 h
    | mat a b p =>
      simp only [Tm.size] at hn
      have hB := binderOf_any (.mat a b p)
      have hP := (parts_fact (.mat a b p)).pf
      simp only [Tm.ok, Bool.and_eq_true] at ht
      have hI := ih p o m (by omega) ht.2 ho hm
      by_cases hok : (R p o m).ok nmL = true
      · have hr : renO p o m = some (R p o m) := by unfold renO; rw [if_pos hok]
        rw [hr] at hI
        have hr2 : renO (.mat a b p) o m = some (Tm.mapU (fun c => sw c o m) (Tm.mat a b (R p o m))) := by
          unfold renO; rw [R_mat hne, if_pos (by simp only [Tm.ok, Bool.and_eq_true]; exact ⟨⟨sw_ok ht.1.1 hm, sw_ok ht.1.2 hm⟩, hok⟩)]; rfl
        exact (rf_one _ _ _ _ _ hq _ _ _ _ _ _ _ _ _ _ w hP hF hH (wc_nb _ _ _ _ hB) hB (sub_some hI) (fun bk w hc => withP_one (.mat a b p) p (R p o m) rfl bk 1 w (by omega) hc) (fun v h1 h2 => wu_sw (Tm.mat a b (R p o m)) o m _ _ v h1 h2)).mono fun _ _ h => SubPost.yes hr2 h
      · have hr : renO p o m = none := by unfold renO; rw [if_neg hok]
        rw [hr] at hI
        have hr2 : renO (.mat a b p) o m = none := by
          unfold renO; rw [R_mat hne, if_neg (fun h => by simp only [Tm.ok, Bool.and_eq_true] at h; exact hok h.2)]
        exact (rf_oneF _ _ _ _ _ hq _ _ _ _ w hP hF hH (wc_nb _ _ _ _ hB) hB (sub_none hI)).mono fun _ _ h => SubPost.no hr2 h
    | tau p =>
      simp only [Tm.size] at hn
      have hB := binderOf_any (.tau p)
      have hP := (parts_fact (.tau p)).pf
      simp only [Tm.ok] at ht
      have hI := ih p o m (by omega) ht ho hm
      by_cases hok : (R p o m).ok nmL = true
      · have hr : renO p o m = some (R p o m) := by unfold renO; rw [if_pos hok]
        rw [hr] at hI
        have hr2 : renO (.tau p) o m = some (Tm.mapU (fun c => sw c o m) (Tm.tau (R p o m))) := by
          unfold renO; rw [R_tau hne, if_pos (by simp only [Tm.ok]; exact hok)]; rfl
        exact (rf_one _ _ _ _ _ hq _ _ _ _ _ _ _ _ _ _ w hP hF hH (wc_nb _ _ _ _ hB) hB (sub_some hI) (fun bk w hc => withP_one (.tau p) p (R p o m) rfl bk 1 w (by omega) hc) (fun v h1 h2 => wu_sw (Tm.tau (R p o m)) o m _ _ v h1 h2)).mono fun _ _ h => SubPost.yes hr2 h
      · have hr : renO p o m = none := by unfold renO; rw [if_neg hok]
        rw [hr] at hI
        have hr2 : renO (.tau p) o m = none := by
          unfold renO; rw [R_tau hne, if_neg (fun h => by simp only [Tm.ok] at h; exact hok h)]
        exact (rf_oneF _ _ _ _ _ hq _ _ _ _ w hP hF hH (wc_nb _ _ _ _ hB) hB (sub_none hI)).mono fun _ _ h => SubPost.no hr2 h
    | rep p =>
      simp only [Tm.size] at hn
      have hB := binderOf_any (.rep p)
      have hP := (parts_fact (.rep p)).pf
      simp only [Tm.ok] at ht
      have hI := ih p o m (by omega) ht ho hm
      by_cases hok : (R p o m).ok nmL = true
      · have hr : renO p o m = some (R p o m) := by unfold renO; rw [if_pos hok]
        rw [hr] at hI
        have hr2 : renO (.rep p) o m = some (Tm.mapU (fun c => sw c o m) (Tm.rep (R p o m))) := by
          unfold renO; rw [R_rep hne, if_pos (by simp only [Tm.ok]; exact hok)]; rfl
        exact (rf_one _ _ _ _ _ hq _ _ _ _ _ _ _ _ _ _ w hP hF hH (wc_nb _ _ _ _ hB) hB (sub_some hI) (fun bk w hc => withP_one (.rep p) p (R p o m) rfl bk 1 w (by omega) hc) (fun v h1 h2 => wu_sw (Tm.rep (R p o m)) o m _ _ v h1 h2)).mono fun _ _ h => SubPost.yes hr2 h
      · have hr : renO p o m = none := by unfold renO; rw [if_neg hok]
        rw [hr] at hI
        have hr2 : renO (.rep p) o m = none := by
          unfold renO; rw [R_rep hne, if_neg (fun h => by simp only [Tm.ok] at h; exact hok h)]
        exact (rf_oneF _ _ _ _ _ hq _ _ _ _ w hP hF hH (wc_nb _ _ _ _ hB) hB (sub_none hI)).mono fun _ _ h => SubPost.no hr2 h
    | sum p q =>
      simp only [Tm.size] at hn
      have hB := binderOf_any (.sum p q)
      have hP := (parts_fact (.sum p q)).pf
      simp only [Tm.ok, Bool.and_eq_true] at ht
      have hI := ih p o m (by omega) ht.1 ho hm
      have hI2 := ih q o m (by omega) ht.2 ho hm
      by_cases hok : (R p o m).ok nmL = true
      · have hr : renO p o m = some (R p o m) := by unfold renO; rw [if_pos hok]
        rw [hr] at hI
        by_cases hok2 : (R q o m).ok nmL = true
        · have hr1 : renO q o m = some (R q o m) := by unfold renO; rw [if_pos hok2]
          rw [hr1] at hI2
          have hr2 : renO (.sum p q) o m = some (Tm.mapU (fun c => sw c o m) (Tm.sum (R p o m) (R q o m))) := by
            unfold renO; rw [R_sum hne, if_pos (by simp only [Tm.ok, Bool.and_eq_true]; exact ⟨hok, hok2⟩)]; rfl
          exact (rf_two _ _ _ _ _ hq _ _ _ _ _ _ _ _ _ _ _ _ _ _ w hP hF hH (wc_nb _ _ _ _ hB) hB (sub_some hI) (sub_some hI2) (fun bk w hc hc1 => withP_two (.sum p q) p q (R p o m) (R q o m) rfl bk 2 w (by omega) hc hc1) (fun v h1 h2 => wu_sw (Tm.sum (R p o m) (R q o m)) o m _ _ v h1 h2)).mono fun _ _ h => SubPost.yes hr2 h
        · have hr1 : renO q o m = none := by unfold renO; rw [if_neg hok2]
          rw [hr1] at hI2
          have hr2 : renO (.sum p q) o m = none := by
            unfold renO; rw [R_sum hne, if_neg (fun h => by simp only [Tm.ok, Bool.and_eq_true] at h; exact hok2 h.2)]
          exact (rf_twoG _ _ _ _ _ hq _ _ _ _ _ _ _ _ w hP hF hH (wc_nb _ _ _ _ hB) hB (sub_some hI) (sub_none hI2)).mono fun _ _ h => SubPost.no hr2 h
      · have hr : renO p o m = none := by unfold renO; rw [if_neg hok]
        rw [hr] at hI
        have hr2 : renO (.sum p q) o m = none := by
          unfold renO; rw [R_sum hne, if_neg (fun h => by simp only [Tm.ok, Bool.and_eq_true] at h; exact hok h.1)]
        exact (rf_twoF _ _ _ _ _ hq _ _ _ _ _ _ w hP hF hH (wc_nb _ _ _ _ hB) hB (sub_none hI)).mono fun _ _ h => SubPost.no hr2 h
    | par p q =>
      simp only [Tm.size] at hn
      have hB := binderOf_any (.par p q)
      have hP := (parts_fact (.par p q)).pf
      simp only [Tm.ok, Bool.and_eq_true] at ht
      have hI := ih p o m (by omega) ht.1 ho hm
      have hI2 := ih q o m (by omega) ht.2 ho hm
      by_cases hok : (R p o m).ok nmL = true
      · have hr : renO p o m = some (R p o m) := by unfold renO; rw [if_pos hok]
        rw [hr] at hI
        by_cases hok2 : (R q o m).ok nmL = true
        · have hr1 : renO q o m = some (R q o m) := by unfold renO; rw [if_pos hok2]
          rw [hr1] at hI2
          have hr2 : renO (.par p q) o m = some (Tm.mapU (fun c => sw c o m) (Tm.par (R p o m) (R q o m))) := by
            unfold renO; rw [R_par hne, if_pos (by simp only [Tm.ok, Bool.and_eq_true]; exact ⟨hok, hok2⟩)]; rfl
          exact (rf_two _ _ _ _ _ hq _ _ _ _ _ _ _ _ _ _ _ _ _ _ w hP hF hH (wc_nb _ _ _ _ hB) hB (sub_some hI) (sub_some hI2) (fun bk w hc hc1 => withP_two (.par p q) p q (R p o m) (R q o m) rfl bk 2 w (by omega) hc hc1) (fun v h1 h2 => wu_sw (Tm.par (R p o m) (R q o m)) o m _ _ v h1 h2)).mono fun _ _ h => SubPost.yes hr2 h
        · have hr1 : renO q o m = none := by unfold renO; rw [if_neg hok2]
          rw [hr1] at hI2
          have hr2 : renO (.par p q) o m = none := by
            unfold renO; rw [R_par hne, if_neg (fun h => by simp only [Tm.ok, Bool.and_eq_true] at h; exact hok2 h.2)]
          exact (rf_twoG _ _ _ _ _ hq _ _ _ _ _ _ _ _ w hP hF hH (wc_nb _ _ _ _ hB) hB (sub_some hI) (sub_none hI2)).mono fun _ _ h => SubPost.no hr2 h
      · have hr : renO p o m = none := by unfold renO; rw [if_neg hok]
        rw [hr] at hI
        have hr2 : renO (.par p q) o m = none := by
          unfold renO; rw [R_par hne, if_neg (fun h => by simp only [Tm.ok, Bool.and_eq_true] at h; exact hok h.1)]
        exact (rf_twoF _ _ _ _ _ hq _ _ _ _ _ _ w hP hF hH (wc_nb _ _ _ _ hB) hB (sub_none hI)).mono fun _ _ h => SubPost.no hr2 h
    | rcv a x p => simp only [Tm.size] at hn; exact rx_rcv n ih a x p o m (by omega) ht ho hm hq hne hF hH w
    | own x p => simp only [Tm.size] at hn; exact rx_own n ih x p o m (by omega) ht ho hm hq hne hF hH w

end Go.Proofs.Ytpahhlcfbmmocab.T1
