/- Texts of a list of trees; what both sides answer where the threads of a normal form are asked. MADE BY gen_Me.py. -/
import Derived.Test.YtnncoaeolfckbabGreatMd
namespace Go.Proofs.YtnncoaeolfckbabGreat.T1
open Go.RowKit
set_option maxRecDepth 100000
set_option linter.unusedVariables false
set_option linter.unusedSimpArgs false

set_option maxHeartbeats 4000000 in
theorem textsOf_any (ts : List Tm) (n : Nat) (hn : n = ts.length) (hn2 : n ≤ 300) (ht : ∀ t ∈ ts, t.pr.length ≤ 900) (v : Value) (base : Nat) (w : World) (ho : w.ownsRow base 37 1 v n (ts.map enc)) :
    Calls Tryz.prog 29 #[v] w (TxP ts n w) := by
  obtain ⟨i0, hi, hz0, hz1, hz2⟩ := info_parts Tryz.infoS
  obtain ⟨p, cap, rfl⟩ := own_form ho
  have HO := Lib.hid ho
  have HF' := Lib.hid fun i (h : i < ts.length) w' => textOf_any ts[i] (ht _ (List.getElem_mem h)) w'
  have HN := Lib.hid hn
  clear ho hn ht
  go_enter Tryz.func29, Tryz.ntmps29
  go_wp2_with fail
  go_loopg [3, 8] n (fun k s3 s8 wr => (∃ i : Nat, s8 = .int .i64 (i : Int) ∧ i + k = n ∧ Hid (wr.ownsRow w.heap.size 9 1 s3 i ((ts.take i).map sv))) ∧ Hid (Below w.heap.size w wr))
  case atStart => exact ⟨⟨0, by congr 1, by omega, World.ownsRow_nil _ _ _ _⟩, Below.refl _ _⟩
  case round =>
    obtain ⟨⟨i, rfl, hik, hown⟩, hbw⟩ := hrel
    have hsz := hbw.out.size
    by_cases hlt : (i : Int) < (n : Int)
    · have hit : i < ts.length := by rw [← HN.out]; omega
      obtain ⟨g, hpg, hg1, hg2, hg3, hcells⟩ := own_at HO.out (by omega)
      subst hpg
      have c1 : wr.cell? ⟨g, i, none⟩ = some (.iface (tyOf ts[i]) (pay ts[i])) :=
        (hbw.out.cell (p := ⟨g, i, none⟩) hg2).trans (hcells i (enc ts[i]) (by rw [List.getElem?_map, List.getElem?_eq_getElem hit]; rfl))
      obtain ⟨T, hT⟩ : ∃ T, T = tyOf ts[i] := ⟨_, rfl⟩
      obtain ⟨V, hV⟩ : ∃ V, V = pay ts[i] := ⟨_, rfl⟩
      obtain ⟨X, hX⟩ : ∃ X, X = S ts[i] := ⟨_, rfl⟩
      have HC : Hid (∀ w', Calls Tryz.prog 50 #[.iface T V] w' (StrP X w')) := by
        rw [hT, hV, hX]; exact HF'.out i hit
      rw [← hT, ← hV] at c1
      have hxs : [Value.string X] = [ts[i]].map sv := by rw [hX]; rfl
      have htk : Hid ((ts.take (i + 1)).map sv = (ts.take i).map sv ++ [.string X]) := by
        show _ = _
        rw [List.take_succ_eq_append_getElem hit, List.map_append, hxs]
      clear hT hV hX hxs hcells hg1 hit
      have hgt : 0 < n := by omega
      go_wp2_with fail
      refine (HC.out _).mono ?_
      rintro e w1 ⟨rfl, b1⟩
      have hbw1 := Lib.hid (below_go hbw.out b1)
      have hown1 := Lib.hid (own_below2 hown.out b1)
      have hsz1 := hbw1.out.size
      clear b1 c1 hbw hown
      go_wp2_with (at_builtin; refine wpList_append_rows rfl (.tmp 12) (.tmp 15) 25 rfl w.heap.size w.heap.size 9 i0 (.string ⟨#[]⟩) 16 Tryz.underlying25 hi hz0 hz1 hz2 rfl u3 i _ rfl (hown1.out.alloc _) _ 1 [.string X] rfl (own_new1 w1 (.string X) 9 w.heap.size hsz1) (fun u hu => by simp at hu; subst hu; rfl) ?c2 ?c3 ?c4 ?_)
      case c2 => unfold maxLen; omega
      case c3 => omega
      case c4 => simp; omega
      intro v3 w3 hown3 hgrow3 _
      have O3 : Hid (w3.ownsRow w.heap.size 9 1 v3 (i + 1) ((ts.take (i + 1)).map sv)) := by
        show World.ownsRow _ _ _ _ _ _ _
        rw [htk.out, List.map_take]; exact hown3
      have hol : ∀ g, u3.ownBlock = some g → w.heap.size ≤ g := fun g e => (hown1.out.lt g e).1
      have Bl3 := Lib.hid (below_grown2 (hbw1.out.alloc hsz1 _) hgrow3 (fun g e => hol g e) (by simp; omega))
      clear hown3 hgrow3 hol hbw1 hown1 htk
      go_wp2_with fail
      go_roundg (gk - 1)
      case rel => exact ⟨⟨i + 1, by congr 1, by omega, O3⟩, Bl3⟩
      case measure => omega
    · obtain rfl : i = n := by omega
      have htk : ts.take i = ts := List.take_of_length_le (by rw [HN.out]; exact Nat.le_refl _)
      rw [htk] at hown
      clear htk
      go_wp2_with fail
      go_ret
      exact ⟨_, rfl, hown.out, hbw.out⟩
set_option maxHeartbeats 2000000 in
theorem sTh_a (s X : ByteArray) (n1 : ∀ w, Calls Tryz.prog 24 #[.string s] w fun e w' => e = .returned (.tuple #[.string X, .bool false]) ∧ Below w.heap.size w w') (w : World) : Calls Tryz.prog 11 #[.string s] w fun e w' => ∃ v', e = .returned (.tuple #[v', .bool false]) ∧ w'.ownsRow w.heap.size 9 1 v' (([] : List Tm)).length ((([] : List Tm)).map sv) ∧ Below w.heap.size w w' := by
  have Hn1 := Lib.hid n1
  clear n1
  go_enter Tryz.func11, Tryz.ntmps11
  go_wp2_with fail
  refine (Hn1.out _).mono ?_
  rintro e w1 ⟨rfl, c1⟩
  go_wp2_with fail
  go_ret2
  exact ⟨_, rfl, World.ownsRow_nil _ _ _ _, c1⟩
set_option maxHeartbeats 2000000 in
theorem iTh_a (s : ByteArray) (n1 : ∀ w, Calls Tryz.prog 26 #[.string s] w fun e w' => e = .returned (.tuple #[.nilIface, .bool false]) ∧ Below w.heap.size w w') (w : World) : Calls Tryz.prog 12 #[.string s] w fun e w' => ∃ v', e = .returned (.tuple #[v', .bool false]) ∧ w'.ownsRow w.heap.size 9 1 v' (([] : List Tm)).length ((([] : List Tm)).map sv) ∧ Below w.heap.size w w' := by
  have Hn1 := Lib.hid n1
  clear n1
  go_enter Tryz.func12, Tryz.ntmps12
  go_wp2_with fail
  refine (Hn1.out _).mono ?_
  rintro e w1 ⟨rfl, c1⟩
  go_wp2_with fail
  go_ret2
  exact ⟨_, rfl, World.ownsRow_nil _ _ _ _, c1⟩
set_option maxHeartbeats 2000000 in
theorem sTh_b (s X : ByteArray) (us : List Tm) (n1 : ∀ w, Calls Tryz.prog 24 #[.string s] w fun e w' => e = .returned (.tuple #[.string X, .bool true]) ∧ Below w.heap.size w w') (n2 : ∀ w, Calls Tryz.prog 28 #[.string X] w (TxP us us.length w)) (w : World) :
    Calls Tryz.prog 11 #[.string s] w fun e w' => ∃ v', e = .returned (.tuple #[v', .bool true]) ∧ w'.ownsRow w.heap.size 9 1 v' (us).length ((us).map sv) ∧ Below w.heap.size w w' := by
  have H1 := Lib.hid n1
  have H2 := Lib.hid n2
  clear n1 n2
  go_enter Tryz.func11, Tryz.ntmps11
  go_wp2_with fail
  refine (H1.out _).mono ?_
  rintro e w1 ⟨rfl, b1⟩
  go_wp2_with fail
  refine (H2.out _).mono ?_
  rintro e w2 ⟨v', rfl, o2, b2⟩
  have O := Lib.hid (own_bas2 (b2 := w.heap.size) o2 b1.size)
  have bl := below_go b1 b2
  clear o2 b2
  go_wp2_with fail
  go_ret2
  exact ⟨_, rfl, O.out, bl⟩
set_option maxHeartbeats 2000000 in
theorem iTh_b (s : ByteArray) (T : TypeId) (V : Value) (fs : List UInt8) (us : List Tm) (hu : us.length ≤ 300) (ht : ∀ t ∈ us, t.pr.length ≤ 900) (n1 : ∀ w, Calls Tryz.prog 26 #[.string s] w fun e w' => e = .returned (.tuple #[.iface T V, .bool true]) ∧ Below w.heap.size w w') (n2 : ∀ w, Calls Tryz.prog 27 #[.iface T V] w (LvlP fs (us.map enc) w)) (w : World) :
    Calls Tryz.prog 12 #[.string s] w fun e w' => ∃ v', e = .returned (.tuple #[v', .bool true]) ∧ w'.ownsRow w.heap.size 9 1 v' (us).length ((us).map sv) ∧ Below w.heap.size w w' := by
  have H1 := Lib.hid n1
  have H2 := Lib.hid n2
  have H3 := Lib.hid fun (v : Value) (b : Nat) (w' : World) (h : w'.ownsRow b 37 1 v (us.map enc).length (us.map enc)) => textsOf_any us (us.map enc).length (by simp) (by simpa using hu) ht v b w' h
  clear n1 n2
  go_enter Tryz.func12, Tryz.ntmps12
  go_wp2_with fail
  refine (H1.out _).mono ?_
  rintro e w1 ⟨rfl, b1⟩
  go_wp2_with fail
  refine (H2.out _).mono ?_
  rintro e w2 ⟨v1, v2, rfl, o1, o2, c2⟩
  have b2 := below_go b1 c2
  have O2 := Lib.hid o2
  clear o1 o2 c2
  go_wp2_with fail
  refine (H3.out _ _ _ O2.out).mono ?_
  rintro e w3 ⟨v', rfl, o3, b3⟩
  have O := Lib.hid (own_bas2 (b2 := w.heap.size) o3 b2.size)
  have bl := below_go b2 b3
  rw [List.length_map] at O
  clear o3 b3
  go_wp2_with fail
  go_ret2
  exact ⟨_, rfl, O.out, bl⟩
theorem thrs_len (t : Tm) : t.thrs.length ≤ t.size ∧ ∀ u ∈ t.thrs, u.pr.length ≤ t.pr.length := by
  have hp : ∀ t : Tm, ∀ u ∈ t.pars, u.pr.length ≤ t.pr.length := by
    intro t; induction t with
    | par p q ih ih2 =>
      intro u hu
      simp only [Tm.pars, List.mem_cons] at hu
      simp only [Tm.pr, List.length_append, List.length_cons]
      rcases hu with rfl | hu
      · omega
      · have := ih2 u hu; omega
    | _ => intro u hu; simp only [Tm.pars, List.mem_singleton] at hu; subst hu; exact Nat.le_refl _
  have hf : t.fro.2.pr.length ≤ t.pr.length ∧ t.fro.2.size ≤ t.size := by
    induction t with
    | own x p ih => simp only [Tm.fro, Tm.pr, Tm.size, List.length_append, List.length_cons]; omega
    | _ => exact ⟨Nat.le_refl _, Nat.le_refl _⟩
  by_cases hn : t.fro.2 = .nil
  · have e : t.thrs = [] := by unfold Tm.thrs; rw [hn]
    rw [e]; simp
  · rw [thrs_pars hn]
    refine ⟨Nat.le_trans (pars_size _) hf.2, fun u hu => Nat.le_trans (hp _ u hu) hf.1⟩
theorem bothTh (s : ByteArray) (hs : s.size ≤ 9223372036854775807) : ∃ (us : List Tm) (b : Bool), us.length ≤ 300 ∧ (∀ w, Calls Tryz.prog 11 #[.string s] w (fun e w' => ∃ v', e = .returned (.tuple #[v', .bool b]) ∧ w'.ownsRow w.heap.size 9 1 v' (us).length ((us).map sv) ∧ Below w.heap.size w w')) ∧ (∀ w, Calls Tryz.prog 12 #[.string s] w (fun e w' => ∃ v', e = .returned (.tuple #[v', .bool b]) ∧ w'.ownsRow w.heap.size 9 1 v' (us).length ((us).map sv) ∧ Below w.heap.size w w')) := by
  have h1 := specO s hs
  have h2 := implO s hs
  cases e : nfO s with
  | none =>
    rw [e] at h1 h2
    exact ⟨[], false, by simp, sTh_a s ⟨#[]⟩ h1, iTh_a s h2⟩
  | some r =>
    rw [e] at h1 h2
    obtain ⟨hf, hok, h300, h60⟩ := nfO_some e
    obtain ⟨f1, f2, f3⟩ := form_lvl hf
    obtain ⟨t1, t2⟩ := thrs_len r
    have hl := levelOf_any r (by omega)
    rw [f2] at hl
    exact ⟨r.thrs, true, by omega, sTh_b s (S r) r.thrs h1 (nfThreads_any r (ok_LE r hok) (by omega) (by omega)), iTh_b s _ _ _ r.thrs (by omega) (fun t ht => by have := t2 t ht; omega) h2 hl⟩
set_option maxHeartbeats 2000000 in
theorem sCt (s : ByteArray) (us : List Tm) (b : Bool) (n1 : ∀ w, Calls Tryz.prog 11 #[.string s] w (fun e w' => ∃ v', e = .returned (.tuple #[v', .bool b]) ∧ w'.ownsRow w.heap.size 9 1 v' (us).length ((us).map sv) ∧ Below w.heap.size w w')) (w : World) : Calls Tryz.prog 16 #[.string s] w fun e w' => e = .returned (.tuple #[.int .i64 (us.length : Nat), .bool b]) ∧ Below w.heap.size w w' := by
  have H1 := Lib.hid n1
  clear n1
  go_enter Tryz.func16, Tryz.ntmps16
  go_wp2_with fail
  refine (H1.out _).mono ?_
  rintro e w1 ⟨v, rfl, o1, b1⟩
  obtain ⟨p, c, rfl⟩ := own_form o1
  clear o1
  go_wp2_with fail
  go_ret2
  exact ⟨rfl, b1⟩
set_option maxHeartbeats 2000000 in
theorem iCt (s : ByteArray) (us : List Tm) (b : Bool) (n1 : ∀ w, Calls Tryz.prog 12 #[.string s] w (fun e w' => ∃ v', e = .returned (.tuple #[v', .bool b]) ∧ w'.ownsRow w.heap.size 9 1 v' (us).length ((us).map sv) ∧ Below w.heap.size w w')) (w : World) : Calls Tryz.prog 17 #[.string s] w fun e w' => e = .returned (.tuple #[.int .i64 (us.length : Nat), .bool b]) ∧ Below w.heap.size w w' := by
  have H1 := Lib.hid n1
  clear n1
  go_enter Tryz.func17, Tryz.ntmps17
  go_wp2_with fail
  refine (H1.out _).mono ?_
  rintro e w1 ⟨v, rfl, o1, b1⟩
  obtain ⟨p, c, rfl⟩ := own_form o1
  clear o1
  go_wp2_with fail
  go_ret2
  exact ⟨rfl, b1⟩
theorem bothCt (s : ByteArray) (hs : s.size ≤ 9223372036854775807) : ∃ (y : Int) (b : Bool), (∀ w, Calls Tryz.prog 16 #[.string s] w fun e w' => e = .returned (.tuple #[.int .i64 y, .bool b]) ∧ Below w.heap.size w w') ∧ (∀ w, Calls Tryz.prog 17 #[.string s] w fun e w' => e = .returned (.tuple #[.int .i64 y, .bool b]) ∧ Below w.heap.size w w') := by
  obtain ⟨us, b, _, h1, h2⟩ := bothTh s hs
  exact ⟨_, _, sCt s us b h1, iCt s us b h2⟩

end Go.Proofs.YtnncoaeolfckbabGreat.T1
