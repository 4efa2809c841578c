/- Texts of the proof, put together: Km, Kn, Ko, Kp, Kq, Ma, Sz, Kr. No conditions. -/
import Derived.Test.YtmfmagfgcdaeeaaGreatHap
import Derived.Test.YtmfmagfgcdaeeaaGreatHat
import Derived.Test.YtmfmagfgcdaeeaaGreatHba
import Derived.Test.YtmfmagfgcdaeeaaGreatHbg
import Derived.Test.YtmfmagfgcdaeeaaGreatHbl
import Derived.Test.YtmfmagfgcdaeeaaGreatHbq

/- A thread: in the program. -/
namespace Go.Proofs.YtmfmagfgcdaeeaaGreat.T1
open Go.RowKit
set_option maxRecDepth 100000
set_option linter.unusedVariables false
set_option linter.unusedSimpArgs false

def isS : Tm → Bool
  | .sum _ _ => true
  | _ => false
theorem isS_kind (t : Tm) : ((one t.kind).toList == [43]) = isS t := by
  rw [Lib.toList_data]
  cases t <;> rfl
theorem BS (l : List UInt8) (q : Tm) (t : Tm) (h : t.pr = l ++ q.pr) : B l ++ S q = S t := by
  apply data_inj
  show (B l ++ S q).data.toList = t.pr.toArray.toList
  rw [ByteArray.data_append, Array.toList_append, h]; rfl
theorem smds_two (s : Tm) : 2 * (smds s).length ≤ s.size + 1 := by
  induction s with
  | sum p q ih ih2 => simp only [smds, List.length_append, Tm.size]; omega
  | _ => simp only [smds, List.length_cons, List.length_nil, Tm.size] <;> omega
theorem lvl_two (s : Tm) : 2 * (lvl s).2.length ≤ s.size + 1 := by
  induction s with
  | own x p ih => simp only [lvl, Tm.size]; omega
  | par p q ih ih2 => simp only [lvl, List.length_append, Tm.size]; omega
  | _ => simp only [lvl, List.length_cons, List.length_nil, Tm.size] <;> omega
/-- The contract of a level. -/
def LvH (n : Nat) : Prop := ∀ (s : Tm) (D : Array Value) (L : UInt8 → UInt8) (vL : Value) (gL : Nat) (left : List UInt8) (w : World), s.size ≤ n → DrOf D L vL → LfS w gL vL left → gL < w.heap.size →
  fl s left.length = true → s.pr.length ≤ 900 → s.size ≤ 121 → s.bnd.Pairwise (· < ·) → left.length ≤ 30 →
  Calls Tryz.prog 160 #[.agg D, .iface (tyOf s) (pay s)] w (StrP (S (levI n L left s)) w)
theorem hd_size (t : Tm) : (B (hdL t)).size ≤ 10 := by rw [B_size]; cases t <;> simp [hdL]
theorem thread_sum (n : Nat) (H : LvH n) (T : Tm) (D : Array Value) (L : UInt8 → UInt8) (vL : Value) (gL : Nat) (left : List UInt8) (w : World) (hT : isS T = true) (hsz : T.size ≤ n + 1)
    (hD : DrOf D L vL) (hLf : LfS w gL vL left) (hgL : gL < w.heap.size) (hsm : ∀ r ∈ smds T, fl r left.length = true) (hpl : T.pr.length ≤ 900) (hs2 : T.size ≤ 121) (hb : T.bnd.Pairwise (· < ·)) (hll : left.length ≤ 30) (hsz' : ∀ r ∈ smds T, r.size < T.size) :
    Calls Tryz.prog 182 #[.agg D, .iface (tyOf T) (pay T)] w (StrP (S (joinR .sum (srtT ((smds T).map (levI n L left))))) w) := by
  have hn0 := (smds_pos T).1
  have hne : srtT ((smds T).map (levI n L left)) ≠ [] := fun e => by
    have := List.map_eq_nil_iff.1 (srtT_nil e)
    rw [this] at hn0; simp at hn0
  have h2 := smds_two T
  have htx := smds_txt T
  have hbs := smds_bsub T
  rw [← joinB_sum _ hne]
  refine thr_sum _ _ D hD.sz (smds T) (srtT ((smds T).map (levI n L left))) (smds T).length _ _ (by rw [isS_kind]; exact hT) w (kind_fact T).pf (summandsOf_any T (by omega)) ?_ ?_
  · intro w1 v base b1 ho
    refine inOrder_any _ cf_level D hD.sz (smds T) ((smds T).map (levI n L left)) (smds T).length rfl (by simp) (by omega) v base w1 ho ?_
    intro i h1 h2 w' b'
    rw [List.getElem_map]
    have hm : (smds T)[i] ∈ smds T := List.getElem_mem h1
    have b2 := below_go b1 b'
    exact H _ D L vL gL left w' (by have := hsz' _ hm; omega) hD (hLf.below b2) (Nat.lt_of_lt_of_le hgL b2.size) (hsm _ hm) (by have := htx _ hm; omega) (by have := hsz' _ hm; omega) (hb.sublist (hbs _ hm)) hll
  · intro w1 v base ho
    exact brOwn ⟨#[43]⟩ (by decide) _ v _ base w1 ho (by rw [srtT_len, List.length_map]) (by omega) (by omega) (fun t ht => by
      obtain ⟨r, hr, rfl⟩ := List.mem_map.1 ((mem_srtT _ _).1 ht)
      have h3 := levI_len n L left r
      have h4 := htx r hr
      omega)
theorem thrP_any (n : Nat) (H : LvH n) (T : Tm) (D : Array Value) (L : UInt8 → UInt8) (vL : Value) (gL : Nat) (left : List UInt8) (w : World) (hsz : T.size ≤ n + 1) (hk : (∀ p q, T ≠ .par p q) ∧ (∀ x p, T ≠ .own x p) ∧ T ≠ .nil)
    (hD : DrOf D L vL) (hLf : LfS w gL vL left) (hgL : gL < w.heap.size) (htf : tf T left.length = true) (hpl : T.pr.length ≤ 900) (hs2 : T.size ≤ 121) (hb : T.bnd.Pairwise (· < ·)) (hll : left.length ≤ 30) :
    Calls Tryz.prog 182 #[.agg D, .iface (tyOf T) (pay T)] w (StrP (S (thI (levI n) L left T)) w) := by
  cases T with
  | nil => exact absurd rfl hk.2.2
  | par p q => exact absurd rfl (hk.1 p q)
  | own x p => exact absurd rfl (hk.2.1 x p)
  | snd a b p =>
    have hpp : p.pr.length ≤ 900 := by simp only [Tm.pr, List.length_append, List.length_cons] at hpl; omega
    simp only [Tm.size] at hsz hs2
    have e : S (thI (levI n) L left (.snd a b p)) = B (hdL (.snd (L a) (L b) p)) ++ S (levI n L left p) := (BS _ _ _ (hdL_pr _ _ rfl)).symm
    rw [e]
    exact th_plain _ _ _ _ _ _ D hD.sz _ _ _ (hd_size _) (by rw [S_size]; have := levI_len n L left p; omega) (isS_kind _) w (kind_fact (.snd a b p)).pf (fun v hv => wu_df (.snd a b p) D L vL hD _ v hv) (binderOf_any (.snd (L a) (L b) p)) (ta_send_match _) (headOf_any (.snd (L a) (L b) p) p rfl) (parts_fact (.snd (L a) (L b) p)).pf
      (fun w1 b1 => H p D L vL gL left w1 (by omega) hD (hLf.below b1) (Nat.lt_of_lt_of_le hgL b1.size) htf hpp (by omega) hb hll)
  | tau p =>
    have hpp : p.pr.length ≤ 900 := by simp only [Tm.pr, List.length_append, List.length_cons] at hpl; omega
    simp only [Tm.size] at hsz hs2
    have e : S (thI (levI n) L left (.tau p)) = B (hdL (.tau p)) ++ S (levI n L left p) := (BS _ _ _ (hdL_pr (.tau (levI n L left p)) _ rfl)).symm
    rw [e]
    exact th_plain _ _ _ _ _ _ D hD.sz _ _ _ (hd_size _) (by rw [S_size]; have := levI_len n L left p; omega) (isS_kind _) w (kind_fact (.tau p)).pf (fun v hv => wu_df (.tau p) D L vL hD _ v hv) (binderOf_any (.tau p)) (ta_silent_match _) (headOf_any (.tau p) p rfl) (parts_fact (.tau p)).pf
      (fun w1 b1 => H p D L vL gL left w1 (by omega) hD (hLf.below b1) (Nat.lt_of_lt_of_le hgL b1.size) htf hpp (by omega) hb hll)
  | rep p =>
    have hpp : p.pr.length ≤ 900 := by simp only [Tm.pr, List.length_append, List.length_cons] at hpl; omega
    simp only [Tm.size] at hsz hs2
    have e : S (thI (levI n) L left (.rep p)) = B (hdL (.rep p)) ++ S (levI n L left p) := (BS _ _ _ (hdL_pr (.rep (levI n L left p)) _ rfl)).symm
    rw [e]
    exact th_plain _ _ _ _ _ _ D hD.sz _ _ _ (hd_size _) (by rw [S_size]; have := levI_len n L left p; omega) (isS_kind _) w (kind_fact (.rep p)).pf (fun v hv => wu_df (.rep p) D L vL hD _ v hv) (binderOf_any (.rep p)) (ta_repeat_match _) (headOf_any (.rep p) p rfl) (parts_fact (.rep p)).pf
      (fun w1 b1 => H p D L vL gL left w1 (by omega) hD (hLf.below b1) (Nat.lt_of_lt_of_le hgL b1.size) htf hpp (by omega) hb hll)
  | mat a b p =>
    have hpp : p.pr.length ≤ 900 := by simp only [Tm.pr, List.length_append, List.length_cons] at hpl; omega
    simp only [Tm.size] at hsz hs2
    have HL : ∀ w1, Below w.heap.size w w1 → Calls Tryz.prog 160 #[.agg D, .iface (tyOf p) (pay p)] w1 (StrP (S (levI n L left p)) w1) :=
      fun w1 b1 => H p D L vL gL left w1 (by omega) hD (hLf.below b1) (Nat.lt_of_lt_of_le hgL b1.size) htf hpp (by omega) hb hll
    by_cases hlt : L b < L a
    · have e : S (thI (levI n) L left (.mat a b p)) = B (hdL (.mat (L b) (L a) p)) ++ S (levI n L left p) := by
        simp only [thI, if_pos hlt]; exact (BS _ _ _ (hdL_pr (.mat (L b) (L a) (levI n L left p)) _ rfl)).symm
      rw [e]
      exact th_matS _ _ _ _ _ _ D hD.sz _ _ _ (hd_size _) (by rw [S_size]; have := levI_len n L left p; omega) (isS_kind _) ((L a).toNat : Int) ((L b).toNat : Int) (by rw [u8_lt] at hlt; omega) w rfl rfl (kind_fact (.mat a b p)).pf (fun v hv => wu_df (.mat a b p) D L vL hD _ v hv) (binderOf_any (.mat (L a) (L b) p)) (headOf_any (.mat (L b) (L a) p) p rfl) (parts_fact (.mat (L b) (L a) p)).pf HL
    · have e : S (thI (levI n) L left (.mat a b p)) = B (hdL (.mat (L a) (L b) p)) ++ S (levI n L left p) := by
        simp only [thI, if_neg hlt]; exact (BS _ _ _ (hdL_pr (.mat (L a) (L b) (levI n L left p)) _ rfl)).symm
      rw [e]
      exact th_matN _ _ _ _ _ _ D hD.sz _ _ _ (hd_size _) (by rw [S_size]; have := levI_len n L left p; omega) (isS_kind _) ((L a).toNat : Int) ((L b).toNat : Int) (by rw [u8_lt] at hlt; omega) w rfl rfl (kind_fact (.mat a b p)).pf (fun v hv => wu_df (.mat a b p) D L vL hD _ v hv) (binderOf_any (.mat (L a) (L b) p)) (headOf_any (.mat (L a) (L b) p) p rfl) (parts_fact (.mat (L a) (L b) p)).pf HL
  | rcv a x p =>
    have hpp : p.pr.length ≤ 900 := by simp only [Tm.pr, List.length_append, List.length_cons] at hpl; omega
    simp only [Tm.size] at hsz hs2
    cases left with
    | nil => simp [tf] at htf
    | cons c left =>
      have hu : updL L [x] (c :: left) = upd L x c := by cases left <;> rfl
      have hc : updL L [x] (c :: left) x = c := by rw [hu]; unfold upd; rw [if_pos rfl]
      have e : S (thI (levI n) L (c :: left) (.rcv a x p)) = B (hdL (.rcv (L a) c p)) ++ S (levI n (upd L x c) left p) := (BS _ _ _ (hdL_pr (.rcv (L a) c (levI n (upd L x c) left p)) _ rfl)).symm
      rw [e]
      refine thr_rcv _ _ _ _ _ _ (pay (.rcv (L a) c p)) _ D L vL gL (c :: left) hD (by simp at hll ⊢; omega) (by simp) x _ _ _ (hd_size _) (by rw [S_size]; have := levI_len n (upd L x c) left p; omega) (isS_kind _) w hLf hgL (kind_fact (.rcv a x p)).pf (fun v hv => wu_df (.rcv a x p) D L vL hD _ v hv) (binderOf_any (.rcv (L a) x p)) ?_ (ta_receive_match _) (headOf_any (.rcv (L a) c p) p rfl) (parts_fact (.rcv (L a) c p)).pf ?_
      · intro w1
        rw [hc]
        exact wb_receive _ _ _ _ _ w1
      · intro D2 v2 w1 hd2 hl2 b1
        rw [hu] at hd2
        refine H p D2 (upd L x c) v2 gL left w1 (by omega) hd2 hl2 (Nat.lt_of_lt_of_le hgL b1.size) ?_ hpp (by omega) (List.Pairwise.of_cons hb) (by simp at hll; omega)
        simp only [tf, List.length_cons, Bool.and_eq_true] at htf
        simpa [fl] using htf
  | sum p q =>
    have hsm := (smds_fl (.sum p q) left.length).1 (by rw [tf_sum]; exact htf)
    have e1 : thI (levI n) L left (.sum p q) = joinR .sum (srtT ((smds (.sum p q)).map (levI n L left))) := rfl
    rw [e1]
    refine thread_sum n H (.sum p q) D L vL gL left w rfl hsz hD hLf hgL hsm hpl hs2 hb hll fun r hr => ?_
    simp only [smds, List.mem_append] at hr
    simp only [Tm.size]
    rcases hr with hr | hr
    · have := smds_size p r hr; omega
    · have := smds_size q r hr; omega

end Go.Proofs.YtmfmagfgcdaeeaaGreat.T1

/- A level: in the program. -/
namespace Go.Proofs.YtmfmagfgcdaeeaaGreat.T1
open Go.RowKit
set_option maxRecDepth 100000
set_option linter.unusedVariables false
set_option linter.unusedSimpArgs false

set_option maxHeartbeats 2000000 in
theorem wh_ownN (a : UInt8)
    (base n : Nat) (xs : List Value) (v : Value) (w : World) (ho : w.ownsRow base 5 1 v n xs) (hn : n + 3 ≤ 1000) (hb : base ≤ w.heap.size) :
    Calls Tryz.prog 154 #[v, .iface 100 (.agg #[.int .u8 (a.toNat : Int), .nilIface])] w (WrPost base n xs [35, a, 46] w) := by
  obtain ⟨i0, hi, hz0, hz1, hz2⟩ := info_parts Tryz.infoU8
  go_enter Tryz.func154, Tryz.ntmps154
  go_wp2_with (at_builtin; refine wpList_append_own _ rfl (.tmp 41) (.tmp 44) 22 rfl base 5 i0 (.int .u8 0) 1 1 Tryz.underlying22 hi hz0 hz1 hz2 rfl (by decide) v n xs rfl ((ho.alloc _).alloc _) ⟨w.heap.size + 1, 0, none⟩ 3 3 ([35, a, 46].map ub) rfl rfl ?c1 (ub_one _) ?c2 ?c3 ?c4 ?_)
  case c1 => exact cell_row2 w _ ([35, a, 46].map ub) 5
  case c2 => unfold maxLen; omega
  case c3 => omega
  case c4 => simp; omega
  intro v1 w1 hown hgrow _
  have K1 : Hid (Kp base 5 w w1) := (Kp.of_below (below_two w _ _) hb).trans (Kp.of_grown hgrow ((ho.alloc _).alloc _) (by simp; omega))
  have HO := Lib.hid hown
  clear hown hgrow
  go_wp2_with fail
  go_ret
  exact ⟨v1, rfl, HO.out, K1.out⟩
theorem head_ownN (a : UInt8) (w : World) : Calls Tryz.prog 185 #[.iface 100 (.agg #[.int .u8 (a.toNat : Int), .nilIface])] w (StrP (B [35, a, 46]) w) :=
  headOf0 _ _ [35, a, 46] (by simp) (by simp) (fun w => wh_ownN a w.heap.size 0 [] (.slice none 0 0) w (World.ownsRow_nil _ _ _ _) (by omega) (Nat.le_refl _)) w
set_option maxHeartbeats 8000000 in
theorem lv_walk (T : TypeId) (V : Value) (D : Array Value) (L : UInt8 → UInt8) (vL : Value) (gL : Nat) (left : List UInt8) (fs : List UInt8) (ts best : List Tm) (k : Nat) (q : Tm) (w : World) (hD : DrOf D L vL) (hLf : LfS w gL vL left) (hgL : gL < w.heap.size)
    (hq : q.pr.length ≤ 900) (hfl : fs.length ≤ left.length) (hf5 : fs.length ≤ 5) (hll : left.length ≤ 30)
    (hLv : ∀ w1, Calls Tryz.prog 86 #[.iface T V] w1 (LvlP fs (ts.map enc) w1))
    (hLe : ∀ w1 v vT base base2 gd gt, Below w.heap.size w w1 → w1.heap[gd]? = some (.cells D 152 (0, 0)) → w1.cell? ⟨gt, 0, none⟩ = some vT → w1.ownsRow base 43 1 vT ts.length (ts.map enc) → w1.ownsRow base2 5 1 v fs.length (fs.map ub) →
      Calls Tryz.prog 184 #[.agg #[.func (.func 179) #[] #[.pointer (some ⟨gd, 0, none⟩), .pointer (some ⟨gt, 0, none⟩)]], v] w1 (TxP best k w1))
    (hBr : ∀ w1 v base, w1.ownsRow base 9 1 v k (best.map sv) → Calls Tryz.prog 183 #[v, .string ⟨#[38]⟩] w1 fun e w' => e = .returned (.string (S q)) ∧ w1 = w')
    (hHd : ∀ (c : UInt8) w1, Calls Tryz.prog 185 #[.iface 100 (.agg #[.int .u8 (c.toNat : Int), .nilIface])] w1 (StrP (B [35, c, 46]) w1)) :
    Calls Tryz.prog 160 #[.agg D, .iface T V] w (StrP (S (wrapO (left.take fs.length) q)) w) := by
  have HLv := Lib.hid hLv
  have HLe := Lib.hid hLe
  have HBr := Lib.hid hBr
  have HHd := Lib.hid hHd
  have HLf := Lib.hid hLf
  have HD := Lib.hid hD
  obtain ⟨n, hn⟩ : ∃ n, n = fs.length := ⟨_, rfl⟩
  have HN := Lib.hid hn
  rw [← hn] at hfl hf5 ⊢
  clear hLv hLe hBr hHd hLf hD hn
  go_enter Tryz.func160, Tryz.ntmps160
  go_wp2_with fail
  obtain ⟨W, hW⟩ : ∃ W, W = w.alloc (.cells D 152) := ⟨_, rfl⟩
  have hr := Lib.hid (show W.heap[w.heap.size]? = some (.cells D 152 (0, 0)) by rw [hW]; exact new_block0 _ _)
  have bl : Below w.heap.size w W := by rw [hW]; exact (Below.refl _ _).alloc (Nat.le_refl _) _
  rw [← hW]
  clear hW
  refine (HLv.out _).mono ?_
  rintro e w1 ⟨v1, v2, rfl, o1, o2, b1⟩
  rw [← HN.out] at o1
  rw [List.length_map] at o2
  replace hr := Lib.hid (row_below0 hr.out b1)
  replace bl := below_go bl b1
  have O1 := Lib.hid o1
  have O2 := Lib.hid o2
  obtain ⟨p1, c1, rfl⟩ := own_form o1
  obtain ⟨p2, c2, rfl⟩ := own_form o2
  clear b1 o1 o2
  have lb := last_block w1 (.cells #[.slice p2 ts.length c2] 71) (.cells #[.nilFunc] 171)
  have c9 := cellOf1 lb
  have f9 := free_of_one lb
  have hst : (store ⟨w1.heap.size + 1, 0, none⟩ (.func (.func 179) #[] #[.pointer (some ⟨w.heap.size, 0, none⟩), .pointer (some ⟨w1.heap.size, 0, none⟩)])).run Tryz.prog ((w1.alloc (.cells #[.slice p2 ts.length c2] 71)).alloc (.cells #[.nilFunc] 171)) =
      .ok () (((w1.alloc (.cells #[.slice p2 ts.length c2] 71)).alloc (.cells #[.nilFunc] 171)).setCell ⟨w1.heap.size + 1, 0, none⟩ (.func (.func 179) #[] #[.pointer (some ⟨w.heap.size, 0, none⟩), .pointer (some ⟨w1.heap.size, 0, none⟩)])) := by
    rw [run_store _ _ _ _ _ rfl, c9]
    simp [f9]
  clear lb
  go_wp2_with fail
  obtain ⟨W3, hW3⟩ : ∃ W3, W3 = (w1.alloc (.cells #[.slice p2 ts.length c2] 71)).alloc (.cells #[.func (.func 179) #[] #[.pointer (some ⟨w.heap.size, 0, none⟩), .pointer (some ⟨w1.heap.size, 0, none⟩)]] 171) := ⟨_, rfl⟩
  have b3 : Below w1.heap.size w1 W3 := by rw [hW3]; exact below_two _ _ _
  have ct : W3.cell? ⟨w1.heap.size, 0, none⟩ = some (.slice p2 ts.length c2) := by rw [hW3]; exact cellOf1 (first_block _ _ _)
  have hr3 := Lib.hid (row_below0 hr.out b3)
  have bl3 := Lib.hid (below_go bl b3)
  have O1' := own_below2 O1.out b3
  rw [HN.out] at O1'
  have HLe' := HLe.out W3 _ _ _ _ w.heap.size w1.heap.size bl3.out hr3.out ct (own_below2 O2.out b3) O1'
  rw [← HN.out] at HLe'
  rw [← hW3]
  clear hW3 b3 ct O1' O1 O2 c9 f9 hst hr bl
  refine HLe'.mono ?_
  rintro e w4 ⟨v4, rfl, o4, b4⟩
  have hr4 := Lib.hid (row_below0 hr3.out b4)
  have bl4 := Lib.hid (below_go bl3.out b4)
  have HB4 := HBr.out _ _ _ o4
  clear hr3 bl3 b4 o4 HLe'
  go_wp2_with fail
  refine HB4.mono ?_
  rintro e w5 ⟨rfl, rfl⟩
  clear HB4
  have hlt : Hid ((left.take n).length = n) := by show _ = _; rw [List.length_take]; omega
  have hs0 : Hid (S q = S (wrapO ((left.take n).drop n) q)) := by
    show _ = _
    rw [List.drop_of_length_le (by rw [hlt.out]; exact Nat.le_refl _)]; rfl
  go_wp2_with fail
  go_loopg [8, 9] n (fun m s8 s9 wr => (∃ X : ByteArray, m ≤ n ∧ s8 = .string X ∧ s9 = .int .i64 ((m : Int) - 1) ∧ Hid (X = S (wrapO ((left.take n).drop m) q))) ∧ Hid (wr.heap[w.heap.size]? = some (.cells D 152 (0, 0))) ∧ Hid (Below w.heap.size w wr))
  case atStart => exact ⟨⟨S q, Nat.le_refl _, rfl, by congr 1, hs0⟩, hr4, bl4⟩
  case round =>
    obtain ⟨⟨X, hm, rfl, rfl, hX⟩, hr5, bl5⟩ := hrel
    cases gk with
    | zero =>
      have e0 : Hid (X = S (wrapO (left.take n) q)) := hX.out
      rw [show (((0 : Nat) : Int) - 1) = -1 from rfl]
      go_wp2_with fail
      go_ret
      exact ⟨by rw [← e0.out]; rfl, bl5.out⟩
    | succ i =>
      have hi : i < left.length := by omega
      rcases HLf.out with ⟨_, hnil⟩ | ⟨off, c, hv, hc1, hc2, hcells⟩
      · rw [hnil] at hi; simp at hi
      have hc9 := hcells i hi
      obtain ⟨y, hy⟩ : ∃ y, y = left[i] := ⟨_, rfl⟩
      rw [← hy] at hc9
      have cv : wr.cell? ⟨w.heap.size, 256, none⟩ = some (.slice (some ⟨gL, off, none⟩) left.length c) := by rw [cell_of_row wr _ 256 D _ _ hr5.out, ← hv]; exact HD.out.lf
      have cy : wr.cell? ⟨gL, off + i, none⟩ = some (.int .u8 (y.toNat : Int)) := (bl5.out.cell (p := ⟨gL, off + i, none⟩) hgL).trans hc9
      have HH := Lib.hid fun w1 => HHd.out y w1
      have hil : (i : Int) < (left.length : Int) := by omega
      have hnew : Hid (B [35, y, 46] ++ X = S (wrapO ((left.take n).drop i) q)) := by
        show _ = _
        have hi2 : i < (left.take n).length := by rw [hlt.out]; omega
        rw [hX.out, List.drop_eq_getElem_cons hi2, List.getElem_take, ← hy]
        exact BS [35, y, 46] _ (.own y (wrapO ((left.take n).drop (i + 1)) q)) rfl
      have hsz : X.size ≤ 1000 := by
        rw [hX.out, S_size, wrap_len, List.length_drop, hlt.out]; omega
      obtain ⟨P, hP⟩ : ∃ P, P = B [35, y, 46] := ⟨_, rfl⟩
      have hPs : P.size ≤ 3 := by rw [hP, B_size]; simp
      obtain ⟨ny, hny⟩ : ∃ ny : Int, ny = (y.toNat : Int) := ⟨_, rfl⟩
      rw [← hP] at HH hnew
      rw [← hny] at HH cy
      rw [show (((i + 1 : Nat) : Int) - 1) = (i : Int) by omega]
      clear hy hcells hc9 hv hP hny hX
      go_wp2_with fail
      refine (HH.out _).mono ?_
      rintro e w6 ⟨rfl, b6⟩
      have hr6 := Lib.hid (row_below0 hr5.out b6)
      have bl6 := Lib.hid (below_go bl5.out b6)
      clear b6 cv cy hr5 bl5
      go_wp2_with fail
      go_roundg i
      case rel => exact ⟨⟨_, by omega, rfl, by congr 1, hnew⟩, hr6, bl6⟩
      case measure => omega

end Go.Proofs.YtmfmagfgcdaeeaaGreat.T1

/- A level, for every process: in the program. -/
namespace Go.Proofs.YtmfmagfgcdaeeaaGreat.T1
open Go.RowKit
set_option maxRecDepth 100000
set_option linter.unusedVariables false
set_option linter.unusedSimpArgs false

theorem level_any : ∀ n, LvH n := by
  intro n
  induction n with
  | zero => intro s D L vL gL left w h; have := size_pos s; omega
  | succ n ih =>
    intro s D L vL gL left w hn hD hLf hgL hfl hpl hs2 hb hll
    obtain ⟨f1, f2, f3⟩ := fl_inv hfl
    have h2 := lvl_two s
    have hG := hb.sublist (lvl_sub s)
    have hne : (visG ltU 200 (lvl s).1).map (candI n L left s) ≠ [] := fun e => visG_ne ltU 199 _ (List.map_eq_nil_iff.1 e)
    have hbest : (bestL ((visG ltU 200 (lvl s).1).map (candI n L left s))).length = (lvl s).2.length ∧ ∀ t ∈ bestL ((visG ltU 200 (lvl s).1).map (candI n L left s)), t.pr.length ≤ s.pr.length := by
      obtain ⟨o, _, e⟩ := List.mem_map.1 (bestL_mem _ hne)
      rw [← e]
      exact candI_txt n L left s o
    have hql : (joinR .par (bestL ((visG ltU 200 (lvl s).1).map (candI n L left s)))).pr.length ≤ 900 := by
      have h3 := levI_len (n + 1) L left s
      rw [levI_cand, wrap_len] at h3
      omega
    rw [levI_cand]
    refine lv_walk _ _ D L vL gL left (lvl s).1 (lvl s).2 (bestL ((visG ltU 200 (lvl s).1).map (candI n L left s))) (lvl s).2.length _ w hD hLf hgL hql f2 f1 hll (levelOf_any s (by omega)) ?_ ?_ head_ownN
    · intro w1 v vT base base2 gd gt b1 hgd hct hoT hov
      refine least_any (lvl s).1 hG f1 (candI n L left s) (lvl s).2.length (fun o _ => (candI_txt n L left s o).1) (by omega) _ _ cf_levC v base2 w1 hov ?_
      intro o ho po go co w' b' hord
      obtain ⟨hol, _⟩ := vis_ord (lvl s).1 hG f1 ho
      have b2 := below_go b1 b'
      have e1 : candI n L left s o = srtT ((lvl s).2.map (thI (levI n) (updL L o left) (left.drop o.length))) := by unfold candI; rw [hol]
      rw [e1]
      refine levC_any D L vL gL left o hD (by omega) (by omega) po go co gd gt vT (lvl s).2 ((lvl s).2.map (thI (levI n) (updL L o left) (left.drop o.length))) (lvl s).2.length base rfl (by simp) (by omega) w' (hLf.below b2) (Nat.lt_of_lt_of_le hgL b2.size) hord (row_below0 hgd b') ((b'.cell (p := ⟨gt, 0, none⟩) (lt_cell hct)).trans hct) (own_below2 hoT b') ?_
      intro D' vL' w2 hd' hl' hg' i h3 h4
      rw [List.getElem_map]
      have hm : (lvl s).2[i] ∈ (lvl s).2 := List.getElem_mem h3
      exact thrP_any n ih _ D' _ vL' gL _ w2 (by have := lvl_size s _ hm; omega) (lvl_kind s _ hm) hd' hl' hg' (by rw [List.length_drop, hol]; exact f3 _ hm) (by have := lvl_txt s _ hm; omega) (by have := lvl_size s _ hm; omega) (hb.sublist (lvl_bsub s _ hm)) (by rw [List.length_drop]; omega)
    · intro w1 v base ho
      by_cases hk : (lvl s).2.length = 0
      · have hb0 : bestL ((visG ltU 200 (lvl s).1).map (candI n L left s)) = [] := List.length_eq_zero_iff.1 (by rw [hbest.1, hk])
        rw [hb0, hk] at ho
        rw [hb0]
        exact brNone _ v base w1 ho
      · have hbn : bestL ((visG ltU 200 (lvl s).1).map (candI n L left s)) ≠ [] := fun e => hk (by rw [← hbest.1, e]; rfl)
        rw [← joinB_par _ hbn]
        exact brOwn ⟨#[38]⟩ (by decide) _ v _ base w1 ho hbest.1.symm (by omega) (by omega) (fun t ht => by have := hbest.2 t ht; omega)

end Go.Proofs.YtmfmagfgcdaeeaaGreat.T1

/- What a normal form is made of: in the program. -/
namespace Go.Proofs.YtmfmagfgcdaeeaaGreat.T1
open Go.RowKit
set_option maxRecDepth 100000
set_option linter.unusedVariables false
set_option linter.unusedSimpArgs false

theorem sim_len (t : Tm) : t.sim.pr.length ≤ t.pr.length := by
  induction t with
  | nil => exact Nat.le_refl _
  | snd a b p ih => simp only [Tm.sim, Tm.pr, List.length_append, List.length_cons]; omega
  | rcv a b p ih => simp only [Tm.sim, Tm.pr, List.length_append, List.length_cons]; omega
  | tau p ih => simp only [Tm.sim, Tm.pr, List.length_append, List.length_cons]; omega
  | sum p q ih ih2 =>
    unfold Tm.sim
    split
    · simp only [Tm.pr, List.length_append, List.length_cons]; omega
    · split <;> simp only [Tm.pr, List.length_append, List.length_cons] <;> omega
  | par p q ih ih2 =>
    unfold Tm.sim
    split
    · simp only [Tm.pr, List.length_append, List.length_cons]; omega
    · split <;> simp only [Tm.pr, List.length_append, List.length_cons] <;> omega
  | own x p ih => unfold Tm.sim; split <;> simp only [Tm.pr, List.length_append, List.length_cons] <;> omega
  | mat a b p ih => unfold Tm.sim; split <;> simp only [Tm.pr, List.length_append, List.length_cons] <;> omega
  | rep p ih => unfold Tm.sim; split <;> simp only [Tm.pr, List.length_append, List.length_cons] <;> omega
theorem numb_len (t : Tm) : (numb t).pr.length ≤ t.pr.length := by unfold numb; rw [(can_len _ _ _).1]; exact sim_len t
theorem subs_own (t : Tm) : t.subs.countP (fun u => (one u.kind).toList == (⟨#[35]⟩ : ByteArray).toList) = ownc t := by
  have hk : ∀ u : Tm, ((one u.kind).toList == (⟨#[35]⟩ : ByteArray).toList) = (match u with | .own _ _ => true | _ => false) := by
    intro u
    rw [Lib.toList_data, Lib.toList_data]
    cases u <;> rfl
  simp only [hk]
  induction t with
  | nil => rfl
  | _ => simp_all [Tm.subs, ownc, List.countP_cons, List.countP_append, Nat.add_comm]
set_option maxHeartbeats 2000000 in
theorem freeScope_big (w : World) : Calls Tryz.prog 64 #[] w fun e w' => ∃ C, e = .returned (.agg C) ∧ ScOf C id ∧ w.heap.size < w'.heap.size ∧ Below w.heap.size w w' := by
  go_enter Tryz.func64, Tryz.ntmps64
  go_wp2_with fail
  obtain ⟨Z, hZ⟩ : ∃ Z : Array Value, Z = Tryz.zeroCells54 := ⟨_, rfl⟩
  rw [← hZ]
  have hZs : Hid (Z.size = 256) := by rw [hZ]; exact zs256
  obtain ⟨W, hW⟩ : ∃ W, W = (w.alloc (.cells Z 54)).alloc (.cells Z 54) := ⟨_, rfl⟩
  rw [← hW]
  have r0 : Hid (W.heap[w.heap.size]? = some (.cells Z 54 (0, 0))) := by rw [hW]; exact first_block _ _ _
  have r1 : Hid (W.heap[w.heap.size + 1]? = some (.cells Z 54 (0, 0))) := by rw [hW]; exact last_block _ _ _
  have bl : Below w.heap.size w W := by rw [hW]; exact below_two _ _ _
  clear hW hZ
  go_loopw [3] (fun i wr => ∃ (k : Nat) (C : Array Value), k ≤ 256 ∧ i = .int .i64 (k : Int) ∧ Hid (C.size = 256) ∧ Hid (∀ j, j < k → C[j]? = some (.int .u8 ((j : Nat) : Int))) ∧ Hid (wr.heap[w.heap.size]? = some (.cells Z 54 (0, 0))) ∧ Hid (wr.heap[w.heap.size + 1]? = some (.cells C 54 (0, 0))) ∧ Below w.heap.size w wr) (fun i _ => 256 - (intOf i).toNat)
  case atStart => exact ⟨0, Z, Nat.zero_le _, rfl, hZs, fun j h => by omega, r0, r1, bl⟩
  case round =>
    obtain ⟨k, C, hk, rfl, hC, hCj, h0, h1, hbw⟩ := hrel
    by_cases hlt : k < 256
    · obtain ⟨y, hy⟩ : ∃ y, C[k]? = some y := ⟨_, Array.getElem?_eq_getElem (by have := hC.out; omega)⟩
      have c1 : wr.cell? ⟨w.heap.size + 1, k, none⟩ = some y := by rw [cell_of_row wr _ k C _ _ h1.out]; exact hy
      have f1 := frozen_of_row wr (w.heap.size + 1) k C _ h1.out
      have hw8 : IntKind.u8.wrap ((k : Int)) = (k : Int) := by rw [IntKind.wrap_u8] <;> omega
      have H1 := Lib.hid (heap_setCell_same wr (w.heap.size + 1) k C 54 (.int .u8 ((k : Int))) h1.out)
      have H0 : Hid ((wr.setCell ⟨w.heap.size + 1, k, none⟩ (.int .u8 ((k : Int)))).heap[w.heap.size]? = some (.cells Z 54 (0, 0))) := row_set h0.out (by omega)
      have HS : Hid ((C.setIfInBounds k (.int .u8 ((k : Int)))).size = 256) := by show _ = _; rw [Array.size_setIfInBounds]; exact hC.out
      have HJ : Hid (∀ j, j < k + 1 → (C.setIfInBounds k (.int .u8 ((k : Int))))[j]? = some (.int .u8 ((j : Nat) : Int))) := fun j hj => by
        by_cases e : k = j
        · subst e
          rw [Array.getElem?_setIfInBounds_self_of_lt (by have := hC.out; omega)]
        · rw [Array.getElem?_setIfInBounds_ne e]; exact hCj.out j (by omega)
      clear hy
      go_wp2_with fail
      go_roundw
      case rel => exact ⟨k + 1, _, by omega, by go_num, HS, HJ, H0, H1, hbw.setCell (p := ⟨w.heap.size + 1, k, none⟩) (by show w.heap.size ≤ w.heap.size + 1; omega) _⟩
      case measure => simp [intOf]; omega
    · obtain rfl : k = 256 := by omega
      have HSc : Hid (ScOf C id) := ⟨hC.out, fun j hj => by rw [hCj.out j hj]; show _ = some (Value.int .u8 (((UInt8.ofNat (j)).toNat : Nat) : Int)); rw [UInt8.toNat_ofNat', Nat.mod_eq_of_lt (by omega)]⟩
      have hi : Hid ((Tryz.prog.info? 54).map (·.size) = some C.size) := by show _ = _; rw [Tryz.infoSc, hC.out]
      have hone : Hid (C.all (·.oneCell') = true) := by
        refine Array.all_eq_true.2 fun i hi => ?_
        have hi' : i < 256 := by have := hC.out; omega
        have h1 := hCj.out i hi'
        rw [Array.getElem?_eq_getElem hi] at h1
        simp only [Option.some.injEq] at h1
        rw [h1]; rfl
      have hold : Hid (Z.size = C.size) := by show _ = _; rw [hZs.out, hC.out]
      clear hC hCj
      go_wp2_with (first | refine wpList_load_row rfl 54 (.tmp 1) rfl (w.heap.size + 1) rfl 54 C (0, 0) _ h1.out Tryz.underlying54 rfl hi.out ?_ | refine wpList_store_row rfl 54 (.tmp 0) (.tmp 11) rfl w.heap.size C rfl rfl 54 Z h0.out hi.out hold.out hone.out ?_)
      exact bodyPost_ret (v := .agg C) (results_cell_row (t := 54) (fr := (0, 0)) rfl _ _ w.heap.size _ _ rfl (setRow_heap wr w.heap.size Z C 54 _ h0.out) Tryz.underlying54 rfl hi.out) rfl ⟨C, rfl, HSc.out, by have := lt_of_block h1.out; simp; omega, below_setRow hbw (Nat.le_refl _) hbw.size⟩

theorem fold_set (l : List Value) : ∀ (k : Nat) (Z : Array Value), ((l.zipIdx k).foldl (fun cs (p : Value × Nat) => cs.setIfInBounds (0 + p.2) p.1) Z).size = Z.size ∧
    ∀ j, j < Z.size → ((l.zipIdx k).foldl (fun cs (p : Value × Nat) => cs.setIfInBounds (0 + p.2) p.1) Z)[j]? = if k ≤ j ∧ j < k + l.length then l[j - k]? else Z[j]? := by
  induction l with
  | nil => intro k Z; exact ⟨rfl, fun j hj => by rw [if_neg (by simp)]; rfl⟩
  | cons a l ih =>
    intro k Z
    simp only [List.zipIdx_cons, List.foldl_cons, Nat.zero_add] at ih ⊢
    obtain ⟨h1, h2⟩ := ih (k + 1) (Z.setIfInBounds k a)
    rw [Array.size_setIfInBounds] at h1 h2
    refine ⟨h1, fun j hj => ?_⟩
    rw [h2 j hj]
    by_cases c1 : k + 1 ≤ j ∧ j < k + 1 + l.length
    · rw [if_pos c1, if_pos ⟨by omega, by simp; omega⟩]
      obtain ⟨m, rfl⟩ : ∃ m, j = k + 1 + m := ⟨j - (k + 1), by omega⟩
      rw [show k + 1 + m - k = m + 1 by omega, show k + 1 + m - (k + 1) = m by omega, List.getElem?_cons_succ]
    · rw [if_neg c1]
      by_cases c2 : k = j
      · subst c2
        rw [Array.getElem?_setIfInBounds_self_of_lt hj, if_pos ⟨Nat.le_refl _, by simp⟩]
        simp
      · rw [Array.getElem?_setIfInBounds_ne c2, if_neg (by simp; omega)]
theorem built_df (parts : List (Nat × Value)) : Tryz.prog.built 152 parts = Instr.fill (#[(0, 256), (256, 1)][·]?) Tryz.zeroCells152 parts := by kernel_rfl
theorem built_some (C : Array Value) (v : Value) (hC : C.size = 256) (hv : v.cells = #[v]) (h1 : v.oneCell' = true) (sc : UInt8 → UInt8) (hs : ScOf C sc) :
    ∃ D, Tryz.prog.built 152 [(0, .agg C), (1, v)] = some D ∧ DrOf D sc v := by
  have hz : (Tryz.zeroCells152).size = 257 := zs257
  have hc : (Value.agg C).cells = C := rfl
  obtain ⟨f1, f2⟩ := fold_set C.toList 0 Tryz.zeroCells152
  rw [hz] at f1 f2
  refine ⟨((C.toList.zipIdx 0).foldl (fun cs (p : Value × Nat) => cs.setIfInBounds (0 + p.2) p.1) Tryz.zeroCells152).setIfInBounds 256 v, ?_, ?_, fun j hj => ?_, ?_, h1⟩
  · rw [built_df]
    simp only [Instr.fill, hc, hv, hC, hz]
    rw [show (#[(0, 256), (256, 1)] : Array (Nat × Nat))[0]? = some (0, 256) from rfl, show (#[(0, 256), (256, 1)] : Array (Nat × Nat))[1]? = some (256, 1) from rfl]
    dsimp only
    have eF : ∀ Z : Array Value, Array.foldl (fun cs (x : Value × Nat) => cs.setIfInBounds (0 + x.snd) x.fst) Z C.zipIdx = List.foldl (fun cs (x : Value × Nat) => cs.setIfInBounds (0 + x.snd) x.fst) Z C.toList.zipIdx := fun Z => by
      rw [← Array.foldl_toList, Array.toList_zipIdx]
    rw [eF, f1, if_neg (by decide), if_neg (by simp)]
    rfl
  · rw [Array.size_setIfInBounds]; exact f1
  · rw [Array.getElem?_setIfInBounds_ne (by omega), f2 j (by omega), if_pos ⟨Nat.zero_le _, by simp; omega⟩, Nat.sub_zero, Array.getElem?_toList]
    exact hs.2 j hj
  · rw [Array.getElem?_setIfInBounds_self_of_lt (by rw [f1]; omega)]

end Go.Proofs.YtmfmagfgcdaeeaaGreat.T1

/- The ways through the normal form: in the program. MADE BY gen_Kq.py. -/
namespace Go.Proofs.YtmfmagfgcdaeeaaGreat.T1
open Go.RowKit
set_option maxRecDepth 100000
set_option linter.unusedVariables false
set_option linter.unusedSimpArgs false

theorem wpList_build {P : Program} {ops : Array Oper} {rest : List Oper} {o : Oper} {a : Act} {w : World} {Q : Exit → Act → World → Prop} (hgd : o.guard = none) (t : TypeId) (parts : Array (Nat × Operand)) (ho : o.op = .build t parts) (cells : Array Value)
    (hc : P.built t (parts.map fun (i, x) => (i, a.eval x)).toList = some cells) (h : wpList P ops Q rest (a.put o.dst (.agg cells)) w) : wpList P ops Q (o :: rest) a w :=
  wpList_plain hgd fun _ hK => wp_build t parts ho (by rw [hc]; rfl) (by rw [hc]; exact hK _ _ h)
theorem wpList_build2 {P : Program} {ops : Array Oper} {rest : List Oper} {o : Oper} {a : Act} {w : World} {Q : Exit → Act → World → Prop} (hgd : o.guard = none) (t : TypeId) (x y : Operand) (ho : o.op = .build t #[(0, x), (1, y)]) (u v : Value) (hx : a.eval x = u) (hy : a.eval y = v) (cells : Array Value)
    (hc : P.built t [(0, u), (1, v)] = some cells) (h : wpList P ops Q rest (a.put o.dst (.agg cells)) w) : wpList P ops Q (o :: rest) a w :=
  wpList_build hgd t #[(0, x), (1, y)] ho cells (by rw [← hc, ← hx, ← hy]; simp) h
set_option maxHeartbeats 2000000 in
theorem nf_bad0 (T T1 : TypeId) (V V1 : Value) (sz : Nat) (hsz : 60 < sz) (w : World)
    (hSim : ∀ w, Calls Tryz.prog 158 #[.iface T V] w fun e w' => e = .returned (.iface T1 V1) ∧ Below w.heap.size w w')
    (hSz : ∀ w, Calls Tryz.prog 84 #[.iface T1 V1] w fun e w' => e = .returned (.int .i64 (sz : Nat)) ∧ Below w.heap.size w w') :
    Calls Tryz.prog 140 #[.iface T V] w fun e w' => e = .returned (.tuple #[.nilIface, .bool false]) ∧ Below w.heap.size w w' := by
  have H1 := Lib.hid hSim
  have H0 := Lib.hid hSz
  have hsz' : (60 : Int) < (sz : Int) := by omega
  clear hSim hSz
  go_enter Tryz.func140, Tryz.ntmps140
  go_wp2_with fail
  with_reducible refine (H1.out _).mono ?_
  rintro e w1 ⟨rfl, b1⟩
  go_wp2_with fail
  with_reducible refine (H0.out _).mono ?_
  rintro e w0 ⟨rfl, b0⟩
  replace b1 := below_go b1 b0
  clear b0
  go_wp2_with fail
  go_ret2
  exact ⟨rfl, b1⟩
set_option maxHeartbeats 2000000 in
theorem nf_bad1 (T T1 T2 : TypeId) (V V1 V2 : Value) (Fi : Int) (ls : List UInt8) (hls : ls.length ≤ 30) (cnt sz : Nat) (hsz : ¬ 60 < sz) (hc : 8 < cnt) (w : World)
    (hSim : ∀ w, Calls Tryz.prog 158 #[.iface T V] w fun e w' => e = .returned (.iface T1 V1) ∧ Below w.heap.size w w')
    (hSz : ∀ w, Calls Tryz.prog 84 #[.iface T1 V1] w fun e w' => e = .returned (.int .i64 (sz : Nat)) ∧ Below w.heap.size w w')
    (hFr : ∀ w, Calls Tryz.prog 60 #[.iface T1 V1] w fun e w' => e = .returned (.int .u32 Fi) ∧ Below w.heap.size w w')
    (hOt : ∀ w, Calls Tryz.prog 61 #[.int .u32 Fi] w fun e w' => ∃ v, e = .returned v ∧ w'.ownsRow w.heap.size 5 1 v ls.length (ls.map ub) ∧ Below w.heap.size w w')
    (hNu : ∀ w, Calls Tryz.prog 71 #[.iface T1 V1] w fun e w' => e = .returned (.iface T2 V2) ∧ Below w.heap.size w w')
    (hCk : ∀ w, Calls Tryz.prog 115 #[.iface T2 V2, .string ⟨#[35]⟩] w fun e w' => e = .returned (.int .i64 (cnt : Nat)) ∧ Below w.heap.size w w') :
    Calls Tryz.prog 140 #[.iface T V] w fun e w' => e = .returned (.tuple #[.nilIface, .bool false]) ∧ Below w.heap.size w w' := by
  have H1 := Lib.hid hSim
  have H0 := Lib.hid hSz
  have hsz' : ¬ (60 : Int) < (sz : Int) := by omega
  have H2 := Lib.hid hFr
  have H3 := Lib.hid hOt
  have H4 := Lib.hid hNu
  have H5 := Lib.hid hCk
  have hc' : (8 : Int) < (cnt : Int) := by omega
  clear hSim hSz hFr hOt hNu hCk
  go_enter Tryz.func140, Tryz.ntmps140
  go_wp2_with fail
  with_reducible refine (H1.out _).mono ?_
  rintro e w1 ⟨rfl, b1⟩
  go_wp2_with fail
  with_reducible refine (H0.out _).mono ?_
  rintro e w0 ⟨rfl, b0⟩
  replace b1 := below_go b1 b0
  clear b0
  go_wp2_with fail
  with_reducible refine (H2.out _).mono ?_
  rintro e w2 ⟨rfl, b2⟩
  replace b1 := below_go b1 b2
  clear b2
  go_wp2_with fail
  with_reducible refine (H3.out _).mono ?_
  rintro e w3 ⟨v, rfl, ho, b3⟩
  have hg3 : w.heap.size ≤ w2.heap.size := b1.size
  replace b1 := below_go b1 b3
  obtain ⟨p, c, rfl⟩ := own_form ho
  have HO := Lib.hid ho
  clear b3 ho
  go_wp2_with fail
  with_reducible refine (H4.out _).mono ?_
  rintro e w4 ⟨rfl, b4⟩
  have HO4 := Lib.hid (own_below2 HO.out b4)
  replace b1 := below_go b1 b4
  clear b4 HO
  go_wp2_with fail
  with_reducible refine (H5.out _).mono ?_
  rintro e w5 ⟨rfl, b5⟩
  have HO5 := Lib.hid (own_below2 HO4.out b5)
  replace b1 := below_go b1 b5
  clear b5 HO4
  go_wp2_with fail
  go_ret2
  exact ⟨rfl, b1⟩
set_option maxHeartbeats 2000000 in
theorem nf_bad2 (T T1 T2 : TypeId) (V V1 V2 : Value) (Fi : Int) (ls : List UInt8) (hls : ls.length ≤ 30) (cnt sz : Nat) (hsz : ¬ 60 < sz) (hc : ¬ 8 < cnt) (w : World)
    (hSim : ∀ w, Calls Tryz.prog 158 #[.iface T V] w fun e w' => e = .returned (.iface T1 V1) ∧ Below w.heap.size w w')
    (hSz : ∀ w, Calls Tryz.prog 84 #[.iface T1 V1] w fun e w' => e = .returned (.int .i64 (sz : Nat)) ∧ Below w.heap.size w w')
    (hFr : ∀ w, Calls Tryz.prog 60 #[.iface T1 V1] w fun e w' => e = .returned (.int .u32 Fi) ∧ Below w.heap.size w w')
    (hOt : ∀ w, Calls Tryz.prog 61 #[.int .u32 Fi] w fun e w' => ∃ v, e = .returned v ∧ w'.ownsRow w.heap.size 5 1 v ls.length (ls.map ub) ∧ Below w.heap.size w w')
    (hNu : ∀ w, Calls Tryz.prog 71 #[.iface T1 V1] w fun e w' => e = .returned (.iface T2 V2) ∧ Below w.heap.size w w')
    (hCk : ∀ w, Calls Tryz.prog 115 #[.iface T2 V2, .string ⟨#[35]⟩] w fun e w' => e = .returned (.int .i64 (cnt : Nat)) ∧ Below w.heap.size w w')
    (hFi : ∀ w, Calls Tryz.prog 159 #[.iface T2 V2, .int .i64 (ls.length : Int)] w fun e w' => e = .returned (.bool false) ∧ Below w.heap.size w w') :
    Calls Tryz.prog 140 #[.iface T V] w fun e w' => e = .returned (.tuple #[.nilIface, .bool false]) ∧ Below w.heap.size w w' := by
  have H1 := Lib.hid hSim
  have H0 := Lib.hid hSz
  have hsz' : ¬ (60 : Int) < (sz : Int) := by omega
  have H2 := Lib.hid hFr
  have H3 := Lib.hid hOt
  have H4 := Lib.hid hNu
  have H5 := Lib.hid hCk
  have H6 := Lib.hid hFi
  have hc' : ¬ (8 : Int) < (cnt : Int) := by omega
  clear hSim hSz hFr hOt hNu hCk hFi
  go_enter Tryz.func140, Tryz.ntmps140
  go_wp2_with fail
  with_reducible refine (H1.out _).mono ?_
  rintro e w1 ⟨rfl, b1⟩
  go_wp2_with fail
  with_reducible refine (H0.out _).mono ?_
  rintro e w0 ⟨rfl, b0⟩
  replace b1 := below_go b1 b0
  clear b0
  go_wp2_with fail
  with_reducible refine (H2.out _).mono ?_
  rintro e w2 ⟨rfl, b2⟩
  replace b1 := below_go b1 b2
  clear b2
  go_wp2_with fail
  with_reducible refine (H3.out _).mono ?_
  rintro e w3 ⟨v, rfl, ho, b3⟩
  have hg3 : w.heap.size ≤ w2.heap.size := b1.size
  replace b1 := below_go b1 b3
  obtain ⟨p, c, rfl⟩ := own_form ho
  have HO := Lib.hid ho
  clear b3 ho
  go_wp2_with fail
  with_reducible refine (H4.out _).mono ?_
  rintro e w4 ⟨rfl, b4⟩
  have HO4 := Lib.hid (own_below2 HO.out b4)
  replace b1 := below_go b1 b4
  clear b4 HO
  go_wp2_with fail
  with_reducible refine (H5.out _).mono ?_
  rintro e w5 ⟨rfl, b5⟩
  have HO5 := Lib.hid (own_below2 HO4.out b5)
  replace b1 := below_go b1 b5
  clear b5 HO4
  go_wp2_with fail
  with_reducible refine (H6.out _).mono ?_
  rintro e w6 ⟨rfl, b6⟩
  replace b1 := below_go b1 b6
  go_wp2_with fail
  go_ret2
  exact ⟨rfl, b1⟩
set_option maxHeartbeats 4000000 in
theorem nf_good (T T1 T2 : TypeId) (V V1 V2 : Value) (Fi : Int) (ls : List UInt8) (hls : ls.length ≤ 30) (cnt sz : Nat) (hsz : ¬ 60 < sz) (hc : ¬ 8 < cnt) (X : ByteArray) (PV : Value) (PB : Bool) (w : World)
    (hSim : ∀ w, Calls Tryz.prog 158 #[.iface T V] w fun e w' => e = .returned (.iface T1 V1) ∧ Below w.heap.size w w')
    (hSz : ∀ w, Calls Tryz.prog 84 #[.iface T1 V1] w fun e w' => e = .returned (.int .i64 (sz : Nat)) ∧ Below w.heap.size w w')
    (hFr : ∀ w, Calls Tryz.prog 60 #[.iface T1 V1] w fun e w' => e = .returned (.int .u32 Fi) ∧ Below w.heap.size w w')
    (hOt : ∀ w, Calls Tryz.prog 61 #[.int .u32 Fi] w fun e w' => ∃ v, e = .returned v ∧ w'.ownsRow w.heap.size 5 1 v ls.length (ls.map ub) ∧ Below w.heap.size w w')
    (hNu : ∀ w, Calls Tryz.prog 71 #[.iface T1 V1] w fun e w' => e = .returned (.iface T2 V2) ∧ Below w.heap.size w w')
    (hCk : ∀ w, Calls Tryz.prog 115 #[.iface T2 V2, .string ⟨#[35]⟩] w fun e w' => e = .returned (.int .i64 (cnt : Nat)) ∧ Below w.heap.size w w')
    (hFi : ∀ w, Calls Tryz.prog 159 #[.iface T2 V2, .int .i64 (ls.length : Int)] w fun e w' => e = .returned (.bool true) ∧ Below w.heap.size w w')
    (hSc : ∀ w, Calls Tryz.prog 64 #[] w fun e w' => ∃ C, e = .returned (.agg C) ∧ ScOf C id ∧ w.heap.size < w'.heap.size ∧ Below w.heap.size w w')
    (hLe : ∀ D v g w, DrOf D id v → LfS w g v ls → g < w.heap.size → Calls Tryz.prog 160 #[.agg D, .iface T2 V2] w (StrP X w))
    (hPa : ∀ w, Calls Tryz.prog 59 #[.string X] w fun e w' => e = .returned (.tuple #[PV, .bool PB]) ∧ Below w.heap.size w w') :
    Calls Tryz.prog 140 #[.iface T V] w fun e w' => e = .returned (.tuple #[PV, .bool PB]) ∧ Below w.heap.size w w' := by
  have H1 := Lib.hid hSim
  have H0 := Lib.hid hSz
  have hsz' : ¬ (60 : Int) < (sz : Int) := by omega
  have H2 := Lib.hid hFr
  have H3 := Lib.hid hOt
  have H4 := Lib.hid hNu
  have H5 := Lib.hid hCk
  have H6 := Lib.hid hFi
  have H7 := Lib.hid hSc
  have H8 := Lib.hid hLe
  have H9 := Lib.hid hPa
  have hc' : ¬ (8 : Int) < (cnt : Int) := by omega
  clear hSim hSz hFr hOt hNu hCk hFi hSc hLe hPa
  go_enter Tryz.func140, Tryz.ntmps140
  go_wp2_with fail
  with_reducible refine (H1.out _).mono ?_
  rintro e w1 ⟨rfl, b1⟩
  go_wp2_with fail
  with_reducible refine (H0.out _).mono ?_
  rintro e w0 ⟨rfl, b0⟩
  replace b1 := below_go b1 b0
  clear b0
  go_wp2_with fail
  with_reducible refine (H2.out _).mono ?_
  rintro e w2 ⟨rfl, b2⟩
  replace b1 := below_go b1 b2
  clear b2
  go_wp2_with fail
  with_reducible refine (H3.out _).mono ?_
  rintro e w3 ⟨v, rfl, ho, b3⟩
  have hg3 : w.heap.size ≤ w2.heap.size := b1.size
  replace b1 := below_go b1 b3
  obtain ⟨p, c, rfl⟩ := own_form ho
  have HO := Lib.hid ho
  clear b3 ho
  go_wp2_with fail
  with_reducible refine (H4.out _).mono ?_
  rintro e w4 ⟨rfl, b4⟩
  have HO4 := Lib.hid (own_below2 HO.out b4)
  replace b1 := below_go b1 b4
  clear b4 HO
  go_wp2_with fail
  with_reducible refine (H5.out _).mono ?_
  rintro e w5 ⟨rfl, b5⟩
  have HO5 := Lib.hid (own_below2 HO4.out b5)
  replace b1 := below_go b1 b5
  clear b5 HO4
  go_wp2_with fail
  with_reducible refine (H6.out _).mono ?_
  rintro e w6 ⟨rfl, b6⟩
  have HO6 := Lib.hid (own_below2 HO5.out b6)
  replace b1 := below_go b1 b6
  clear b6 HO5
  go_wp2_with fail
  with_reducible refine (H7.out _).mono ?_
  rintro e w7 ⟨C, rfl, hsc, hgt, b7⟩
  have HO7 := own_below2 HO6.out b7
  have bl := Lib.hid (below_go b1 b7)
  obtain ⟨D, hbt, hdr⟩ := built_some C (.slice p ls.length c) hsc.1 rfl rfl id hsc
  have hlf : ∃ g, g < w7.heap.size ∧ LfS w7 g (.slice p ls.length c) ls := by
    rcases HO7.2 with ⟨e, e2⟩ | ⟨g, c', cur, e, hb1, hb3, hb4, hb5, _⟩
    · exact ⟨w6.heap.size, hgt, .inl ⟨e, List.length_eq_zero_iff.1 e2⟩⟩
    · cases e
      refine ⟨g, lt_of_block hb3, .inr ⟨0, c, rfl, hb4, hb5, fun j hj => ?_⟩⟩
      have := own_cells HO7 j (ub ls[j]) (by rw [List.getElem?_map, List.getElem?_eq_getElem hj]; rfl)
      rw [add0] at this
      rw [Nat.zero_add]; exact this
  obtain ⟨g, hg, hlf⟩ := hlf
  have HL := Lib.hid (H8.out D _ g w7 hdr hlf hg)
  clear hsc hgt b1 b7 HO7 hg hlf HO6 hdr
  go_wp2_with (refine wpList_build2 rfl 152 (.tmp 25) (.tmp 26) rfl (.agg C) (.slice p ls.length c) rfl rfl D hbt ?_)
  with_reducible refine (HL.out).mono ?_
  rintro e w8 ⟨rfl, b8⟩
  have bl8 := below_go bl.out b8
  go_wp2_with fail
  with_reducible refine (H9.out _).mono ?_
  rintro e w9 ⟨rfl, b9⟩
  have bl9 := below_go bl8 b9
  go_wp2_with fail
  go_ret2
  exact ⟨rfl, bl9⟩

end Go.Proofs.YtmfmagfgcdaeeaaGreat.T1

/- The form of a normal form, plain: names at its front, its threads, the parts of its sums. -/
namespace Go.Proofs.YtmfmagfgcdaeeaaGreat.T1
set_option linter.unusedVariables false
set_option linter.unusedSimpArgs false

/-- Nothing is left that the laws leave out, on either side. -/
def Neat : Tm → Prop
  | .nil => True
  | .snd _ _ p => Neat p
  | .rcv _ _ p => Neat p
  | .tau p => Neat p
  | .sum p q => Neat p ∧ Neat q
  | .par p q => (p ≠ .nil ∧ q ≠ .nil) ∧ Neat p ∧ Neat q
  | .own _ p => p ≠ .nil ∧ Neat p
  | .mat _ _ p => Neat p
  | .rep p => Neat p
theorem neat_clean (t : Tm) (h : Neat t) : Clean t := by
  induction t with
  | nil => trivial
  | snd a b p ih => exact ih h
  | rcv a x p ih => exact ih h
  | tau p ih => exact ih h
  | sum p q ih ih2 => exact ⟨ih h.1, ih2 h.2⟩
  | par p q ih ih2 => exact ⟨h.1.1, ih h.2.1, ih2 h.2.2⟩
  | own x p ih => exact ⟨h.1, ih h.2⟩
  | mat a b p ih => exact ih h
  | rep p ih => exact ih h
theorem neat_sim (t : Tm) : Neat t.sim := by
  induction t with
  | nil => trivial
  | snd a b p ih => exact ih
  | rcv a x p ih => exact ih
  | tau p ih => exact ih
  | sum p q ih ih2 =>
    unfold Tm.sim
    split
    · exact ih2
    · split
      · exact ih
      · exact ⟨ih, ih2⟩
  | par p q ih ih2 =>
    unfold Tm.sim
    split
    · exact ih2
    · split
      · exact ih
      · rename_i h1 h2; exact ⟨⟨h1, h2⟩, ih, ih2⟩
  | own x p ih =>
    unfold Tm.sim
    split
    · rename_i h; exact ⟨fun e => by rw [e] at h; simp [Tm.free] at h, ih⟩
    · exact ih
  | mat a b p ih => unfold Tm.sim; split <;> exact ih
  | rep p ih => unfold Tm.sim; split <;> exact ih
theorem neat_can (s : Tm) : ∀ (f : UInt8 → UInt8) (ns : List UInt8), Neat s → Neat (can s f ns) := by
  induction s with
  | nil => intro f ns h; trivial
  | snd a b p ih => intro f ns h; exact ih _ _ h
  | rcv a x p ih => intro f ns h; exact ih _ _ h
  | tau p ih => intro f ns h; exact ih _ _ h
  | mat a b p ih => intro f ns h; exact ih _ _ h
  | rep p ih => intro f ns h; exact ih _ _ h
  | sum p q ih ih2 => intro f ns h; exact ⟨ih _ _ h.1, ih2 _ _ h.2⟩
  | par p q ih ih2 => intro f ns h; exact ⟨⟨fun e => h.1.1 (can_nil e), fun e => h.1.2 (can_nil e)⟩, ih _ _ h.2.1, ih2 _ _ h.2.2⟩
  | own x p ih => intro f ns h; exact ⟨fun e => h.1 (can_nil e), ih _ _ h.2⟩
theorem neat_thr (s : Tm) (h : Neat s) : ∀ T ∈ (lvl s).2, Neat T := by
  induction s with
  | nil => intro T hT; simp [lvl] at hT
  | own x p ih => exact ih h.2
  | par p q ih ih2 =>
    intro T hT
    simp only [lvl, List.mem_append] at hT
    exact hT.elim (ih h.2.1 T) (ih2 h.2.2 T)
  | _ => intro T hT; simp only [lvl, List.mem_singleton] at hT; rw [hT]; exact h
theorem neat_smds (s : Tm) (h : Neat s) : ∀ q ∈ smds s, Neat q := by
  induction s with
  | sum p q ih ih2 =>
    intro T hT
    simp only [smds, List.mem_append] at hT
    exact hT.elim (ih h.1 T) (ih2 h.2 T)
  | _ => intro T hT; simp only [smds, List.mem_singleton] at hT; rw [hT]; exact h
end Go.Proofs.YtmfmagfgcdaeeaaGreat.T1

/- A level as it is made has at least the signs of what it is made of, plain. No conditions. -/
namespace Go.Proofs.YtmfmagfgcdaeeaaGreat.T1
set_option linter.unusedVariables false
set_option linter.unusedSimpArgs false
set_option maxRecDepth 100000

def wz (l : List Tm) : Nat := (l.map fun t => t.size + 1).sum
theorem wz_app (l m : List Tm) : wz (l ++ m) = wz l + wz m := by simp [wz]
theorem wz_perm {l m : List Tm} (h : l.Perm m) : wz l = wz m := by unfold wz; exact (h.map _).sum_nat
theorem wz_srt (l : List Tm) : wz (srtT l) = wz l := wz_perm (List.mergeSort_perm _ _)
theorem wz_map {f : Tm → Tm} : ∀ l : List Tm, (∀ t ∈ l, t.size ≤ (f t).size) → wz l ≤ wz (l.map f) := by
  intro l; induction l with
  | nil => intro _; simp [wz]
  | cons a l ih =>
    intro h
    have h1 := h a (by simp)
    have h2 := ih fun b hb => h b (by simp [hb])
    simp only [wz, List.map_cons, List.sum_cons] at h2 ⊢; omega
theorem wz_joinP : ∀ l : List Tm, wz l ≤ (joinR .par l).size + 1 := by
  intro l; induction l with
  | nil => simp [wz]
  | cons a l ih =>
    cases l with
    | nil => simp [wz, joinR]
    | cons b l => simp only [joinR, Tm.size, wz, List.map_cons, List.sum_cons] at ih ⊢; omega
theorem wz_joinS : ∀ l : List Tm, wz l ≤ (joinR .sum l).size + 1 := by
  intro l; induction l with
  | nil => simp [wz]
  | cons a l ih =>
    cases l with
    | nil => simp [wz, joinR]
    | cons b l => simp only [joinR, Tm.size, wz, List.map_cons, List.sum_cons] at ih ⊢; omega
theorem wz_wrap (t : Tm) : ∀ ls : List UInt8, (wrapO ls t).size = ls.length + t.size := by
  intro ls; induction ls with
  | nil => simp [wrapO]
  | cons a ls ih =>
    have e : wrapO (a :: ls) t = .own a (wrapO ls t) := rfl
    rw [e, Tm.size, ih, List.length_cons]; omega
theorem wz_smds (s : Tm) : s.size + 1 = wz (smds s) := by
  induction s with
  | sum p q ih ih2 => simp only [smds, wz_app, Tm.size]; omega
  | _ => simp [smds, wz]
theorem wz_lvl (s : Tm) (h : Neat s) (hs : s ≠ .nil) : s.size + 1 ≤ (lvl s).1.length + wz (lvl s).2 := by
  induction s with
  | nil => exact absurd rfl hs
  | own x p ih => have := ih h.2 h.1; simp only [lvl, List.length_cons, Tm.size]; omega
  | par p q ih ih2 =>
    have h1 := ih h.2.1 h.1.1
    have h2 := ih2 h.2.2 h.1.2
    simp only [lvl, List.length_append, wz_app, Tm.size]; omega
  | _ => simp [lvl, wz]
theorem mid_size (n : Nat) : ∀ (once : Bool) (L : UInt8 → UInt8) (left : List UInt8) (s : Tm), s.size ≤ n → Neat s → fl s left.length = true → s.size ≤ (mid n once L left s).size := by
  induction n with
  | zero => intro once L left s h; have := size_pos s; omega
  | succ n ih =>
    intro once L left s hn hc hf
    obtain ⟨f1, f2, f3⟩ := fl_inv hf
    unfold mid
    by_cases hU : (lvl s).2 = []
    · have : s = .nil := by
        cases s with
        | nil => rfl
        | _ => exact absurd hU (clean_lvl _ (neat_clean _ hc) (by simp))
      subst this; simp [lvl, Tm.size]
    · have hU' : (lvl s).2.isEmpty = false := by simpa using hU
      have hsn : s ≠ .nil := fun e => by subst e; simp [lvl] at hU
      have hlv := wz_lvl s hc hsn
      rw [hU']
      simp only [Bool.false_eq_true, if_false]
      rw [wz_wrap, List.length_take, Nat.min_eq_left f2]
      have hm := bestT_mem ((if once then (ords (lvl s).1.length).take 1 else ords (lvl s).1.length).map fun o =>
        joinR .par (srtT ((lvl s).2.map (thI (mid n once) (updL L (o.map fun i => (lvl s).1.getD i 0) left) (left.drop (lvl s).1.length))))) (by simpa using ords_one f1)
      obtain ⟨o, ho, e⟩ := List.mem_map.1 hm
      rw [← e]
      have hj := wz_joinP (srtT ((lvl s).2.map (thI (mid n once) (updL L (o.map fun i => (lvl s).1.getD i 0) left) (left.drop (lvl s).1.length))))
      rw [wz_srt] at hj
      have hmap := wz_map (f := thI (mid n once) (updL L (o.map fun i => (lvl s).1.getD i 0) left) (left.drop (lvl s).1.length)) (lvl s).2 fun T hT => by
        have hk := lvl_kind s T hT
        have hsz := lvl_size s T hT
        have hcl := neat_thr s hc T hT
        have htf := f3 T hT
        have hlen : (left.drop (lvl s).1.length).length = left.length - (lvl s).1.length := List.length_drop
        rw [← hlen] at htf
        generalize left.drop (lvl s).1.length = lf at *
        generalize updL L (o.map fun i => (lvl s).1.getD i 0) left = L'
        cases T with
        | nil => exact absurd rfl hk.2.2
        | par p q => exact absurd rfl (hk.1 p q)
        | own x p => exact absurd rfl (hk.2.1 x p)
        | snd a b p => simp only [Tm.size] at hsz; simp only [thI, Tm.size]; have := ih once L' lf p (by omega) hcl htf; omega
        | tau p => simp only [Tm.size] at hsz; simp only [thI, Tm.size]; have := ih once L' lf p (by omega) hcl htf; omega
        | rep p => simp only [Tm.size] at hsz; simp only [thI, Tm.size]; have := ih once L' lf p (by omega) hcl htf; omega
        | mat a b p => simp only [Tm.size] at hsz; have := ih once L' lf p (by omega) hcl htf; simp only [thI]; split <;> simp only [Tm.size] <;> omega
        | rcv a x p =>
          simp only [Tm.size] at hsz
          cases lf with
          | nil => simp [tf] at htf
          | cons c lf =>
            simp only [thI, Tm.size, List.headD_cons, List.tail_cons]
            have := ih once (upd L' x c) lf p (by omega) hcl (by
              simp only [tf, List.length_cons, Bool.and_eq_true] at htf
              simpa [fl] using htf)
            omega
        | sum p q =>
          have hsm := (smds_fl (.sum p q) lf.length).1 (by rw [tf_sum]; exact htf)
          have e1 : thI (mid n once) L' lf (.sum p q) = joinR .sum (srtT ((smds (.sum p q)).map (mid n once L' lf))) := rfl
          rw [e1]
          have h1 := wz_joinS (srtT ((smds (.sum p q)).map (mid n once L' lf)))
          rw [wz_srt] at h1
          have h2 := wz_smds (.sum p q)
          have h3 := wz_map (f := mid n once L' lf) (smds (.sum p q)) fun r hr => by
            have hrs : r.size < (Tm.sum p q).size := by
              simp only [smds, List.mem_append] at hr
              simp only [Tm.size]
              rcases hr with hr | hr
              · have := smds_size p r hr; omega
              · have := smds_size q r hr; omega
            exact ih once L' lf r (by omega) (neat_smds _ hcl r hr) (hsm r hr)
          omega
      omega
end Go.Proofs.YtmfmagfgcdaeeaaGreat.T1

/- The normal form, for every process: in the program. -/
namespace Go.Proofs.YtmfmagfgcdaeeaaGreat.T1
open Go.RowKit
set_option maxRecDepth 100000
set_option linter.unusedVariables false
set_option linter.unusedSimpArgs false

theorem oth_le (l : List UInt8) : (othL l).length ≤ 26 := by
  unfold othL
  have := List.length_filter_le (fun c => decide (c ∉ l)) ((List.range 26).map fun i => UInt8.ofNat (97 + i))
  simpa using this
theorem bnd_lt (t : Tm) : t.bnd.length + 1 ≤ t.size := by
  induction t with
  | nil => simp [Tm.bnd, Tm.size]
  | _ => simp only [Tm.bnd, Tm.size, List.length_append, List.length_cons] <;> omega
/-- A process with more signs than a process may have, when it is simplified, has no normal form. -/
theorem nfI_big {t : Tm} (ho : t.ok nmL = true) (hs : t.size ≤ 121) (h60 : 60 < t.sim.size) : nfI t = none := by
  have hss := sim_size t
  have hnum : can t.sim id marksN = numb t := rfl
  have hsz : (numb t).size ≤ t.size := by rw [← hnum, can_size]; exact hss
  have hsz2 : (numb t).size = t.sim.size := by rw [← hnum, can_size]
  unfold nfI
  split
  · rfl
  · rename_i hcf
    have hfl : fl (numb t) (othL t.usd).length = true := by
      cases h : fl (numb t) (othL t.usd).length
      · exact absurd (.inr h) hcf
      · rfl
    rw [if_neg]
    rintro ⟨_, _, h6⟩
    have hcl : Neat (numb t) := neat_can _ _ _ (neat_sim t)
    have hlet : ∀ l ∈ othL t.usd, nmL l = true := fun l hl => (nmL_iff l).2 ((mem_oth _ _).1 hl).1
    have hfr : ∀ v, v ∈ (numb t).free → nmL (id v) = true := fun v hv => by
      obtain ⟨u, hu, e⟩ := can_free t.sim id marksN (by have := bnd_len t.sim; rw [marksN_len]; omega) v hv
      rw [e]
      rw [sim_usd] at hu
      exact (okL_names ho).1 _ (usd_free t _ hu)
    have hbp : (numb t).bnd.Pairwise (· < ·) := by rw [numb_bnd hs]; exact marksN_srt.sublist (List.take_sublist _ _)
    rw [levI_mid t.size id (othL t.usd) (numb t) hsz (neat_clean _ hcl) hfl hbp hlet hfr] at h6
    have := mid_size t.size false id (othL t.usd) (numb t) hsz hcl hfl
    omega
/-- What the program's normal form hands back. -/
def nfV : Option Tm → Value
  | some r => .iface (tyOf r) (pay r)
  | none => .nilIface
theorem normalForm_any (t : Tm) (ho : t.ok nmL = true) (hs : t.size ≤ 121) (hl : t.pr.length ≤ 900) (w : World) :
    Calls Tryz.prog 140 #[.iface (tyOf t) (pay t)] w fun e w' => e = .returned (.tuple #[nfV (nfI t), .bool (nfI t).isSome]) ∧ Below w.heap.size w w' := by
  have hso := sim_ok t ho
  have hss := sim_size t
  have hnum : can t.sim id marksN = numb t := rfl
  have hsz : (numb t).size ≤ t.size := by rw [← hnum, can_size]; exact hss
  have hOt := others_set t.sim.free (lets_free t.sim hso)
  have hb133 : t.sim.bnd.length ≤ 133 := by have := bnd_len t.sim; omega
  have hCk := countKind_any (numb t) (by omega) ⟨#[35]⟩
  rw [subs_own] at hCk
  rw [sim_usd] at hOt
  have hFi := fits_any (numb t).size (numb t) (othL t.usd).length (Nat.le_refl _) (by omega) (by have := oth_le t.usd; omega)
  have hol := oth_le t.usd
  have hFr := freeNames_any t.sim hso
  rw [sim_usd] at hFr
  have hSzC := fun w => size_any t.sim (by omega) w
  by_cases h60 : 60 < t.sim.size
  · have e : nfI t = none := nfI_big ho hs h60
    rw [e]
    exact nf_bad0 _ _ _ _ _ h60 w (simplify_any t ho) hSzC
  by_cases hc : 8 < ownc (numb t)
  · have e : nfI t = none := by unfold nfI; rw [if_pos (.inl hc)]
    rw [e]
    exact nf_bad1 _ _ _ _ _ _ _ (othL t.usd) (by omega) _ _ h60 hc w (simplify_any t ho) hSzC hFr hOt (numbered_any t.sim hso hb133) hCk
  · cases hfl : fl (numb t) (othL t.usd).length with
    | false =>
      have e : nfI t = none := by unfold nfI; rw [if_pos (.inr hfl)]
      rw [e]
      rw [hfl] at hFi
      exact nf_bad2 _ _ _ _ _ _ _ (othL t.usd) (by omega) _ _ h60 hc w (simplify_any t ho) hSzC hFr hOt (numbered_any t.sim hso hb133) hCk hFi
    | true =>
      rw [hfl] at hFi
      have hcl : Clean (numb t) := clean_can _ _ _ (clean_sim t)
      have hlet : ∀ l ∈ othL t.usd, nmL l = true := fun l hl => (nmL_iff l).2 ((mem_oth _ _).1 hl).1
      have hfr : ∀ v, v ∈ (numb t).free → nmL (id v) = true := fun v hv => by
        obtain ⟨u, hu, e⟩ := can_free t.sim id marksN (by have := bnd_len t.sim; rw [marksN_len]; omega) v hv
        rw [e]
        rw [sim_usd] at hu
        exact (okL_names ho).1 _ (usd_free t _ hu)
      have hbp : (numb t).bnd.Pairwise (· < ·) := by rw [numb_bnd hs]; exact marksN_srt.sublist (List.take_sublist _ _)
      have e3 := levI_mid t.size id (othL t.usd) (numb t) hsz hcl hfl hbp hlet hfr
      have hok : (levI t.size id (othL t.usd) (numb t)).ok nmL = true := by rw [e3]; exact mid_ok t.size false id (othL t.usd) (numb t) hsz hfl hlet hfr
      have hlen := levI_len t.size id (othL t.usd) (numb t)
      have hnl := numb_len t
      have hLe := fun (D : Array Value) (v : Value) (g : Nat) (w : World) (hd : DrOf D id v) (hlf : LfS w g v (othL t.usd)) (hg : g < w.heap.size) =>
        level_any t.size (numb t) D id v g (othL t.usd) w hsz hd hlf hg hfl (by omega) (by omega) hbp (by omega)
      have hnf : nfI t = if (levI t.size id (othL t.usd) (numb t)).ok nmL = true ∧ (levI t.size id (othL t.usd) (numb t)).pr.length ≤ 300 ∧ (levI t.size id (othL t.usd) (numb t)).size ≤ 60 then some (levI t.size id (othL t.usd) (numb t)) else none := by
        unfold nfI; rw [if_neg (by rw [hfl]; simp; omega)]
      generalize levI t.size id (othL t.usd) (numb t) = r at *
      rw [hnf]
      by_cases hg : r.ok nmL = true ∧ r.pr.length ≤ 300 ∧ r.size ≤ 60
      · rw [if_pos hg]
        exact nf_good _ _ _ _ _ _ _ (othL t.usd) (by omega) _ _ h60 hc (S r) _ _ w (simplify_any t ho) hSzC hFr hOt (numbered_any t.sim hso hb133) hCk hFi freeScope_big hLe (fun w => parse_some (s := S r) (by rw [S_list]; exact good_of hg.1 hg.2.1 hg.2.2) w (by rw [S_size]; omega))
      · rw [if_neg hg]
        exact nf_good _ _ _ _ _ _ _ (othL t.usd) (by omega) _ _ h60 hc (S r) _ _ w (simplify_any t ho) hSzC hFr hOt (numbered_any t.sim hso hb133) hCk hFi freeScope_big hLe (fun w => parse_none (s := S r) (by rw [S_list]; exact good_not (ok_LE r hok) hg) w (by rw [S_size]; omega))

end Go.Proofs.YtmfmagfgcdaeeaaGreat.T1
