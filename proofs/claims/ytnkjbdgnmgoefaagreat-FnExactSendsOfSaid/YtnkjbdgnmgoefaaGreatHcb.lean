/- Texts of the proof, put together: Rd, Re. No conditions. -/
import Derived.Test.YtnkjbdgnmgoefaaGreatHca

/- The names over which threads can send or receive, on the program's side. MADE BY gen_Rd.py. -/
namespace Go.Proofs.YtnkjbdgnmgoefaaGreat.T1
open Go.RowKit
set_option maxRecDepth 100000
set_option linter.unusedVariables false
set_option linter.unusedSimpArgs false

set_option maxHeartbeats 4000000 in
theorem of_rep (tp : TypeId) (vp : Value) (w : World) : Calls Tryz.prog 78 #[.iface 158 (.agg #[.iface tp vp])] w (SumP [.iface tp vp] w) := by
  go_enter Tryz.func78, Tryz.ntmps78
  go_wp2_with fail
  go_ret
  exact ⟨_, _, rfl, own_new2 _ _ _ _ _ (by omega), ((Below.refl _ _).alloc (Nat.le_refl _) _).alloc (Below.size ((Below.refl w.heap.size w).alloc (Nat.le_refl _) _)) _⟩
set_option maxHeartbeats 4000000 in
theorem of_sum (T : TypeId) (V : Value) (ts : List Value) (hta : ∀ w, (Instr.typeAssert (.iface T V) 49 158 true).run Tryz.prog w = .ok (.tuple #[.agg #[.nilIface], .bool false]) w) (n1 : ∀ w, Calls Tryz.prog 124 #[.iface T V] w (SumP ts w)) (w : World) : Calls Tryz.prog 78 #[.iface T V] w (SumP ts w) := by
  have G1 := Lib.hid n1
  clear n1
  go_enter Tryz.func78, Tryz.ntmps78
  go_wp2_with fail
  refine (G1.out _).mono ?_
  rintro e w2 ⟨g, c, rfl, o1, b1⟩
  have O1 := Lib.hid o1
  have B1 := Lib.hid b1
  clear o1 b1
  go_wp2_with fail
  go_ret
  have hz : w.heap.size ≤ (w.alloc (.cells #[.nilIface] 158)).heap.size := by simp
  exact ⟨g, c, rfl, own_bas2 O1.out hz, below_trans ((Below.refl w.heap.size w).alloc (Nat.le_refl _) _) B1.out hz⟩
theorem offersOf_any (t : Tm) (hs : t.size ≤ 1000) (w : World) : Calls Tryz.prog 78 #[enc t] w (SumP ((offT t).map enc) w) := by
  cases t with
  | nil => exact of_sum _ _ _ (ta_nothing_repeat _) (summandsOf_any (.nil) hs) w
  | snd a b p => exact of_sum _ _ _ (ta_send_repeat _) (summandsOf_any (.snd a b p) hs) w
  | rcv a b p => exact of_sum _ _ _ (ta_receive_repeat _) (summandsOf_any (.rcv a b p) hs) w
  | tau p => exact of_sum _ _ _ (ta_silent_repeat _) (summandsOf_any (.tau p) hs) w
  | sum p q => exact of_sum _ _ _ (ta_choice_repeat _) (summandsOf_any (.sum p q) hs) w
  | par p q => exact of_sum _ _ _ (ta_beside_repeat _) (summandsOf_any (.par p q) hs) w
  | own a p => exact of_sum _ _ _ (ta_own_repeat _) (summandsOf_any (.own a p) hs) w
  | mat a b p => exact of_sum _ _ _ (ta_match_repeat _) (summandsOf_any (.mat a b p) hs) w
  | rep p => exact of_rep _ _ w
set_option maxHeartbeats 4000000 in
theorem sentOver_yes (a b : Int) (tp : TypeId) (vp : Value) (w : World) : Calls Tryz.prog 50 #[.iface 106 (.agg #[.int .u8 a, .int .u8 b, .iface tp vp])] w fun e w' => e = .returned (.tuple #[.int .u8 a, .bool true]) ∧ Below w.heap.size w w' := by
  go_enter Tryz.func50, Tryz.ntmps50
  go_wp2_with fail
  go_ret2
  exact ⟨rfl, (Below.refl _ _).alloc (Nat.le_refl _) _⟩
set_option maxHeartbeats 4000000 in
theorem sentOver_no (T : TypeId) (V : Value) (hta : ∀ w, (Instr.typeAssert (.iface T V) 49 106 true).run Tryz.prog w = .ok (.tuple #[.agg #[.int .u8 0, .int .u8 0, .nilIface], .bool false]) w) (w : World) : Calls Tryz.prog 50 #[.iface T V] w fun e w' => e = .returned (.tuple #[.int .u8 0, .bool false]) ∧ Below w.heap.size w w' := by
  go_enter Tryz.func50, Tryz.ntmps50
  go_wp2_with fail
  go_ret2
  exact ⟨rfl, (Below.refl _ _).alloc (Nat.le_refl _) _⟩
set_option maxHeartbeats 4000000 in
theorem receivedOver_yes (a b : Int) (tp : TypeId) (vp : Value) (w : World) : Calls Tryz.prog 51 #[.iface 109 (.agg #[.int .u8 a, .int .u8 b, .iface tp vp])] w fun e w' => e = .returned (.tuple #[.int .u8 a, .bool true]) ∧ Below w.heap.size w w' := by
  go_enter Tryz.func51, Tryz.ntmps51
  go_wp2_with fail
  go_ret2
  exact ⟨rfl, (Below.refl _ _).alloc (Nat.le_refl _) _⟩
set_option maxHeartbeats 4000000 in
theorem receivedOver_no (T : TypeId) (V : Value) (hta : ∀ w, (Instr.typeAssert (.iface T V) 49 109 true).run Tryz.prog w = .ok (.tuple #[.agg #[.int .u8 0, .int .u8 0, .nilIface], .bool false]) w) (w : World) : Calls Tryz.prog 51 #[.iface T V] w fun e w' => e = .returned (.tuple #[.int .u8 0, .bool false]) ∧ Below w.heap.size w w' := by
  go_enter Tryz.func51, Tryz.ntmps51
  go_wp2_with fail
  go_ret2
  exact ⟨rfl, (Below.refl _ _).alloc (Nat.le_refl _) _⟩
/-- What a function tells of a sign: the name over which it is. -/
def OverP (g : Tm → Option UInt8) (F : FuncId) : Prop := ∀ (t : Tm) (w : World), Calls Tryz.prog F #[enc t] w fun e w' => e = .returned (.tuple #[.int .u8 (((g t).getD 0).toNat : Int), .bool (g t).isSome]) ∧ Below w.heap.size w w'
theorem sentOver_any : OverP sndI 50 := by
  intro t w
  cases t with
  | nil => exact sentOver_no _ _ (ta_nothing_send _) w
  | snd a b p => exact sentOver_yes _ _ _ _ w
  | rcv a b p => exact sentOver_no _ _ (ta_receive_send _) w
  | tau p => exact sentOver_no _ _ (ta_silent_send _) w
  | sum p q => exact sentOver_no _ _ (ta_choice_send _) w
  | par p q => exact sentOver_no _ _ (ta_beside_send _) w
  | own a p => exact sentOver_no _ _ (ta_own_send _) w
  | mat a b p => exact sentOver_no _ _ (ta_match_send _) w
  | rep p => exact sentOver_no _ _ (ta_repeat_send _) w
theorem receivedOver_any : OverP rcvI 51 := by
  intro t w
  cases t with
  | nil => exact receivedOver_no _ _ (ta_nothing_receive _) w
  | snd a b p => exact receivedOver_no _ _ (ta_send_receive _) w
  | rcv a b p => exact receivedOver_yes _ _ _ _ w
  | tau p => exact receivedOver_no _ _ (ta_silent_receive _) w
  | sum p q => exact receivedOver_no _ _ (ta_choice_receive _) w
  | par p q => exact receivedOver_no _ _ (ta_beside_receive _) w
  | own a p => exact receivedOver_no _ _ (ta_own_receive _) w
  | mat a b p => exact receivedOver_no _ _ (ta_match_receive _) w
  | rep p => exact receivedOver_no _ _ (ta_repeat_receive _) w
set_option maxHeartbeats 4000000 in
theorem fo_no (s : ByteArray) (F : FuncId) (n1 : ∀ w, Calls Tryz.prog 53 #[.string s] w fun e w' => e = .returned (.tuple #[.nilIface, .bool false]) ∧ Below w.heap.size w w') (w : World) : Calls Tryz.prog 49 #[.string s, .func (.func F) #[] #[]] w fun e w' => e = .returned (.tuple #[.string ⟨#[]⟩, .bool false]) ∧ Below w.heap.size w w' := by
  have G1 := Lib.hid n1
  clear n1
  go_enter Tryz.func49, Tryz.ntmps49
  go_wp2_with fail
  refine (G1.out _).mono ?_
  rintro e w1 ⟨rfl, b1⟩
  go_wp2_with fail
  go_ret2
  exact ⟨rfl, b1⟩
theorem conv_nilC (w : World) : (convert 52 9 (.slice none 0 0)).run Tryz.prog w = .ok (.string ⟨#[]⟩) w := by kernel_rfl
theorem conv_anyC {w : World} {base n : Nat} {v : Value} (l : List UInt8) (hn : n = l.length) (h : w.ownsRow base 5 1 v n (l.map ub)) : (convert 52 9 v).run Tryz.prog w = .ok (.string (B l)) w := by
  cases l with
  | nil =>
    subst hn
    rcases h.2 with ⟨rfl, _⟩ | ⟨g, cap, cur, rfl, _⟩
    · exact conv_nilC w
    · exact run_convert_bytes_back w 52 9 5 ⟨g, 0, none⟩ cap [] Tryz.underlying52 Tryz.underlying5 Tryz.underlying9 fun j hj => by simp at hj
  | cons c l => exact conv_row (c :: l) hn (by simp) h
theorem fm_oneT (g : Tm → Option UInt8) (o : Tm) : [o].filterMap g = (g o).toList := by cases h : g o <;> simp [h]
set_option maxHeartbeats 4000000 in
theorem fo_yes (s : ByteArray) (F : FuncId) (hF : ∀ args w, (callFunc F args).run Tryz.prog w = .ok (.enter F args) w) (g : Tm → Option UInt8) (hg : OverP g F) (TS : TypeId) (VS : Value) (fs : List UInt8) (us : List Tm) (hu : us.length ≤ 300) (fn : List UInt8) (hfn : Lets fn) (hfs : Srt fn) (n1 : ∀ w, Calls Tryz.prog 53 #[.string s] w fun e w' => e = .returned (.tuple #[.iface TS VS, .bool true]) ∧ Below w.heap.size w w') (n2 : ∀ w, Calls Tryz.prog 41 #[.iface TS VS] w (LvlP fs (us.map enc) w))
    (n3 : ∀ T ∈ us, (offT T).length ≤ 1000 ∧ (∀ q ∈ offT T, ∀ a, g q = some a → nmL a = true) ∧ T.size ≤ 1000) (n4 : ∀ w, Calls Tryz.prog 72 #[.iface TS VS] w fun e w' => e = .returned (.int .u32 (setN fn : Nat)) ∧ Below w.heap.size w w') (w : World) :
    Calls Tryz.prog 49 #[.string s, .func (.func F) #[] #[]] w fun e w' => e = .returned (.tuple #[.string (B ((addsL [] (us.flatMap fun T => (offT T).filterMap g)).filter fun x => decide (x ∈ fn))), .bool true]) ∧ Below w.heap.size w w' := by
  have G1 := Lib.hid n1
  have G2 := Lib.hid n2
  have G3 := Lib.hid n3
  have G4 := Lib.hid n4
  have GG := Lib.hid hg
  have HFN := Lib.hid hfn
  have HFS := Lib.hid hfs
  clear n1 n2 n3 n4 hg hfn hfs
  go_enter Tryz.func49, Tryz.ntmps49
  go_wp2_with fail
  refine (G1.out _).mono ?_
  rintro e w1 ⟨rfl, b1⟩
  go_wp2_with fail
  refine (G2.out _).mono ?_
  rintro e w3 ⟨v2, v3, rfl, _, o3, b3⟩
  rw [List.length_map] at o3
  obtain ⟨p3, c3, rfl⟩ := own_form o3
  have O3 := Lib.hid o3
  have B3 := Lib.hid (below_go b1 b3)
  clear o3 b1 b3
  go_wp2_with fail
  go_loopg [8, 31] us.length (fun gk s8 s31 wr => (∃ i : Nat, s31 = .int .i64 (i : Int) ∧ i + gk = us.length ∧ s8 = .int .u32 (setN (addsL [] ((us.take i).flatMap fun T => (offT T).filterMap g)) : Nat)) ∧ Hid (Below w3.heap.size w3 wr))
  case atStart => exact ⟨⟨0, by congr 1, by omega, rfl⟩, Below.refl _ _⟩
  case round =>
    obtain ⟨⟨i, rfl, hik, rfl⟩, hbw⟩ := hrel
    obtain ⟨GO, hGO⟩ : ∃ G, G = gk := ⟨_, rfl⟩
    have hsz := hbw.out.size
    by_cases hlt : (i : Int) < (us.length : Int)
    · have hit : i < us.length := by omega
      obtain ⟨g3, hpg, hg1, hg2, hg3, hcells⟩ := own_at O3.out (by omega)
      subst hpg
      obtain ⟨hol, hnm, hts⟩ := G3.out us[i] (List.getElem_mem hit)
      obtain ⟨T, hT⟩ : ∃ T, T = us[i] := ⟨_, rfl⟩
      have c1 : wr.cell? ⟨g3, i, none⟩ = some (.iface (tyOf T) (pay T)) :=
        (hbw.out.cell (p := ⟨g3, i, none⟩) hg2).trans (hcells i (enc T) (by rw [hT, List.getElem?_map, List.getElem?_eq_getElem hit]; rfl))
      rw [← hT] at hol hnm hts
      have HRO := Lib.hid (fun w => offersOf_any T hts w)
      have HNM := Lib.hid hnm
      obtain ⟨P, hP⟩ : ∃ P, P = (us.take i).flatMap fun T => (offT T).filterMap g := ⟨_, rfl⟩
      have HPn : Hid (∀ c ∈ P, nmL c = true) := by
        intro c hc
        rw [hP] at hc
        obtain ⟨T', hT', hc'⟩ := List.mem_flatMap.1 hc
        obtain ⟨q, hq, e⟩ := List.mem_filterMap.1 hc'
        exact (G3.out T' (List.mem_of_mem_take hT')).2.1 q hq c e
      have HPs : Hid (((us.take (i + 1)).flatMap fun T => (offT T).filterMap g) = P ++ (offT T).filterMap g) := by
        show _ = _
        rw [List.take_succ_eq_append_getElem hit, List.flatMap_append, ← hP, hT]; simp
      rw [← hP]
      obtain ⟨TT, hTT⟩ : ∃ TT, TT = tyOf T := ⟨_, rfl⟩
      obtain ⟨TV, hTV⟩ : ∃ TV, TV = pay T := ⟨_, rfl⟩
      have HRO2 : Hid (∀ w, Calls Tryz.prog 78 #[.iface TT TV] w (SumP ((offT T).map enc) w)) := by rw [hTT, hTV]; exact HRO.out
      rw [← hTT, ← hTV] at c1
      clear hcells hnm hP hT hTT hTV HRO hts
      go_wp2_with fail
      refine (HRO2.out _).mono ?_
      rintro e w4 ⟨g4, c4, rfl, o4, b4⟩
      rw [List.length_map] at o4 ⊢
      have O4 := Lib.hid o4
      have B4 := Lib.hid (below_go hbw.out b4)
      clear o4 b4 c1
      go_wp2_with fail
      go_loopg [8, 38] (offT T).length (fun gj s8 s38 wr => (∃ j : Nat, s38 = .int .i64 (j : Int) ∧ j + gj = (offT T).length ∧ s8 = .int .u32 (setN (addsL [] (P ++ ((offT T).take j).filterMap g)) : Nat)) ∧ Hid (Below w4.heap.size w4 wr))
      case atStart => exact ⟨⟨0, by congr 1, by omega, by simp⟩, Below.refl _ _⟩
      case round =>
        obtain ⟨⟨j, rfl, hjk, rfl⟩, hbv⟩ := hrel
        have hvz := hbv.out.size
        by_cases hlt2 : (j : Int) < ((offT T).length : Int)
        · have hjt : j < (offT T).length := by omega
          obtain ⟨g5, hp4, hh1, hh2, hh3, hcells⟩ := own_at O4.out (by omega)
          cases hp4
          obtain ⟨q, hq⟩ : ∃ q, q = (offT T)[j] := ⟨_, rfl⟩
          have k0 : wr.cell? ⟨g4, j, none⟩ = some (.iface (tyOf q) (pay q)) :=
            (hbv.out.cell (p := ⟨g4, j, none⟩) hh2).trans (hcells j (enc q) (by rw [hq, List.getElem?_map, List.getElem?_eq_getElem hjt]; rfl))
          have htk : ((offT T).take (j + 1)).filterMap g = ((offT T).take j).filterMap g ++ (g q).toList := by
            rw [List.take_succ_eq_append_getElem hjt, List.filterMap_append, ← hq, fm_oneT]
          have hqa := HNM.out q (hq ▸ List.getElem_mem hjt)
          obtain ⟨Q, hQ⟩ : ∃ Q, Q = P ++ ((offT T).take j).filterMap g := ⟨_, rfl⟩
          have HQ : Hid (P ++ ((offT T).take (j + 1)).filterMap g = Q ++ (g q).toList) := by
            show _ = _
            rw [htk, hQ, List.append_assoc]
          have hQn : ∀ c ∈ Q, nmL c = true := by
            intro c hc
            rw [hQ] at hc
            rcases List.mem_append.1 hc with hc | hc
            · exact HPn.out c hc
            · obtain ⟨q', hq', e⟩ := List.mem_filterMap.1 hc
              exact HNM.out q' (List.mem_of_mem_take hq') c e
          have hQl := lets_addsL Q [] lets_nil0 hQn
          rw [← hQ]
          have HOV := Lib.hid (fun w => GG.out q w)
          obtain ⟨TQ, hTQ⟩ : ∃ TQ, TQ = tyOf q := ⟨_, rfl⟩
          obtain ⟨VQ, hVQ⟩ : ∃ VQ, VQ = pay q := ⟨_, rfl⟩
          cases hgq : g q with
          | none =>
            have HO2 : Hid (∀ w, Calls Tryz.prog F #[.iface TQ VQ] w fun e w' => e = .returned (.tuple #[.int .u8 0, .bool false]) ∧ Below w.heap.size w w') := by
              rw [hTQ, hVQ]; have := HOV.out; rw [hgq] at this; exact this
            have HR : Hid (P ++ ((offT T).take (j + 1)).filterMap g = Q) := by
              show _ = _
              rw [HQ.out, hgq]; simp
            rw [← hTQ, ← hVQ] at k0
            clear hcells htk hQ hq hTQ hVQ HOV hgq hqa
            go_wp2_with fail
            refine (HO2.out _).mono ?_
            rintro e w5 ⟨rfl, b5⟩
            have B5 := Lib.hid (below_go hbv.out b5)
            clear k0 b5
            go_wp2_with fail
            go_roundg (gk - 1)
            case rel => exact ⟨⟨j + 1, by congr 1, by omega, by rw [HR.out]⟩, B5⟩
            case measure => omega
          | some a =>
            have hna := (nmL_iff a).1 (hqa a hgq)
            have HO2 : Hid (∀ w, Calls Tryz.prog F #[.iface TQ VQ] w fun e w' => e = .returned (.tuple #[.int .u8 (a.toNat : Int), .bool true]) ∧ Below w.heap.size w w') := by
              rw [hTQ, hVQ]; have := HOV.out; rw [hgq] at this; exact this
            have HW : Hid (∀ w, Calls Tryz.prog 73 #[.int .u32 (setN (addsL [] Q) : Nat), .int .u8 (a.toNat : Int)] w fun e w' => e = .returned (.int .u32 (setN (addsL [] (P ++ ((offT T).take (j + 1)).filterMap g)) : Nat)) ∧ w = w') := fun w => by
              have := with_any (setN (addsL [] Q)) a.toNat (setN_lt32 _ hQl) hna.1 hna.2 w
              rw [HQ.out, hgq]
              show Calls _ _ _ _ _
              rw [show Q ++ (some a).toList = Q ++ [a] from rfl, addsL_one, setN_addL hQl hna]
              exact this
            rw [← hTQ, ← hVQ] at k0
            clear hcells htk hQ hq hTQ hVQ HOV hgq hqa HQ
            go_wp2_with fail
            refine (HO2.out _).mono ?_
            rintro e w5 ⟨rfl, b5⟩
            have B5 := Lib.hid (below_go hbv.out b5)
            clear k0 b5
            go_wp2_with fail
            refine (HW.out _).mono ?_
            rintro e w6 ⟨rfl, rfl⟩
            go_wp2_with fail
            go_roundg (gk - 1)
            case rel => exact ⟨⟨j + 1, by congr 1, by omega, rfl⟩, B5⟩
            case measure => omega
        · obtain rfl : j = (offT T).length := by omega
          have htk : P ++ ((offT T).take (offT T).length).filterMap g = ((us.take (i + 1)).flatMap fun T => (offT T).filterMap g) := by
            rw [List.take_of_length_le (Nat.le_refl _), HPs.out]
          rw [htk]
          have B7 := Lib.hid (below_go B4.out hbv.out)
          clear htk
          go_wp2_with fail
          go_roundg (GO - 1)
          case rel => exact ⟨⟨i + 1, by congr 1, by omega, rfl⟩, B7⟩
          case measure => omega
    · obtain rfl : i = us.length := by omega
      have htk : us.take us.length = us := List.take_of_length_le (Nat.le_refl _)
      rw [htk]
      have B7 := Lib.hid (below_go B3.out hbw.out)
      obtain ⟨A, hA⟩ : ∃ A, A = addsL [] (us.flatMap fun T => (offT T).filterMap g) := ⟨_, rfl⟩
      have hAn : ∀ c ∈ us.flatMap fun T => (offT T).filterMap g, nmL c = true := by
        intro c hc
        obtain ⟨T', hT', hc'⟩ := List.mem_flatMap.1 hc
        obtain ⟨q, hq, e⟩ := List.mem_filterMap.1 hc'
        exact (G3.out T' hT').2.1 q hq c e
      have hAl : Lets A := hA ▸ lets_addsL _ [] lets_nil0 hAn
      have hAs : Srt A := hA ▸ srt_addsL _ _ srt_nil
      have hfl : Lets (A.filter fun x => decide (x ∈ fn)) := fun c hc => hAl c (List.mem_filter.1 hc).1
      have hand : Hid (bits .and .u32 ((setN A : Nat) : Int) ((setN fn : Nat) : Int) = ((setN (A.filter fun x => decide (x ∈ fn)) : Nat) : Int)) := by
        show _ = _
        rw [and32 _ _ (setN_lt32 _ hAl) (setN_lt32 _ HFN.out), setN_and hAl HFN.out]
      have HL : Hid (∀ w, Calls Tryz.prog 74 #[.int .u32 (setN (A.filter fun x => decide (x ∈ fn)) : Nat)] w (fun e w' => ∃ v, e = .returned v ∧ w'.ownsRow w.heap.size 5 1 v (A.filter fun x => decide (x ∈ fn)).length ((A.filter fun x => decide (x ∈ fn)).map ub) ∧ Below w.heap.size w w')) := fun w => by
        have := letters_any (setN (A.filter fun x => decide (x ∈ fn))) (setN_lt32 _ hfl) w
        rw [lets_setNc _ (srt_filter hAs _) hfl] at this
        exact this
      rw [← hA]
      have HA := Lib.hid hand
      have HAe := Lib.hid hA
      clear htk hA hAn hAl hAs hfl hand
      go_wp2_with fail
      refine (G4.out _).mono ?_
      rintro e w5 ⟨rfl, b5⟩
      have B8 := Lib.hid (below_go B7.out b5)
      clear b5
      go_wp2_with fail
      rw [HA.out]
      go_wp2_with fail
      refine (HL.out _).mono ?_
      rintro e w6 ⟨v6, rfl, o6, b6⟩
      have hcv := conv_anyC _ rfl o6
      have B9 := Lib.hid (below_go B8.out b6)
      clear o6 b6
      go_wp2_with fail
      go_ret2
      exact ⟨by rw [← HAe.out]; rfl, B9.out⟩
end Go.Proofs.YtnkjbdgnmgoefaaGreat.T1

/- SendsOf and ReceivesOf, on both sides. MADE BY gen_Re.py. -/
namespace Go.Proofs.YtnkjbdgnmgoefaaGreat.T1
open Go.RowKit
set_option maxRecDepth 100000
set_option linter.unusedVariables false
set_option linter.unusedSimpArgs false

theorem thrs_len2 (t : Tm) : t.thrs.length ≤ t.size ∧ ∀ u ∈ t.thrs, u.pr.length ≤ t.pr.length := by
  have hp : ∀ t : Tm, ∀ u ∈ t.pars, u.pr.length ≤ t.pr.length := by
    intro t; induction t with
    | par p q ih ih2 =>
      intro u hu
      simp only [Tm.pars, List.mem_cons] at hu
      simp only [Tm.pr, List.length_append, List.length_cons]
      rcases hu with rfl | hu
      · omega
      · have := ih2 u hu; omega
    | _ => intro u hu; simp only [Tm.pars, List.mem_singleton] at hu; subst hu; exact Nat.le_refl _
  have hf : t.fro.2.pr.length ≤ t.pr.length ∧ t.fro.2.size ≤ t.size := by
    induction t with
    | own x p ih => simp only [Tm.fro, Tm.pr, Tm.size, List.length_append, List.length_cons]; omega
    | _ => exact ⟨Nat.le_refl _, Nat.le_refl _⟩
  by_cases hn : t.fro.2 = .nil
  · have e : t.thrs = [] := by unfold Tm.thrs; rw [hn]
    rw [e]; simp
  · rw [thrs_pars hn]
    refine ⟨Nat.le_trans (pars_size _) hf.2, fun u hu => Nat.le_trans (hp _ u hu) hf.1⟩
theorem form_thr_ok {r : Tm} {nm : UInt8 → Bool} (h : NfForm r) (ho : r.ok nm = true) : (∀ l ∈ r.fro.1, nm l = true) ∧ ∀ T ∈ r.thrs, T.ok nm = true := by
  obtain ⟨ls, l, rfl, hl⟩ := h
  have h1 : ∀ T ∈ l, Thd T := fun T hT => (hl T hT).1
  obtain ⟨a1, a2⟩ := wrapO_ok _ ls ho
  rw [thrs_wrap ls l h1, fro_wrap, fro_join l h1]
  exact ⟨by simpa using a1, joinR_okP l a2⟩
theorem offs_ok {T : Tm} (h : T.ok nmL = true) : ∀ o ∈ offs T, nmL o.a = true ∨ o.k = 126 := by
  induction T with
  | snd a b p ih => intro o ho; simp only [offs, List.mem_singleton] at ho; subst ho; simp only [Tm.ok, Bool.and_eq_true] at h; exact .inl h.1.1
  | rcv a x p ih => intro o ho; simp only [offs, List.mem_singleton] at ho; subst ho; simp only [Tm.ok, Bool.and_eq_true] at h; exact .inl h.1.1
  | tau p ih => intro o ho; simp only [offs, List.mem_singleton] at ho; subst ho; exact .inr rfl
  | sum p q ih ih2 =>
    intro o ho
    simp only [Tm.ok, Bool.and_eq_true] at h
    simp only [offs, List.mem_append] at ho
    exact ho.elim (ih h.1 o) (ih2 h.2 o)
  | rep p ih =>
    intro o ho
    simp only [offs, List.mem_map] at ho
    obtain ⟨o', ho', rfl⟩ := ho
    exact ih h o' ho'
  | _ => intro o ho; simp [offs] at ho
theorem smds_len2 (t : Tm) : (smds t).length ≤ t.size := by
  induction t with
  | sum p q ih ih2 => simp only [smds, List.length_append, Tm.size]; omega
  | _ => simp [smds, Tm.size]
theorem offT_len (t : Tm) : (offT t).length ≤ t.size := by
  cases t with
  | rep p => simp [offT, Tm.size]
  | _ => exact smds_len2 _
theorem size_thr {r : Tm} (h : NfForm r) : ∀ T ∈ r.thrs, T.size ≤ r.size := by
  intro T hT
  rw [← (form_lvl h).2.1] at hT
  exact lvl_size r T hT
set_option maxHeartbeats 4000000 in
theorem fro_sz (t : Tm) : t.fro.1.length ≤ t.size := by
  induction t with
  | own x p ih => show (x :: p.fro.1).length ≤ _; simp only [List.length_cons, Tm.size]; omega
  | _ => simp [Tm.fro]
set_option maxHeartbeats 4000000 in
theorem sSendsOf (s X : ByteArray) (b : Bool) (n1 : ∀ w, Calls Tryz.prog 48 #[.string s, .int .u8 33] w fun e w' => e = .returned (.tuple #[.string X, .bool b]) ∧ Below w.heap.size w w') (w : World) : Calls Tryz.prog 15 #[.string s] w fun e w' => e = .returned (.tuple #[.string X, .bool b]) ∧ Below w.heap.size w w' := by
  have G1 := Lib.hid n1
  clear n1
  go_enter Tryz.func15, Tryz.ntmps15
  go_wp2_with fail
  refine (G1.out _).mono ?_
  rintro e w1 ⟨rfl, b1⟩
  go_wp2_with fail
  go_ret2
  exact ⟨rfl, b1⟩
set_option maxHeartbeats 4000000 in
theorem iSendsOf (s X : ByteArray) (b : Bool) (n1 : ∀ w, Calls Tryz.prog 49 #[.string s, .func (.func 50) #[] #[]] w fun e w' => e = .returned (.tuple #[.string X, .bool b]) ∧ Below w.heap.size w w') (w : World) : Calls Tryz.prog 16 #[.string s] w fun e w' => e = .returned (.tuple #[.string X, .bool b]) ∧ Below w.heap.size w w' := by
  have G1 := Lib.hid n1
  clear n1
  go_enter Tryz.func16, Tryz.ntmps16
  go_wp2_with fail
  refine (G1.out _).mono ?_
  rintro e w1 ⟨rfl, b1⟩
  go_wp2_with fail
  go_ret2
  exact ⟨rfl, b1⟩
theorem cf_sentOver : ∀ args w, (callFunc 50 args).run Tryz.prog w = .ok (.enter 50 args) w := fun args w => by kernel_rfl
theorem bothSendsOf (s : ByteArray) (hs : s.size ≤ 9223372036854775807) : ∃ (X : ByteArray) (b : Bool), (∀ w, Calls Tryz.prog 15 #[.string s] w (TwoS X b w)) ∧ (∀ w, Calls Tryz.prog 16 #[.string s] w (TwoS X b w)) := by
  have h1 := rdStart_any s hs
  have h2 := simpleNormal_any s hs
  cases e : stO s with
  | none =>
    rw [e] at h1 h2
    exact ⟨_, _, sSendsOf s _ _ (ov_no s 33 h1), iSendsOf s _ _ (fo_no s _ h2)⟩
  | some r =>
    rw [e] at h1 h2
    obtain ⟨fm, hok, hl, hz, hq⟩ := stO_some e
    have hE := ok_LE r hok
    obtain ⟨f1, f2, f3⟩ := form_lvl fm
    have tk := form_thr_ok fm hok
    have tE := form_thr_ok fm hE
    have tl := thrs_len2 r
    have ts := size_thr fm
    have tq := thrs_smq fm hq
    have hg : sndI = sndI ∨ sndI = rcvI := by first | exact .inl rfl | exact .inr rfl
    have hfr : (B r.fro.1).size ≤ 1000 := by
      have h5 := fro_sz r
      have : (B r.fro.1).size = r.fro.1.length := by show r.fro.1.toArray.size = _; simp
      omega
    have S1 := ov_yes s (S r) (B r.fro.1) (S r.fro.2) r.fro.1 rfl hfr r.thrs (by omega) 33 h1 (fun w => nfFront_any r hE (by omega) (by omega) w) (fun w => nfThreads_any r hE (by omega) (by omega) w)
      (fun T hT => ⟨by have := offs_len T; have := ts T hT; omega, offs_ok (tk.2 T hT), fun w => (rdO_any T (tE.2 T hT) (by have := tl.2 T hT; omega) (by have := ts T hT; omega) (tq T hT) w).mono fun _ _ h => h.q⟩) (by decide)
    have hgf : ∀ (q : Tm) (a : UInt8), sndI q = some a → a ∈ q.free := fun q a e => by
      cases q <;> first | (cases e) | skip
      first | (rw [mf_snd]; exact .inl rfl) | (rw [mf_rcv]; exact .inl rfl)
    have hlv : ∀ w, Calls Tryz.prog 41 #[.iface (tyOf r) (pay r)] w (LvlP r.fro.1 (r.thrs.map enc) w) := fun w => by
      have := levelOf_any r (by omega) w
      rw [f1, f2] at this; exact this
    have I1 := fo_yes s 50 cf_sentOver sndI sentOver_any (tyOf r) (pay r) r.fro.1 r.thrs (by omega) r.free (fun c hc => lets_free r hok c hc) (srt_free r) h2 hlv
      (fun T hT => ⟨by have := offT_len T; have := ts T hT; omega, fun q hq' a e => (okL_names (tk.2 T hT)).1 a (offT_free hq' a (hgf q a e)), by have := ts T hT; omega⟩) (freeNames_any r hok)
    rw [← over_same fm hq hok 33 sndI (by first | exact .inl ⟨rfl, rfl⟩ | exact .inr ⟨rfl, rfl⟩)] at I1
    exact ⟨_, _, sSendsOf s _ _ S1, iSendsOf s _ _ I1⟩
set_option maxHeartbeats 4000000 in
theorem sReceivesOf (s X : ByteArray) (b : Bool) (n1 : ∀ w, Calls Tryz.prog 48 #[.string s, .int .u8 63] w fun e w' => e = .returned (.tuple #[.string X, .bool b]) ∧ Below w.heap.size w w') (w : World) : Calls Tryz.prog 17 #[.string s] w fun e w' => e = .returned (.tuple #[.string X, .bool b]) ∧ Below w.heap.size w w' := by
  have G1 := Lib.hid n1
  clear n1
  go_enter Tryz.func17, Tryz.ntmps17
  go_wp2_with fail
  refine (G1.out _).mono ?_
  rintro e w1 ⟨rfl, b1⟩
  go_wp2_with fail
  go_ret2
  exact ⟨rfl, b1⟩
set_option maxHeartbeats 4000000 in
theorem iReceivesOf (s X : ByteArray) (b : Bool) (n1 : ∀ w, Calls Tryz.prog 49 #[.string s, .func (.func 51) #[] #[]] w fun e w' => e = .returned (.tuple #[.string X, .bool b]) ∧ Below w.heap.size w w') (w : World) : Calls Tryz.prog 18 #[.string s] w fun e w' => e = .returned (.tuple #[.string X, .bool b]) ∧ Below w.heap.size w w' := by
  have G1 := Lib.hid n1
  clear n1
  go_enter Tryz.func18, Tryz.ntmps18
  go_wp2_with fail
  refine (G1.out _).mono ?_
  rintro e w1 ⟨rfl, b1⟩
  go_wp2_with fail
  go_ret2
  exact ⟨rfl, b1⟩
theorem cf_receivedOver : ∀ args w, (callFunc 51 args).run Tryz.prog w = .ok (.enter 51 args) w := fun args w => by kernel_rfl
theorem bothReceivesOf (s : ByteArray) (hs : s.size ≤ 9223372036854775807) : ∃ (X : ByteArray) (b : Bool), (∀ w, Calls Tryz.prog 17 #[.string s] w (TwoS X b w)) ∧ (∀ w, Calls Tryz.prog 18 #[.string s] w (TwoS X b w)) := by
  have h1 := rdStart_any s hs
  have h2 := simpleNormal_any s hs
  cases e : stO s with
  | none =>
    rw [e] at h1 h2
    exact ⟨_, _, sReceivesOf s _ _ (ov_no s 63 h1), iReceivesOf s _ _ (fo_no s _ h2)⟩
  | some r =>
    rw [e] at h1 h2
    obtain ⟨fm, hok, hl, hz, hq⟩ := stO_some e
    have hE := ok_LE r hok
    obtain ⟨f1, f2, f3⟩ := form_lvl fm
    have tk := form_thr_ok fm hok
    have tE := form_thr_ok fm hE
    have tl := thrs_len2 r
    have ts := size_thr fm
    have tq := thrs_smq fm hq
    have hg : rcvI = sndI ∨ rcvI = rcvI := by first | exact .inl rfl | exact .inr rfl
    have hfr : (B r.fro.1).size ≤ 1000 := by
      have h5 := fro_sz r
      have : (B r.fro.1).size = r.fro.1.length := by show r.fro.1.toArray.size = _; simp
      omega
    have S1 := ov_yes s (S r) (B r.fro.1) (S r.fro.2) r.fro.1 rfl hfr r.thrs (by omega) 63 h1 (fun w => nfFront_any r hE (by omega) (by omega) w) (fun w => nfThreads_any r hE (by omega) (by omega) w)
      (fun T hT => ⟨by have := offs_len T; have := ts T hT; omega, offs_ok (tk.2 T hT), fun w => (rdO_any T (tE.2 T hT) (by have := tl.2 T hT; omega) (by have := ts T hT; omega) (tq T hT) w).mono fun _ _ h => h.q⟩) (by decide)
    have hgf : ∀ (q : Tm) (a : UInt8), rcvI q = some a → a ∈ q.free := fun q a e => by
      cases q <;> first | (cases e) | skip
      first | (rw [mf_snd]; exact .inl rfl) | (rw [mf_rcv]; exact .inl rfl)
    have hlv : ∀ w, Calls Tryz.prog 41 #[.iface (tyOf r) (pay r)] w (LvlP r.fro.1 (r.thrs.map enc) w) := fun w => by
      have := levelOf_any r (by omega) w
      rw [f1, f2] at this; exact this
    have I1 := fo_yes s 51 cf_receivedOver rcvI receivedOver_any (tyOf r) (pay r) r.fro.1 r.thrs (by omega) r.free (fun c hc => lets_free r hok c hc) (srt_free r) h2 hlv
      (fun T hT => ⟨by have := offT_len T; have := ts T hT; omega, fun q hq' a e => (okL_names (tk.2 T hT)).1 a (offT_free hq' a (hgf q a e)), by have := ts T hT; omega⟩) (freeNames_any r hok)
    rw [← over_same fm hq hok 63 rcvI (by first | exact .inl ⟨rfl, rfl⟩ | exact .inr ⟨rfl, rfl⟩)] at I1
    exact ⟨_, _, sReceivesOf s _ _ S1, iReceivesOf s _ _ I1⟩
end Go.Proofs.YtnkjbdgnmgoefaaGreat.T1
