/- Texts of the proof, put together: Cx. No conditions. -/
import Derived.Test.YtinkioodkgccjaaDoorHbq

/- SendTuple and ReceiveTuple: what both sides answer. MADE BY gen_LTup.py. No conditions. -/
namespace Go.Proofs.YtinkioodkgccjaaDoor.T1
open Go.RowKit
set_option maxRecDepth 100000
set_option linter.unusedVariables false
set_option linter.unusedSimpArgs false

theorem cnew (w : World) (i : Nat) (v : Value) (T : TypeId) (b : Nat) (hb : b = w.heap.size) : (w.alloc (.cells #[v] T)).cell? ⟨b, 0, none⟩ = some v := by
  subst hb; rw [World.cell?_alloc_new]; rfl
theorem cellup {W w1 : World} {b : Nat} {v : Value} (bl : Below W.heap.size W w1) (h : W.cell? ⟨b, 0, none⟩ = some v) : w1.cell? ⟨b, 0, none⟩ = some v := (bl.cell (p := ⟨b, 0, none⟩) (World.block_lt_of_cell? W _ h)).trans h
theorem sendC_len (a : UInt8) (l : List UInt8) (p : Tm) : (sendC a l p).pr.length = 7 + 4 * l.length + p.pr.length := sendW_len _ _ _ _
theorem recvC_len (a : UInt8) (l : List UInt8) (p : Tm) : (recvC a l p).pr.length = 4 + 4 * l.length + p.pr.length := recvW_len _ _ _ _
theorem lets_of (l : List UInt8) (h : ∀ c ∈ l, nmL c = true) : Lets l := fun c hc => (nmL_iff c).1 (h c hc)
theorem tup_bad (l : List UInt8) (h : tupB l = false) (w : World) (hT : Lib.Utf8Tabs 1 2 w) : Calls Tryd.prog 18 #[.string (B l)] w fun e w' => e = failed ∧ Below w.heap.size w w' := by
  by_cases hs : 1 ≤ l.length ∧ l.length ≤ 4
  · refine tup_no (B l) (by rw [B_size]; exact hs.1) (by rw [B_size]; exact hs.2) (fun hall => ?_) w hT
    rw [B_list] at hall
    rw [(tupB_iff l).2 ⟨hs, hall⟩] at h; cases h
  · exact tup_size (B l) (by rw [B_size]; exact hs) w
theorem cf_SendTuple (args : Array Value) (w : World) : (callFunc 15 args).run Tryd.prog w = .ok (.enter 15 args) w := by kernel_rfl
set_option maxHeartbeats 1000000 in
theorem im_SendTuple (a s p : ByteArray) (n : ByteArray) (b : Bool) (w : World) (HC : ∀ (W : World) (b0 b1 b2 : Nat), Below w.heap.size w W → W.cell? ⟨b0, 0, none⟩ = some (.string a) → W.cell? ⟨b1, 0, none⟩ = some (.string s) → W.cell? ⟨b2, 0, none⟩ = some (.string p) → Calls Tryd.prog 14 #[.func (.func 15) #[] #[.pointer (some ⟨b0, 0, none⟩), .pointer (some ⟨b1, 0, none⟩), .pointer (some ⟨b2, 0, none⟩)]] W fun e w' => e = .returned (.tuple #[.string n, .bool b]) ∧ Below W.heap.size W w') :
    Calls Tryd.prog 6 #[.string a, .string s, .string p] w fun e w' => e = .returned (.tuple #[.string n, .bool b]) ∧ Below w.heap.size w w' := by
  have k0 := ((((Below.refl w.heap.size w).alloc (Nat.le_refl _) (.cells #[.string a] 9)).alloc (by simp; try omega) (.cells #[.string s] 9)).alloc (by simp; try omega) (.cells #[.string p] 9))
  have H := Lib.hid HC
  clear HC
  have hmf : ∀ (fn : Fn) (first cap : Array Value) (w : World), (Instr.makeFunc fn first cap).run Tryd.prog w = .ok (.func fn first cap) w := fun _ _ _ _ => rfl
  go_enter Tryd.func6, Tryd.ntmps6
  go_wp2_with fail
  with_reducible refine (H.out _ _ _ _ k0 (by rw [World.cell?_alloc_past _ _ _ (by simp; try omega)]; rw [World.cell?_alloc_past _ _ _ (by simp; try omega)]; rw [cnew _ 0 _ _ _ (by simp)]) (by rw [World.cell?_alloc_past _ _ _ (by simp; try omega)]; rw [cnew _ 1 _ _ _ (by simp)]) (by rw [cnew _ 2 _ _ _ (by simp)])).mono ?_
  rintro e w1 ⟨rfl, b1⟩
  have k1 := below_trans k0 b1 (by simp; try omega)
  go_wp2_with fail
  go_ret2
  exact ⟨rfl, k1⟩
theorem cf_ReceiveTuple (args : Array Value) (w : World) : (callFunc 22 args).run Tryd.prog w = .ok (.enter 22 args) w := by kernel_rfl
set_option maxHeartbeats 1000000 in
theorem im_ReceiveTuple (a s p : ByteArray) (n : ByteArray) (b : Bool) (w : World) (HC : ∀ (W : World) (b0 b1 b2 : Nat), Below w.heap.size w W → W.cell? ⟨b0, 0, none⟩ = some (.string a) → W.cell? ⟨b1, 0, none⟩ = some (.string s) → W.cell? ⟨b2, 0, none⟩ = some (.string p) → Calls Tryd.prog 14 #[.func (.func 22) #[] #[.pointer (some ⟨b1, 0, none⟩), .pointer (some ⟨b0, 0, none⟩), .pointer (some ⟨b2, 0, none⟩)]] W fun e w' => e = .returned (.tuple #[.string n, .bool b]) ∧ Below W.heap.size W w') :
    Calls Tryd.prog 8 #[.string a, .string s, .string p] w fun e w' => e = .returned (.tuple #[.string n, .bool b]) ∧ Below w.heap.size w w' := by
  have k0 := ((((Below.refl w.heap.size w).alloc (Nat.le_refl _) (.cells #[.string a] 9)).alloc (by simp; try omega) (.cells #[.string s] 9)).alloc (by simp; try omega) (.cells #[.string p] 9))
  have H := Lib.hid HC
  clear HC
  have hmf : ∀ (fn : Fn) (first cap : Array Value) (w : World), (Instr.makeFunc fn first cap).run Tryd.prog w = .ok (.func fn first cap) w := fun _ _ _ _ => rfl
  go_enter Tryd.func8, Tryd.ntmps8
  go_wp2_with fail
  with_reducible refine (H.out _ _ _ _ k0 (by rw [World.cell?_alloc_past _ _ _ (by simp; try omega)]; rw [World.cell?_alloc_past _ _ _ (by simp; try omega)]; rw [cnew _ 0 _ _ _ (by simp)]) (by rw [World.cell?_alloc_past _ _ _ (by simp; try omega)]; rw [cnew _ 1 _ _ _ (by simp)]) (by rw [cnew _ 2 _ _ _ (by simp)])).mono ?_
  rintro e w1 ⟨rfl, b1⟩
  have k1 := below_trans k0 b1 (by simp; try omega)
  go_wp2_with fail
  go_ret2
  exact ⟨rfl, k1⟩
set_option maxHeartbeats 2000000 in
theorem both_SendTuple (a s p : ByteArray) (ma : a.size ≤ 9223372036854775807) (ms : s.size ≤ 9223372036854775807) (mp : p.size ≤ 9223372036854775807) :
    ∃ (n0 : ByteArray) (y0 : Bool), (∀ w, Calls Tryd.prog 5 #[.string a, .string s, .string p] w fun e w' => e = .returned (.tuple #[.string n0, .bool y0]) ∧ Below w.heap.size w w') ∧
      (∀ w, Lib.Utf8Tabs 1 2 w → Calls Tryd.prog 6 #[.string a, .string s, .string p] w fun e w' => e = .returned (.tuple #[.string n0, .bool y0]) ∧ Below w.heap.size w w') := by
  obtain ⟨l, rfl⟩ : ∃ l, s = B l := ⟨s.data.toList, (B_of s).symm⟩
  rw [B_size] at ms
  have CT := cdTuple_any l ms
  rcases one_or2 a with ⟨ca, hca, rfl, Sa, Ia⟩ | ⟨_, Sa, Ia⟩
  · cases htf : tupB l with
    | false =>
      rw [htf] at CT
      exact ⟨_, _, ss_SendTuple_1 _ _ _ ⟨#[]⟩ ⟨#[]⟩ false Sa CT, (fun w hT => im_SendTuple _ _ _ _ _ w (fun W b0 b1 b2 kW h0 h1 h2 => coded_no _ _ cf_SendTuple W (fun w1 bl => cs_1 (B [ca]) (B l) p b0 b1 b2 _ l _ rfl 0 Value.nilIface 0 Value.nilIface w1 (cellup bl h0) (cellup bl h1) (cellup bl h2) (ni_yes _ _ Ia) (fun w2 b2' => tup_bad l htf w2 (tabs_below (tabs_below (tabs_below hT kW) bl) b2')))))⟩
    | true =>
      rw [htf] at CT
      have htu := (tupB_iff l).1 htf
      cases hg : good p.data.toList with
      | none => exact ⟨_, _, ss_SendTuple_2 _ _ _ ⟨#[]⟩ ⟨#[]⟩ false Sa CT (fun w => tmGood_none hg w mp), (fun w hT => im_SendTuple _ _ _ _ _ w (fun W b0 b1 b2 kW h0 h1 h2 => coded_no _ _ cf_SendTuple W (fun w1 bl => cs_2 (B [ca]) (B l) p b0 b1 b2 _ l _ rfl 0 Value.nilIface 0 Value.nilIface w1 (cellup bl h0) (cellup bl h1) (cellup bl h2) (ni_yes _ _ Ia) (fun w2 b2' => tup_yes l htu.1.1 htu.1.2 htu.2 w2) (pi_no _ (fun w => parse_none hg w mp)))))⟩
      | some t =>
        have G := fun w => tmGood_some hg w mp
        have PYY := (pi_yes _ _ _ (fun w => parse_some hg w mp))
        obtain ⟨es, hL, hE, h300, h60⟩ := good_S hg
        subst es
        have hlt := lets_of l htu.2
        have hlen : (sendC ca l t).pr.length ≤ 900 := by rw [sendC_len]; omega
        have hokE : (sendC ca l t).ok nmE = true := sendC_okE (nmE_of hca) (fun c hc => nmE_of (htu.2 c hc)) hE
        have SPEC := ss_SendTuple_yes (B [ca]) (B l) (S t) (S (sendC ca l t)) _ _ Sa CT G (cdSend_any ca l t (by omega) hE (by omega)) (tmIf_coded (sendC ca l t) hokE (by omega))
        cases hlk : nmL (linkN ca l t) with
        | true =>
          have hokL : (sendC ca l t).ok nmL = true := sendW_ok hlk hca htu.2 hL
          exact ⟨(if okT (sendC ca l t) then S (sendC ca l t) else ⟨#[]⟩), okT (sendC ca l t), SPEC, (fun w hT => im_SendTuple _ _ _ _ _ w (fun W b0 b1 b2 kW h0 h1 h2 => coded_yes _ _ (sendC ca l t) hokL hlen (Nat.le_trans (size_le_pr _) (by omega)) cf_SendTuple W (fun w1 bl => cs_yes (B [ca]) (B l) (S t) b0 b1 b2 _ l _ rfl _ _ _ _ w1 (cellup bl h0) (cellup bl h1) (cellup bl h2) (ni_yes _ _ Ia) (fun w2 b2' => tup_yes l htu.1.1 htu.1.2 htu.2 w2) PYY (fun g cap w3 hr => sd_yes ca l t hca hlt hL _ rfl g cap w3 hr hlk))))⟩
        | false =>
          have hno : (sendC ca l t).ok nmL = false := sendW_no hlk
          exact ⟨⟨#[]⟩, false, fun w => (by have h := SPEC w; rw [show okT (sendC ca l t) = false from by simp [okT, hno]] at h; exact h), (fun w hT => im_SendTuple _ _ _ _ _ w (fun W b0 b1 b2 kW h0 h1 h2 => coded_no _ _ cf_SendTuple W (fun w1 bl => cs_link (B [ca]) (B l) (S t) b0 b1 b2 _ l _ rfl _ _ 0 Value.nilIface w1 (cellup bl h0) (cellup bl h1) (cellup bl h2) (ni_yes _ _ Ia) (fun w2 b2' => tup_yes l htu.1.1 htu.1.2 htu.2 w2) PYY (fun g cap w3 hr => sd_no ca l t hca hlt hL _ rfl g cap w3 hr hlk))))⟩
  · cases htf : tupB l with
    | _ => exact ⟨_, _, ss_SendTuple_0 _ _ _ ⟨#[]⟩ ⟨#[]⟩ false Sa, (fun w hT => im_SendTuple _ _ _ _ _ w (fun W b0 b1 b2 kW h0 h1 h2 => coded_no _ _ cf_SendTuple W (fun w1 bl => cs_0 a (B l) p b0 b1 b2 0 l _ rfl 0 Value.nilIface 0 Value.nilIface w1 (cellup bl h0) (cellup bl h1) (cellup bl h2) (ni_no _ Ia))))⟩
set_option maxHeartbeats 2000000 in
theorem both_ReceiveTuple (a s p : ByteArray) (ma : a.size ≤ 9223372036854775807) (ms : s.size ≤ 9223372036854775807) (mp : p.size ≤ 9223372036854775807) :
    ∃ (n0 : ByteArray) (y0 : Bool), (∀ w, Calls Tryd.prog 7 #[.string a, .string s, .string p] w fun e w' => e = .returned (.tuple #[.string n0, .bool y0]) ∧ Below w.heap.size w w') ∧
      (∀ w, Lib.Utf8Tabs 1 2 w → Calls Tryd.prog 8 #[.string a, .string s, .string p] w fun e w' => e = .returned (.tuple #[.string n0, .bool y0]) ∧ Below w.heap.size w w') := by
  obtain ⟨l, rfl⟩ : ∃ l, s = B l := ⟨s.data.toList, (B_of s).symm⟩
  rw [B_size] at ms
  have CT := cdTuple_any l ms
  cases htf : tupB l with
  | false =>
    rw [htf] at CT
    rcases one_or2 a with ⟨ca, hca, rfl, Sa, Ia⟩ | ⟨_, Sa, Ia⟩
    · exact ⟨_, _, ss_ReceiveTuple_1 _ _ _ ⟨#[]⟩ ⟨#[]⟩ false Sa CT, (fun w hT => im_ReceiveTuple _ _ _ _ _ w (fun W b0 b1 b2 kW h0 h1 h2 => coded_no _ _ cf_ReceiveTuple W (fun w1 bl => cr_tup (B [ca]) (B l) p b1 b0 b2 0 l _ rfl 0 Value.nilIface 0 Value.nilIface w1 (cellup bl h1) (cellup bl h0) (cellup bl h2) (fun w2 b2' => tup_bad l htf w2 (tabs_below (tabs_below (tabs_below hT kW) bl) b2')))))⟩
    · exact ⟨_, _, ss_ReceiveTuple_0 _ _ _ ⟨#[]⟩ ⟨#[]⟩ false Sa, (fun w hT => im_ReceiveTuple _ _ _ _ _ w (fun W b0 b1 b2 kW h0 h1 h2 => coded_no _ _ cf_ReceiveTuple W (fun w1 bl => cr_tup a (B l) p b1 b0 b2 0 l _ rfl 0 Value.nilIface 0 Value.nilIface w1 (cellup bl h1) (cellup bl h0) (cellup bl h2) (fun w2 b2' => tup_bad l htf w2 (tabs_below (tabs_below (tabs_below hT kW) bl) b2')))))⟩
  | true =>
    rw [htf] at CT
    have htu := (tupB_iff l).1 htf
    have hlt := lets_of l htu.2
    cases hnd : ndp [] l with
    | false =>
      rcases one_or2 a with ⟨ca, hca, rfl, Sa, Ia⟩ | ⟨_, Sa, Ia⟩
      · cases hg : good p.data.toList with
        | none => exact ⟨_, _, ss_ReceiveTuple_2 _ _ _ ⟨#[]⟩ ⟨#[]⟩ false Sa CT (fun w => tmGood_none hg w mp), (fun w hT => im_ReceiveTuple _ _ _ _ _ w (fun W b0 b1 b2 kW h0 h1 h2 => coded_no _ _ cf_ReceiveTuple W (fun w1 bl => cr_dup (B [ca]) (B l) p b1 b0 b2 0 l _ rfl 0 Value.nilIface 0 Value.nilIface w1 (cellup bl h1) (cellup bl h0) (cellup bl h2) (fun w2 b2' => tup_yes l htu.1.1 htu.1.2 htu.2 w2) hlt hnd)))⟩
        | some t => exact ⟨_, _, ss_ReceiveTuple_dup _ _ _ ⟨#[]⟩ ⟨#[]⟩ false l _ rfl (by omega) rfl hnd Sa CT (fun w => tmGood_some hg w mp), (fun w hT => im_ReceiveTuple _ _ _ _ _ w (fun W b0 b1 b2 kW h0 h1 h2 => coded_no _ _ cf_ReceiveTuple W (fun w1 bl => cr_dup (B [ca]) (B l) p b1 b0 b2 0 l _ rfl 0 Value.nilIface 0 Value.nilIface w1 (cellup bl h1) (cellup bl h0) (cellup bl h2) (fun w2 b2' => tup_yes l htu.1.1 htu.1.2 htu.2 w2) hlt hnd)))⟩
      · exact ⟨_, _, ss_ReceiveTuple_0 _ _ _ ⟨#[]⟩ ⟨#[]⟩ false Sa, (fun w hT => im_ReceiveTuple _ _ _ _ _ w (fun W b0 b1 b2 kW h0 h1 h2 => coded_no _ _ cf_ReceiveTuple W (fun w1 bl => cr_dup a (B l) p b1 b0 b2 0 l _ rfl 0 Value.nilIface 0 Value.nilIface w1 (cellup bl h1) (cellup bl h0) (cellup bl h2) (fun w2 b2' => tup_yes l htu.1.1 htu.1.2 htu.2 w2) hlt hnd)))⟩
    | true =>
      rcases one_or2 a with ⟨ca, hca, rfl, Sa, Ia⟩ | ⟨_, Sa, Ia⟩
      · cases hg : good p.data.toList with
        | none => exact ⟨_, _, ss_ReceiveTuple_2 _ _ _ ⟨#[]⟩ ⟨#[]⟩ false Sa CT (fun w => tmGood_none hg w mp), (fun w hT => im_ReceiveTuple _ _ _ _ _ w (fun W b0 b1 b2 kW h0 h1 h2 => coded_no _ _ cf_ReceiveTuple W (fun w1 bl => cr_2 (B [ca]) (B l) p b1 b0 b2 _ l _ rfl 0 Value.nilIface 0 Value.nilIface w1 (cellup bl h1) (cellup bl h0) (cellup bl h2) (fun w2 b2' => tup_yes l htu.1.1 htu.1.2 htu.2 w2) hlt hnd (ni_yes _ _ Ia) (pi_no _ (fun w => parse_none hg w mp)))))⟩
        | some t =>
          have G := fun w => tmGood_some hg w mp
          have PYY := (pi_yes _ _ _ (fun w => parse_some hg w mp))
          obtain ⟨es, hL, hE, h300, h60⟩ := good_S hg
          subst es
          have hlen : (recvC ca l t).pr.length ≤ 900 := by rw [recvC_len]; omega
          have hokE : (recvC ca l t).ok nmE = true := recvC_okE (nmE_of hca) (fun c hc => nmE_of (htu.2 c hc)) hE
          have SPEC := ss_ReceiveTuple_yes (B [ca]) (B l) (S t) (S (recvC ca l t)) _ _ l _ rfl (by omega) rfl hnd Sa CT G (cdReceive_any ca l t (by omega) hE (by omega)) (tmIf_coded (recvC ca l t) hokE (by omega))
          cases hlk : nmL (linkN ca l t) with
          | true =>
            have hokL : (recvC ca l t).ok nmL = true := recvW_ok hlk hca htu.2 hL
            exact ⟨(if okT (recvC ca l t) then S (recvC ca l t) else ⟨#[]⟩), okT (recvC ca l t), SPEC, (fun w hT => im_ReceiveTuple _ _ _ _ _ w (fun W b0 b1 b2 kW h0 h1 h2 => coded_yes _ _ (recvC ca l t) hokL hlen (Nat.le_trans (size_le_pr _) (by omega)) cf_ReceiveTuple W (fun w1 bl => cr_yes (B [ca]) (B l) (S t) b1 b0 b2 _ l _ rfl _ _ _ _ w1 (cellup bl h1) (cellup bl h0) (cellup bl h2) (fun w2 b2' => tup_yes l htu.1.1 htu.1.2 htu.2 w2) hlt hnd (ni_yes _ _ Ia) PYY (fun g cap w3 hr => rc_yes ca l t hca hlt hL _ rfl g cap w3 hr hlk))))⟩
          | false =>
            have hno : (recvC ca l t).ok nmL = false := recvW_no hlk
            exact ⟨⟨#[]⟩, false, fun w => (by have h := SPEC w; rw [show okT (recvC ca l t) = false from by simp [okT, hno]] at h; exact h), (fun w hT => im_ReceiveTuple _ _ _ _ _ w (fun W b0 b1 b2 kW h0 h1 h2 => coded_no _ _ cf_ReceiveTuple W (fun w1 bl => cr_link (B [ca]) (B l) (S t) b1 b0 b2 _ l _ rfl _ _ 0 Value.nilIface w1 (cellup bl h1) (cellup bl h0) (cellup bl h2) (fun w2 b2' => tup_yes l htu.1.1 htu.1.2 htu.2 w2) hlt hnd (ni_yes _ _ Ia) PYY (fun g cap w3 hr => rc_no ca l t hca hlt hL _ rfl g cap w3 hr hlk))))⟩
      · exact ⟨_, _, ss_ReceiveTuple_0 _ _ _ ⟨#[]⟩ ⟨#[]⟩ false Sa, (fun w hT => im_ReceiveTuple _ _ _ _ _ w (fun W b0 b1 b2 kW h0 h1 h2 => coded_no _ _ cf_ReceiveTuple W (fun w1 bl => cr_0 a (B l) p b1 b0 b2 0 l _ rfl 0 Value.nilIface 0 Value.nilIface w1 (cellup bl h1) (cellup bl h0) (cellup bl h2) (fun w2 b2' => tup_yes l htu.1.1 htu.1.2 htu.2 w2) hlt hnd (ni_no _ Ia))))⟩
end Go.Proofs.YtinkioodkgccjaaDoor.T1
