/- Texts of the proof, put together: Kg, Kh, Ki. No conditions. -/
import Derived.Test.YtmfmagfgcdaeeaaGreatHao
import Derived.Test.YtmfmagfgcdaeeaaGreatHau
import Derived.Test.YtmfmagfgcdaeeaaGreatHaw
import Derived.Test.YtmfmagfgcdaeeaaGreatHbd
import Derived.Test.YtmfmagfgcdaeeaaGreatHbi
import Derived.Deep.RegionHeld3
import Derived.Deep.MidRow

/- A row of bytes in ascending order is left as it is by the library's sort: in the program. -/
namespace Go.Proofs.YtmfmagfgcdaeeaaGreat.T1
open Go.RowKit
open Go.Sort (Holds putRow putCells swp)
set_option maxRecDepth 100000
set_option linter.unusedVariables false
set_option linter.unusedSimpArgs false

theorem isNaN_any (n : Int) (w : World) : Calls Tryz.prog 219 #[.int .u8 n] w fun e w' => e = .returned (.bool false) ∧ w = w' := by
  go_enter Tryz.func219, Tryz.ntmps219
  go_wp2_with fail
  go_ret
  exact ⟨rfl, rfl⟩
theorem less_no (n0 n1 : Int) (h : ¬ n0 < n1) (w : World) : Calls Tryz.prog 213 #[.int .u8 n0, .int .u8 n1] w fun e w' => e = .returned (.bool false) ∧ w = w' := by
  have H := Lib.hid (isNaN_any n0)
  go_enter Tryz.func213, Tryz.ntmps213
  go_wp2_with fail
  refine (H.out _).mono ?_
  rintro e w1 ⟨rfl, rfl⟩
  go_wp2_with fail
  go_ret
  exact ⟨by show Ending.returned (Value.bool (decide (n0 < n1))) = _; rw [decide_eq_false (fun e => by omega)], rfl⟩
set_option maxHeartbeats 4000000 in
theorem insSorted (fs : List UInt8) (g cap n : Nat) (hn : n = fs.length) (hs : fs.Pairwise (· < ·)) (hn2 : n ≤ 1000) (hc : n ≤ cap) (w : World) (hH : Holds ub w g 0 fs.toArray) :
    Calls Tryz.prog 207 #[.slice (some ⟨g, 0, none⟩) n cap, .int .i64 0, .int .i64 (n : Int)] w fun e w' => e = .returned (.tuple #[]) ∧ ∃ q, w' = Sort.ahead w q := by
  have HN := Lib.hid hn
  have HS := Lib.hid hs
  have HH := Lib.hid hH
  clear hn hs hH
  go_enter Tryz.func207, Tryz.ntmps207
  go_wp2_with fail
  go_loopg [6] n (fun k s6 wr => (∃ m : Nat, 1 ≤ m ∧ s6 = .int .i64 (m : Int) ∧ n + 1 ≤ m + k) ∧ Hid (∃ q, wr = Sort.ahead w q))
  case atStart => exact ⟨⟨1, by omega, by congr 1, by omega⟩, ⟨0, rfl⟩⟩
  case round =>
    obtain ⟨⟨m, hm1, rfl, hm2⟩, hwr⟩ := hrel
    obtain ⟨q, hq⟩ := hwr.out
    by_cases hlt : (m : Int) < (n : Int)
    · have hm : m < fs.length := by rw [← HN.out]; omega
      obtain ⟨p, rfl⟩ : ∃ p, m = p + 1 := ⟨m - 1, by omega⟩
      have hp : p < fs.length := by omega
      obtain ⟨n0, hn0⟩ : ∃ n0 : Int, n0 = (fs[p].toNat : Int) := ⟨_, rfl⟩
      obtain ⟨n1, hn1⟩ : ∃ n1 : Int, n1 = (fs[p + 1].toNat : Int) := ⟨_, rfl⟩
      have c1 : wr.cell? ⟨g, p, none⟩ = some (.int .u8 n0) := by rw [hq, hn0]; exact (holds_cell HH.out p hp).1
      have c2 : wr.cell? ⟨g, p + 1, none⟩ = some (.int .u8 n1) := by rw [hq, hn1]; exact (holds_cell HH.out (p + 1) hm).1
      have hle : ¬ n1 < n0 := by
        have := List.pairwise_iff_getElem.1 HS.out p (p + 1) hp hm (by omega)
        rw [u8_lt] at this; omega
      have HL := Lib.hid (less_no n1 n0 hle)
      have hpos : (0 : Int) < (p : Int) + 1 := by omega
      have HQ := Lib.hid hq
      clear hq hwr hn0 hn1 hm hp hle
      go_wp2_with fail
      refine wp_loop_rounds 1 ?_
      rw [rounds_succ]
      go_wp2_with fail
      go_quiet ((go_at_call 213; exact Calls.quiet_of_same ((HL.out _).mono fun _ _ hh => ⟨hh.1, hh.2.symm⟩)))
      go_wp2_with fail
      go_roundg (gk - 1)
      case rel => exact ⟨⟨p + 2, by omega, by congr 1, by omega⟩, ⟨q + nq, by rw [HQ.out, ahead_drewN]⟩⟩
      case measure => omega
    · have HQ := Lib.hid hq
      clear hq hwr
      go_wp2_with fail
      go_end0
      exact ⟨rfl, q, HQ.out⟩
set_option maxHeartbeats 4000000 in
theorem pdqSorted (fs : List UInt8) (g cap n : Nat) (l : Int) (hn : n = fs.length) (hs : fs.Pairwise (· < ·)) (hn2 : n ≤ 12) (hc : n ≤ cap) (w : World) (hH : Holds ub w g 0 fs.toArray) :
    Calls Tryz.prog 204 #[.slice (some ⟨g, 0, none⟩) n cap, .int .i64 0, .int .i64 (n : Int), .int .i64 l] w fun e w' => e = .returned (.tuple #[]) ∧ ∃ q, w' = Sort.ahead w q := by
  have HI := Lib.hid (insSorted fs g cap n hn hs (by omega) hc w hH)
  clear hn hs hH
  go_enter Tryz.func204, Tryz.ntmps204
  go_wp2_with fail
  refine wp_loop_rounds 1 ?_
  rw [rounds_succ]
  go_wp2_with fail
  refine (HI.out).mono ?_
  rintro e w1 ⟨rfl, q, rfl⟩
  go_wp2_with fail
  (try simp only [Exit.inBlock, Exit.then])
  refine bodyPost_ret (results_none rfl _ _ _) rfl ?_
  exact ⟨rfl, q, rfl⟩
set_option maxHeartbeats 4000000 in
theorem sortB (fs : List UInt8) (g cap n : Nat) (hn : n = fs.length) (hs : fs.Pairwise (· < ·)) (hn2 : n ≤ 12) (hc : n ≤ cap) (w : World) (hH : Holds ub w g 0 fs.toArray) :
    Calls Tryz.prog 199 #[.slice (some ⟨g, 0, none⟩) n cap] w fun e w' => e = .returned (.tuple #[]) ∧ ∃ q, w' = Sort.ahead w q := by
  have HP := Lib.hid fun l => pdqSorted fs g cap n l hn hs hn2 hc w hH
  have HB := Lib.hid fun w => Tryz.bits_Len (n : Int) w (by omega) (by omega)
  clear hn hs hH
  obtain ⟨b, hb⟩ : ∃ b : Int, b = ((Lib.bitLen ((n : Int)).toNat : Nat) : Int) := ⟨_, rfl⟩
  rw [← hb] at HB
  have hw : IntKind.u64.wrap (n : Int) = (n : Int) := by rw [IntKind.wrap_u64] <;> omega
  clear hb
  go_enter Tryz.func199, Tryz.ntmps199
  go_wp2_with fail
  refine (HB.out _).mono ?_
  rintro e w1 ⟨rfl, rfl⟩
  go_wp2_with fail
  refine (HP.out _).mono ?_
  rintro e w1 ⟨rfl, q, rfl⟩
  go_wp2_with fail
  go_end0
  exact ⟨rfl, q, rfl⟩
set_option maxHeartbeats 4000000 in
theorem insNone (w : World) : Calls Tryz.prog 207 #[.slice none 0 0, .int .i64 0, .int .i64 0] w fun e w' => e = .returned (.tuple #[]) ∧ w' = w := by
  go_enter Tryz.func207, Tryz.ntmps207
  go_wp2_with fail
  refine wp_loop_rounds 1 ?_
  rw [rounds_succ]
  go_wp2_with fail
  go_end0
  exact ⟨rfl, rfl⟩
set_option maxHeartbeats 4000000 in
theorem pdqNone (l : Int) (w : World) : Calls Tryz.prog 204 #[.slice none 0 0, .int .i64 0, .int .i64 0, .int .i64 l] w fun e w' => e = .returned (.tuple #[]) ∧ w' = w := by
  have HI := Lib.hid (insNone w)
  go_enter Tryz.func204, Tryz.ntmps204
  go_wp2_with fail
  refine wp_loop_rounds 1 ?_
  rw [rounds_succ]
  go_wp2_with fail
  refine (HI.out).mono ?_
  rintro e w1 ⟨rfl, rfl⟩
  go_wp2_with fail
  (try simp only [Exit.inBlock, Exit.then])
  refine bodyPost_ret (results_none rfl _ _ _) rfl ?_
  exact ⟨rfl, rfl⟩
set_option maxHeartbeats 4000000 in
theorem sortB_none (w : World) : Calls Tryz.prog 199 #[.slice none 0 0] w fun e w' => e = .returned (.tuple #[]) ∧ w' = w := by
  have HP := Lib.hid fun l => pdqNone l w
  have HB := Lib.hid fun w => Tryz.bits_Len 0 w (by omega) (by omega)
  obtain ⟨b, hb⟩ : ∃ b : Int, b = ((Lib.bitLen ((0 : Int)).toNat : Nat) : Int) := ⟨_, rfl⟩
  rw [← hb] at HB
  clear hb
  go_enter Tryz.func199, Tryz.ntmps199
  go_wp2_with fail
  refine (HB.out _).mono ?_
  rintro e w1 ⟨rfl, rfl⟩
  go_wp2_with fail
  refine (HP.out _).mono ?_
  rintro e w1 ⟨rfl, rfl⟩
  go_wp2_with fail
  go_end0
  exact ⟨rfl, rfl⟩

end Go.Proofs.YtmfmagfgcdaeeaaGreat.T1

/- What is written of each of a list, in order: in the program. -/
namespace Go.Proofs.YtmfmagfgcdaeeaaGreat.T1
open Go.RowKit
open Go.Sort (Holds putRow putCells swp)
set_option maxRecDepth 100000
set_option linter.unusedVariables false
set_option linter.unusedSimpArgs false

def StrP (X : ByteArray) (w : World) (e : Ending) (w' : World) : Prop := e = .returned (.string X) ∧ Below w.heap.size w w'
/-- A row of texts of trees that the call has made. -/
def TxP (us : List Tm) (n : Nat) (w : World) (e : Ending) (w' : World) : Prop := ∃ v', e = .returned v' ∧ w'.ownsRow w.heap.size 9 1 v' n (us.map sv) ∧ Below w.heap.size w w'
set_option maxHeartbeats 8000000 in
theorem inOrder_any (F : FuncId) (hF : ∀ args w, (callFunc F args).run Tryz.prog w = .ok (.enter F args) w) (D : Array Value) (hD : D.size = 257) (ts us : List Tm) (n : Nat) (hn : n = ts.length) (hu : us.length = n) (hn2 : n ≤ 300) (v : Value) (base : Nat) (w : World) (ho : w.ownsRow base 43 1 v n (ts.map enc))
    (HF : ∀ i (h1 : i < ts.length) (h2 : i < us.length) w', Below w.heap.size w w' → Calls Tryz.prog F #[.agg D, .iface (tyOf ts[i]) (pay ts[i])] w' (StrP (S us[i]) w')) :
    Calls Tryz.prog 181 #[.agg D, v, .func (.func F) #[] #[]] w (TxP (srtT us) n w) := by
  obtain ⟨i0, hi, hz0, hz1, hz2⟩ := info_parts Tryz.infoS
  obtain ⟨p, cap, rfl⟩ := own_form ho
  have HO := Lib.hid ho
  have HF' := Lib.hid HF
  have HN := Lib.hid hn
  have HU := Lib.hid hu
  have HI : Hid ((Tryz.prog.info? 152).map (·.size) = some D.size) := by show _ = _; rw [Tryz.infoDf, hD]
  clear ho HF hn hu
  go_enter Tryz.func181, Tryz.ntmps181
  go_wp2_with fail
  obtain ⟨W, hW⟩ : ∃ W, W = w.alloc (.cells D 152) := ⟨_, rfl⟩
  have hbk : W.heap[w.heap.size]? = some (.cells D 152 (0, 0)) := by rw [hW]; exact new_block0 _ _
  have blW : Below w.heap.size w W := by rw [hW]; exact (Below.refl _ _).alloc (Nat.le_refl _) _
  rw [← hW]
  have Hbk := Lib.hid hbk
  have BlW := Lib.hid blW
  clear hW hbk blW
  go_loopg [7, 12] n (fun k s7 s12 wr => (∃ i : Nat, s12 = .int .i64 (i : Int) ∧ i + k = n ∧ Hid (wr.ownsRow (w.heap.size + 1) 9 1 s7 i ((us.take i).map sv))) ∧ Hid (wr.heap[w.heap.size]? = some (.cells D 152 (0, 0))) ∧ Hid (Below w.heap.size w wr))
  case atStart => exact ⟨⟨0, by congr 1, by omega, World.ownsRow_nil _ _ _ _⟩, Hbk, BlW⟩
  case round =>
    obtain ⟨⟨i, rfl, hik, hown⟩, hb, hbw⟩ := hrel
    have hsz := lt_of_block hb.out
    by_cases hlt : (i : Int) < (n : Int)
    · have hit : i < ts.length := by rw [← HN.out]; omega
      have hiu : i < us.length := by rw [HU.out]; omega
      obtain ⟨g, hpg, hg1, hg2, hg3, hcells⟩ := own_at HO.out (by omega)
      subst hpg
      have c1 : wr.cell? ⟨g, i, none⟩ = some (.iface (tyOf ts[i]) (pay ts[i])) :=
        (hbw.out.cell (p := ⟨g, i, none⟩) hg2).trans (hcells i (enc ts[i]) (by rw [List.getElem?_map, List.getElem?_eq_getElem hit]; rfl))
      obtain ⟨T, hT⟩ : ∃ T, T = tyOf ts[i] := ⟨_, rfl⟩
      obtain ⟨V, hV⟩ : ∃ V, V = pay ts[i] := ⟨_, rfl⟩
      obtain ⟨X, hX⟩ : ∃ X, X = S us[i] := ⟨_, rfl⟩
      have HC : Hid (∀ w', Below w.heap.size w w' → Calls Tryz.prog F #[.agg D, .iface T V] w' (StrP X w')) := by
        rw [hT, hV, hX]; exact HF'.out i hit hiu
      rw [← hT, ← hV] at c1
      have hxs : [Value.string X] = [us[i]].map sv := by rw [hX]; rfl
      have htk : Hid ((us.take (i + 1)).map sv = (us.take i).map sv ++ [.string X]) := by
        show _ = _
        rw [List.take_succ_eq_append_getElem hiu, List.map_append, hxs]
      clear hT hV hX hxs hcells hg1 hit hiu
      have hgt : 0 < n := by omega
      go_wp2_with (refine wpList_load_row rfl 152 (.tmp 3) rfl w.heap.size rfl 152 D (0, 0) _ hb.out Tryz.underlying152 rfl HI.out ?_)
      refine (HC.out _ hbw.out).mono ?_
      rintro e w1 ⟨rfl, b1⟩
      have hb1 := Lib.hid (row_below0 hb.out b1)
      have hbw1 := Lib.hid (below_go hbw.out b1)
      have hown1 := Lib.hid (own_below2 hown.out b1)
      have hsz1 := lt_of_block hb1.out
      clear b1 c1 hb hbw hown
      go_wp2_with (at_builtin; refine wpList_append_rows rfl (.tmp 16) (.tmp 21) 36 rfl (w.heap.size + 1) (w.heap.size + 1) 9 i0 (.string ⟨#[]⟩) 16 Tryz.underlying36 hi hz0 hz1 hz2 rfl u7 i _ rfl (hown1.out.alloc _) _ 1 [.string X] rfl (own_new1 w1 (.string X) 9 (w.heap.size + 1) hsz1) (fun u hu => by simp at hu; subst hu; rfl) ?c2 ?c3 ?c4 ?_)
      case c2 => unfold maxLen; omega
      case c3 => omega
      case c4 => simp; omega
      intro v3 w3 hown3 hgrow3 _
      have O3 : Hid (w3.ownsRow (w.heap.size + 1) 9 1 v3 (i + 1) ((us.take (i + 1)).map sv)) := by
        show World.ownsRow _ _ _ _ _ _ _
        rw [htk.out, List.map_take]; exact hown3
      have hol : ∀ g, u7.ownBlock = some g → w.heap.size + 1 ≤ g := fun g e => (hown1.out.lt g e).1
      have Hb3 : Hid (w3.heap[w.heap.size]? = some (.cells D 152 (0, 0))) := by
        show _ = _
        rw [hgrow3.block _ (by simp; omega) (fun e => by have := hol _ e.symm; omega)]
        exact (heap_alloc_old w1 _ hsz1).trans hb1.out
      have Bl3 := Lib.hid (below_grown2 (hbw1.out.alloc (by omega) _) hgrow3 (fun g e => by have := hol g e; omega) (by simp; omega))
      clear hown3 hgrow3 hol hb1 hbw1 hown1 htk
      go_wp2_with fail
      go_roundg (gk - 1)
      case rel => exact ⟨⟨i + 1, by congr 1, by omega, O3⟩, Hb3, Bl3⟩
      case measure => omega
    · obtain rfl : i = n := by omega
      have htk : us.take i = us := List.take_of_length_le (by rw [HU.out]; exact Nat.le_refl _)
      rw [htk] at hown
      have HS := Lib.hid (sortT us u7 i (w.heap.size + 1) wr hown.out (by omega))
      have hol : Hid (∀ g, u7.ownBlock = some g → w.heap.size ≤ g) := fun g e => by have := (hown.out.lt g e).1; omega
      clear htk hown
      go_wp2_with fail
      refine (HS.out).mono ?_
      rintro e w1 ⟨rfl, ho, hg⟩
      have O := Lib.hid (own_bas2 (b2 := w.heap.size) ho (by omega))
      have Bl := Lib.hid (below_grown2 hbw.out hg (fun g e => hol.out g e) (by omega))
      clear ho hg
      go_wp2_with fail
      go_ret
      exact ⟨_, rfl, O.out, Bl.out⟩

end Go.Proofs.YtmfmagfgcdaeeaaGreat.T1

/- The texts that an order of names makes: in the program. -/
namespace Go.Proofs.YtmfmagfgcdaeeaaGreat.T1
open Go.RowKit
set_option maxRecDepth 100000
set_option linter.unusedVariables false
set_option linter.unusedSimpArgs false

theorem df_load (w : World) (g : Nat) (D : Array Value) (hD : D.size = 257) (hg : w.heap[g]? = some (.cells D 152 (0, 0))) : (loadVar 152 ⟨g, 0, none⟩).run Tryz.prog w = .ok (.agg D) w :=
  run_loadVar_row w g 152 152 D (0, 0) _ hg Tryz.underlying152 rfl (by rw [Tryz.infoDf, hD])
theorem df_range (w : World) (g : Nat) (D : Array Value) (hg : w.heap[g]? = some (.cells D 152 (0, 0))) : w.rangeAt g 0 D.toList := fun j v hv => by
  rw [Nat.zero_add, cell_of_row w g j D _ _ hg]; simpa using hv
theorem df_yields {ops : Array Oper} {S : World → Prop} {op : Oper} {a : Act} {D : Array Value} {g : Nat} (hw : Region.wanted op (yielded ops a.tmps) = true) (ty : TypeId) (x : Operand) (ho : op.op = .load ty x) (hty : ty = 152)
    (hx : a.eval x = .pointer (some ⟨g, 0, none⟩)) (hD : D.size = 257) (hS : ∀ w, S w → w.rangeAt g 0 D.toList) : YieldsIf Tryz.prog ops S op (.agg D) a := by
  subst hty
  have := yieldsIf_load_mid (P := Tryz.prog) (S := S) hw 152 x ho g 0 hx D.toList _ hS Tryz.underlying152 rfl (by rw [Tryz.infoDf, Array.length_toList, hD])
  simpa using this
theorem cf_thread (args : Array Value) (w : World) : (callFunc 182 args).run Tryz.prog w = .ok (.enter 182 args) w := by kernel_rfl
theorem cf_level (args : Array Value) (w : World) : (callFunc 160 args).run Tryz.prog w = .ok (.enter 160 args) w := by kernel_rfl
theorem cf_levC (args : Array Value) (w : World) : (callFunc 179 args).run Tryz.prog w = .ok (.enter 179 args) w := by kernel_rfl
theorem TxP.go {us : List Tm} {n : Nat} {u w : World} {e : Ending} {w' : World} (h : TxP us n w e w') (b : Below u.heap.size u w) : TxP us n u e w' := by
  obtain ⟨v', h1, h2, h3⟩ := h
  exact ⟨v', h1, own_bas2 h2 b.size, below_go b h3⟩
set_option maxHeartbeats 8000000 in
theorem levC_any (D : Array Value) (L : UInt8 → UInt8) (vL : Value) (gL : Nat) (ns ord : List UInt8) (hD : DrOf D L vL) (hns : ns.length ≤ 1000) (hle : ord.length ≤ ns.length) (po : Option Addr) (go co : Nat) (gd gt : Nat) (vT : Value) (ts us : List Tm) (n base : Nat) (hn : n = ts.length) (hu : us.length = n) (hn2 : n ≤ 300)
    (w : World) (hL : LfS w gL vL ns) (hgL : gL < w.heap.size) (hord : ord ≠ [] → po = some ⟨go, 0, none⟩ ∧ ∀ k (h : k < ord.length), w.cell? ⟨go, k, none⟩ = some (.int .u8 (ord[k].toNat : Int)))
    (hgd : w.heap[gd]? = some (.cells D 152 (0, 0))) (hct : w.cell? ⟨gt, 0, none⟩ = some vT) (ho : w.ownsRow base 43 1 vT n (ts.map enc))
    (HT : ∀ D' vL' w', DrOf D' (updL L ord ns) vL' → LfS w' gL vL' (ns.drop ord.length) → gL < w'.heap.size → ∀ i (h1 : i < ts.length) (h2 : i < us.length), Calls Tryz.prog 182 #[.agg D', .iface (tyOf ts[i]) (pay ts[i])] w' (StrP (S us[i]) w')) :
    Calls Tryz.prog 179 #[.slice po ord.length co, .pointer (some ⟨gd, 0, none⟩), .pointer (some ⟨gt, 0, none⟩)] w (TxP (srtT us) n w) := by
  have HB := Lib.hid fun (w1 : World) (b : Below w.heap.size w w1) => binding_any D L vL gL ns ord po go co hD (by omega) hle hns w1 (hL.below b) (Nat.lt_of_lt_of_le hgL b.size) (fun h => ⟨(hord h).1, fun k hk => (b.cell (p := ⟨go, k, none⟩) (lt_cell ((hord h).2 k hk))).trans ((hord h).2 k hk)⟩)
  have HI := Lib.hid fun (D' : Array Value) (vL' : Value) (w1 : World) (b : Below w.heap.size w w1) (h1 : DrOf D' (updL L ord ns) vL') (h2 : LfS w1 gL vL' (ns.drop ord.length)) =>
    (inOrder_any 182 cf_thread D' h1.sz ts us n hn hu hn2 vT base w1 (own_below2 ho b) (fun i a1 a2 w' b' => HT D' vL' w' h1 (h2.below b') (Nat.lt_of_lt_of_le hgL (Nat.le_trans b.size b'.size)) i a1 a2)).mono fun e w' h => TxP.go h b
  obtain ⟨R, hR⟩ : ∃ R, R = TxP (srtT us) n w := ⟨_, rfl⟩
  rw [← hR] at HI ⊢
  have hl0 := fun (w1 : World) (b : Below w.heap.size w w1) => df_load w1 gd D hD.sz (row_below0 hgd b)
  have hc0 := fun (w1 : World) (b : Below w.heap.size w w1) => (b.cell (p := ⟨gt, 0, none⟩) (lt_cell hct)).trans hct
  have HL0 := Lib.hid hl0
  have HDs := Lib.hid hD.sz
  have rg0 := Lib.hid fun (w1 : World) (b : Below w.heap.size w w1) => df_range w1 gd D (row_below0 hgd b)
  have HC0 := Lib.hid hc0
  obtain ⟨m, hm⟩ : ∃ m, m = ord.length := ⟨_, rfl⟩
  rw [← hm] at HB HI ⊢
  have hR' := Lib.hid hR
  clear hD hns hle hm hn hu hn2 hL hgL hord hgd hct ho HT hl0 hc0 hR
  have bl0 : Below w.heap.size w w.drew := (Below.refl _ _).drew
  have l0 := HL0.out _ bl0
  have c0 := HC0.out _ bl0
  go_enter Tryz.func179, Tryz.ntmps179
  go_wp2_with fail
  refine wp_region_held_drew (S := fun w' => w'.rangeAt gd 0 D.toList ∧ w'.cell? ⟨gt, 0, none⟩ = some vT) (by kernel_rfl) ⟨rg0.out _ bl0, c0⟩ (fun hHeld => ?_)
  refine wpAnyH_take (i := 0) (v := .agg D) rfl (by kernel_rfl) (by kernel_rfl) (by kernel_rfl) (fun _ _ _ h => h) (df_yields rfl _ _ rfl rfl rfl HDs.out (fun w h => h.1)) (by assumption) ?_
  try simp only [Act.put, List.setIfInBounds_toArray, List.set_cons_zero, List.set_cons_succ]
  refine wpAnyH_take (i := 1) (v := ?_) rfl (by kernel_rfl) (by kernel_rfl) (by kernel_rfl) (fun _ _ _ h => h) (Or.inl ⟨by rfl, ?_⟩) (by assumption) ?_
  rotate_left
  · intro w hSw
    go_simp
    with_reducible rfl
  try simp only [Act.put, List.setIfInBounds_toArray, List.set_cons_zero, List.set_cons_succ]
  refine wpAnyH_take (i := 3) (v := ?_) rfl (by kernel_rfl) (by kernel_rfl) (by kernel_rfl) (fun _ _ _ h => h) (Or.inl ⟨by rfl, ?_⟩) (by assumption) ?_
  rotate_left
  · intro w hSw
    (try dsimp only at hSw)
    go_simp
    with_reducible rfl
  try simp only [Act.put, List.setIfInBounds_toArray, List.set_cons_zero, List.set_cons_succ]
  refine wpAnyH_ready (rs := [2]) (by kernel_rfl) (by simp) ?_
  refine AllReadyH.cons rfl (fun K hK => ?_) AllReadyH.nil
  go_simp
  refine (HB.out _ bl0).mono ?_
  rintro e w1 ⟨D1, v1, rfl, hd1, hl1, b1⟩
  have bl1 := below_go bl0 b1
  have c1 := HC0.out _ bl1
  have rr1 := rg0.out _ bl1
  dsimp only
  refine hK.out _ _ ⟨rr1, c1⟩ (fun hHeld => ?_)
  clear hK K
  try simp only [Act.put, List.setIfInBounds_toArray, List.set_cons_zero, List.set_cons_succ]
  refine wpAnyH_ready (rs := [4]) (by kernel_rfl) (by simp) ?_
  refine AllReadyH.cons rfl (fun K hK => ?_) AllReadyH.nil
  go_simp
  refine (HI.out _ _ _ bl1 hd1 hl1).mono ?_
  intro e w2 hr
  rw [hR'.out] at hr
  obtain ⟨v2, rfl, ho2, bl2⟩ := hr
  have c2 := HC0.out _ bl2
  have rr2 := rg0.out _ bl2
  dsimp only
  refine hK.out _ _ ⟨rr2, c2⟩ (fun hHeld => ?_)
  clear hK K
  try simp only [Act.put, List.setIfInBounds_toArray, List.set_cons_zero, List.set_cons_succ]
  refine wpAnyH_take (i := 5) (oi := ⟨some 4, _, _, _, _, _⟩) (v := ?_) rfl (by kernel_rfl) (by kernel_rfl) (by kernel_rfl) (fun _ _ _ h => h) (Or.inl ⟨by rfl, ?_⟩) (by assumption) ?_
  rotate_left
  · intro w hSw
    go_simp
    with_reducible rfl
  try simp only [Act.put, List.setIfInBounds_toArray, List.set_cons_zero, List.set_cons_succ]
  refine wpAnyH_done (by kernel_rfl) ?_ _
  go_wp2_with fail
  show R (.returned v2) w2
  rw [hR'.out]
  exact ⟨_, rfl, ho2, bl2⟩

end Go.Proofs.YtmfmagfgcdaeeaaGreat.T1
