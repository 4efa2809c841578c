/- Texts of the proof, put together: Vn. No conditions. -/
import Derived.Test.YtdfelpahacmdpaaGar
import Derived.Test.YtdfelpahacmdpaaGbh
import Derived.Test.YtdfelpahacmdpaaGbi
import Derived.Laws.Tables

/- Sorts in the program: those of a process. -/
namespace Go.Proofs.Ytdfelpahacmdpaa.T1
open Go.RowKit Go.Maps
set_option maxRecDepth 100000
set_option linter.unusedVariables false
set_option linter.unusedSimpArgs false

theorem wpList_build6 {P : Program} {ops : Array Oper} {rest : List Oper} {o : Oper} {a : Act} {w : World} {Q : Exit → Act → World → Prop} (hgd : o.guard = none) (t : TypeId) (x : Operand) (ho : o.op = .build t #[(0, x)]) (u : Value) (hx : a.eval x = u) (cells : Array Value)
    (hc : P.built t [(0, u)] = some cells) (h : wpList P ops Q rest (a.put o.dst (.agg cells)) w) : wpList P ops Q (o :: rest) a w :=
  wpList_plain hgd fun _ hK => wp_build t #[(0, x)] ho (by simp only [List.map_toArray, List.map_cons, List.map_nil, hx, hc]; rfl) (by simp only [List.map_toArray, List.map_cons, List.map_nil, hx, hc]; exact hK _ _ h)
theorem zc6 : Try.zeroCells54 = #[.int .u32 0] ++ Array.replicate 173 (.int .i64 0) := by kernel_rfl
theorem built6 (v : Value) (hv : v.cells = #[v]) : Try.prog.built 54 [(0, v)] = some (Try.zeroCells54.setIfInBounds 0 v) := by
  have e : ∀ parts, Try.prog.built 54 parts = Instr.fill (#[(0, 1), (1, 1), (2, 86), (88, 86)][·]?) Try.zeroCells54 parts := fun parts => by kernel_rfl
  rw [e]
  simp only [Instr.fill, hv]
  rw [show (#[(0, 1), (1, 1), (2, 86), (88, 86)] : Array (Nat × Nat))[0]? = some (0, 1) from rfl]
  rw [zc6]
  simp
theorem made6 (U : Nat) : ∃ D, Try.prog.built 54 [(0, .int .u32 (U : Int))] = some D ∧ D.size = 174 ∧ D[0]? = some (.int .u32 (U : Int)) ∧ ∀ j, 1 ≤ j → j < 174 → D[j]? = some (.int .i64 0) := by
  refine ⟨_, built6 _ rfl, by rw [zc6]; simp, by rw [zc6]; simp, fun j h1 h2 => ?_⟩
  rw [zc6, Array.getElem?_setIfInBounds_ne (by omega), Array.getElem?_append_right (by simp; omega), Array.getElem?_replicate, if_pos (by simp; omega)]
theorem sta_made {w : World} {b U : Nat} {D : Array Value} {T : TypeId} (h : w.heap[b]? = some (.cells D T (0, 0))) (h1 : D.size = 174) (h2 : D[0]? = some (.int .u32 (U : Int))) (h3 : ∀ j, 1 ≤ j → j < 174 → D[j]? = some (.int .i64 0)) : Sta w b U 0 [] := by
  refine ⟨id, id, fun _ => none, ⟨by omega, D, T, h, h1, h2, h3 1 (by omega) (by omega), fun k hk => ⟨0, h3 _ (by omega) (by omega), fun h => by omega⟩, fun k hk => ⟨0, h3 _ (by omega) (by omega), fun h => by omega⟩⟩, ?_⟩
  rw [S6_nil, C6_nil]
  exact St6.start
theorem thirdBlock (w : World) (o o' o'' : Obj) : (((w.alloc o).alloc o').alloc o'').heap[w.heap.size]? = some o ∧ (((w.alloc o).alloc o').alloc o'').heap[w.heap.size + 1]? = some o' ∧ (((w.alloc o).alloc o').alloc o'').heap[w.heap.size + 2]? = some o'' := by
  refine ⟨?_, ?_, ?_⟩
  · rw [Below.heap_alloc _ _ _ (by simp; omega)]; exact first_block w o o'
  · rw [Below.heap_alloc _ _ _ (by simp)]; exact last_block w o o'
  · have := new_block ((w.alloc o).alloc o') o''
    simpa using this
set_option maxHeartbeats 2000000 in
theorem sortsOf0 (T : TypeId) (V : Value) (U N' : Nat) (l' : List (Bool × Nat × Nat)) (HF : ∀ w, Calls Try.prog 79 #[.iface T V] w fun e w' => e = .returned (.int .u32 (U : Int)) ∧ Below w.heap.size w w')
    (HW : ∀ b bx bw bm w, Env6 w b bx bw bm 26 (fun c => nmL c = true) lt6 → Sta w b U 26 [] → Calls Try.prog 81 #[.iface T V, .map (some bm), .pointer (some ⟨bx, 0, none⟩), .pointer (some ⟨bw, 0, none⟩)] w fun e w' => e = .returned (.tuple #[]) ∧ Sta w' b U N' l' ∧ Only b w w') (w : World) :
    Calls Try.prog 54 #[.iface T V] w fun e w' => (∃ b, e = .returned (.pointer (some ⟨b, 0, none⟩)) ∧ w.heap.size ≤ b ∧ Sta w' b U N' l') ∧ Below w.heap.size w w' := by
  obtain ⟨D, hbt, hD1, hD2, hD3⟩ := made6 U
  have HF' := Lib.hid HF
  have HW' := Lib.hid HW
  have HD := Lib.hid (And.intro hD1 (And.intro hD2 hD3))
  clear HF HW
  have hmm := @run_makeMap Try.prog
  go_enter Try.func54, Try.ntmps54
  go_wp2_with fail
  refine (HF'.out _).mono ?_
  rintro e w1 ⟨rfl, b1⟩
  have hsz1 := b1.size
  go_wp2_with (refine wpList_build6 rfl 54 (.tmp 8) rfl (.int .u32 (U : Int)) rfl D hbt ?_)
  obtain ⟨t1, t2, t3⟩ := thirdBlock w1 (.cells D 54) (.cells #[.pointer (some ⟨w1.heap.size, 0, none⟩)] 41) (.map #[] 0)
  obtain ⟨W, hW⟩ : ∃ W, W = (((w1.alloc (.cells D 54)).alloc (.cells #[.pointer (some ⟨w1.heap.size, 0, none⟩)] 41)).alloc (.map #[] 0)) := ⟨_, rfl⟩
  have bW : Below w.heap.size w W := by
    rw [hW]; exact ((b1.alloc hsz1 _).alloc (by simp; omega) _).alloc (by simp; omega) _
  have mW : MapAt W (w1.heap.size + 2) 0 (fun c => 97 ≤ c.toNat ∧ c.toNat < 97 + 0) lt6 := by
    refine ⟨.map [], ?_, fun c hc => by omega⟩
    have := World.ownsMap_made ((w1.alloc (.cells D 54)).alloc (.cells #[.pointer (some ⟨w1.heap.size, 0, none⟩)] 41)) Try.prog 5 (plainElem (H := Unit) Try.prog 3)
    rw [hW]
    simpa using this
  rw [← hW] at t1 t2 t3
  have SW := sta_made t1 HD.out.1 HD.out.2.1 HD.out.2.2
  rw [← hW]
  have HB := Lib.hid bW
  have HM := Lib.hid mW
  have HSt := Lib.hid SW
  have HX := Lib.hid (show ∃ T, W.heap[w1.heap.size + 1]? = some (.cells #[.pointer (some ⟨w1.heap.size, 0, none⟩)] T (0, 0)) from ⟨_, t2⟩)
  clear hW bW mW t1 t2 t3 SW hbt hD1 hD2 hD3
  obtain ⟨b, hb⟩ : ∃ b, b = w1.heap.size := ⟨_, rfl⟩
  rw [← hb] at HM HSt HX ⊢
  have hwb : w.heap.size ≤ b := by omega
  clear hb
  go_loopg [5] 26 (fun gk s5 wr => (∃ k : Nat, s5 = .int .u8 ((97 + k : Nat) : Int) ∧ k + gk = 26 ∧ Hid (Sta wr b U k []) ∧ Hid (MapAt wr (b + 2) k (fun c => 97 ≤ c.toNat ∧ c.toNat < 97 + k) lt6) ∧ Hid (∃ T, wr.heap[b + 1]? = some (.cells #[.pointer (some ⟨b, 0, none⟩)] T (0, 0)))) ∧ Hid (Below w.heap.size w wr))
  case atStart => exact ⟨⟨0, rfl, by omega, HSt, HM, HX⟩, HB⟩
  case round =>
    obtain ⟨⟨k, rfl, hg, hs, hm, hx⟩, bw⟩ := hrel
    by_cases hk : k < 26
    · have HA := Lib.hid (sta_add hs.out (by omega))
      obtain ⟨Tx, hx2⟩ := hx.out
      have cx := cellOf1 hx2
      have lx := lt_of_block hx2
      clear hx2
      go_wp2_with fail
      refine (HA.out).mono ?_
      rintro e w3 ⟨rfl, s3, o3⟩
      have S3 := Lib.hid s3
      have M3 := hm.out.of (o3.block _ hm.out.lt (by omega))
      have X3 := Lib.hid (show ∃ T, w3.heap[b + 1]? = some (.cells #[.pointer (some ⟨b, 0, none⟩)] T (0, 0)) by obtain ⟨T, h⟩ := hx.out; exact ⟨T, (o3.block _ (lt_of_block h) (by omega)).trans h⟩)
      obtain ⟨w4, hu, m4, u4⟩ := M3.upd (UInt8.ofNat (97 + k)) k (by omega) (by omega)
      have ec : ((UInt8.ofNat (97 + k)).toNat : Nat) = 97 + k := by rw [UInt8.toNat_ofNat']; omega
      rw [ec] at hu
      push_cast at hu
      have S4 := Lib.hid (show Sta w4 b U (k + 1) [] from S3.out.of (u4.block _ S3.out.lt (by omega)))
      have M4 := Lib.hid (show MapAt w4 (b + 2) (k + 1) (fun c => 97 ≤ c.toNat ∧ c.toNat < 97 + (k + 1)) lt6 by
        obtain ⟨D, h1, h2⟩ := m4
        refine ⟨D, h1, fun c hc z => ?_⟩
        have := h2 c (by
          by_cases e : c.toNat = 97 + k
          · exact .inl (u8_ext (by omega))
          · exact .inr (by omega)) z
        rw [this]
        unfold upd6
        by_cases e : c = UInt8.ofNat (97 + k)
        · rw [if_pos e, e]
          unfold lt6
          rw [ec, show 97 + k - 97 = k by omega]
        · rw [if_neg e])
      have X4 := Lib.hid (show ∃ T, w4.heap[b + 1]? = some (.cells #[.pointer (some ⟨b, 0, none⟩)] T (0, 0)) by obtain ⟨T, h⟩ := X3.out; exact ⟨T, (u4.block _ (lt_of_block h) (by omega)).trans h⟩)
      have B4 := Lib.hid (show Below w.heap.size w w4 from Below.only (Below.only bw.out o3 hwb bw.out.size) u4 (by omega) (Nat.le_trans bw.out.size o3.size))
      clear cx s3 M3 m4 ec
      go_wp2_with fail
      clear hu
      go_roundg (gk - 1)
      case measure => omega
      case rel => exact ⟨⟨k + 1, by go_num, by omega, S4, M4, X4⟩, B4⟩
    · obtain rfl : k = 26 := by omega
      obtain ⟨W3, hW3⟩ : ∃ W3, W3 = wr.alloc (.cells #[.func (.func 81) #[] #[.pointer (some ⟨b + 1, 0, none⟩), .pointer (some ⟨wr.heap.size, 0, none⟩)]] 103) := ⟨_, rfl⟩
      have b3 : Below wr.heap.size wr W3 := by rw [hW3]; exact (Below.refl _ _).alloc (Nat.le_refl _) _
      have E3 := Lib.hid (show Env6 W3 b (b + 1) wr.heap.size (b + 1 + 1) 26 (fun c => nmL c = true) lt6 by
        obtain ⟨T, h⟩ := hx.out
        refine ⟨⟨T, (b3.block _ (lt_of_block h)).trans h⟩, ⟨_, by rw [hW3]; exact new_block wr _⟩, ?_, by omega, by have := hs.out.lt; omega, by omega⟩
        obtain ⟨D, h1, h2⟩ := hm.out.of (b3.block _ hm.out.lt)
        exact ⟨D, h1, fun c hc z => h2 c (by have := (nmL_iff c).1 hc; omega) z⟩)
      have S3 := Lib.hid (hs.out.below b3)
      have B3 := Lib.hid (below_trans bw.out b3 bw.out.size)
      rw [hW3] at E3 S3 B3
      have lb := new_block wr (.cells #[.nilFunc] 103)
      have c9 := cellOf1 lb
      have f9 := free_of_one lb
      have hst : (store ⟨wr.heap.size, 0, none⟩ (.func (.func 81) #[] #[.pointer (some ⟨b + 1, 0, none⟩), .pointer (some ⟨wr.heap.size, 0, none⟩)])).run Try.prog (wr.alloc (.cells #[.nilFunc] 103)) = .ok () ((wr.alloc (.cells #[.nilFunc] 103)).setCell ⟨wr.heap.size, 0, none⟩ (.func (.func 81) #[] #[.pointer (some ⟨b + 1, 0, none⟩), .pointer (some ⟨wr.heap.size, 0, none⟩)])) := by
        rw [run_store _ _ _ _ _ rfl, c9]
        simp [f9]
      clear lb hW3 b3
      go_wp2_with fail
      refine (HW'.out b (b + 1) wr.heap.size (b + 1 + 1) _ E3.out S3.out).mono ?_
      rintro e w5 ⟨rfl, s5, o5⟩
      have E5 := E3.out.only o5
      have cx := E5.cx
      have S5 := Lib.hid s5
      have B5 := Lib.hid (Below.only B3.out o5 hwb B3.out.size)
      clear s5 E5 hst c9 f9
      go_wp2_with fail
      go_ret
      exact ⟨⟨b, rfl, hwb, S5.out⟩, B5.out⟩
theorem sortsOf_any (t : Tm) (ho : t.ok nmL = true) (h60 : t.size ≤ 60) (w : World) : Calls Try.prog 54 #[.iface (tyOf t) (pay t)] w fun e w' => (∃ b, e = .returned (.pointer (some ⟨b, 0, none⟩)) ∧ w.heap.size ≤ b ∧ Sta w' b (setN t.free) (ask6 t lt6 26).2 (ask6 t lt6 26).1) ∧ Below w.heap.size w w' := by
  refine sortsOf0 _ _ (setN t.free) _ _ (freeNames_any t ho) (fun b bx bw bm w he hs => ?_) w
  have := walk_ok b bx bw (setN t.free) t bm 26 _ lt6 [] 26 w he hs (fun x hx => ?_) (by omega) (by omega)
  · rw [List.nil_append] at this; exact this
  · have h := lets_free t ho x hx
    exact ⟨(nmL_iff x).2 h, by unfold lt6; omega⟩
set_option maxHeartbeats 1000000 in
theorem readSorts_none (s : ByteArray) (hg : good s.data.toList = none) (hm : s.size ≤ 9223372036854775807) (w : World) : Calls Try.prog 30 #[.string s] w fun e w' => e = .returned (.tuple #[.pointer none, .bool false]) ∧ Below w.heap.size w w' := by
  have H := Lib.hid (parse_none hg w hm)
  clear hg
  go_enter Try.func30, Try.ntmps30
  go_wp2_with fail
  refine (H.out).mono ?_
  rintro e w1 ⟨rfl, bl⟩
  go_wp2_with fail
  go_ret2
  exact ⟨rfl, bl⟩
set_option maxHeartbeats 1000000 in
theorem readSorts_some (s : ByteArray) (t : Tm) (hg : good s.data.toList = some t) (hm : s.size ≤ 9223372036854775807) (w : World) : Calls Try.prog 30 #[.string s] w fun e w' => (∃ b, e = .returned (.tuple #[.pointer (some ⟨b, 0, none⟩), .bool true]) ∧ w.heap.size ≤ b ∧ Sta w' b (setN t.free) (ask6 t lt6 26).2 (ask6 t lt6 26).1) ∧ Below w.heap.size w w' := by
  have H := Lib.hid (parse_some hg w hm)
  obtain ⟨es, hL, hE, h300, h60⟩ := good_S hg
  have HS := sortsOf_any t hL h60
  obtain ⟨T, hT⟩ : ∃ T, T = tyOf t := ⟨_, rfl⟩
  obtain ⟨V, hV⟩ : ∃ V, V = pay t := ⟨_, rfl⟩
  obtain ⟨U, hU⟩ : ∃ U, U = setN t.free := ⟨_, rfl⟩
  obtain ⟨A, hA⟩ : ∃ A, A = ask6 t lt6 26 := ⟨_, rfl⟩
  rw [← hT, ← hV, ← hU, ← hA] at HS
  rw [← hT, ← hV] at H
  rw [← hU, ← hA]
  have H2 := Lib.hid HS
  clear hg es hL hE h300 h60 HS hT hV hU hA
  go_enter Try.func30, Try.ntmps30
  go_wp2_with fail
  refine (H.out).mono ?_
  rintro e w1 ⟨rfl, bl⟩
  go_wp2_with fail
  refine (H2.out _).mono ?_
  rintro e w2 ⟨⟨b, rfl, hb, hs⟩, b2⟩
  have S2 := Lib.hid hs
  clear hs
  go_wp2_with fail
  go_ret2
  exact ⟨⟨b, rfl, Nat.le_trans bl.size hb, S2.out⟩, below_trans bl b2 bl.size⟩

end Go.Proofs.Ytdfelpahacmdpaa.T1
