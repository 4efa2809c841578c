/- Texts of the proof, put together: Vs. No conditions. -/
import Derived.Test.YtdfelpahacmdpaaGbs

/- Sorts in the specification: the walk over signs that bind. -/
namespace Go.Proofs.Ytdfelpahacmdpaa.T1
open Go.RowKit
set_option maxRecDepth 100000
set_option linter.unusedVariables false
set_option linter.unusedSimpArgs false


set_option maxHeartbeats 4000000 in
theorem sw_own (b N : Nat) (l : List (Bool × Nat × Nat)) (X s : ByteArray) (v : Value) (ns : List UInt8) (xs : List Nat) (w : World) (u : ByteArray) (N' : Nat) (l' : List (Bool × Nat × Nat)) (x : UInt8) (hX : X.size ≤ 700) (hz : 1 < X.size) (hx : X[1]'(by omega) = x) (hN : N ≤ 1000) (hl : ns.length ≤ 1000) (HK : ∀ w, Calls Try.prog 63 #[.string X] w fun e w' => e = .returned (.int .u8 35) ∧ w = w') (HP : ∀ w, Calls Try.prog 59 #[.string X] w fun e w' => ∃ b, e = .returned (.slice (some ⟨b, 0, none⟩) 1 1) ∧ w.heap.size ≤ b ∧ w'.heap[b]? = some (.cells #[.string u] 9 (0, 0)) ∧ Below w.heap.size w w') (he : SEnv w b s v ns xs) (hs : SpSta w b N l)
    (HW : ∀ w1 x k, ScAt w1 s v ns xs → Calls Try.prog 75 #[.agg #[.string s, v], .int .u8 ((x : UInt8).toNat : Int), .int .i64 ((k : Nat) : Int)] w1 fun e w' => (∃ s' v', e = .returned (.agg #[.string s', v']) ∧ ScAt w' s' v' (x :: ns) (k :: xs) ∧ ∀ g, v'.ownBlock = some g → w1.heap.size ≤ g) ∧ Below w1.heap.size w1 w') (ih : ∀ s' v' w1, SEnv w1 b s' v' (x :: ns) (N :: xs) → SpSta w1 b (N + 1) l → Calls Try.prog 52 #[.pointer (some ⟨b, 0, none⟩), .string u, .agg #[.string s', v']] w1 (SP b N' l' w1)) : Calls Try.prog 52 #[.pointer (some ⟨b, 0, none⟩), .string X, .agg #[.string s, v]] w (SP b N' l' w) := by
  have hblt := hs.lt
  have bW : Below w.heap.size w (w.alloc (.cells #[.string s, v] 68)) := (Below.refl _ _).alloc (Nat.le_refl _) _
  have hbx := Lib.hid (show Box6 (w.alloc (.cells #[.string s, v] 68)) b w.heap.size s v from ⟨⟨_, new_block0 w _⟩, fun ho => absurd (hs.own_lt ((Own6.same (bW.block b hblt) _).1 ho)) (Nat.lt_irrefl _)⟩)
  have hE := Lib.hid (he.below bW hblt)
  have hS := Lib.hid (hs.below bW)
  have hO := Lib.hid ((BesB.refl w.heap.size b w).below bW hblt (Nat.le_refl _))
  have hWs : w.heap.size < (w.alloc (.cells #[.string s, v] 68)).heap.size := by simp
  obtain ⟨W, hW⟩ : ∃ W, W = w.alloc (.cells #[.string s, v] 68) := ⟨_, rfl⟩
  rw [← hW] at hbx hE hS hO hWs
  have hbW : b < W.heap.size := by omega
  have HP' := Lib.hid HP
  have HK' := Lib.hid HK
  subst hx
  have IH := Lib.hid ih
  have HFR := Lib.hid (fun w1 (h1 : SpSta w1 b N l) => sp_fresh h1 hN)
  have HWI := Lib.hid HW
  clear HP HK he hs bW ih HW
  go_enter Try.func52, Try.ntmps52
  go_wp2_with fail
  rw [← hW]
  clear hW
  refine (HK'.out _).mono ?_
  rintro e w1 ⟨rfl, rfl⟩
  have bD : Below W.heap.size W W.drew := (Below.refl _ _).drew
  have E0 := Lib.hid (hE.out.below bD hbW)
  have X0 := Lib.hid (hbx.out.below bD hbW)
  have S0 := Lib.hid (hS.out.below bD)
  have O0 := Lib.hid (hO.out.below bD hbW (Nat.le_of_lt hWs))
  have k0 := hbx.out.c0
  have k1 := hbx.out.c1
  have hbD : b < W.drew.heap.size := hbW
  clear bD
  go_wp2_with fail
  go_region_with (first
    | (go_at_call 51; (with_reducible refine (HFR.out _ S0.out).mono ?_); rintro e w1 ⟨rfl, s1, d1⟩; have E1 := Lib.hid (E0.out.bes d1); have X1 := Lib.hid (X0.out.bes d1); have S1 := Lib.hid s1; have O1 := Lib.hid (O0.out.bes d1 (Nat.le_of_lt hWs)); have y1 : W.heap.size ≤ w1.heap.size := d1.size; have hb1 : b < w1.heap.size := by omega
       have r0 := X1.out.c0; have r1 := X1.out.c1; clear d1 s1)
    | (go_at_call 75; (with_reducible refine (HWI.out _ _ N E1.out.sc).mono ?_); rintro e w5 ⟨⟨s', v', rfl, m5, g5⟩, d5⟩; obtain ⟨p5, n5, q5, rfl⟩ : ∃ p n c, v' = .slice p n c := (by obtain ⟨p, c, h⟩ := own_slice6 m5.row; exact ⟨p, _, c, h⟩); have E5 := Lib.hid (SEnv.mk m5 (fun g hg ho => absurd (S1.out.own_lt ((Own6.same (d5.block b hb1) g).1 ho)) (Nat.not_lt.2 (g5 g hg)))); have X5 := Lib.hid (X1.out.below d5 hb1); have S5 := Lib.hid (S1.out.below d5); have O5 := Lib.hid (O1.out.below d5 hb1 (by omega)); have G5 := Lib.hid g5; have y5 := d5.size; have hb5 : b < w5.heap.size := by omega
       have c50 := X5.out.c0; have c51 := X5.out.c1; have c52 := X5.out.f 0; have c53 := X5.out.f 1; clear d5 m5 g5)
    | fail)
  all_goals
    obtain ⟨V, hV⟩ : ∃ V, V = (w5.setCell ⟨w.heap.size, 0, none⟩ (.string s')).setCell ⟨w.heap.size, 1, none⟩ (.slice p5 n5 q5) := ⟨_, rfl⟩
    have sz5 : V.heap.size = w5.heap.size := by rw [hV]; simp [World.setCell]
    have XV := Lib.hid (X5.out.set (s' := s') (v' := .slice p5 n5 q5))
    have nv : (Value.slice p5 n5 q5).ownBlock ≠ some w.heap.size := fun e => by have := G5.out _ e; omega
    have EV := Lib.hid ((E5.out.set (o := 0) (x := .string s') nv (fun e => X5.out.no (.inl e.symm))).set (o := 1) (x := .slice p5 n5 q5) nv (fun e => X5.out.no (.inl e.symm)))
    have nb : w.heap.size ≠ b := fun e => X5.out.no (.inl e)
    have S5' := S5.out.set (o := 0) (x := .string s') X5.out.no
    have nO : ¬ Own6 (w5.setCell ⟨w.heap.size, 0, none⟩ (.string s')) b w.heap.size := fun ho => X5.out.no ((Own6.same (Below.heap_setCell _ _ _ _ (by show b ≠ w.heap.size; exact fun e => nb e.symm)) _).1 ho)
    have SV := Lib.hid (S5'.set (o := 1) (x := .slice p5 n5 q5) nO)
    have OV := Lib.hid ((O5.out.set (o := 0) (x := .string s') (Nat.le_refl _) nb).set (o := 1) (x := .slice p5 n5 q5) (Nat.le_refl _) nb)
    rw [← hV] at XV EV SV OV
    rw [← hV]
    have hbV : b < V.heap.size := by omega
    have hsV : w.heap.size < V.heap.size := by omega
    clear hV S5' nO nv
    go_wp2_with fail
    refine (HP'.out _).mono ?_
    rintro e w8 ⟨bp, rfl, hbp, hh, b8⟩
    have X8 := Lib.hid (XV.out.below b8 hbV)
    have E8 := Lib.hid (EV.out.below b8 hbV)
    have S8 := Lib.hid (SV.out.below b8)
    have O8 := Lib.hid (OV.out.below b8 hbV (Nat.le_of_lt hsV))
    have z8 := b8.size
    have hb8 : b < w8.heap.size := by omega
    have c0 := cellOf1 hh
    have k0 := X8.out.c0
    have k1 := X8.out.c1
    have Hh := Lib.hid hh
    have nP : Hid (¬ Own6 w8 b bp) := fun ho => absurd (SV.out.own_lt ((Own6.same (b8.block b hbV) bp).1 ho)) (by omega)
    clear hh
    go_wp2_with fail
    refine wp_loop_rounds 2 ?_
    rw [rounds_succ]
    go_wp2_with fail
    refine (IH.out _ _ _ E8.out S8.out).mono ?_
    rintro e w9 ⟨rfl, s9, o9⟩
    have S9 := Lib.hid s9
    have O9 := Lib.hid (O8.out.bes o9 (by omega))
    clear c0 k0 k1 s9
    go_wp2_with fail
    rw [rounds_succ]
    go_wp2_with fail
    go_end0
    exact ⟨rfl, S9.out, O9.out.toBes⟩

set_option maxHeartbeats 4000000 in
theorem sw_rcv (b N : Nat) (l : List (Bool × Nat × Nat)) (X s : ByteArray) (v : Value) (ns : List UInt8) (xs : List Nat) (w : World) (u : ByteArray) (N' : Nat) (l' : List (Bool × Nat × Nat)) (x : UInt8) (hX : X.size ≤ 700) (hz : 2 < X.size) (hx : X[2]'(by omega) = x) (hN : N ≤ 1000) (hl : ns.length ≤ 1000) (ka : Nat) (hka : ka = fnd ns xs (X[0]'(by omega))) (ha : ka < N) (HK : ∀ w, Calls Try.prog 63 #[.string X] w fun e w' => e = .returned (.int .u8 63) ∧ w = w') (HP : ∀ w, Calls Try.prog 59 #[.string X] w fun e w' => ∃ b, e = .returned (.slice (some ⟨b, 0, none⟩) 1 1) ∧ w.heap.size ≤ b ∧ w'.heap[b]? = some (.cells #[.string u] 9 (0, 0)) ∧ Below w.heap.size w w') (he : SEnv w b s v ns xs) (hs : SpSta w b N l)
    (HW : ∀ w1 x k, ScAt w1 s v ns xs → Calls Try.prog 75 #[.agg #[.string s, v], .int .u8 ((x : UInt8).toNat : Int), .int .i64 ((k : Nat) : Int)] w1 fun e w' => (∃ s' v', e = .returned (.agg #[.string s', v']) ∧ ScAt w' s' v' (x :: ns) (k :: xs) ∧ ∀ g, v'.ownBlock = some g → w1.heap.size ≤ g) ∧ Below w1.heap.size w1 w') (ih : ∀ s' v' w1, SEnv w1 b s' v' (x :: ns) (N :: xs) → SpSta w1 b (N + 1) (l ++ [(true, ka, N)]) → Calls Try.prog 52 #[.pointer (some ⟨b, 0, none⟩), .string u, .agg #[.string s', v']] w1 (SP b N' l' w1)) : Calls Try.prog 52 #[.pointer (some ⟨b, 0, none⟩), .string X, .agg #[.string s, v]] w (SP b N' l' w) := by
  have hblt := hs.lt
  have bW : Below w.heap.size w (w.alloc (.cells #[.string s, v] 68)) := (Below.refl _ _).alloc (Nat.le_refl _) _
  have hbx := Lib.hid (show Box6 (w.alloc (.cells #[.string s, v] 68)) b w.heap.size s v from ⟨⟨_, new_block0 w _⟩, fun ho => absurd (hs.own_lt ((Own6.same (bW.block b hblt) _).1 ho)) (Nat.lt_irrefl _)⟩)
  have hE := Lib.hid (he.below bW hblt)
  have hS := Lib.hid (hs.below bW)
  have hO := Lib.hid ((BesB.refl w.heap.size b w).below bW hblt (Nat.le_refl _))
  have hWs : w.heap.size < (w.alloc (.cells #[.string s, v] 68)).heap.size := by simp
  obtain ⟨W, hW⟩ : ∃ W, W = w.alloc (.cells #[.string s, v] 68) := ⟨_, rfl⟩
  rw [← hW] at hbx hE hS hO hWs
  have hbW : b < W.heap.size := by omega
  have HP' := Lib.hid HP
  have HK' := Lib.hid HK
  subst hx
  have IH := Lib.hid ih
  have HFR := Lib.hid (fun w1 (h1 : SpSta w1 b N l) => sp_fresh h1 hN)
  have HWI := Lib.hid HW
  have HF0 : Hid (∀ w1, SEnv w1 b s v ns xs → Calls Try.prog 74 #[.agg #[.string s, v], .int .u8 (((X[0]'(by omega)).toNat : Nat) : Int)] w1 fun e w' => e = .returned (.int .i64 (ka : Int)) ∧ Below w1.heap.size w1 w') := fun w1 e1 => by rw [hka]; exact find_any e1.sc hl _
  have HC := Lib.hid (fun w1 (h1 : SpSta w1 b (N + 1) l) => sp_carry (i := ka) (j := N) h1 (by omega) (by omega))
  clear HP HK he hs bW ih HW hka
  go_enter Try.func52, Try.ntmps52
  go_wp2_with fail
  rw [← hW]
  clear hW
  refine (HK'.out _).mono ?_
  rintro e w1 ⟨rfl, rfl⟩
  go_wp2_with fail
  refine (HFR.out _ hS.out).mono ?_
  rintro e w1 ⟨rfl, s1, d1⟩
  have E1 := Lib.hid (hE.out.bes d1)
  have X1 := Lib.hid (hbx.out.bes d1)
  have S1 := Lib.hid s1
  have O1 := Lib.hid (hO.out.bes d1 (Nat.le_of_lt hWs))
  have y1 : W.heap.size ≤ w1.heap.size := d1.size
  have hb1 : b < w1.heap.size := by omega
  have k0 := X1.out.c0
  have k1 := X1.out.c1
  have bD : Below w1.heap.size w1 w1.drew := (Below.refl _ _).drew
  have E1D := Lib.hid (E1.out.below bD hb1)
  have X1D := Lib.hid (X1.out.below bD hb1)
  have S1D := Lib.hid (S1.out.below bD)
  have O1D := Lib.hid (O1.out.below bD hb1 (by omega))
  have hb1D : b < w1.drew.heap.size := hb1
  have hs1D : w.heap.size ≤ w1.drew.heap.size := by show w.heap.size ≤ w1.heap.size; omega
  clear d1 s1 bD
  go_wp2_with fail
  go_region_held3 (fun w' => w'.cell? ⟨w.heap.size, 0, none⟩ = some (.string s) ∧ w'.cell? ⟨w.heap.size, 1, none⟩ = some v) (first | exact ⟨k0, k1⟩ | exact ⟨r0, r1⟩ | exact ⟨t0, t1⟩)
    ((first
      | (go_at_call 74; (with_reducible refine (HF0.out _ E1D.out).mono ?_); rintro e w2 ⟨rfl, d2⟩; have E2 := Lib.hid (E1D.out.below d2 hb1D); have X2 := Lib.hid (X1D.out.below d2 hb1D); have S2 := Lib.hid (S1D.out.below d2); have O2 := Lib.hid (O1D.out.below d2 hb1D hs1D); have y2 : W.heap.size ≤ w2.heap.size := Nat.le_trans y1 d2.size; have hb2 : b < w2.heap.size := by omega
         have r0 := X2.out.c0; have r1 := X2.out.c1; clear d2)
      | (go_at_call 73; (with_reducible refine (HC.out _ S2.out).mono ?_); rintro e w3 ⟨rfl, s3, d3⟩; have E3 := Lib.hid (E2.out.bes d3); have X3 := Lib.hid (X2.out.bes d3); have S3 := Lib.hid s3; have O3 := Lib.hid (O2.out.bes d3 (by omega)); have y3 : w.heap.size < w3.heap.size := by (have := d3.size; omega)
         have hb3 : b < w3.heap.size := by (have := d3.size; omega)
         have t0 := X3.out.c0; have t1 := X3.out.c1; clear d3 s3)
      | fail))
  all_goals
    have b3 : Below w3.heap.size w3 w3.drew := (Below.refl _ _).drew
    have E3D := Lib.hid (E3.out.below b3 hb3)
    have X3D := Lib.hid (X3.out.below b3 hb3)
    have S3D := Lib.hid (S3.out.below b3)
    have O3D := Lib.hid (O3.out.below b3 hb3 (by omega))
    have hb3D : b < w3.drew.heap.size := hb3
    have y3D : w.heap.size < w3.drew.heap.size := y3
    clear b3
    go_wp2_with fail
    go_region_with (first
      | (go_at_call 75; (with_reducible refine (HWI.out _ _ N E3D.out.sc).mono ?_); rintro e w5 ⟨⟨s', v', rfl, m5, g5⟩, d5⟩; obtain ⟨p5, n5, q5, rfl⟩ : ∃ p n c, v' = .slice p n c := (by obtain ⟨p, c, h⟩ := own_slice6 m5.row; exact ⟨p, _, c, h⟩); have E5 := Lib.hid (SEnv.mk m5 (fun g hg ho => absurd (S3D.out.own_lt ((Own6.same (d5.block b hb3D) g).1 ho)) (Nat.not_lt.2 (g5 g hg)))); have X5 := Lib.hid (X3D.out.below d5 hb3D); have S5 := Lib.hid (S3D.out.below d5); have O5 := Lib.hid (O3D.out.below d5 hb3D (by omega)); have G5 := Lib.hid g5; have y5 := d5.size; have hb5 : b < w5.heap.size := by omega
         have c50 := X5.out.c0; have c51 := X5.out.c1; have c52 := X5.out.f 0; have c53 := X5.out.f 1; clear d5 m5 g5)
      | fail)
    all_goals
      obtain ⟨V, hV⟩ : ∃ V, V = (w5.setCell ⟨w.heap.size, 0, none⟩ (.string s')).setCell ⟨w.heap.size, 1, none⟩ (.slice p5 n5 q5) := ⟨_, rfl⟩
      have sz5 : V.heap.size = w5.heap.size := by rw [hV]; simp [World.setCell]
      have XV := Lib.hid (X5.out.set (s' := s') (v' := .slice p5 n5 q5))
      have nv : (Value.slice p5 n5 q5).ownBlock ≠ some w.heap.size := fun e => by have := G5.out _ e; omega
      have EV := Lib.hid ((E5.out.set (o := 0) (x := .string s') nv (fun e => X5.out.no (.inl e.symm))).set (o := 1) (x := .slice p5 n5 q5) nv (fun e => X5.out.no (.inl e.symm)))
      have nb : w.heap.size ≠ b := fun e => X5.out.no (.inl e)
      have S5' := S5.out.set (o := 0) (x := .string s') X5.out.no
      have nO : ¬ Own6 (w5.setCell ⟨w.heap.size, 0, none⟩ (.string s')) b w.heap.size := fun ho => X5.out.no ((Own6.same (Below.heap_setCell _ _ _ _ (by show b ≠ w.heap.size; exact fun e => nb e.symm)) _).1 ho)
      have SV := Lib.hid (S5'.set (o := 1) (x := .slice p5 n5 q5) nO)
      have OV := Lib.hid ((O5.out.set (o := 0) (x := .string s') (Nat.le_refl _) nb).set (o := 1) (x := .slice p5 n5 q5) (Nat.le_refl _) nb)
      rw [← hV] at XV EV SV OV
      rw [← hV]
      have hbV : b < V.heap.size := by omega
      have hsV : w.heap.size < V.heap.size := by omega
      clear hV S5' nO nv
      go_wp2_with fail
      refine (HP'.out _).mono ?_
      rintro e w8 ⟨bp, rfl, hbp, hh, b8⟩
      have X8 := Lib.hid (XV.out.below b8 hbV)
      have E8 := Lib.hid (EV.out.below b8 hbV)
      have S8 := Lib.hid (SV.out.below b8)
      have O8 := Lib.hid (OV.out.below b8 hbV (Nat.le_of_lt hsV))
      have z8 := b8.size
      have hb8 : b < w8.heap.size := by omega
      have c0 := cellOf1 hh
      have k0 := X8.out.c0
      have k1 := X8.out.c1
      have Hh := Lib.hid hh
      have nP : Hid (¬ Own6 w8 b bp) := fun ho => absurd (SV.out.own_lt ((Own6.same (b8.block b hbV) bp).1 ho)) (by omega)
      clear hh
      go_wp2_with fail
      refine wp_loop_rounds 2 ?_
      rw [rounds_succ]
      go_wp2_with fail
      refine (IH.out _ _ _ E8.out S8.out).mono ?_
      rintro e w9 ⟨rfl, s9, o9⟩
      have S9 := Lib.hid s9
      have O9 := Lib.hid (O8.out.bes o9 (by omega))
      clear c0 k0 k1 s9
      go_wp2_with fail
      rw [rounds_succ]
      go_wp2_with fail
      go_end0
      exact ⟨rfl, S9.out, O9.out.toBes⟩

end Go.Proofs.Ytdfelpahacmdpaa.T1
