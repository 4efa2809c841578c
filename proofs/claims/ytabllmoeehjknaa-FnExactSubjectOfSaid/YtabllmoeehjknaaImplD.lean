/- The reader: the first sign with one part, whichever. -/
import Derived.Test.YtabllmoeehjknaaImplC
namespace Go.Proofs.Ytabllmoeehjknaa.T1
open Go.RowKit
set_option maxRecDepth 100000

theorem Eh_rep {s : ByteArray} {a : Nat} (h : tk s a 42 = true) : E nmL (s.data.toList.drop a) = (E nmL (s.data.toList.drop (a + 1))).map fun x => (Hd.rep.put x.1, x.2) := by
  rw [(tk_drop 42 rfl h).1, E_rep nmL_nm]; rfl
theorem Eh_tau {s : ByteArray} {a : Nat} (h : tk s a 126 = true) (h1 : tk s (a + 1) 46 = true) : E nmL (s.data.toList.drop a) = (E nmL (s.data.toList.drop (a + 2))).map fun x => (Hd.tau.put x.1, x.2) := by
  rw [(tk_drop 126 rfl h).1, (tk_drop 46 rfl h1).1, E_tau nmL_nm]; rfl
theorem Eh_tau_no {s : ByteArray} {a : Nat} (h : tk s a 126 = true) (h1 : tk s (a + 1) 46 = false) : E nmL (s.data.toList.drop a) = none := by
  rw [(tk_drop 126 rfl h).1]; exact E_tau_no nmL_nm (tk_not 46 rfl h1)
theorem Eh_own {s : ByteArray} {a : Nat} (h : tk s a 35 = true) (h1 : nmT s (a + 1) = true) (h2 : tk s (a + 2) 46 = true) : E nmL (s.data.toList.drop a) = (E nmL (s.data.toList.drop (a + 3))).map fun x => ((Hd.own (nmV s (a + 1))).put x.1, x.2) := by
  rw [(tk_drop 35 rfl h).1, (nm_drop h1).1, (tk_drop 46 rfl h2).1, E_own nmL_nm (nm_drop h1).2.2]; rfl
theorem Eh_own_no {s : ByteArray} {a : Nat} (h : tk s a 35 = true) (hno : nmT s (a + 1) = true → tk s (a + 2) 46 = true → False) : E nmL (s.data.toList.drop a) = none := by
  rw [(tk_drop 35 rfl h).1]
  refine E_own_no nmL_nm fun x l' e => ?_
  obtain ⟨b1, e1, e⟩ := drop_cons_lt e
  obtain ⟨b2, e2, e⟩ := drop_cons_lt e
  cases hx : nmL x with
  | false => rfl
  | true => exact (hno (by rw [nmT_lt b1, e1]; exact hx) (by rw [tk_lt b2, e2]; rfl)).elim
theorem Eh_mat {s : ByteArray} {a : Nat} (h : tk s a 91 = true) (h1 : nmT s (a + 1) = true) (h2 : tk s (a + 2) 61 = true) (h3 : nmT s (a + 3) = true) (h4 : tk s (a + 4) 93 = true) :
    E nmL (s.data.toList.drop a) = (E nmL (s.data.toList.drop (a + 5))).map fun x => ((Hd.mat (nmV s (a + 1)) (nmV s (a + 3))).put x.1, x.2) := by
  rw [(tk_drop 91 rfl h).1, (nm_drop h1).1, (tk_drop 61 rfl h2).1, (nm_drop h3).1, (tk_drop 93 rfl h4).1, E_mat nmL_nm (nm_drop h1).2.2 (nm_drop h3).2.2]; rfl
theorem Eh_mat_no {s : ByteArray} {a : Nat} (h : tk s a 91 = true) (hno : nmT s (a + 1) = true → tk s (a + 2) 61 = true → nmT s (a + 3) = true → tk s (a + 4) 93 = true → False) : E nmL (s.data.toList.drop a) = none := by
  rw [(tk_drop 91 rfl h).1]
  refine E_mat_no nmL_nm fun x y l' e hx => ?_
  obtain ⟨b1, e1, e⟩ := drop_cons_lt e
  obtain ⟨b2, e2, e⟩ := drop_cons_lt e
  obtain ⟨b3, e3, e⟩ := drop_cons_lt e
  obtain ⟨b4, e4, e⟩ := drop_cons_lt e
  cases hy : nmL y with
  | false => rfl
  | true => exact (hno (by rw [nmT_lt b1, e1]; exact hx) (by rw [tk_lt b2, e2]; rfl) (by rw [nmT_lt b3, e3]; exact hy) (by rw [tk_lt b4, e4]; rfl)).elim

end Go.Proofs.Ytabllmoeehjknaa.T1
