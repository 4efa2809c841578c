/- Texts of the proof, put together: Ls. No conditions. -/
import Derived.Test.YtdfelpahacmdpaaGaw
import Derived.Test.YtdfelpahacmdpaaGbk

/- A set of letters as a text. -/
namespace Go.Proofs.Ytdfelpahacmdpaa.T1
open Go.RowKit
set_option maxRecDepth 100000
theorem conv_nil (w : World) : (convert 49 9 (.slice none 0 0)).run Try.prog w = .ok (.string ⟨#[]⟩) w := by kernel_rfl
theorem conv_rowE {w : World} {base n : Nat} {v : Value} (l : List UInt8) (hn : n = l.length) (h : w.ownsRow base 5 1 v n (l.map ub)) :
    (convert 49 9 v).run Try.prog w = .ok (.string (B l)) w := by
  cases l with
  | nil =>
    subst hn
    rcases h.2 with ⟨rfl, _⟩ | ⟨g, cap, cur, rfl, _⟩
    · exact conv_nil w
    · exact run_convert_bytes_back w 49 9 5 ⟨g, 0, none⟩ cap [] Try.underlying49 Try.underlying5 Try.underlying9 fun j hj => by simp at hj
  | cons c l => exact conv_row (c :: l) hn (by simp) h
theorem lets_setN (l : List UInt8) (hs : Srt l) (hl : Lets l) : lets (setN l) 26 = l := by
  refine srt_ext ?_ hs fun x => ?_
  · unfold lets Srt
    rw [List.pairwise_map]
    refine List.Pairwise.imp_of_mem ?_ (List.Pairwise.filter _ List.pairwise_lt_range)
    intro a b ha hb hab
    have ha' := (List.mem_filter.1 ha).1
    have hb' := (List.mem_filter.1 hb).1
    rw [List.mem_range] at ha' hb'
    rw [u8_lt, UInt8.toNat_ofNat', UInt8.toNat_ofNat']; omega
  · unfold lets
    rw [List.mem_map]
    constructor
    · rintro ⟨i, hi, rfl⟩
      obtain ⟨h1, h2⟩ := List.mem_filter.1 hi
      rw [List.mem_range] at h1
      obtain ⟨d, hd, e⟩ := (setN_bit l hl i).1 h2
      rw [show UInt8.ofNat (97 + i) = d from u8_ext (by rw [UInt8.toNat_ofNat']; omega)]
      exact hd
    · intro hx
      have := hl x hx
      refine ⟨x.toNat - 97, List.mem_filter.2 ⟨List.mem_range.2 (by omega), (setN_bit l hl _).2 ⟨x, hx, by omega⟩⟩, u8_ext ?_⟩
      rw [UInt8.toNat_ofNat']; omega

end Go.Proofs.Ytdfelpahacmdpaa.T1
