/- Texts of the proof, put together: Sh, Qf. No conditions. -/
import Derived.Shelf.SlGeneric
import Derived.Ground.SlgnProg
import Derived.Shelf.Strings.Builder1
import Derived.Shelf.Strings.Builder2
import Derived.Shelf.Strings.BuilderF
import Derived.Shelf.Strings.BuilderK
import Derived.Shelf.Strings.Builder2Cap
import Derived.Shelf.Strings.Prefix
import Derived.Shelf.Bits.Mul64
import Derived.Shelf.Strings.Repeat
import Derived.Test.YtdfelpahacmdpaaProg
import Derived.Test.YtdfelpahacmdpaaGca

/-
  DERIVED: THE SHELF's CONTRACTS AT THIS DUMP, IN PLAIN WORDS (tools/lay-plain.mjs out of 'TryShelf.lean', which tools/lay-shelf.mjs wrote): THE SAME DECLARATIONS UNDER THE SAME NAMES: 'import', 'namespace', 'open', 'def', 'theorem' AND NOTHING ELSE: no command of the shelf's: FOR A HAND-IN. Each laying: the table of numbers ('.._ren') and one theorem, a field a fact of the dump's own or the kernel's comparison; each contract: ONE APPLICATION.
-/
namespace Go.Proofs
open Go.Shelf
def Try.lays170_ren : Go.Shelf.Ren := ⟨fun | 170 => 70 | n => n, fun | 70 => 86 | 3 => 3 | 0 => 0 | 72 => 88 | 37 => 49 | 5 => 5 | n => n, fun | n => n⟩
theorem Try.lays170 : Go.Proofs.Lays.n170 Try.prog Try.lays170_ren := {
  mixed := by kernel_rfl
  f170 := Try.func70.trans (congrArg some (by kernel_rfl))
  t0 := Try.underlying0
  a0 := Try.isAgg0
  z0 := Try.sizeOf0
  v0 := Try.zeroValue0
  t3 := Try.underlying3
  a3 := Try.isAgg3
  z3 := Try.sizeOf3
  v3 := Try.zeroValue3
  t37 := Try.underlying49
  a37 := Try.isAgg49
  z37 := Try.sizeOf49
  v37 := Try.zeroValue49
  t70 := Try.underlying86
  a70 := Try.isAgg86
  z70 := Try.sizeOf86
  v70 := Try.zeroValue86
  t72 := Try.underlying88
  a72 := Try.isAgg88
  z72 := Try.sizeOf88
  v72 := Try.zeroValue88 }
open Go.RowKit in
/-- (*strings.Builder).Len: "Len returns the number of accumulated bytes; b.Len() == len(b.String()).": the world is as it was. (LAID: no walk: one application.) -/
theorem Try.Builder_Len (B b : Nat) (bs : List Value) (w : World) (h : Lib.IsBuilder 88 5 B b bs w) :
    Calls Try.prog 70 #[.pointer (some ⟨b, 0, none⟩)] w fun e w' => e = .returned (.int .i64 bs.length) ∧ w' = w := Any.Builder_Len Try.lays170 B b bs w h
def Try.lays169_ren : Go.Shelf.Ren := ⟨fun | 169 => 71 | n => n, fun | 70 => 86 | 9 => 9 | 0 => 0 | 72 => 88 | 37 => 49 | 127 => 123 | 3 => 3 | 5 => 5 | n => n, fun | n => n⟩
theorem Try.lays169 : Go.Proofs.Lays.n169 Try.prog Try.lays169_ren := {
  mixed := by kernel_rfl
  f169 := Try.func71.trans (congrArg some (by kernel_rfl))
  t0 := Try.underlying0
  a0 := Try.isAgg0
  z0 := Try.sizeOf0
  v0 := Try.zeroValue0
  t3 := Try.underlying3
  a3 := Try.isAgg3
  z3 := Try.sizeOf3
  v3 := Try.zeroValue3
  t9 := Try.underlying9
  a9 := Try.isAgg9
  z9 := Try.sizeOf9
  v9 := Try.zeroValue9
  t37 := Try.underlying49
  a37 := Try.isAgg49
  z37 := Try.sizeOf49
  v37 := Try.zeroValue49
  t70 := Try.underlying86
  a70 := Try.isAgg86
  z70 := Try.sizeOf86
  v70 := Try.zeroValue86
  t72 := Try.underlying88
  a72 := Try.isAgg88
  z72 := Try.sizeOf88
  v72 := Try.zeroValue88
  t127 := Try.underlying123
  a127 := Try.isAgg123
  z127 := Try.sizeOf123
  v127 := Try.zeroValue123 }
theorem Try.Builder_Extra_169 : Builder.Extra Try.prog Try.lays169_ren := {
  sizeBuilder := by kernel_rfl
  liesBuilder := by kernel_rfl
  t5 := Try.underlying5
  a5 := Try.isAgg5
  z5 := Try.sizeOf5
  v5 := Try.zeroValue5
  infoByte := by kernel_rfl
  cellsByte := by kernel_rfl
  sizeByte := by kernel_rfl
  neB5 := by decide }
open Go.RowKit in
/-- (*strings.Builder).String: "String returns the accumulated string.": OF A BUILDER THAT HOLDS AT LEAST ONE BYTE. ✋ THE MODEL FREEZES THOSE BYTES IN THE BUFFER (unsafe.String): a later write INTO them ends the model's run without an answer; a later append BEHIND them goes on. The statement's order of evaluation is drawn: one draw. (LAID: no walk: one application.) -/
theorem Try.Builder_String (B b : Nat) (l : List UInt8) (w : World) (h : Lib.IsBuilder 88 5 B b (Lib.byteCells l) w) (h0 : l ≠ []) :
    Calls Try.prog 71 #[.pointer (some ⟨b, 0, none⟩)] w fun e w' => e = .returned (.string ⟨l.toArray⟩) ∧ Below B w w' := Any.Builder_String Try.lays169 Try.Builder_Extra_169 B b l w h h0
open Go.RowKit in
/-- (*strings.Builder).String OF A BUILDER THAT HOLDS NO BYTE: the empty string. (Its buffer is nil, or a row of which it has taken nothing yet; where that row has NO capacity the model lays one new block for unsafe.SliceData's 'some address'.) One draw. (LAID: no walk: one application.) -/
theorem Try.Builder_String_empty (B b : Nat) (w : World) (h : Lib.IsBuilder 88 5 B b [] w) (hBw : B ≤ w.heap.size) :
    Calls Try.prog 71 #[.pointer (some ⟨b, 0, none⟩)] w fun e w' => e = .returned (.string ⟨#[]⟩) ∧ Below B w w' := Any.Builder_String_empty Try.lays169 Try.Builder_Extra_169 B b w h hBw
open Go.RowKit in
/-- (*strings.Builder).String: "String returns the accumulated string.": WHATEVER THE BUILDER HOLDS. (LAID: no walk: one application.) -/
theorem Try.Builder_String_any (B b : Nat) (l : List UInt8) (w : World) (h : Lib.IsBuilder 88 5 B b (Lib.byteCells l) w) (hBw : B ≤ w.heap.size) :
    Calls Try.prog 71 #[.pointer (some ⟨b, 0, none⟩)] w fun e w' => e = .returned (.string ⟨l.toArray⟩) ∧ Below B w w' := Any.Builder_String_any Try.lays169 Try.Builder_Extra_169 B b l w h hBw
def Try.lays241_ren : Go.Shelf.Ren := ⟨fun | 241 => 93 | 277 => 104 | n => n, fun | 70 => 86 | 3 => 3 | 0 => 0 | 72 => 88 | 37 => 49 | 5 => 5 | n => n, fun | n => n⟩
theorem Try.lays241 : Go.Proofs.Lays.n241 Try.prog Try.lays241_ren := {
  mixed := by kernel_rfl
  f241 := Try.func93.trans (congrArg some (by kernel_rfl))
  f277 := Try.func104.trans (congrArg some (by kernel_rfl))
  t0 := Try.underlying0
  a0 := Try.isAgg0
  z0 := Try.sizeOf0
  v0 := Try.zeroValue0
  t3 := Try.underlying3
  a3 := Try.isAgg3
  z3 := Try.sizeOf3
  v3 := Try.zeroValue3
  t37 := Try.underlying49
  a37 := Try.isAgg49
  z37 := Try.sizeOf49
  v37 := Try.zeroValue49
  t70 := Try.underlying86
  a70 := Try.isAgg86
  z70 := Try.sizeOf86
  v70 := Try.zeroValue86
  t72 := Try.underlying88
  a72 := Try.isAgg88
  z72 := Try.sizeOf88
  v72 := Try.zeroValue88 }
theorem Try.Builder_Extra_241 : Builder.Extra Try.prog Try.lays241_ren := {
  sizeBuilder := by kernel_rfl
  liesBuilder := by kernel_rfl
  t5 := Try.underlying5
  a5 := Try.isAgg5
  z5 := Try.sizeOf5
  v5 := Try.zeroValue5
  infoByte := by kernel_rfl
  cellsByte := by kernel_rfl
  sizeByte := by kernel_rfl
  neB5 := by decide }
open Go.RowKit in
/-- (*strings.Builder).grow (no doc but "grow copies the buffer to a new, larger buffer so that there are at least n bytes of capacity beyond len(b.buf)."): AT A BUILDER WITHOUT A BUFFER: a new row of whatever bytes for its buffer, none of them its own yet. Three draws. (LAID: no walk: one application.) -/
theorem Try.Builder_grow_fresh (B b n : Nat) (w : World) (hB : B ≤ b) (hbk : w.heap[b]? = some (.cells #[.pointer (some ⟨b, 0, none⟩), .slice none 0 0] 88 (0, 0))) (hBw : B ≤ w.heap.size) (hn : n ≤ 281474976710656) :
    Calls Try.prog 93 #[.pointer (some ⟨b, 0, none⟩), .int .i64 n] w fun e w' => e = .returned (.tuple #[]) ∧ (Lib.BuilderAt 88 5 B b (.pointer (some ⟨b, 0, none⟩)) [] w' ∧ Below B w w') := Any.Builder_grow_fresh Try.lays241 Try.Builder_Extra_241 B b n w hB hbk hBw hn
def Try.lays165_ren : Go.Shelf.Ren := ⟨fun | 165 => 68 | 240 => 92 | 241 => 93 | 276 => 103 | 277 => 104 | n => n, fun | 70 => 86 | 3 => 3 | 0 => 0 | 4 => 4 | 9 => 9 | 20 => 20 | 72 => 88 | 37 => 49 | 164 => 133 | 5 => 5 | n => n, fun | n => n⟩
theorem Try.lays165 : Go.Proofs.Lays.n165 Try.prog Try.lays165_ren := {
  mixed := by kernel_rfl
  f165 := Try.func68.trans (congrArg some (by kernel_rfl))
  f240 := Try.func92.trans (congrArg some (by kernel_rfl))
  f241 := Try.func93.trans (congrArg some (by kernel_rfl))
  f276 := Try.func103.trans (congrArg some (by kernel_rfl))
  f277 := Try.func104.trans (congrArg some (by kernel_rfl))
  t0 := Try.underlying0
  a0 := Try.isAgg0
  z0 := Try.sizeOf0
  v0 := Try.zeroValue0
  t3 := Try.underlying3
  a3 := Try.isAgg3
  z3 := Try.sizeOf3
  v3 := Try.zeroValue3
  t4 := Try.underlying4
  a4 := Try.isAgg4
  z4 := Try.sizeOf4
  v4 := Try.zeroValue4
  t9 := Try.underlying9
  a9 := Try.isAgg9
  z9 := Try.sizeOf9
  v9 := Try.zeroValue9
  t20 := Try.underlying20
  a20 := Try.isAgg20
  z20 := Try.sizeOf20
  v20 := Try.zeroValue20
  t37 := Try.underlying49
  a37 := Try.isAgg49
  z37 := Try.sizeOf49
  v37 := Try.zeroValue49
  t70 := Try.underlying86
  a70 := Try.isAgg86
  z70 := Try.sizeOf86
  v70 := Try.zeroValue86
  t72 := Try.underlying88
  a72 := Try.isAgg88
  z72 := Try.sizeOf88
  v72 := Try.zeroValue88
  t164 := Try.underlying133
  a164 := Try.isAgg133
  z164 := Try.sizeOf133
  v164 := Try.zeroValue133 }
theorem Try.Builder_Extra_165 : Builder.Extra Try.prog Try.lays165_ren := {
  sizeBuilder := by kernel_rfl
  liesBuilder := by kernel_rfl
  t5 := Try.underlying5
  a5 := Try.isAgg5
  z5 := Try.sizeOf5
  v5 := Try.zeroValue5
  infoByte := by kernel_rfl
  cellsByte := by kernel_rfl
  sizeByte := by kernel_rfl
  neB5 := by decide }
open Go.RowKit in
/-- (*strings.Builder).Grow AT A BUILDER THAT HAS NOT BEEN WRITTEN ('var b strings.Builder; b.Grow(n)'): "Grow grows b's capacity, if necessary, to guarantee space for another n bytes.": it holds no byte behind it as before it. (LAID: no walk: one application.) -/
theorem Try.Builder_Grow_fresh (B b n : Nat) (w : World) (hB : B ≤ b) (hbk : w.heap[b]? = some (.cells #[.pointer none, .slice none 0 0] 88 (0, 0))) (hBw : B ≤ w.heap.size) (hn : n ≤ 281474976710656) :
    Calls Try.prog 68 #[.pointer (some ⟨b, 0, none⟩), .int .i64 n] w fun e w' => e = .returned (.tuple #[]) ∧ (Lib.BuilderAt 88 5 B b (.pointer (some ⟨b, 0, none⟩)) [] w' ∧ Below B w w') := Any.Builder_Grow_fresh Try.lays165 Try.Builder_Extra_165 B b n w hB hbk hBw hn
open Go.RowKit in
/-- (*strings.Builder).Len: "Len returns the number of accumulated bytes; b.Len() == len(b.String()).": the world is as it was. (THE FORM '_f': 'Lib.IsBuilderF'.) (LAID: no walk: one application.) -/
theorem Try.Builder_Len_f (B b : Nat) (bs : List Value) (w : World) (h : Lib.IsBuilderF 88 5 B b bs w) :
    Calls Try.prog 70 #[.pointer (some ⟨b, 0, none⟩)] w fun e w' => e = .returned (.int .i64 bs.length) ∧ w' = w := Any.Builder_Len_f Try.lays170 B b bs w h
open Go.RowKit in
/-- (*strings.Builder).String: "String returns the accumulated string.": OF A BUILDER THAT HOLDS AT LEAST ONE BYTE. ✋ THE MODEL FREEZES THOSE BYTES IN THE BUFFER (unsafe.String): a later write INTO them ends the model's run without an answer; a later append BEHIND them goes on. The statement's order of evaluation is drawn: one draw. THE FORM '_f': IT SAYS BESIDES THAT THE BUILDER IS A BUILDER STILL ('Lib.IsBuilderF', the same bytes): SO IT CAN BE WRITTEN ON: 'b.WriteString(b.String()[:k])'. (LAID: no walk: one application.) -/
theorem Try.Builder_String_f (B b : Nat) (l : List UInt8) (w : World) (h : Lib.IsBuilderF 88 5 B b (Lib.byteCells l) w) (h0 : l ≠ []) :
    Calls Try.prog 71 #[.pointer (some ⟨b, 0, none⟩)] w fun e w' => e = .returned (.string ⟨l.toArray⟩) ∧ (Lib.IsBuilderF 88 5 B b (Lib.byteCells l) w' ∧ Below B w w') := Any.Builder_String_f Try.lays169 Try.Builder_Extra_169 B b l w h h0
open Go.RowKit in
/-- (*strings.Builder).String OF A BUILDER THAT HOLDS NO BYTE: the empty string; THE FORM '_f': a builder still. (LAID: no walk: one application.) -/
theorem Try.Builder_String_empty_f (B b : Nat) (w : World) (h : Lib.IsBuilderF 88 5 B b [] w) (hBw : B ≤ w.heap.size) :
    Calls Try.prog 71 #[.pointer (some ⟨b, 0, none⟩)] w fun e w' => e = .returned (.string ⟨#[]⟩) ∧ (Lib.IsBuilderF 88 5 B b [] w' ∧ Below B w w') := Any.Builder_String_empty_f Try.lays169 Try.Builder_Extra_169 B b w h hBw
open Go.RowKit in
/-- (*strings.Builder).String: "String returns the accumulated string.": WHATEVER THE BUILDER HOLDS; THE FORM '_f': OF A BUILDER THAT MAY HAVE BEEN READ BEFORE; AND IT IS A BUILDER STILL, holding the same bytes: it can be written on. (LAID: no walk: one application.) -/
theorem Try.Builder_String_any_f (B b : Nat) (l : List UInt8) (w : World) (h : Lib.IsBuilderF 88 5 B b (Lib.byteCells l) w) (hBw : B ≤ w.heap.size) :
    Calls Try.prog 71 #[.pointer (some ⟨b, 0, none⟩)] w fun e w' => e = .returned (.string ⟨l.toArray⟩) ∧ (Lib.IsBuilderF 88 5 B b (Lib.byteCells l) w' ∧ Below B w w') := Any.Builder_String_any_f Try.lays169 Try.Builder_Extra_169 B b l w h hBw
open Go.RowKit in
/-- (*strings.Builder).String: "String returns the accumulated string.": OF A BUILDER THAT HOLDS AT LEAST ONE BYTE. ✋ THE MODEL FREEZES THOSE BYTES IN THE BUFFER (unsafe.String): a later write INTO them ends the model's run without an answer; a later append BEHIND them goes on. The statement's order of evaluation is drawn: one draw. THE FORM '_k': OVER 'Lib.IsBuilderF' (a builder that 'String()' may have read), AND WITH THE FRAME THAT REACHES ABOVE THE BUILDER: 'Lib.OthersKept': every block that is not b and is no row of uint8's stands as it stood: the iterator of a range among them. (LAID: no walk: one application.) -/
theorem Try.Builder_String_k (B b : Nat) (l : List UInt8) (w : World) (h : Lib.IsBuilderF 88 5 B b (Lib.byteCells l) w) (h0 : l ≠ []) :
    Calls Try.prog 71 #[.pointer (some ⟨b, 0, none⟩)] w fun e w' => e = .returned (.string ⟨l.toArray⟩) ∧ (Lib.IsBuilderF 88 5 B b (Lib.byteCells l) w' ∧ Below B w w' ∧ Lib.OthersKept 5 (some b) w w') := Any.Builder_String_k Try.lays169 Try.Builder_Extra_169 B b l w h h0
open Go.RowKit in
/-- (*strings.Builder).String OF A BUILDER THAT HOLDS NO BYTE: the empty string; THE FORM '_k': OVER 'Lib.IsBuilderF' (a builder that 'String()' may have read), AND WITH THE FRAME THAT REACHES ABOVE THE BUILDER: 'Lib.OthersKept': every block that is not b and is no row of uint8's stands as it stood: the iterator of a range among them. (LAID: no walk: one application.) -/
theorem Try.Builder_String_empty_k (B b : Nat) (w : World) (h : Lib.IsBuilderF 88 5 B b [] w) (hBw : B ≤ w.heap.size) :
    Calls Try.prog 71 #[.pointer (some ⟨b, 0, none⟩)] w fun e w' => e = .returned (.string ⟨#[]⟩) ∧ (Lib.IsBuilderF 88 5 B b [] w' ∧ Below B w w' ∧ Lib.OthersKept 5 (some b) w w') := Any.Builder_String_empty_k Try.lays169 Try.Builder_Extra_169 B b w h hBw
open Go.RowKit in
/-- (*strings.Builder).String: "String returns the accumulated string.": WHATEVER THE BUILDER HOLDS; THE FORM '_k': OVER 'Lib.IsBuilderF' (a builder that 'String()' may have read), AND WITH THE FRAME THAT REACHES ABOVE THE BUILDER: 'Lib.OthersKept': every block that is not b and is no row of uint8's stands as it stood: the iterator of a range among them. (LAID: no walk: one application.) -/
theorem Try.Builder_String_any_k (B b : Nat) (l : List UInt8) (w : World) (h : Lib.IsBuilderF 88 5 B b (Lib.byteCells l) w) (hBw : B ≤ w.heap.size) :
    Calls Try.prog 71 #[.pointer (some ⟨b, 0, none⟩)] w fun e w' => e = .returned (.string ⟨l.toArray⟩) ∧ (Lib.IsBuilderF 88 5 B b (Lib.byteCells l) w' ∧ Below B w w' ∧ Lib.OthersKept 5 (some b) w w') := Any.Builder_String_any_k Try.lays169 Try.Builder_Extra_169 B b l w h hBw
open Go.RowKit in
/-- (*strings.Builder).grow (no doc but "grow copies the buffer to a new, larger buffer so that there are at least n bytes of capacity beyond len(b.buf)."): AT A BUILDER WITHOUT A BUFFER: a new row of whatever bytes for its buffer, none of them its own yet. Three draws. (LAID: no walk: one application.) -/
theorem Try.Builder_grow_fresh_cap (B b n : Nat) (w : World) (hB : B ≤ b) (hbk : w.heap[b]? = some (.cells #[.pointer (some ⟨b, 0, none⟩), .slice none 0 0] 88 (0, 0))) (hBw : B ≤ w.heap.size) (hn : n ≤ 281474976710656) :
    Calls Try.prog 93 #[.pointer (some ⟨b, 0, none⟩), .int .i64 n] w fun e w' => e = .returned (.tuple #[]) ∧ (Lib.BuilderAt 88 5 B b (.pointer (some ⟨b, 0, none⟩)) [] w' ∧ Below B w w') ∧ ∃ p cap, w'.cell? ⟨b, 1, none⟩ = some (.slice p 0 cap) ∧ n ≤ cap := Any.Builder_grow_fresh_cap Try.lays241 Try.Builder_Extra_241 B b n w hB hbk hBw hn
open Go.RowKit in
/-- (*strings.Builder).Grow AT A BUILDER THAT HAS NOT BEEN WRITTEN ('var b strings.Builder; b.Grow(n)'): "Grow grows b's capacity, if necessary, to guarantee space for another n bytes.": it holds no byte behind it as before it. (LAID: no walk: one application.) -/
theorem Try.Builder_Grow_fresh_cap (B b n : Nat) (w : World) (hB : B ≤ b) (hbk : w.heap[b]? = some (.cells #[.pointer none, .slice none 0 0] 88 (0, 0))) (hBw : B ≤ w.heap.size) (hn : n ≤ 281474976710656) :
    Calls Try.prog 68 #[.pointer (some ⟨b, 0, none⟩), .int .i64 n] w fun e w' => e = .returned (.tuple #[]) ∧ (Lib.BuilderAt 88 5 B b (.pointer (some ⟨b, 0, none⟩)) [] w' ∧ Below B w w') ∧ ∃ p cap, w'.cell? ⟨b, 1, none⟩ = some (.slice p 0 cap) ∧ n ≤ cap := Any.Builder_Grow_fresh_cap Try.lays165 Try.Builder_Extra_165 B b n w hB hbk hBw hn
def Try.lays206_ren : Go.Shelf.Ren := ⟨fun | 206 => 91 | n => n, fun | 9 => 9 | 4 => 4 | 3 => 3 | n => n, fun | n => n⟩
theorem Try.lays206 : Go.Proofs.Lays.n206 Try.prog Try.lays206_ren := {
  mixed := by kernel_rfl
  f206 := Try.func91.trans (congrArg some (by kernel_rfl))
  t3 := Try.underlying3
  a3 := Try.isAgg3
  z3 := Try.sizeOf3
  v3 := Try.zeroValue3
  t4 := Try.underlying4
  a4 := Try.isAgg4
  z4 := Try.sizeOf4
  v4 := Try.zeroValue4
  t9 := Try.underlying9
  a9 := Try.isAgg9
  z9 := Try.sizeOf9
  v9 := Try.zeroValue9 }
open Go.RowKit Go.Lib in
/-- internal/stringslite.HasPrefix (what strings.HasPrefix calls). (LAID: no walk: one application.) -/
theorem Try.stringslite_HasPrefix (s p : ByteArray) (w : World) :
    Calls Try.prog 91 #[.string s, .string p] w fun e w' => e = .returned (.bool (Lib.hasPrefix s.data.toList p.data.toList)) ∧ w' = w := Any.stringslite_HasPrefix Try.lays206 s p w
def Try.lays99_ren : Go.Shelf.Ren := ⟨fun | 99 => 67 | 206 => 91 | n => n, fun | 9 => 9 | 4 => 4 | 3 => 3 | n => n, fun | n => n⟩
theorem Try.lays99 : Go.Proofs.Lays.n99 Try.prog Try.lays99_ren := {
  mixed := by kernel_rfl
  f99 := Try.func67.trans (congrArg some (by kernel_rfl))
  f206 := Try.func91.trans (congrArg some (by kernel_rfl))
  t3 := Try.underlying3
  a3 := Try.isAgg3
  z3 := Try.sizeOf3
  v3 := Try.zeroValue3
  t4 := Try.underlying4
  a4 := Try.isAgg4
  z4 := Try.sizeOf4
  v4 := Try.zeroValue4
  t9 := Try.underlying9
  a9 := Try.isAgg9
  z9 := Try.sizeOf9
  v9 := Try.zeroValue9 }
open Go.RowKit Go.Lib in
/-- strings.HasPrefix: "HasPrefix reports whether the string s begins with prefix.": IT RETURNS 'Lib.hasPrefix s prefix'; the world is as it was. (LAID: no walk: one application.) -/
theorem Try.strings_HasPrefix (s p : ByteArray) (w : World) :
    Calls Try.prog 67 #[.string s, .string p] w fun e w' => e = .returned (.bool (Lib.hasPrefix s.data.toList p.data.toList)) ∧ w' = w := Any.strings_HasPrefix Try.lays99 s p w
def Try.lays264_ren : Go.Shelf.Ren := ⟨fun | 264 => 90 | n => n, fun | 53 => 120 | 46 => 83 | n => n, fun | n => n⟩
theorem Try.lays264 : Go.Proofs.Lays.n264 Try.prog Try.lays264_ren := {
  mixed := by kernel_rfl
  f264 := Try.func90.trans (congrArg some (by kernel_rfl))
  t46 := Try.underlying83
  a46 := Try.isAgg83
  z46 := Try.sizeOf83
  v46 := Try.zeroValue83
  t53 := Try.underlying120
  a53 := Try.isAgg120
  z53 := Try.sizeOf120
  v53 := Try.zeroValue120 }
open Go.RowKit Go.Lib in
theorem Try.bits_Mul64 (x y : Nat) (hx : x < 18446744073709551616) (hy : y < 18446744073709551616) (w : World) :
    Calls Try.prog 90 #[.int .u64 x, .int .u64 y] w fun e w' => e = .returned (.tuple #[.int .u64 ((x * y / 18446744073709551616 : Nat) : Int), .int .u64 ((x * y % 18446744073709551616 : Nat) : Int)]) ∧ w' = w := Any.bits_Mul64 Try.lays264 x y hx hy w
def Try.lays212_ren : Go.Shelf.Ren := ⟨fun | 212 => 66 | 263 => 89 | 264 => 90 | n => n, fun | 46 => 83 | 51 => 50 | 146 => 118 | 53 => 120 | 148 => 121 | n => n, fun | n => n⟩
theorem Try.lays212 : Go.Proofs.Lays.n212 Try.prog Try.lays212_ren := {
  mixed := by kernel_rfl
  f212 := Try.func66.trans (congrArg some (by kernel_rfl))
  f263 := Try.func89.trans (congrArg some (by kernel_rfl))
  f264 := Try.func90.trans (congrArg some (by kernel_rfl))
  t46 := Try.underlying83
  a46 := Try.isAgg83
  z46 := Try.sizeOf83
  v46 := Try.zeroValue83
  t51 := Try.underlying50
  a51 := Try.isAgg50
  z51 := Try.sizeOf50
  v51 := Try.zeroValue50
  t53 := Try.underlying120
  a53 := Try.isAgg120
  z53 := Try.sizeOf120
  v53 := Try.zeroValue120
  t146 := Try.underlying118
  a146 := Try.isAgg118
  z146 := Try.sizeOf118
  v146 := Try.zeroValue118
  t148 := Try.underlying121
  a148 := Try.isAgg121
  z148 := Try.sizeOf121
  v148 := Try.zeroValue121 }
open Go.RowKit Go.Lib in
/-- math/bits.Mul: "Mul returns the full-width product of x and y": on a machine of 64 bits: Mul64's. (LAID: no walk: one application.) -/
theorem Try.bits_Mul (x y : Nat) (hx : x < 18446744073709551616) (hy : y < 18446744073709551616) (w : World) :
    Calls Try.prog 66 #[.int .u64 x, .int .u64 y] w fun e w' => e = .returned (.tuple #[.int .u64 ((x * y / 18446744073709551616 : Nat) : Int), .int .u64 ((x * y % 18446744073709551616 : Nat) : Int)]) ∧ w' = w := Any.bits_Mul Try.lays212 x y hx hy w
def Try.lays105_ren : Go.Shelf.Ren := ⟨fun | 105 => 43 | 212 => 66 | 99 => 67 | 165 => 68 | 166 => 69 | 170 => 70 | 169 => 71 | 263 => 89 | 264 => 90 | 206 => 91 | 240 => 92 | 241 => 93 | 276 => 103 | 277 => 104 | n => n, fun | 9 => 9 | 3 => 3 | 4 => 4 | 20 => 20 | 0 => 0 | 46 => 83 | 109 => 84 | 5 => 5 | 72 => 88 | 76 => 92 | 51 => 50 | 146 => 118 | 53 => 120 | 148 => 121 | 70 => 86 | 37 => 49 | 75 => 91 | 127 => 123 | 164 => 133 | 80 => 94 | n => n, fun | n => n⟩
theorem Try.lays105 : Go.Proofs.Lays.n105 Try.prog Try.lays105_ren := {
  mixed := by kernel_rfl
  f99 := Try.func67.trans (congrArg some (by kernel_rfl))
  f105 := Try.func43.trans (congrArg some (by kernel_rfl))
  f165 := Try.func68.trans (congrArg some (by kernel_rfl))
  f166 := Try.func69.trans (congrArg some (by kernel_rfl))
  f169 := Try.func71.trans (congrArg some (by kernel_rfl))
  f170 := Try.func70.trans (congrArg some (by kernel_rfl))
  f206 := Try.func91.trans (congrArg some (by kernel_rfl))
  f212 := Try.func66.trans (congrArg some (by kernel_rfl))
  f240 := Try.func92.trans (congrArg some (by kernel_rfl))
  f241 := Try.func93.trans (congrArg some (by kernel_rfl))
  f263 := Try.func89.trans (congrArg some (by kernel_rfl))
  f264 := Try.func90.trans (congrArg some (by kernel_rfl))
  f276 := Try.func103.trans (congrArg some (by kernel_rfl))
  f277 := Try.func104.trans (congrArg some (by kernel_rfl))
  t0 := Try.underlying0
  a0 := Try.isAgg0
  z0 := Try.sizeOf0
  v0 := Try.zeroValue0
  t3 := Try.underlying3
  a3 := Try.isAgg3
  z3 := Try.sizeOf3
  v3 := Try.zeroValue3
  t4 := Try.underlying4
  a4 := Try.isAgg4
  z4 := Try.sizeOf4
  v4 := Try.zeroValue4
  t5 := Try.underlying5
  a5 := Try.isAgg5
  z5 := Try.sizeOf5
  v5 := Try.zeroValue5
  t9 := Try.underlying9
  a9 := Try.isAgg9
  z9 := Try.sizeOf9
  v9 := Try.zeroValue9
  t20 := Try.underlying20
  a20 := Try.isAgg20
  z20 := Try.sizeOf20
  v20 := Try.zeroValue20
  t37 := Try.underlying49
  a37 := Try.isAgg49
  z37 := Try.sizeOf49
  v37 := Try.zeroValue49
  t46 := Try.underlying83
  a46 := Try.isAgg83
  z46 := Try.sizeOf83
  v46 := Try.zeroValue83
  t51 := Try.underlying50
  a51 := Try.isAgg50
  z51 := Try.sizeOf50
  v51 := Try.zeroValue50
  t53 := Try.underlying120
  a53 := Try.isAgg120
  z53 := Try.sizeOf120
  v53 := Try.zeroValue120
  t70 := Try.underlying86
  a70 := Try.isAgg86
  z70 := Try.sizeOf86
  v70 := Try.zeroValue86
  t72 := Try.underlying88
  a72 := Try.isAgg88
  z72 := Try.sizeOf88
  v72 := Try.zeroValue88
  t75 := Try.underlying91
  a75 := Try.isAgg91
  z75 := Try.sizeOf91
  v75 := Try.zeroValue91
  t76 := Try.underlying92
  a76 := Try.isAgg92
  z76 := Try.sizeOf92
  v76 := Try.zeroValue92
  t109 := Try.underlying84
  a109 := Try.isAgg84
  z109 := Try.sizeOf84
  v109 := Try.zeroValue84
  t127 := Try.underlying123
  a127 := Try.isAgg123
  z127 := Try.sizeOf123
  v127 := Try.zeroValue123
  t146 := Try.underlying118
  a146 := Try.isAgg118
  z146 := Try.sizeOf118
  v146 := Try.zeroValue118
  t148 := Try.underlying121
  a148 := Try.isAgg121
  z148 := Try.sizeOf121
  v148 := Try.zeroValue121
  t164 := Try.underlying133
  a164 := Try.isAgg133
  z164 := Try.sizeOf133
  v164 := Try.zeroValue133 }
theorem Try.Builder_Extra_105 : Builder.Extra Try.prog Try.lays105_ren := {
  sizeBuilder := by kernel_rfl
  liesBuilder := by kernel_rfl
  t5 := Try.underlying5
  a5 := Try.isAgg5
  z5 := Try.sizeOf5
  v5 := Try.zeroValue5
  infoByte := by kernel_rfl
  cellsByte := by kernel_rfl
  sizeByte := by kernel_rfl
  neB5 := by decide }
open Go.RowKit Go.Lib in
/-- THE MAIN CASE: at least two copies of a string that is not empty. (LAID: no walk: one application.) -/
theorem Try.strings_Repeat_main (s : ByteArray) (c : Nat) (w : World) (hc2 : 2 ≤ c) (hc : c ≤ 9223372036854775807) (hlen : s.size * c ≤ 140737488355328) (h0 : 0 < s.size) :
    Calls Try.prog 43 #[.string s, .int .i64 c] w fun e w' => e = .returned (.string ⟨(Lib.repeatL s.data.toList c).toArray⟩) ∧ Below w.heap.size w w' := Any.strings_Repeat_main Try.lays105 Try.Builder_Extra_105 s c w hc2 hc hlen h0
open Go.RowKit Go.Lib in
theorem Try.strings_Repeat_zero (s : ByteArray) (w : World) :
    Calls Try.prog 43 #[.string s, .int .i64 0] w fun e w' => e = .returned (.string ⟨#[]⟩) ∧ w' = w := Any.strings_Repeat_zero Try.lays105 s w
open Go.RowKit Go.Lib in
theorem Try.strings_Repeat_one (s : ByteArray) (w : World) :
    Calls Try.prog 43 #[.string s, .int .i64 1] w fun e w' => e = .returned (.string s) ∧ w' = w := Any.strings_Repeat_one Try.lays105 s w
open Go.RowKit Go.Lib in
/-- Copies of the empty string. (LAID: no walk: one application.) -/
theorem Try.strings_Repeat_empty (s : ByteArray) (c : Nat) (w : World) (hc2 : 2 ≤ c) (hc : c ≤ 9223372036854775807) (h0 : s.size = 0) :
    Calls Try.prog 43 #[.string s, .int .i64 c] w fun e w' => e = .returned (.string ⟨#[]⟩) ∧ w' = w := Any.strings_Repeat_empty Try.lays105 s c w hc2 hc h0
open Go.RowKit Go.Lib in
/-- count < 0: "It panics if count is negative". (LAID: no walk: one application.) -/
theorem Try.strings_Repeat_negative (s : ByteArray) (c : Int) (w : World) (hc : c < 0) :
    Calls Try.prog 43 #[.string s, .int .i64 c] w fun e w' => e = .panicked [{ v := repeatPanic Try.lays105_ren "strings: negative Repeat count", recovered := false }] ∧ w' = w := Any.strings_Repeat_negative Try.lays105 s c w hc
open Go.RowKit Go.Lib in
/-- len(s) * count is no int: ".. or if the result of (len(s) * count) overflows". (LAID: no walk: one application.) -/
theorem Try.strings_Repeat_overflow (s : ByteArray) (c : Nat) (w : World) (hc : c ≤ 9223372036854775807) (hs : s.size ≤ 9223372036854775807) (hbig : 9223372036854775807 < s.size * c) :
    Calls Try.prog 43 #[.string s, .int .i64 c] w fun e w' => e = .panicked [{ v := repeatPanic Try.lays105_ren "strings: Repeat output length overflow", recovered := false }] ∧ w' = w := Any.strings_Repeat_overflow Try.lays105 s c w hc hs hbig
open Go.RowKit Go.Lib in
/-- **strings.Repeat: count ≥ 0, the result within one allocation: count copies of s.** (LAID: no walk: one application.) -/
theorem Try.strings_Repeat (s : ByteArray) (c : Nat) (w : World) (hc : c ≤ 9223372036854775807) (hlen : s.size * c ≤ 140737488355328) :
    Calls Try.prog 43 #[.string s, .int .i64 c] w fun e w' => e = .returned (.string ⟨(Lib.repeatL s.data.toList c).toArray⟩) ∧ Below w.heap.size w w' := Any.strings_Repeat Try.lays105 Try.Builder_Extra_105 s c w hc hlen
end Go.Proofs

/- What both sides answer: levels as texts. MADE BY gen_Qf.py. -/
namespace Go.Proofs.Ytdfelpahacmdpaa.T1
open Go.RowKit
set_option maxRecDepth 100000
set_option linter.unusedVariables false
set_option linter.unusedSimpArgs false

theorem sb_bound {w : World} {b : Nat} {t : Tm} (h : SpSo w b t) (hl : Lets t.free) (h60 : t.size ≤ 60) {x : UInt8} (hx : x ∈ t.free) {m : Nat} (hm : levO t x = some m) : m ≤ 1000 := by
  obtain ⟨f, r, c, v1, v2, h1, h2⟩ := h
  have h3 := (lev6_idx (nd6 t) hl hx m).1 ((levO_iff t x m).1 hm)
  have := h2.cls.lev_lt (fun i hi => h2.rlt hi) (bndS t) (fun i x e => h2.clt _ x e) (idx_lt t hx) h3
  have := (NS t).2
  have := srt_lenL (srt_free t) hl
  omega
theorem ib_bound {w : World} {b : Nat} {t : Tm} (h : ImSo w b t) (hl : Lets t.free) (h60 : t.size ≤ 60) {x : UInt8} (hx : x ∈ t.free) {m : Nat} (hm : levO t x = some m) : m ≤ 1000 := by
  obtain ⟨f, r, c, h1, h2⟩ := h
  have h3 := (levO_iff t x m).1 hm
  have := h2.cls.lev_lt (fun i hi => h2.rlt hi) (bnd6 hl) (fun i x e => h2.clt _ x e) (lt6_lt hl hx) h3
  have := (ask6_next t lt6 26).2
  omega
def PS (k : Nat) : ByteArray := B (List.replicate k 40 ++ 111 :: List.replicate k 41)
theorem PS_size (k : Nat) : (PS k).size = 2 * k + 1 := by unfold PS; rw [B_size]; simp; omega
theorem PS_step (k : Nat) : (⟨#[40]⟩ : ByteArray) ++ PS k ++ ⟨#[41]⟩ = PS (k + 1) := by
  apply ByteArray.ext
  apply Array.ext'
  rw [ByteArray.data_append, ByteArray.data_append, Array.toList_append, Array.toList_append]
  show [40] ++ (List.replicate k (40 : UInt8) ++ 111 :: List.replicate k 41) ++ [41] = List.replicate (k + 1) 40 ++ 111 :: List.replicate (k + 1) 41
  rw [List.replicate_succ, List.replicate_succ']
  simp
theorem rep_one (c : UInt8) : ∀ k, Lib.repeatL [c] k = List.replicate k c
  | 0 => rfl
  | k + 1 => by rw [Lib.repeatL, rep_one c k]; rfl
theorem PS_rep (m : Nat) : (⟨(Lib.repeatL [40] m).toArray⟩ : ByteArray) ++ ⟨#[111]⟩ ++ ⟨(Lib.repeatL [41] m).toArray⟩ = PS m := by
  apply ByteArray.ext
  apply Array.ext'
  rw [ByteArray.data_append, ByteArray.data_append, Array.toList_append, Array.toList_append, rep_one, rep_one]
  show (List.replicate m (40 : UInt8)) ++ [111] ++ List.replicate m 41 = List.replicate m 40 ++ 111 :: List.replicate m 41
  simp
theorem rep_size (c : UInt8) (m : Nat) : (⟨(Lib.repeatL [c] m).toArray⟩ : ByteArray).size = m := by
  rw [rep_one]
  show (List.replicate m c).toArray.size = m
  simp
set_option maxHeartbeats 1000000 in
theorem lev_s4 (s : ByteArray) (t : Tm) (hl : Lets t.free) (h60 : t.size ≤ 60) (a : ByteArray) (x : UInt8) (hx : x ∈ t.free) (hn : decB (able6 t) = true) (m : Nat) (hm : levO t x = some m) (P1 : (∀ w, Calls Try.prog 32 #[.string s, .string a] w fun e w' => e = .returned (.tuple #[.int .i64 (idx6 t.free 0 x : Int), .bool true]) ∧ Below w.heap.size w w')) (HO : (∀ w, Calls Try.prog 29 #[.string s] w fun e w' => (∃ b, e = .returned (.pointer (some ⟨b, 0, none⟩)) ∧ w.heap.size ≤ b ∧ SpSo w' b t) ∧ Below w.heap.size w w')) (w : World) : Calls Try.prog 41 #[.string s, .string a] w fun e w' => e = .returned (.tuple #[.int .i64 (m : Int), .bool true]) ∧ m ≤ 1000 ∧ Below w.heap.size w w' := by
  have XP1 := Lib.hid P1
  have XHO := Lib.hid HO
  have XC := Lib.hid (fun (w1 : World) (b : Nat) (h : SpSo w1 b t) => sb_can h hl h60)
  have XL := Lib.hid (fun (w1 : World) (b : Nat) (h : SpSo w1 b t) => sb_level h hl h60 hx)
  have XB := Lib.hid (fun (w1 : World) (b : Nat) (h : SpSo w1 b t) => sb_bound h hl h60 hx hm)
  rw [hn] at XC
  rw [hm, show oS (some m) = (m : Int) from rfl, show (some m).isSome = true from rfl] at XL
  obtain ⟨i, hi⟩ : ∃ i, i = idx6 t.free 0 x := ⟨_, rfl⟩
  rw [← hi] at XL XP1
  clear hl h60 hi hx hm
  clear P1 HO
  go_enter Try.func41, Try.ntmps41
  have bl : Below w.heap.size w w := Below.refl _ _
  go_wp2_with fail
  refine (XP1.out _).mono ?_
  rintro e w1 ⟨rfl, b1⟩
  replace bl := go6 bl b1
  clear b1
  go_wp2_with fail
  refine (XHO.out _).mono ?_
  rintro e w1 ⟨⟨b, rfl, hb, hs⟩, b1⟩
  replace bl := go6 bl b1
  have HS := Lib.hid hs
  clear b1 hs
  have HB := Lib.hid (XB.out _ _ HS.out)
  go_wp2_with fail
  refine (XC.out _ _ HS.out).mono ?_
  rintro e w1 ⟨rfl, rfl⟩
  go_wp2_with fail
  refine (XL.out _ _ HS.out).mono ?_
  rintro e w1 ⟨rfl, rfl⟩
  go_wp2_with fail
  go_ret2
  exact ⟨rfl, HB.out, bl⟩
set_option maxHeartbeats 1000000 in
theorem lev_i4 (s : ByteArray) (t : Tm) (hl : Lets t.free) (h60 : t.size ≤ 60) (a : ByteArray) (x : UInt8) (hx : x ∈ t.free) (hn : decB (able6 t) = true) (m : Nat) (hm : levO t x = some m) (HO : (∀ w, Calls Try.prog 30 #[.string s] w fun e w' => (∃ b, e = .returned (.tuple #[.pointer (some ⟨b, 0, none⟩), .bool true]) ∧ w.heap.size ≤ b ∧ ImSo w' b t) ∧ Below w.heap.size w w')) (P1 : (∀ w1 bp, ImSo w1 bp t → Calls Try.prog 34 #[.pointer (some ⟨bp, 0, none⟩), .string a] w1 fun e w' => e = .returned (.tuple #[.int .i64 (lt6 x : Int), .bool true]) ∧ Below w1.heap.size w1 w')) (w : World) : Calls Try.prog 20 #[.string s, .string a] w fun e w' => e = .returned (.tuple #[.int .i64 (m : Int), .bool true]) ∧ m ≤ 1000 ∧ Below w.heap.size w w' := by
  have XHO := Lib.hid HO
  have XP1 := Lib.hid P1
  have XC := Lib.hid (fun (w1 : World) (b : Nat) (h : ImSo w1 b t) => ib_can h hl)
  have XL := Lib.hid (fun (w1 : World) (b : Nat) (h : ImSo w1 b t) => ib_level h hl hx)
  have XB := Lib.hid (fun (w1 : World) (b : Nat) (h : ImSo w1 b t) => ib_bound h hl h60 hx hm)
  rw [hn] at XC
  rw [hm, show oI (some m) = (m : Int) from rfl, show (some m).isSome = true from rfl] at XL
  obtain ⟨i, hi⟩ : ∃ i, i = lt6 x := ⟨_, rfl⟩
  rw [← hi] at XL XP1
  clear hl h60 hi hx hm
  clear HO P1
  go_enter Try.func20, Try.ntmps20
  have bl : Below w.heap.size w w := Below.refl _ _
  go_wp2_with fail
  refine (XHO.out _).mono ?_
  rintro e w1 ⟨⟨b, rfl, hb, hs⟩, b1⟩
  replace bl := go6 bl b1
  have HS := Lib.hid hs
  clear b1 hs
  have HB := Lib.hid (XB.out _ _ HS.out)
  go_wp2_with fail
  refine (XC.out _ _ HS.out).mono ?_
  rintro e w1 ⟨rfl, b1⟩
  replace bl := go6 bl b1
  have HS := Lib.hid (HS.out.below b1)
  clear b1
  go_wp2_with fail
  refine (XP1.out _ _ HS.out).mono ?_
  rintro e w1 ⟨rfl, b1⟩
  replace bl := go6 bl b1
  have HS := Lib.hid (HS.out.below b1)
  clear b1
  go_wp2_with fail
  refine (XL.out _ _ HS.out).mono ?_
  rintro e w1 ⟨rfl, b1⟩
  replace bl := go6 bl b1
  have HS := Lib.hid (HS.out.below b1)
  clear b1
  go_wp2_with fail
  go_ret2
  exact ⟨rfl, HB.out, bl⟩
set_option maxHeartbeats 1000000 in
theorem st_s0 (s a : ByteArray) (P1 : (∀ w, Calls Try.prog 41 #[.string s, .string a] w fun e w' => e = .returned (.tuple #[.int .i64 0, .bool false]) ∧ Below w.heap.size w w')) (w : World) : Calls Try.prog 21 #[.string s, .string a] w fun e w' => e = .returned (.tuple #[.string ⟨#[]⟩, .bool false]) ∧ Below w.heap.size w w' := by
  have XP1 := Lib.hid P1
  clear P1
  go_enter Try.func21, Try.ntmps21
  have bl : Below w.heap.size w w := Below.refl _ _
  go_wp2_with fail
  refine (XP1.out _).mono ?_
  rintro e w1 ⟨rfl, b1⟩
  replace bl := go6 bl b1
  clear b1
  go_wp2_with fail
  go_ret2
  exact ⟨rfl, bl⟩
set_option maxHeartbeats 1000000 in
theorem st_i0 (s a : ByteArray) (P1 : (∀ w, Calls Try.prog 20 #[.string s, .string a] w fun e w' => e = .returned (.tuple #[.int .i64 0, .bool false]) ∧ Below w.heap.size w w')) (w : World) : Calls Try.prog 22 #[.string s, .string a] w fun e w' => e = .returned (.tuple #[.string ⟨#[]⟩, .bool false]) ∧ Below w.heap.size w w' := by
  have XP1 := Lib.hid P1
  clear P1
  go_enter Try.func22, Try.ntmps22
  have bl : Below w.heap.size w w := Below.refl _ _
  go_wp2_with fail
  refine (XP1.out _).mono ?_
  rintro e w1 ⟨rfl, b1⟩
  replace bl := go6 bl b1
  clear b1
  go_wp2_with fail
  go_ret2
  exact ⟨rfl, bl⟩
set_option maxHeartbeats 2000000 in
theorem st_s1 (s a : ByteArray) (m : Nat) (P1 : (∀ w, Calls Try.prog 41 #[.string s, .string a] w fun e w' => e = .returned (.tuple #[.int .i64 (m : Int), .bool true]) ∧ m ≤ 1000 ∧ Below w.heap.size w w')) (w : World) : Calls Try.prog 21 #[.string s, .string a] w fun e w' => e = .returned (.tuple #[.string (PS m), .bool true]) ∧ Below w.heap.size w w' := by
  have XP1 := Lib.hid P1
  have XS := Lib.hid PS_size
  have XT := Lib.hid PS_step
  obtain ⟨F, hF⟩ : ∃ F : Nat → ByteArray, F = PS := ⟨_, rfl⟩
  have f0 : F 0 = ⟨#[111]⟩ := by rw [hF]; rfl
  rw [← hF] at XS XT ⊢
  have F0 := Lib.hid f0
  clear P1 hF f0
  go_enter Try.func21, Try.ntmps21
  have bl : Below w.heap.size w w := Below.refl _ _
  go_wp2_with fail
  refine (XP1.out _).mono ?_
  rintro e w1 ⟨rfl, hm1, b1⟩
  replace bl := go6 bl b1
  clear b1
  go_wp2_with fail
  go_loopg [6, 8] m (fun gk s6 s8 wr => (s6 = .int .i64 (gk : Int) ∧ gk ≤ m ∧ s8 = .string (F (m - gk))) ∧ wr = w1)
  case atStart => exact ⟨⟨rfl, Nat.le_refl _, by rw [Nat.sub_self, F0.out]⟩, rfl⟩
  case round =>
    obtain ⟨⟨rfl, hg, rfl⟩, rfl⟩ := hrel
    obtain ⟨k, hk⟩ : ∃ k, k = m - gk := ⟨_, rfl⟩
    rw [← hk]
    have z := XS.out k
    have st := Lib.hid (XT.out k)
    obtain ⟨s0, hs0⟩ : ∃ s0, s0 = F k := ⟨_, rfl⟩
    rw [← hs0] at z st ⊢
    by_cases hg0 : 0 < gk
    · have q0 : (0 : Int) < (gk : Int) := by omega
      have hc1 : ¬ 9223372036854775807 < (⟨#[40]⟩ : ByteArray).size + s0.size := by show ¬ 9223372036854775807 < 1 + s0.size; omega
      have hc2 : ¬ 9223372036854775807 < ((⟨#[40]⟩ : ByteArray) ++ s0).size + (⟨#[41]⟩ : ByteArray).size := by rw [ByteArray.size_append]; show ¬ 9223372036854775807 < 1 + s0.size + 1; omega
      have e2 := Lib.hid (show F (m - (gk - 1)) = (⟨#[40]⟩ : ByteArray) ++ s0 ++ ⟨#[41]⟩ by rw [st.out, show m - (gk - 1) = k + 1 by omega])
      clear hs0 st
      go_wp2_with fail
      go_roundg (gk - 1)
      case measure => omega
      case rel => exact ⟨⟨by go_num, by omega, by rw [e2.out]; try rfl⟩, rfl⟩
    · have q0 : ¬ (0 : Int) < (gk : Int) := by omega
      have e2 := Lib.hid (show s0 = F m by rw [hs0, hk, show gk = 0 by omega, Nat.sub_zero])
      clear hs0 st
      go_wp2_with fail
      go_ret2
      exact ⟨by rw [← e2.out]; rfl, bl⟩
set_option maxHeartbeats 2000000 in
theorem st_i1 (s a : ByteArray) (m : Nat) (P1 : (∀ w, Calls Try.prog 20 #[.string s, .string a] w fun e w' => e = .returned (.tuple #[.int .i64 (m : Int), .bool true]) ∧ m ≤ 1000 ∧ Below w.heap.size w w')) (w : World) : Calls Try.prog 22 #[.string s, .string a] w fun e w' => e = .returned (.tuple #[.string (PS m), .bool true]) ∧ Below w.heap.size w w' := by
  have XP1 := Lib.hid P1
  have R1 : Hid (m ≤ 1000 → ∀ w, Calls Try.prog 43 #[.string ⟨#[40]⟩, .int .i64 (m : Int)] w fun e w' => e = .returned (.string ⟨(Lib.repeatL [40] m).toArray⟩) ∧ Below w.heap.size w w') := fun h w => Try.strings_Repeat ⟨#[40]⟩ m w (by omega) (by show 1 * m ≤ _; omega)
  have R2 : Hid (m ≤ 1000 → ∀ w, Calls Try.prog 43 #[.string ⟨#[41]⟩, .int .i64 (m : Int)] w fun e w' => e = .returned (.string ⟨(Lib.repeatL [41] m).toArray⟩) ∧ Below w.heap.size w w') := fun h w => Try.strings_Repeat ⟨#[41]⟩ m w (by omega) (by show 1 * m ≤ _; omega)
  have HP := Lib.hid (PS_rep m)
  have z1 := rep_size 40 m
  have z2 := rep_size 41 m
  obtain ⟨X1, h1⟩ : ∃ X : ByteArray, X = ⟨(Lib.repeatL [40] m).toArray⟩ := ⟨_, rfl⟩
  obtain ⟨X2, h2⟩ : ∃ X : ByteArray, X = ⟨(Lib.repeatL [41] m).toArray⟩ := ⟨_, rfl⟩
  rw [← h1] at R1 HP z1
  rw [← h2] at R2 HP z2
  clear P1 h1 h2
  go_enter Try.func22, Try.ntmps22
  have bl : Below w.heap.size w w := Below.refl _ _
  go_wp2_with fail
  refine (XP1.out _).mono ?_
  rintro e w1 ⟨rfl, hm1, b1⟩
  replace bl := go6 bl b1
  clear b1
  have RR1 := Lib.hid (R1.out hm1)
  have RR2 := Lib.hid (R2.out hm1)
  have hc1 : ¬ 9223372036854775807 < X1.size + (⟨#[111]⟩ : ByteArray).size := by show ¬ 9223372036854775807 < X1.size + 1; omega
  have hc2 : ¬ 9223372036854775807 < (X1 ++ (⟨#[111]⟩ : ByteArray)).size + X2.size := by rw [ByteArray.size_append]; show ¬ 9223372036854775807 < X1.size + 1 + X2.size; omega
  go_wp2_with fail
  refine (RR1.out _).mono ?_
  rintro e w1 ⟨rfl, b1⟩
  replace bl := go6 bl b1
  clear b1
  go_wp2_with fail
  refine (RR2.out _).mono ?_
  rintro e w1 ⟨rfl, b1⟩
  replace bl := go6 bl b1
  clear b1
  go_wp2_with fail
  go_ret2
  exact ⟨by rw [← HP.out]; rfl, bl⟩
theorem bothSt (s a : ByteArray) (hm : s.size ≤ 9223372036854775807) : ∃ (p : ByteArray) (q : Bool), (∀ w, Calls Try.prog 21 #[.string s, .string a] w fun e w' => e = .returned (.tuple #[.string p, .bool q]) ∧ Below w.heap.size w w') ∧ (∀ w, Calls Try.prog 22 #[.string s, .string a] w fun e w' => e = .returned (.tuple #[.string p, .bool q]) ∧ Below w.heap.size w w') := by
  cases hg : good s.data.toList with
  | none =>
    have g0 := fun w => tmGood_none hg w hm
    have i0 := readSorts_none s hg hm
    have p0 := fun k => soPlace_bad s k g0
    exact ⟨_, _, st_s0 s a (fun w => lev_s0 s a _ (p0 a) w), st_i0 s a (lev_i0 s a i0)⟩
  | some t =>
    obtain ⟨es, hL, hE, h300, h60⟩ := good_S hg
    have hl := lets_free t hL
    have g1 := fun w => tmGood_some hg w hm
    have o1 := soOf_good s t hg
    have i1 := readSorts_some s t hg hm
    have p1 := soPlace_good s t hg hm
    have m1a := fun (w1 : World) b (h : ImSo w1 b t) => ib_named h hL a
    have p1a := p1 a
    cases en : decB (able6 t) with
    | false =>
      cases ea : nameOf t.free a with
      | none =>
        rw [ea] at p1a
        exact ⟨_, _, st_s0 s a (lev_s0 s a _ p1a), st_i0 s a (lev_i1 s t hl h60 a en i1)⟩
      | some x =>
        rw [ea] at p1a
        exact ⟨_, _, st_s0 s a (lev_s1 s t hl h60 a _ en p1a o1), st_i0 s a (lev_i1 s t hl h60 a en i1)⟩
    | true =>
      cases ea : nameOf t.free a with
      | none =>
        rw [ea] at p1a m1a
        exact ⟨_, _, st_s0 s a (lev_s0 s a _ p1a), st_i0 s a (lev_i2 s t hl h60 a en _ i1 m1a)⟩
      | some x =>
        rw [ea] at p1a m1a
        obtain ⟨m, hm⟩ := lev_able en x
        exact ⟨_, _, st_s1 s a m (lev_s4 s t hl h60 a x (nameOf_mem ea) en m hm p1a o1), st_i1 s a m (lev_i4 s t hl h60 a x (nameOf_mem ea) en m hm i1 m1a)⟩
end Go.Proofs.Ytdfelpahacmdpaa.T1
