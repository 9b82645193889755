/- Small general laws of the walk that this seat's texts lean on: conversions of new rows of bytes to strings; an owned row of bytes read as a string. -/
import Derived.WalkKit
import Derived.WalkSpells
import Derived.WalkLawsBesides
import Derived.Lib.Hide
import Derived.Laws.IdiomStrings
namespace Go.Proofs.Ytekmnpmeienhhaa
set_option linter.unusedVariables false
open Go Go.RowKit

/-- A string by its bytes. -/
abbrev S (l : List UInt8) : ByteArray := ⟨l.toArray⟩

theorem cell_new {w : World} {C : Array Value} {t : TypeId} (j : Nat) : (w.alloc (.cells C t)).cell? ⟨w.heap.size, j, none⟩ = C[j]? :=
  World.cell?_alloc_mark w C t (0, 0) j

/-- 'string([]byte{x})'. -/
theorem run_string_one {P : Program} (src dst e : TypeId) (hs : P.underlying src = some (.slice e)) (he : P.underlying e = some (.int .u8)) (hd : P.underlying dst = some .string) (w : World) (n : Int) :
    (convert src dst (.slice (some ⟨w.heap.size, 0, none⟩) 1 1)).run P (w.alloc (.cells #[.int .u8 n] e)) = .ok (.string ⟨#[UInt8.ofNat n.toNat]⟩) (w.alloc (.cells #[.int .u8 n] e)) := by
  rw [run_convert_bytes_string _ src dst e _ 1 1 hs he hd]
  have hl := run_loadCells_list (P := P) (w.alloc (.cells #[.int .u8 n] e)) ⟨w.heap.size, 0, none⟩ ([n].map (Value.int .u8)) (fun j v hj => by
    match j, hj with
    | 0, hj => simp at hj; subst hj; simp [Addr.add])
  rw [run_bytesToString _ _ 1 1 [n] hl]
  rfl

/-- 'string([]byte{x, y})'. -/
theorem run_string_two {P : Program} (src dst e : TypeId) (hs : P.underlying src = some (.slice e)) (he : P.underlying e = some (.int .u8)) (hd : P.underlying dst = some .string) (w : World) (n m : Int) :
    (convert src dst (.slice (some ⟨w.heap.size, 0, none⟩) 2 2)).run P (w.alloc (.cells #[.int .u8 n, .int .u8 m] e)) = .ok (.string ⟨#[UInt8.ofNat n.toNat, UInt8.ofNat m.toNat]⟩) (w.alloc (.cells #[.int .u8 n, .int .u8 m] e)) := by
  rw [run_convert_bytes_string _ src dst e _ 2 2 hs he hd]
  have hl := run_loadCells_list (P := P) (w.alloc (.cells #[.int .u8 n, .int .u8 m] e)) ⟨w.heap.size, 0, none⟩ ([n, m].map (Value.int .u8)) (fun j v hj => by
    match j, hj with
    | 0, hj => simp at hj; subst hj; simp [Addr.add]
    | 1, hj => simp at hj; subst hj; simp [Addr.add])
  rw [run_bytesToString _ _ 2 2 [n, m] hl]
  rfl

/-- 'string([]byte{x, y, z, u})'. -/
theorem run_string_four {P : Program} (src dst e : TypeId) (hs : P.underlying src = some (.slice e)) (he : P.underlying e = some (.int .u8)) (hd : P.underlying dst = some .string) (w : World) (a b c d : Int) :
    (convert src dst (.slice (some ⟨w.heap.size, 0, none⟩) 4 4)).run P (w.alloc (.cells #[.int .u8 a, .int .u8 b, .int .u8 c, .int .u8 d] e)) =
      .ok (.string ⟨#[UInt8.ofNat a.toNat, UInt8.ofNat b.toNat, UInt8.ofNat c.toNat, UInt8.ofNat d.toNat]⟩) (w.alloc (.cells #[.int .u8 a, .int .u8 b, .int .u8 c, .int .u8 d] e)) := by
  rw [run_convert_bytes_string _ src dst e _ 4 4 hs he hd]
  have hl := run_loadCells_list (P := P) (w.alloc (.cells #[.int .u8 a, .int .u8 b, .int .u8 c, .int .u8 d] e)) ⟨w.heap.size, 0, none⟩ ([a, b, c, d].map (Value.int .u8)) (fun j v hj => by
    match j, hj with
    | 0, hj => simp at hj; subst hj; simp [Addr.add]
    | 1, hj => simp at hj; subst hj; simp [Addr.add]
    | 2, hj => simp at hj; subst hj; simp [Addr.add]
    | 3, hj => simp at hj; subst hj; simp [Addr.add])
  rw [run_bytesToString _ _ 4 4 [a, b, c, d] hl]
  rfl

/-- 'string(b[:])' of a new array of eight bytes. -/
theorem run_string_eight {P : Program} (src dst e T : TypeId) (hs : P.underlying src = some (.slice e)) (he : P.underlying e = some (.int .u8)) (hd : P.underlying dst = some .string) (w : World) (a b c d f g h i : Int) :
    (convert src dst (.slice (some ⟨w.heap.size, 0, none⟩) 8 8)).run P (w.alloc (.cells #[.int .u8 a, .int .u8 b, .int .u8 c, .int .u8 d, .int .u8 f, .int .u8 g, .int .u8 h, .int .u8 i] T)) =
      .ok (.string ⟨#[UInt8.ofNat a.toNat, UInt8.ofNat b.toNat, UInt8.ofNat c.toNat, UInt8.ofNat d.toNat, UInt8.ofNat f.toNat, UInt8.ofNat g.toNat, UInt8.ofNat h.toNat, UInt8.ofNat i.toNat]⟩) (w.alloc (.cells #[.int .u8 a, .int .u8 b, .int .u8 c, .int .u8 d, .int .u8 f, .int .u8 g, .int .u8 h, .int .u8 i] T)) := by
  rw [run_convert_bytes_string _ src dst e _ 8 8 hs he hd]
  have hl := run_loadCells_list (P := P) (w.alloc (.cells #[.int .u8 a, .int .u8 b, .int .u8 c, .int .u8 d, .int .u8 f, .int .u8 g, .int .u8 h, .int .u8 i] T)) ⟨w.heap.size, 0, none⟩ ([a, b, c, d, f, g, h, i].map (Value.int .u8)) (fun j v hj => by
    match j, hj with
    | 0, hj => simp at hj; subst hj; simp [Addr.add]
    | 1, hj => simp at hj; subst hj; simp [Addr.add]
    | 2, hj => simp at hj; subst hj; simp [Addr.add]
    | 3, hj => simp at hj; subst hj; simp [Addr.add]
    | 4, hj => simp at hj; subst hj; simp [Addr.add]
    | 5, hj => simp at hj; subst hj; simp [Addr.add]
    | 6, hj => simp at hj; subst hj; simp [Addr.add]
    | 7, hj => simp at hj; subst hj; simp [Addr.add])
  rw [run_bytesToString _ _ 8 8 [a, b, c, d, f, g, h, i] hl]
  rfl

/-- 'string(b)' where b's cells are the bytes l: a law of the walk. -/
theorem wpList_string_cells {P : Program} (w : World) {ops : Array Oper} {rest : List Oper} {o : Oper} {a : Act} {Q : Exit → Act → World → Prop}
    (hg : o.guard = none) (x : Operand) (src dst e : TypeId) (hop : o.op = Op.convert src dst x) (hs : P.underlying src = some (.slice e)) (he : P.underlying e = some (.int .u8)) (hd : P.underlying dst = some .string)
    (b len cap : Nat) (l : List UInt8) (hx : a.eval x = .slice (some ⟨b, 0, none⟩) len cap) (hl : l.length = len)
    (hc : ∀ j (hj : j < l.length), w.cell? ⟨b, j, none⟩ = some (.int .u8 (l[j].toNat : Int)))
    (hK : wpList P ops Q rest (a.put o.dst (.string ⟨l.toArray⟩)) w) :
    wpList P ops Q (o :: rest) a w := by
  subst hl
  refine wpList_plain hg fun K hK' => ?_
  have hrun := run_convert_bytes_back (P := P) w src dst e ⟨b, 0, none⟩ cap l hs he hd (fun j hj => by rw [Addr.add_lit, Nat.zero_add]; exact hc j hj)
  unfold Oper.wp
  simp [execOp, hop, hx, hrun, Result.andThen]
  exact hK' _ _ hK

/-- A text's byte at a place, as a number (0 behind its end). -/
def B (l : List UInt8) (n : Nat) : Int := ((l.getD n 0).toNat : Int)
theorem B_range (l : List UInt8) (n : Nat) : 0 ≤ B l n ∧ B l n ≤ 255 := by
  unfold B
  have := (l.getD n 0).toNat_lt
  omega
theorem B_at (l : List UInt8) (n : Nat) (h : n < l.length) : B l n = ((l[n]).toNat : Int) := by
  simp [B, List.getD, h]

theorem run_index_S {P : Program} (w : World) (t : TypeId) (l : List UInt8) (k : IntKind) (i : Int) (h : P.underlying t = some .string) :
    (Instr.index t (.string ⟨l.toArray⟩) (.int k i)).run P w = if 0 ≤ i ∧ i < l.length then .ok (.int .u8 (B l i.toNat)) w else (boundsPanic k i l.length .index).run P w := by
  rw [run_index_string w t _ k i h]
  have hsz : ((⟨l.toArray⟩ : ByteArray).size : Nat) = l.length := by simp [ByteArray.size]
  by_cases hi : 0 ≤ i ∧ i < l.length
  · have h2 : i.toNat < l.length := by omega
    rw [dif_pos (by rw [hsz]; exact hi), if_pos hi, B_at l i.toNat h2]
    rfl
  · rw [dif_neg (by rw [hsz]; exact hi), if_neg hi, hsz]

theorem S_append (a b : List UInt8) : (⟨a.toArray⟩ ++ ⟨b.toArray⟩ : ByteArray) = ⟨(a ++ b).toArray⟩ := ByteArray.mk_append_mk a b
theorem S_extract (l : List UInt8) (i j : Nat) : (⟨l.toArray⟩ : ByteArray).extract i j = ⟨((l.drop i).take (j - i)).toArray⟩ := ByteArray.extract_mk l i j

/-- A piece of a text. -/
def piece (l : List UInt8) (i j : Nat) : List UInt8 := (l.drop i).take (j - i)
theorem piece_length (l : List UInt8) (i j : Nat) (hij : i ≤ j) (h : j ≤ l.length) : (piece l i j).length = j - i := by
  simp [piece]; omega

/-- 's[i:j]' with its bounds in the text. -/
theorem run_piece {P : Program} (t : TypeId) (h : P.underlying t = some .string) (l : List UInt8) (i j : Int) (a b : Nat) (hi : i = a) (hj : j = b) (hab : a ≤ b) (hb : b ≤ l.length) (w : World) (k k' : IntKind) :
    (Instr.slice t (.string ⟨l.toArray⟩) (some (.int k i)) (some (.int k' j)) none).run P w = .ok (.string ⟨(piece l a b).toArray⟩) w := by
  subst hi hj
  have hsz : ((⟨l.toArray⟩ : ByteArray).size : Nat) = l.length := by simp [ByteArray.size]
  rw [run_slice_string w t _ k k' _ _ h (by omega) (by omega) (by rw [hsz]; omega), ByteArray.extract_mk]
  rfl
/-- 's[i:]'. -/
theorem run_piece_from {P : Program} (t : TypeId) (h : P.underlying t = some .string) (l : List UInt8) (i : Int) (a : Nat) (hi : i = a) (hb : a ≤ l.length) (w : World) (k : IntKind) :
    (Instr.slice t (.string ⟨l.toArray⟩) (some (.int k i)) none none).run P w = .ok (.string ⟨(l.drop a).toArray⟩) w := by
  subst hi
  have hsz : ((⟨l.toArray⟩ : ByteArray).size : Nat) = l.length := by simp [ByteArray.size]
  rw [run_slice_string_from_if w t _ k _ h, if_pos (by rw [hsz]; omega), hsz, ByteArray.extract_mk]
  simp only [Int.toNat_natCast]
  rw [List.take_of_length_le (by simp)]
/-- 's[:j]'. -/
theorem run_piece_to {P : Program} (t : TypeId) (h : P.underlying t = some .string) (l : List UInt8) (j : Int) (b : Nat) (hj : j = b) (hb : b ≤ l.length) (w : World) (k : IntKind) :
    (Instr.slice t (.string ⟨l.toArray⟩) none (some (.int k j)) none).run P w = .ok (.string ⟨(l.take b).toArray⟩) w := by
  subst hj
  have hsz : ((⟨l.toArray⟩ : ByteArray).size : Nat) = l.length := by simp [ByteArray.size]
  rw [run_slice_string_to_if w t _ k _ h, if_pos (by rw [hsz]; omega), ByteArray.extract_mk]
  simp

/-- Calls one behind the other: nothing that was there has turned. -/
theorem below_step {w a b : World} (h : Below w.heap.size w a) (k : Below a.heap.size a b) : Below w.heap.size w b := h.trans (k.mono h.size)

theorem ret_str {a b : List UInt8} (h : a = b) : Ending.returned (.string ⟨a.toArray⟩) = .returned (.string ⟨b.toArray⟩) := by rw [h]
theorem ret_string {a b : ByteArray} (h : a = b) : Ending.returned (.string a) = .returned (.string b) := by rw [h]
theorem ret_int {k : IntKind} {a b : Int} (h : a = b) : Ending.returned (.int k a) = .returned (.int k b) := by rw [h]
theorem ret_bool {a b : Bool} (h : a = b) : Ending.returned (.bool a) = .returned (.bool b) := by rw [h]

end Go.Proofs.Ytekmnpmeienhhaa
