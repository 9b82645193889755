/- Layer 7: a net in memory: its block's cells, and what is kept when that block alone is written. -/
import Derived.Test.YtggflkjdpibioaaNetsM
import Derived.Below
import Derived.Laws.Rows
import Derived.Laws.Tables
import Derived.Deep.QuietTactic
namespace Go.Proofs.Ytggflkjdpibioaa
set_option linter.unusedVariables false
open Go Go.RowKit

/-- Nothing that was there has turned but block b. -/
structure Only (b : Nat) (w w' : World) : Prop where
  os : w'.os = w.os
  tape : w'.tape = w.tape
  output : w'.output = w.output
  size : w.heap.size ≤ w'.heap.size
  block : ∀ k, k < w.heap.size → k ≠ b → w'.heap[k]? = w.heap[k]?
theorem Only.refl (b : Nat) (w : World) : Only b w w := ⟨rfl, rfl, rfl, Nat.le_refl _, fun _ _ _ => rfl⟩
theorem Only.trans {b : Nat} {w x y : World} (h : Only b w x) (k : Only b x y) : Only b w y :=
  ⟨k.os.trans h.os, k.tape.trans h.tape, k.output.trans h.output, Nat.le_trans h.size k.size, fun i hi hn => (k.block i (by have := h.size; omega) hn).trans (h.block i hi hn)⟩
theorem Only.ofBelow {b : Nat} {w x : World} (h : Below w.heap.size w x) : Only b w x := ⟨h.os, h.tape, h.output, h.size, fun k hk _ => h.block k hk⟩
theorem Only.alloc {b : Nat} {w x : World} (h : Only b w x) (o : Obj) : Only b w (x.alloc o) := h.trans (Only.ofBelow ((Below.refl _ _).alloc (Nat.le_refl _) o))
theorem Only.drew {b : Nat} {w x : World} (h : Only b w x) : Only b w x.drew := ⟨h.os, h.tape, h.output, h.size, h.block⟩
theorem Only.setCell {b : Nat} {w x : World} (h : Only b w x) {p : Addr} (hp : p.block = b ∨ w.heap.size ≤ p.block) (v : Value) : Only b w (x.setCell p v) :=
  ⟨h.os, h.tape, h.output, by simpa [World.setCell] using h.size, fun k hk hn => (Below.heap_setCell _ _ _ _ (by omega)).trans (h.block k hk hn)⟩
theorem Only.below {b n : Nat} {w x : World} (h : Only b w x) (hn : n ≤ b) (hs : n ≤ w.heap.size) : Below n w x := ⟨h.os, h.tape, h.output, h.size, fun k hk => h.block k (by omega) (by omega)⟩
theorem Only.cell {b : Nat} {w x : World} (h : Only b w x) {p : Addr} {v : Value} (hp : p.block ≠ b) (hc : w.cell? p = some v) : x.cell? p = some v :=
  (World.cell?_of_block (w := w) (h.block p.block (block_lt_of_cell hc) hp)).trans hc

/-- A block whose cells are known. -/
def BlkIn (C : Array Value) (T : TypeId) (w : World) (b : Nat) : Prop := w.heap[b]? = some (.cells C T (0, 0))
section
variable {C : Array Value} {T : TypeId} {w w' : World} {b : Nat}
theorem BlkIn.lt (h : BlkIn C T w b) : b < w.heap.size := by
  rcases Nat.lt_or_ge b w.heap.size with h' | h'
  · exact h'
  · simp [BlkIn, Array.getElem?_eq_none h'] at h
theorem BlkIn.free (h : BlkIn C T w b) (j : Nat) : w.frozen? ⟨b, j, none⟩ = false := by
  unfold BlkIn at h
  simp [World.frozen?, h]
theorem BlkIn.cell (h : BlkIn C T w b) (j : Nat) : w.cell? ⟨b, j, none⟩ = C[j]? := by
  unfold BlkIn at h
  simp [World.cell?, h]
theorem BlkIn.below (h : BlkIn C T w b) (hb : Below w.heap.size w w') : BlkIn C T w' b := by
  have hl := h.lt
  unfold BlkIn at *
  rw [hb.block b hl]; exact h
theorem BlkIn.only {c : Nat} (h : BlkIn C T w b) (hb : Only c w w') (hn : b ≠ c) : BlkIn C T w' b := by
  have hl := h.lt
  unfold BlkIn at *
  rw [hb.block b hl hn]; exact h
theorem BlkIn.other (h : BlkIn C T w b) {c : Nat} (hne : b ≠ c) (i : Nat) (v : Value) : BlkIn C T (w.setCell ⟨c, i, none⟩ v) b := by
  unfold BlkIn at *
  rw [Below.heap_setCell _ _ _ _ hne]; exact h
theorem BlkIn.set (h : BlkIn C T w b) (i : Nat) (v : Value) : BlkIn (C.setIfInBounds i v) T (w.setCell ⟨b, i, none⟩ v) b := by
  unfold BlkIn at *
  simp [World.setCell, Array.getElem?_modify, h]
theorem BlkIn.more (h : BlkIn C T w b) (o : Obj) : BlkIn C T (w.alloc o) b := h.below ((Below.refl _ _).alloc (Nat.le_refl _) _)
theorem BlkIn.drew (h : BlkIn C T w b) : BlkIn C T w.drew b := h
end

/-- The cells of a net: next by nx (64: first, 65: free), messages by ml. -/
structure Shape (C : Array Value) (nx : Nat → Int) (ml : Nat → Ml) (n : Nat) : Prop where
  src : ∀ j, j < 64 → C[j * 4]? = some (.int .i64 (ml j).src)
  dst : ∀ j, j < 64 → C[j * 4 + 1]? = some (.int .i64 (ml j).dst)
  dat : ∀ j, j < 64 → C[j * 4 + 2]? = some (.string (S (ml j).dat))
  nxt : ∀ j, j < 64 → C[j * 4 + 3]? = some (.int .i64 (nx j))
  fst : C[256]? = some (.int .i64 (nx 64))
  fre : C[257]? = some (.int .i64 (nx 65))
  cnt : C[258]? = some (.int .i64 (n : Int))
  mad : C[259]? = some (.bool true)
def cel (p : Nat) : Nat := if p < 64 then p * 4 + 3 else 192 + p
theorem get_set (C : Array Value) (i m : Nat) (v u : Value) (h : C[m]? = some u) : (C.setIfInBounds i v)[m]? = if i = m then some v else some u := by
  rw [Array.getElem?_setIfInBounds, h]
  split
  · rename_i e
    subst e
    have : i < C.size := by
      rcases Nat.lt_or_ge i C.size with h' | h'
      · exact h'
      · rw [Array.getElem?_eq_none h'] at h; cases h
    simp [this]
  · rfl
section
variable {C : Array Value} {nx : Nat → Int} {ml : Nat → Ml} {n : Nat}
theorem Shape.at_ (h : Shape C nx ml n) {p : Nat} (hp : p < 66) : C[cel p]? = some (.int .i64 (nx p)) := by
  unfold cel
  split
  · exact h.nxt p (by omega)
  · have : p = 64 ∨ p = 65 := by omega
    rcases this with rfl | rfl
    · exact h.fst
    · exact h.fre
theorem Shape.next (h : Shape C nx ml n) {p : Nat} (hp : p < 66) (v : Int) : Shape (C.setIfInBounds (cel p) (.int .i64 v)) (upd nx p v) ml n := by
  have g := fun m u (hm : C[m]? = some u) => get_set C (cel p) m (.int .i64 v) u hm
  have e : ∀ j, j < 64 → (cel p = j * 4 + 3 ↔ p = j) := fun j hj => by unfold cel; split <;> omega
  have q : ∀ m, m = 256 ∨ m = 257 → (cel p = m ↔ p = m - 192) := fun m hm => by unfold cel; split <;> omega
  have r : ∀ m, (m % 4 ≠ 3 ∧ m < 256) ∨ 257 < m → cel p ≠ m := fun m hm => by unfold cel; split <;> omega
  have U : ∀ j, upd nx p v j = if p = j then v else nx j := fun j => by unfold upd; simp [eq_comm]
  refine ⟨fun j hj => ?_, fun j hj => ?_, fun j hj => ?_, fun j hj => ?_, ?_, ?_, ?_, ?_⟩
  · rw [g _ _ (h.src j hj), if_neg (r _ (by omega))]
  · rw [g _ _ (h.dst j hj), if_neg (r _ (by omega))]
  · rw [g _ _ (h.dat j hj), if_neg (r _ (by omega))]
  · rw [g _ _ (h.nxt j hj), U]
    by_cases hpj : p = j
    · rw [if_pos ((e j hj).2 hpj), if_pos hpj]
    · rw [if_neg (fun x => hpj ((e j hj).1 x)), if_neg hpj]
  · rw [g _ _ h.fst, U]
    by_cases hpj : p = 64
    · rw [if_pos ((q 256 (by omega)).2 hpj), if_pos hpj]
    · rw [if_neg (fun x => hpj ((q 256 (by omega)).1 x)), if_neg hpj]
  · rw [g _ _ h.fre, U]
    by_cases hpj : p = 65
    · rw [if_pos ((q 257 (by omega)).2 hpj), if_pos hpj]
    · rw [if_neg (fun x => hpj ((q 257 (by omega)).1 x)), if_neg hpj]
  · rw [g _ _ h.cnt, if_neg (r _ (by omega))]
  · rw [g _ _ h.mad, if_neg (r _ (by omega))]
theorem Shape.count (h : Shape C nx ml n) (m : Nat) : Shape (C.setIfInBounds 258 (.int .i64 (m : Int))) nx ml m := by
  have g := fun k u (hm : C[k]? = some u) => get_set C 258 k (.int .i64 (m : Int)) u hm
  refine ⟨fun j hj => ?_, fun j hj => ?_, fun j hj => ?_, fun j hj => ?_, ?_, ?_, ?_, ?_⟩
  · rw [g _ _ (h.src j hj), if_neg (by omega)]
  · rw [g _ _ (h.dst j hj), if_neg (by omega)]
  · rw [g _ _ (h.dat j hj), if_neg (by omega)]
  · rw [g _ _ (h.nxt j hj), if_neg (by omega)]
  · rw [g _ _ h.fst, if_neg (by omega)]
  · rw [g _ _ h.fre, if_neg (by omega)]
  · rw [g _ _ h.cnt, if_pos rfl]
  · rw [g _ _ h.mad, if_neg (by omega)]
/-- A whole slot is written. -/
theorem Shape.row (h : Shape C nx ml n) {p : Nat} (hp : p < 64) (m : Ml) (v : Int) :
    Shape ((((C.setIfInBounds (p * 4) (.int .i64 m.src)).setIfInBounds (p * 4 + 1) (.int .i64 m.dst)).setIfInBounds (p * 4 + 2) (.string (S m.dat))).setIfInBounds (p * 4 + 3) (.int .i64 v)) (upd nx p v) (upd ml p m) n := by
  have g : ∀ k u, C[k]? = some u → ((((C.setIfInBounds (p * 4) (.int .i64 m.src)).setIfInBounds (p * 4 + 1) (.int .i64 m.dst)).setIfInBounds (p * 4 + 2) (.string (S m.dat))).setIfInBounds (p * 4 + 3) (.int .i64 v))[k]? =
      if p * 4 + 3 = k then some (.int .i64 v) else if p * 4 + 2 = k then some (.string (S m.dat)) else if p * 4 + 1 = k then some (.int .i64 m.dst) else if p * 4 = k then some (.int .i64 m.src) else some u := fun k u hk => by
    have h1 := get_set C (p * 4) k (.int .i64 m.src) u hk
    have h2 : ∃ u2, (C.setIfInBounds (p * 4) (.int .i64 m.src))[k]? = some u2 ∧ u2 = if p * 4 = k then (.int .i64 m.src) else u := by
      rw [h1]; split <;> exact ⟨_, rfl, rfl⟩
    obtain ⟨u2, e2, q2⟩ := h2
    have h3 := get_set _ (p * 4 + 1) k (.int .i64 m.dst) u2 e2
    have h4 : ∃ u3, ((C.setIfInBounds (p * 4) (.int .i64 m.src)).setIfInBounds (p * 4 + 1) (.int .i64 m.dst))[k]? = some u3 ∧ u3 = if p * 4 + 1 = k then (.int .i64 m.dst) else u2 := by
      rw [h3]; split <;> exact ⟨_, rfl, rfl⟩
    obtain ⟨u3, e3, q3⟩ := h4
    have h5 := get_set _ (p * 4 + 2) k (.string (S m.dat)) u3 e3
    have h6 : ∃ u4, (((C.setIfInBounds (p * 4) (.int .i64 m.src)).setIfInBounds (p * 4 + 1) (.int .i64 m.dst)).setIfInBounds (p * 4 + 2) (.string (S m.dat)))[k]? = some u4 ∧ u4 = if p * 4 + 2 = k then (.string (S m.dat)) else u3 := by
      rw [h5]; split <;> exact ⟨_, rfl, rfl⟩
    obtain ⟨u4, e4, q4⟩ := h6
    rw [get_set _ (p * 4 + 3) k (.int .i64 v) u4 e4, q4, q3, q2]
    repeat' split <;> simp_all
  refine ⟨fun j hj => ?_, fun j hj => ?_, fun j hj => ?_, fun j hj => ?_, ?_, ?_, ?_, ?_⟩
  · rw [g _ _ (h.src j hj), if_neg (by omega), if_neg (by omega), if_neg (by omega)]
    by_cases e : p = j
    · subst e; rw [if_pos rfl, upd_self]
    · rw [if_neg (by omega), upd_ne _ _ (Ne.symm e)]
  · rw [g _ _ (h.dst j hj), if_neg (by omega), if_neg (by omega)]
    by_cases e : p = j
    · subst e; rw [if_pos rfl, upd_self]
    · rw [if_neg (by omega), if_neg (by omega), upd_ne _ _ (Ne.symm e)]
  · rw [g _ _ (h.dat j hj), if_neg (by omega)]
    by_cases e : p = j
    · subst e; rw [if_pos rfl, upd_self]
    · rw [if_neg (by omega), if_neg (by omega), if_neg (by omega), upd_ne _ _ (Ne.symm e)]
  · rw [g _ _ (h.nxt j hj)]
    by_cases e : p = j
    · subst e; rw [if_pos rfl, upd_self]
    · rw [if_neg (by omega), if_neg (by omega), if_neg (by omega), if_neg (by omega), upd_ne _ _ (Ne.symm e)]
  · rw [g _ _ h.fst, if_neg (by omega), if_neg (by omega), if_neg (by omega), if_neg (by omega), upd_ne _ _ (by omega)]
  · rw [g _ _ h.fre, if_neg (by omega), if_neg (by omega), if_neg (by omega), if_neg (by omega), upd_ne _ _ (by omega)]
  · rw [g _ _ h.cnt, if_neg (by omega), if_neg (by omega), if_neg (by omega), if_neg (by omega)]
  · rw [g _ _ h.mad, if_neg (by omega), if_neg (by omega), if_neg (by omega), if_neg (by omega)]
end

/-- A net's memory. -/
def NetS (w : World) (b : Nat) (nx : Nat → Int) (ml : Nat → Ml) (n : Nat) : Prop := ∃ C T, BlkIn C T w b ∧ Shape C nx ml n
section
variable {w w' : World} {b : Nat} {nx : Nat → Int} {ml : Nat → Ml} {n : Nat}
theorem NetS.lt (h : NetS w b nx ml n) : b < w.heap.size := by obtain ⟨C, T, h1, _⟩ := h; exact h1.lt
theorem NetS.free (h : NetS w b nx ml n) (j : Nat) : w.frozen? ⟨b, j, none⟩ = false := by obtain ⟨C, T, h1, _⟩ := h; exact h1.free j
theorem NetS.below (h : NetS w b nx ml n) (hb : Below w.heap.size w w') : NetS w' b nx ml n := by obtain ⟨C, T, h1, h2⟩ := h; exact ⟨C, T, h1.below hb, h2⟩
theorem NetS.only {c : Nat} (h : NetS w b nx ml n) (hb : Only c w w') (hn : b ≠ c) : NetS w' b nx ml n := by obtain ⟨C, T, h1, h2⟩ := h; exact ⟨C, T, h1.only hb hn, h2⟩
theorem NetS.more (h : NetS w b nx ml n) (o : Obj) : NetS (w.alloc o) b nx ml n := h.below ((Below.refl _ _).alloc (Nat.le_refl _) _)
theorem NetS.other (h : NetS w b nx ml n) {c : Nat} (hne : b ≠ c) (i : Nat) (v : Value) : NetS (w.setCell ⟨c, i, none⟩ v) b nx ml n := by obtain ⟨C, T, h1, h2⟩ := h; exact ⟨C, T, h1.other hne i v, h2⟩
theorem NetS.drew (h : NetS w b nx ml n) : NetS w.drew b nx ml n := h
theorem NetS.nxt (h : NetS w b nx ml n) {p : Nat} (hp : p < 66) : w.cell? ⟨b, cel p, none⟩ = some (.int .i64 (nx p)) := by obtain ⟨C, T, h1, h2⟩ := h; rw [h1.cell]; exact h2.at_ hp
theorem NetS.src (h : NetS w b nx ml n) {p : Nat} (hp : p < 64) : w.cell? ⟨b, p * 4, none⟩ = some (.int .i64 (ml p).src) := by obtain ⟨C, T, h1, h2⟩ := h; rw [h1.cell]; exact h2.src p hp
theorem NetS.dst (h : NetS w b nx ml n) {p : Nat} (hp : p < 64) : w.cell? ⟨b, p * 4 + 1, none⟩ = some (.int .i64 (ml p).dst) := by obtain ⟨C, T, h1, h2⟩ := h; rw [h1.cell]; exact h2.dst p hp
theorem NetS.dat (h : NetS w b nx ml n) {p : Nat} (hp : p < 64) : w.cell? ⟨b, p * 4 + 2, none⟩ = some (.string (S (ml p).dat)) := by obtain ⟨C, T, h1, h2⟩ := h; rw [h1.cell]; exact h2.dat p hp
theorem NetS.cnt (h : NetS w b nx ml n) : w.cell? ⟨b, 258, none⟩ = some (.int .i64 (n : Int)) := by obtain ⟨C, T, h1, h2⟩ := h; rw [h1.cell]; exact h2.cnt
theorem NetS.mad (h : NetS w b nx ml n) : w.cell? ⟨b, 259, none⟩ = some (.bool true) := by obtain ⟨C, T, h1, h2⟩ := h; rw [h1.cell]; exact h2.mad
theorem NetS.setNext (h : NetS w b nx ml n) {p : Nat} (hp : p < 66) (v : Int) : NetS (w.setCell ⟨b, cel p, none⟩ (.int .i64 v)) b (upd nx p v) ml n := by
  obtain ⟨C, T, h1, h2⟩ := h; exact ⟨_, T, h1.set _ _, h2.next hp v⟩
theorem NetS.setCount (h : NetS w b nx ml n) (m : Nat) : NetS (w.setCell ⟨b, 258, none⟩ (.int .i64 (m : Int))) b nx ml m := by
  obtain ⟨C, T, h1, h2⟩ := h; exact ⟨_, T, h1.set _ _, h2.count m⟩
theorem NetS.setRow (h : NetS w b nx ml n) {p : Nat} (hp : p < 64) (m : Ml) (v : Int) :
    NetS ((((w.setCell ⟨b, p * 4, none⟩ (.int .i64 m.src)).setCell ⟨b, p * 4 + 1, none⟩ (.int .i64 m.dst)).setCell ⟨b, p * 4 + 2, none⟩ (.string (S m.dat))).setCell ⟨b, p * 4 + 3, none⟩ (.int .i64 v)) b (upd nx p v) (upd ml p m) n := by
  obtain ⟨C, T, h1, h2⟩ := h; exact ⟨_, T, (((h1.set _ _).set _ _).set _ _).set _ _, h2.row hp m v⟩
end

end Go.Proofs.Ytggflkjdpibioaa
