/- Layer 3: the program's Decode by a contract. -/
import Derived.Test.YtadkkandfgfboaaSpansE
import Derived.Lib.BufferMore
import Derived.Laws.CopyOwn
namespace Go.Proofs.Ytadkkandfgfboaa
set_option linter.unusedVariables false
open Go Go.RowKit
attribute [local go_sem ↓] run_index_S
attribute [local go_sem] S_append S_extract

/-- Where a span's numbers lie, and its texts. -/
def offN (k : Nat) : Nat := [0, 1, 2, 5, 6].getD k 0
def offT (k : Nat) : Nat := [3, 4, 7].getD k 0

/-- A block that is a span. -/
def spC (x : M.Sp) : Array Value := #[.int .i64 x.trace, .int .i64 x.id, .int .i64 x.parent, .string (S x.svc), .string (S x.host), .int .i64 x.start, .int .i64 x.dur, .string (S x.note)]
def SpIn (x : M.Sp) (w : World) (b : Nat) : Prop := w.heap[b]? = some (.cells (spC x) 23 (0, 0))
theorem SpIn.lt {x : M.Sp} {w : World} {b : Nat} (h : SpIn x w b) : b < w.heap.size := by
  rcases Nat.lt_or_ge b w.heap.size with h' | h'
  · exact h'
  · simp [SpIn, Array.getElem?_eq_none h'] at h
theorem SpIn.at_ {x : M.Sp} {w : World} {b : Nat} (h : SpIn x w b) : SpAt x w b := by
  have hl := SpIn.lt h
  unfold SpIn at h
  exact ⟨by simp [World.cell?, h, spC], by simp [World.cell?, h, spC], by simp [World.cell?, h, spC], by simp [World.cell?, h, spC], by simp [World.cell?, h, spC], by simp [World.cell?, h, spC], by simp [World.cell?, h, spC], by simp [World.cell?, h, spC], hl⟩
theorem SpIn.free {x : M.Sp} {w : World} {b : Nat} (h : SpIn x w b) (j : Nat) : w.frozen? ⟨b, j, none⟩ = false := by
  unfold SpIn at h
  simp [World.frozen?, h]
theorem SpIn.below {x : M.Sp} {w w' : World} {b : Nat} (h : SpIn x w b) (hb : Below w.heap.size w w') : SpIn x w' b := by
  have hl := SpIn.lt h
  unfold SpIn at *
  rw [hb.block b hl]; exact h
theorem SpIn.other {x : M.Sp} {w : World} {b c : Nat} (h : SpIn x w b) (hne : b ≠ c) (i : Nat) (v : Value) : SpIn x (w.setCell ⟨c, i, none⟩ v) b := by
  unfold SpIn at *
  rw [Below.heap_setCell _ _ _ _ hne]; exact h
theorem spIn_set {w : World} {b : Nat} {x y : M.Sp} (h : SpIn x w b) (i : Nat) (v : Value) (hy : spC y = (spC x).setIfInBounds i v) : SpIn y (w.setCell ⟨b, i, none⟩ v) b := by
  unfold SpIn at *
  simp [World.setCell, Array.getElem?_modify, h, hy]
theorem spIn_num {w : World} {b k : Nat} {ns : List Nat} (hk : k < 5) (hl : ns.length = k) (h : SpIn (M.spOf ns []) w b) (n : Nat) : SpIn (M.spOf (ns ++ [n]) []) (w.setCell ⟨b, offN k, none⟩ (.int .i64 n)) b := by
  refine spIn_set h _ _ ?_
  subst hl
  match ns, hk with
  | [], _ => rfl
  | [_], _ => rfl
  | [_, _], _ => rfl
  | [_, _, _], _ => rfl
  | [_, _, _, _], _ => rfl
theorem spIn_txt {w : World} {b k : Nat} {ns : List Nat} {ts : List (List UInt8)} (hk : k < 3) (hl : ts.length = k) (h : SpIn (M.spOf ns ts) w b) (t : List UInt8) : SpIn (M.spOf ns (ts ++ [t])) (w.setCell ⟨b, offT k, none⟩ (.string (S t))) b := by
  refine spIn_set h _ _ ?_
  subst hl
  match ts, hk with
  | [], _ => rfl
  | [_], _ => rfl
  | [_, _], _ => rfl
theorem spIn_numAt {w : World} {b k : Nat} {ns : List Nat} (hk : k < 5) (hl : ns.length = k) (h : SpIn (M.spOf ns []) w b) : w.cell? ⟨b, offN k, none⟩ = some (.int .i64 0) := by
  unfold SpIn at h
  subst hl
  simp only [World.cell?, h]
  match ns, hk with
  | [], _ => rfl
  | [_], _ => rfl
  | [_, _], _ => rfl
  | [_, _, _], _ => rfl
  | [_, _, _, _], _ => rfl
theorem spIn_txtAt {w : World} {b k : Nat} {ns : List Nat} {ts : List (List UInt8)} (hk : k < 3) (hl : ts.length = k) (h : SpIn (M.spOf ns ts) w b) : w.cell? ⟨b, offT k, none⟩ = some (.string (S [])) := by
  unfold SpIn at h
  subst hl
  simp only [World.cell?, h]
  match ts, hk with
  | [], _ => rfl
  | [_], _ => rfl
  | [_, _], _ => rfl

theorem SpIn.more {x : M.Sp} {w : World} {b : Nat} (h : SpIn x w b) (o : Obj) : SpIn x (w.alloc o) b := h.below ((Below.refl _ _).alloc (Nat.le_refl _) _)
theorem spIn_new (w : World) : SpIn M.sp0 (w.alloc (.cells (spC M.sp0) 23)) w.heap.size := heap_alloc_new w _
theorem spIn_new2 (w : World) (o : Obj) : SpIn (M.spOf [] []) ((w.alloc o).alloc (.cells (spC M.sp0) 23)) (w.heap.size + 1) := by
  have := heap_alloc_new (w.alloc o) (.cells (spC M.sp0) 23)
  rw [show (w.alloc o).heap.size = w.heap.size + 1 from by simp] at this
  exact this

theorem SpIn.row {x : M.Sp} {w : World} {b : Nat} (h : SpIn x w b) (y : M.Sp) : SpIn y (w.setRow b (spC y)) b := setRow_heap w b _ _ _ _ h

theorem spC_one (x : M.Sp) : (spC x).all (·.oneCell') = true := by simp [spC, Value.oneCell']

theorem getD_mem {α : Type} {l : List α} {k : Nat} {d : α} {P : α → Prop} (h : ∀ x ∈ l, P x) (hd : P d) : P (l.getD k d) := by
  rw [List.getD]
  cases e : l[k]? with
  | none => exact hd
  | some v => exact h v (List.mem_of_getElem? e)
theorem spOf_fits (ns : List Nat) (ts : List (List UInt8)) (l : List UInt8) (hl : l.length ≤ 140737488351232) (h1 : ∀ n ∈ ns, n ≤ 9223372036854775807) (h2 : ∀ t ∈ ts, t.length ≤ l.length) : (M.spOf ns ts).fits := by
  have a0 := getD_mem (k := 0) (d := 0) (P := fun n => n ≤ 9223372036854775807) h1 (by omega)
  have a1 := getD_mem (k := 1) (d := 0) (P := fun n => n ≤ 9223372036854775807) h1 (by omega)
  have a2 := getD_mem (k := 2) (d := 0) (P := fun n => n ≤ 9223372036854775807) h1 (by omega)
  have a3 := getD_mem (k := 3) (d := 0) (P := fun n => n ≤ 9223372036854775807) h1 (by omega)
  have a4 := getD_mem (k := 4) (d := 0) (P := fun n => n ≤ 9223372036854775807) h1 (by omega)
  have b0 := getD_mem (k := 0) (d := []) (P := fun t => t.length ≤ l.length) h2 (by simp)
  have b1 := getD_mem (k := 1) (d := []) (P := fun t => t.length ≤ l.length) h2 (by simp)
  have b2 := getD_mem (k := 2) (d := []) (P := fun t => t.length ≤ l.length) h2 (by simp)
  constructor <;> simp only [M.spOf] <;> omega

/-- A row of places in a span's block. -/
structure PtrsN (w : World) (s b : Nat) : Prop where
  c : ∀ k, k < 5 → w.cell? ⟨s, k, none⟩ = some (.pointer (some ⟨b, offN k, none⟩))
  at_ : s < w.heap.size
structure PtrsT (w : World) (s b : Nat) : Prop where
  c : ∀ k, k < 3 → w.cell? ⟨s, k, none⟩ = some (.pointer (some ⟨b, offT k, none⟩))
  at_ : s < w.heap.size
theorem PtrsN.set {w : World} {s b : Nat} (h : PtrsN w s b) {c : Nat} (hne : s ≠ c) (i : Nat) (v : Value) : PtrsN (w.setCell ⟨c, i, none⟩ v) s b :=
  ⟨fun k hk => by rw [← h.c k hk]; simp [World.cell?, Below.heap_setCell _ ⟨c, i, none⟩ _ _ hne], by simpa [World.setCell] using h.at_⟩
theorem PtrsT.set {w : World} {s b : Nat} (h : PtrsT w s b) {c : Nat} (hne : s ≠ c) (i : Nat) (v : Value) : PtrsT (w.setCell ⟨c, i, none⟩ v) s b :=
  ⟨fun k hk => by rw [← h.c k hk]; simp [World.cell?, Below.heap_setCell _ ⟨c, i, none⟩ _ _ hne], by simpa [World.setCell] using h.at_⟩

def spV (x : M.Sp) : Value := .agg (spC x)
theorem load_sp {x : M.Sp} {w : World} {g : Nat} (h : SpIn x w g) : (loadVar 23 ⟨g, 0, none⟩).run Try.prog w = .ok (.agg (spC x)) w :=
  run_loadVar_row w g _ _ (spC x) (0, 0) _ h Try.underlying23 rfl (by kernel_rfl)
theorem ret_sp1 {fn : Func} {p : Tmp} (hr : fn.results = #[.cell p 23]) (tmps : Array Value) (w : World) (g : Nat) (x : M.Sp) (hp : tmps.getD p undef = .pointer (some ⟨g, 0, none⟩)) (hg : SpIn x w g) :
    (results fn tmps).run Try.prog w = .ok (spV x) w := by
  have hp' : tmps[p]?.getD undef = .pointer (some ⟨g, 0, none⟩) := by simpa using hp
  simp [results, hr, hp', asAddr, load_sp hg, spV]
theorem ret_sp2 {fn : Func} {p q : Tmp} (hr : fn.results = #[.cell p 23, .tmp q]) (tmps : Array Value) (w : World) (g : Nat) (x : M.Sp) (hp : tmps.getD p undef = .pointer (some ⟨g, 0, none⟩)) (hg : SpIn x w g) :
    (results fn tmps).run Try.prog w = .ok (.tuple #[spV x, tmps.getD q undef]) w := by
  have hp' : tmps[p]?.getD undef = .pointer (some ⟨g, 0, none⟩) := by simpa using hp
  simp [results, hr, hp', asAddr, load_sp hg, spV]
theorem ret_sp3 {fn : Func} {p q r : Tmp} (hr : fn.results = #[.cell p 23, .tmp q, .tmp r]) (tmps : Array Value) (w : World) (g : Nat) (x : M.Sp) (hp : tmps.getD p undef = .pointer (some ⟨g, 0, none⟩)) (hg : SpIn x w g) :
    (results fn tmps).run Try.prog w = .ok (.tuple #[spV x, tmps.getD q undef, tmps.getD r undef]) w := by
  have hp' : tmps[p]?.getD undef = .pointer (some ⟨g, 0, none⟩) := by simpa using hp
  simp [results, hr, hp', asAddr, load_sp hg, spV]
def decX (r : Option M.Sp) : M.Sp := match r with
  | some x => x
  | none => M.sp0
def decE (r : Option M.Sp) : Int := match r with
  | some _ => 0
  | none => 30

end Go.Proofs.Ytadkkandfgfboaa
