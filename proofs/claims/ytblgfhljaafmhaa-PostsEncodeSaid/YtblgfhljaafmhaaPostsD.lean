/- Layer 12: the three numbers behind a letter; the ack of bytes, the program's: each by a contract. -/
import Derived.Test.YtblgfhljaafmhaaPostsF
namespace Go.Proofs.Ytblgfhljaafmhaa
set_option linter.unusedVariables false
open Go Go.RowKit
attribute [local go_sem ↓] run_index_S
attribute [local go_sem] S_append S_extract

section
variable {C : Array Value} {T : TypeId} {w : World}
theorem RowIn.rowP {D : Array Value} {b : Nat} (h : RowIn C T w b) : RowIn D T (w.setRow b D) b := setRow_heap w b _ _ _ _ h
theorem RowIn.aboveP {D : Array Value} {b c : Nat} (h : RowIn C T w b) (hlt : b < c) : RowIn C T (w.setRow c D) b := by
  have := below_setRow (Below.refl c w) (Nat.le_refl _) D
  exact (this.block b hlt).trans h
end
theorem szA (w : World) (o : Obj) : (w.alloc o).heap.size = w.heap.size + 1 := by simp
theorem load_struct {T : TypeId} {fs : Array Field} {C : Array Value} (hu : Try.prog.underlying T = some (.struct fs)) (hi : (Try.prog.info? T).map (·.size) = some C.size) {w : World} {g : Nat} (h : RowIn C T w g) :
    (loadVar T ⟨g, 0, none⟩).run Try.prog w = .ok (.agg C) w := run_loadVar_row w g _ _ C (0, 0) _ h hu rfl hi
theorem load_array {T : TypeId} {n : Nat} {e : TypeId} {C : Array Value} (hu : Try.prog.underlying T = some (.array n e)) (hi : (Try.prog.info? T).map (·.size) = some C.size) {w : World} {g : Nat} (h : RowIn C T w g) :
    (loadVar T ⟨g, 0, none⟩).run Try.prog w = .ok (.agg C) w := run_loadVar_row w g _ _ C (0, 0) _ h hu rfl hi
theorem ret_rowP1 {fn : Func} {p : Tmp} {T : TypeId} {v : Value} (hr : fn.results = #[.cell p T]) (tmps : Array Value) (w : World) (g : Nat) (hp : tmps.getD p undef = .pointer (some ⟨g, 0, none⟩)) (hl : (loadVar T ⟨g, 0, none⟩).run Try.prog w = .ok v w) :
    (results fn tmps).run Try.prog w = .ok v w := by
  have hp' : tmps[p]?.getD undef = .pointer (some ⟨g, 0, none⟩) := by simpa using hp
  simp [results, hr, hp', asAddr, hl]
theorem ret_rowP2 {fn : Func} {p q : Tmp} {T : TypeId} {v : Value} (hr : fn.results = #[.cell p T, .tmp q]) (tmps : Array Value) (w : World) (g : Nat) (hp : tmps.getD p undef = .pointer (some ⟨g, 0, none⟩)) (hl : (loadVar T ⟨g, 0, none⟩).run Try.prog w = .ok v w) :
    (results fn tmps).run Try.prog w = .ok (.tuple #[v, tmps.getD q undef]) w := by
  have hp' : tmps[p]?.getD undef = .pointer (some ⟨g, 0, none⟩) := by simpa using hp
  simp [results, hr, hp', asAddr, hl]
theorem ret_rowP3 {fn : Func} {p q r : Tmp} {T : TypeId} {v : Value} (hr : fn.results = #[.cell p T, .tmp q, .tmp r]) (tmps : Array Value) (w : World) (g : Nat) (hp : tmps.getD p undef = .pointer (some ⟨g, 0, none⟩)) (hl : (loadVar T ⟨g, 0, none⟩).run Try.prog w = .ok v w) :
    (results fn tmps).run Try.prog w = .ok (.tuple #[v, tmps.getD q undef, tmps.getD r undef]) w := by
  have hp' : tmps[p]?.getD undef = .pointer (some ⟨g, 0, none⟩) := by simpa using hp
  simp [results, hr, hp', asAddr, hl]

/-- A whole struct or array stored: the world behind it by what it is good for. -/
theorem wpList_store_hid {ops : Array Oper} {rest : List Oper} {o : Oper} {a : Act} {w : World} {Q : Exit → Act → World → Prop} (hgd : o.guard = none) (ty : TypeId) (x y : Operand) (ho : o.op = .store ty x y)
    (g : Nat) (cells : Array Value) (hx : a.eval x = .pointer (some ⟨g, 0, none⟩)) (hy : a.eval y = .agg cells)
    (t : TypeId) (old : Array Value) (hg : RowIn old t w g) (hi : (Try.prog.info? ty).map (·.size) = some cells.size)
    (hold : old.size = cells.size) (h1 : cells.all (·.oneCell') = true)
    (h : ∀ w', RowIn cells t w' g → (∀ B0 W0, B0 ≤ g → Below B0 W0 w → Below B0 W0 w') → (∀ C T b, b < g → RowIn C T w b → RowIn C T w' b) → w'.heap.size = w.heap.size → wpList Try.prog ops Q rest (a.put o.dst undef) w') :
    wpList Try.prog ops Q (o :: rest) a w := by
  refine wpList_store_row hgd ty x y ho g cells hx hy t old hg hi hold h1 (h _ (RowIn.rowP hg) (fun B0 W0 hB hb => below_setRow hb hB _) (fun C T b hlt hr => RowIn.aboveP hr hlt) ?_)
  simp [World.setRow]
theorem hasPrefix_hd (l : List UInt8) (c : UInt8) (hc : c ≠ 0) : Lib.hasPrefix (S l).data.toList (⟨#[c]⟩ : ByteArray).data.toList = decide (M.hd l = c.toNat) := by
  cases l with
  | nil =>
    have : ¬ (0 = c.toNat) := fun h => hc (M.u8_ext (by simpa using h.symm))
    simp [Lib.hasPrefix, M.hd, this]
  | cons b r =>
    by_cases e : b = c
    · subst e; simp [Lib.hasPrefix, M.hd, List.isPrefixOf]
    · have : ¬ (b.toNat = c.toNat) := fun h => e (M.u8_ext h)
      have e' : (c == b) = false := by simpa using fun h => e h.symm
      simp [Lib.hasPrefix, M.hd, List.isPrefixOf, this, e']

def pad3 (ns : List Nat) : Array Value := #[.int .i64 (ns.getD 0 0 : Nat), .int .i64 (ns.getD 1 0 : Nat), .int .i64 (ns.getD 2 0 : Nat)]
theorem pad3_snoc {ns : List Nat} {k : Nat} (hl : ns.length = k) (hk : k < 3) (n : Nat) : (pad3 ns).setIfInBounds k (.int .i64 n) = pad3 (ns ++ [n]) := by
  match ns, hl with
  | [], hl => simp at hl; subst hl; simp [pad3]
  | [_], hl => simp at hl; subst hl; simp [pad3]
  | [_, _], hl => simp at hl; subst hl; simp [pad3]
  | _ :: _ :: _ :: _, hl => simp at hl; omega
theorem pad3_one (ns : List Nat) : (pad3 ns).all (·.oneCell') = true := by simp [pad3, Value.oneCell']
theorem pad3_at (ns : List Nat) (k : Nat) (hk : k < 3) : (pad3 ns)[k]? = some (.int .i64 (ns.getD k 0 : Nat)) := by
  match k, hk with
  | 0, _ => rfl
  | 1, _ => rfl
  | 2, _ => rfl

/-- What 'numbers' comes to. -/
def NumR (b : Bool) (l : List UInt8) (w : World) (e : Ending) (w' : World) : Prop :=
  (∃ ns a, (b = true ∧ M.takeN 3 l 1 = some (ns, a)) ∧ e = .returned (.tuple #[.agg (pad3 ns), .int .i64 (a : Nat), .bool true]) ∧ Below w.heap.size w w') ∨
  (∃ ns, ¬ (b = true ∧ M.takeN 3 l 1 ≠ none) ∧ e = .returned (.tuple #[.agg (pad3 ns), .int .i64 0, .bool false]) ∧ Below w.heap.size w w')

set_option maxHeartbeats 1000000 in
set_option maxRecDepth 100000 in
theorem numbers_any (l : List UInt8) (hl : l.length ≤ 140737488351232) (c : UInt8) (hc : c ≠ 0) (w : World) :
    Calls Try.prog 32 #[.string (S l), .string ⟨#[c]⟩] w fun e w' => NumR (decide (M.hd l = c.toNat)) l w e w' := by
  have c0 := fun W => Try.strings_HasPrefix (S l) ⟨#[c]⟩ W
  rw [hasPrefix_hd l c hc] at c0
  have hnew := rowIn_new (pad3 []) 53 w
  cases hh : decide (M.hd l = c.toNat) with
  | false =>
    rw [hh] at c0
    have C0 := Lib.hid c0
    have HN := Lib.hid hnew
    clear c0 hh hnew
    go_enter Try.func32, Try.ntmps32
    go_wp2_with fail
    with_reducible refine (C0.out _).mono ?_
    rintro e w1 ⟨rfl, hw1⟩
    subst hw1
    go_wp2_with (first | (refine wpList_load_row rfl 53 _ rfl w.heap.size rfl 53 _ (0, 0) _ HN.out Try.underlying53 rfl ?_ ?_; kernel_rfl) | (refine wpList_store_row rfl 53 _ _ rfl w.heap.size _ rfl rfl 53 (pad3 []) HN.out ?_ rfl (pad3_one []) ?_; kernel_rfl))
    try simp only [Exit.inBlock, Exit.then]
    refine bodyPost_ret (ret_rowP3 rfl _ _ w.heap.size rfl (load_array Try.underlying53 (by kernel_rfl) (RowIn.rowP HN.out))) rfl (.inr ⟨[], by simp, rfl, below_setRow ((Below.refl _ _).alloc (Nat.le_refl _) _) (Nat.le_refl _) _⟩)
  | true =>
    rw [hh] at c0
    have C0 := Lib.hid c0
    have HN := Lib.hid hnew
    have HH := Lib.hid hh
    clear c0 hh hnew
    go_enter Try.func32, Try.ntmps32
    go_wp2_with fail
    with_reducible refine (C0.out _).mono ?_
    rintro e w1 ⟨rfl, hw1⟩
    subst hw1
    go_wp2_with fail
    go_loopw [5, 15] (fun p i wr => ∃ (k : Nat) (ns : List Nat) (a : Nat), k ≤ 3 ∧ p = .int .i64 a ∧ i = .int .i64 k ∧ M.takeN k l 1 = some (ns, a) ∧ RowIn (pad3 ns) 53 wr w.heap.size ∧ Below w.heap.size w wr) (fun _ i _ => 3 - (intOf i).toNat)
    case atStart => exact ⟨0, [], 1, by omega, rfl, rfl, rfl, HN.out, (Below.refl _ _).alloc (Nat.le_refl _) _⟩
    case round =>
      rename_i wr
      obtain ⟨k, ns, a, hk, rfl, rfl, ht, hR, hb⟩ := hrel
      have hlen := M.takeN_len ht
      have HR := Lib.hid hR
      have HB := Lib.hid hb
      have HT := Lib.hid ht
      have HL := Lib.hid hlen.1
      clear ht hR hb hlen
      by_cases hk3 : k < 3
      · have cg := fun W => get_any l a W (by omega)
        have hcell : wr.cell? ⟨w.heap.size, k, none⟩ = some (.int .i64 (ns.getD k 0 : Nat)) := (HR.out.cell k).trans (pad3_at ns k hk3)
        have hfree := HR.out.free k
        cases hg : M.gets l a with
        | none =>
          have e0 := pad3_snoc (n := 0) HL.out hk3
          simp only [Int.natCast_zero] at e0
          have HS := Lib.hid (show RowIn (pad3 (ns ++ [0])) 53 (wr.setCell ⟨w.heap.size, k, none⟩ (.int .i64 0)) w.heap.size from e0 ▸ HR.out.set k (.int .i64 0))
          rw [hg] at cg
          simp only [tri] at cg
          have CG := Lib.hid cg
          have hno : M.takeN 3 l 1 = none := M.takeN_none (k := k + 1) (by simp only [M.takeN, HT.out, hg]) (by omega)
          have HG := Lib.hid hno
          clear cg hg e0 hno
          go_wp2_with fail
          with_reducible refine (CG.out _).mono ?_
          rintro e w2 ⟨rfl, rfl⟩
          go_wp2_with (first | (refine wpList_load_row rfl 53 _ rfl w.heap.size rfl 53 _ (0, 0) _ HS.out Try.underlying53 rfl ?_ ?_; kernel_rfl) | (refine wpList_store_row rfl 53 _ _ rfl w.heap.size _ rfl rfl 53 (pad3 (ns ++ [0])) HS.out ?_ rfl (pad3_one (ns ++ [0])) ?_; kernel_rfl))
          try simp only [Exit.inBlock, Exit.then]
          refine bodyPost_ret (ret_rowP3 rfl _ _ w.heap.size rfl (load_array Try.underlying53 (by kernel_rfl) (RowIn.rowP HS.out))) rfl (.inr ⟨ns ++ [0], by simp [HG.out], rfl, below_setRow (HB.out.setCell (Nat.le_refl _) _) (Nat.le_refl _) _⟩)
        | some r =>
          obtain ⟨n, b⟩ := r
          have e0 := pad3_snoc (n := n) HL.out hk3
          have HS := Lib.hid (show RowIn (pad3 (ns ++ [n])) 53 (wr.setCell ⟨w.heap.size, k, none⟩ (.int .i64 n)) w.heap.size from e0 ▸ HR.out.set k (.int .i64 n))
          rw [hg] at cg
          simp only [tri] at cg
          have CG := Lib.hid cg
          have HG := Lib.hid hg
          clear cg hg e0
          go_wp2_with fail
          with_reducible refine (CG.out _).mono ?_
          rintro e w2 ⟨rfl, rfl⟩
          go_wp2_with fail
          go_roundw
          case rel => exact ⟨k + 1, ns ++ [n], b, by omega, rfl, by go_num, by simp only [M.takeN, HT.out, HG.out], HS.out, HB.out.setCell (Nat.le_refl _) _⟩
          case measure => simp [intOf]; omega
      · obtain rfl : k = 3 := by omega
        go_wp2_with (first | (refine wpList_load_row rfl 53 _ rfl w.heap.size rfl 53 _ (0, 0) _ HR.out Try.underlying53 rfl ?_ ?_; kernel_rfl) | (refine wpList_store_row rfl 53 _ _ rfl w.heap.size _ rfl rfl 53 (pad3 ns) HR.out ?_ rfl (pad3_one ns) ?_; kernel_rfl))
        try simp only [Exit.inBlock, Exit.then]
        refine bodyPost_ret (ret_rowP3 rfl _ _ w.heap.size rfl (load_array Try.underlying53 (by kernel_rfl) (RowIn.rowP HR.out))) rfl (.inl ⟨ns, a, ⟨rfl, HT.out⟩, rfl, below_setRow HB.out (Nat.le_refl _) _⟩)

end Go.Proofs.Ytblgfhljaafmhaa
