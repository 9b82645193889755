/- Layer 5: the program's disk in memory. -/
import Derived.Test.YtekmnpmeienhhaaDiskM
import Derived.Test.YtekmnpmeienhhaaChecked
namespace Go.Proofs.Ytekmnpmeienhhaa
set_option linter.unusedVariables false
open Go Go.RowKit Go.Maps

theorem law5 : Keyed Try.prog 9 := string_keyed Try.underlying9
theorem zeroFl5 (w : World) : (zeroValue 93).run Try.prog w = .ok (.agg #[.slice none 0 0, .int .i64 0]) w := by kernel_rfl
theorem key5 {nm : List UInt8} (h : nm.length ≤ 140737488351232) : keyOf Try.prog 9 (.string (S nm)) = some (.string nm) := WideMaps.keyOf_string_mk Try.underlying9 (by unfold maxLen; simp [ByteArray.size]; omega)
/-- A file's value; what a map's element reads as: itself. -/
def flV (v : Value) (s : Nat) : Value := .agg #[v, .int .i64 s]
def heldR (v : Value) : Option (DataW Value × List MemPlace) := some (.held v, [])
def entM (V : List UInt8 → Value) (f : Dk.Fl) : Lit × DataW Value := (.string f.name, .held (flV (V f.name) f.safe))
def datM (V : List UInt8 → Value) (L : List Dk.Fl) : DataW Value := .map (L.map (entM V))
def upV (V : List UInt8 → Value) (nm : List UInt8) (v : Value) : List UInt8 → Value := fun x => if x = nm then v else V x
theorem upV_same (V : List UInt8 → Value) (nm : List UInt8) (v : Value) : upV V nm v nm = v := if_pos rfl
theorem upV_other (V : List UInt8 → Value) {nm x : List UInt8} (v : Value) (h : x ≠ nm) : upV V nm v x = V x := if_neg h
theorem same_str (a b : List UInt8) : (Lit.string a).sameKey (.string b) = (a == b) := rfl
theorem find_entM (V : List UInt8 → Value) (nm : List UInt8) : ∀ L : List Dk.Fl, (L.map (entM V)).find? (fun p => p.1.sameKey (.string nm)) = (L.find? fun f => f.name == nm).map (entM V)
  | [] => rfl
  | f :: r => by
    rw [List.map_cons, List.find?_cons, List.find?_cons]
    show (match (f.name == nm) with | true => some (entM V f) | false => _) = _
    cases f.name == nm with
    | true => rfl
    | false => exact find_entM V nm r
theorem datM_at (V : List UInt8 → Value) {nm : List UInt8} {L : List Dk.Fl} (z : DataW Value) (h : Dk.has nm L = true) : (datM V L).atKey (.string nm) z = .held (flV (V nm) (Dk.get nm L).safe) := by
  unfold datM DataW.atKey
  simp only [find_entM]
  have h2 := (Dk.get_mem h).2
  unfold Dk.get at *
  cases hf : L.find? fun f => f.name == nm with
  | none =>
    obtain ⟨f, h3, h4⟩ := Dk.has_iff.1 h
    have := List.find?_eq_none.1 hf f h3
    simp [h4] at this
  | some f =>
    rw [hf] at h2
    simp only [Option.getD] at h2
    simp only [Option.map_some, entM, Option.getD, h2]
theorem datM_at_no (V : List UInt8 → Value) {nm : List UInt8} {L : List Dk.Fl} (z : DataW Value) (h : Dk.has nm L = false) : (datM V L).atKey (.string nm) z = z := by
  unfold datM DataW.atKey
  simp only [find_entM]
  rw [List.find?_eq_none.2 (fun f hf hx => by
    have : Dk.has nm L = true := Dk.has_iff.2 ⟨f, hf, by simpa using hx⟩
    rw [h] at this; cases this)]
  rfl
theorem datM_has (V : List UInt8 → Value) (nm : List UInt8) (L : List Dk.Fl) : Maps.has (datM V L) (.string nm) = Dk.has nm L := by
  show (L.map (entM V)).any (fun p => p.1.sameKey (.string nm)) = _
  rw [List.any_map]
  rfl
theorem datM_size (V : List UInt8 → Value) (L : List Dk.Fl) : Maps.size (datM V L) = L.length := by
  show (L.map (entM V)).length = _
  simp
theorem entM_filter (V : List UInt8 → Value) (nm : List UInt8) (L : List Dk.Fl) : (L.map (entM V)).filter (fun p => !p.1.sameKey (.string nm)) = (Dk.del nm L).map (entM V) := by
  unfold Dk.del
  rw [List.filter_map]
  rfl
theorem datM_del (V : List UInt8 → Value) (nm : List UInt8) (L : List Dk.Fl) : (datM V L).del (.string nm) = datM V (Dk.del nm L) := by
  show DataW.map ((L.map (entM V)).filter fun p => !p.1.sameKey (.string nm)) = _
  rw [entM_filter]
  rfl
theorem entM_ins (V : List UInt8 → Value) (f : Dk.Fl) : ∀ L : List Dk.Fl, DataW.insert (entM V f) (L.map (entM V)) = (Dk.ins f L).map (entM V)
  | [] => rfl
  | g :: r => by
    rw [List.map_cons]
    unfold DataW.insert Dk.ins
    have e : (entM V f).1.before (entM V g).1 = Op.bytesLess f.name g.name := Dk.before_less _ _
    rw [e]
    split
    · rfl
    · rw [entM_ins V f r]; rfl
theorem entM_up (V : List UInt8 → Value) (nm : List UInt8) (v : Value) {L : List Dk.Fl} (h : ∀ f ∈ L, f.name ≠ nm) : L.map (entM V) = L.map (entM (upV V nm v)) :=
  List.map_congr_left (fun f hf => by unfold entM; rw [upV_other V v (h f hf)])
theorem datM_put (V : List UInt8 → Value) (v : Value) (f : Dk.Fl) (L : List Dk.Fl) : (datM V L).put (.string f.name) (.held (flV v f.safe)) = datM (upV V f.name v) (Dk.put f L) := by
  show DataW.map (DataW.insert (.string f.name, .held (flV v f.safe)) ((L.map (entM V)).filter fun p => !p.1.sameKey (.string f.name))) = _
  rw [entM_filter, entM_up V f.name v (fun g hg => (Dk.mem_del.1 hg).2)]
  have e : ((.string f.name, .held (flV v f.safe)) : Lit × DataW Value) = entM (upV V f.name v) f := by unfold entM; rw [upV_same]
  rw [e, entM_ins]
  rfl

/-- Numbers that a Fail keeps. -/
def KsAt (B : Nat) (w : World) (ao : Option Addr) (cap : Nat) (ks : List Int) : Prop := ks ≠ [] → w.ownsRow B 3 1 (.slice ao ks.length cap) ks.length (ks.map (Value.int .i64))
/-- The closure that a Fail lays: its blocks. -/
structure Cs where
  n : Nat
  d : Nat
  k : Nat
  a : Option Addr
  c : Nat
def csV (c : Cs) : Value := .func (Fn.func 75) #[] #[.pointer (some ⟨c.n, 0, none⟩), .pointer (some ⟨c.d, 0, none⟩), .pointer (some ⟨c.k, 0, none⟩)]
def SetAt (B d : Nat) (sv : Value) (c : Cs) (w : World) : Option (Nat × List Int) → Prop
  | none => sv = .nilFunc
  | some (n, ks) => sv = csV c ∧ Bk #[.int .i64 n] 3 w c.n ∧ Bk #[.pointer (some ⟨d, 0, none⟩)] 24 w c.d ∧ Bk #[.slice c.a ks.length c.c] 32 w c.k ∧ KsAt B w c.a c.c ks ∧ (∀ a, ks ≠ [] → c.a = some a → a.block ≠ c.n)
/-- The blocks that a disk has. -/
def Ft (d mb : Nat) (V : List UInt8 → Value) (c : Cs) (D : Dk.St) (b : Nat) : Prop :=
  b = d ∨ b = mb ∨ (∃ f ∈ D.L, (V f.name).ownBlock = some b) ∨ (D.set ≠ none ∧ (b = c.n ∨ b = c.d ∨ b = c.k ∨ ∃ a p, D.set = some p ∧ p.2 ≠ [] ∧ c.a = some a ∧ b = a.block))
def dkC (D : Dk.St) (mb : Nat) (sv : Value) : Array Value := #[.int .i64 D.room, .int .i64 (Dk.size D.L), .map (some mb), .bool D.up, .int .i64 D.starts, sv]
structure DkIn (B d mb : Nat) (V : List UInt8 → Value) (sv : Value) (c : Cs) (D : Dk.St) (w : World) : Prop where
  box : Bk (dkC D mb sv) 43 w d
  map : w.ownsMap Try.prog 9 heldR mb D.L.length (datM V D.L)
  row : ∀ f ∈ D.L, w.ownsRow B 5 1 (V f.name) f.dat.length (bts f.dat)
  ap : ∀ f ∈ D.L, ∀ g ∈ D.L, f.name ≠ g.name → ∀ q, (V f.name).ownBlock = some q → (V g.name).ownBlock ≠ some q
  set : SetAt B d sv c w D.set
/-- A disk that has no blocks but those of F. -/
def DkAt (B : Nat) (F : Nat → Prop) (d : Nat) (D : Dk.St) (w : World) : Prop :=
  Dk.Ok D ∧ ∃ mb V sv c, DkIn B d mb V sv c D w ∧ (∀ b, Ft d mb V c D b → F b) ∧ (∀ b, F b → B ≤ b ∧ b < w.heap.size)
/-- The blocks of F, and new ones. -/
def gr (F : Nat → Prop) (w w' : World) (b : Nat) : Prop := F b ∨ (w.heap.size ≤ b ∧ b < w'.heap.size)
section
variable {B d mb : Nat} {V : List UInt8 → Value} {sv : Value} {c : Cs} {D : Dk.St} {w w' : World} {A F : Nat → Prop}
theorem KsAt.wr {ao : Option Addr} {cap : Nat} {ks : List Int} (h : KsAt B w ao cap ks) (hw : Wr A w w') (hA : ∀ a, ks ≠ [] → ao = some a → ¬ A a.block) : KsAt B w' ao cap ks := fun hn =>
  row_wr (h hn) hw (fun q hq => by
    cases ao with
    | none => cases hq
    | some a =>
      simp only [Value.ownBlock, Option.some.injEq] at hq
      subst hq
      exact hA a hn rfl)
theorem DkIn.wr (h : DkIn B d mb V sv c D w) (hw : Wr A w w') (hA : ∀ b, Ft d mb V c D b → ¬ A b) : DkIn B d mb V sv c D w' := by
  refine ⟨h.box.wr hw (hA _ (.inl rfl)), map_wr h.map hw (hA _ (.inr (.inl rfl))), fun f hf => row_wr (h.row f hf) hw (fun q hq => hA _ (.inr (.inr (.inl ⟨f, hf, hq⟩)))), h.ap, ?_⟩
  have hs := h.set
  unfold Ft at hA
  generalize D.set = o at *
  cases o with
  | none => exact hs
  | some p =>
    obtain ⟨n, ks⟩ := p
    obtain ⟨h1, h2, h3, h4, h5, h6⟩ := hs
    have hN : (some (n, ks) : Option (Nat × List Int)) ≠ none := by simp
    exact ⟨h1, h2.wr hw (hA _ (.inr (.inr (.inr ⟨hN, .inl rfl⟩)))), h3.wr hw (hA _ (.inr (.inr (.inr ⟨hN, .inr (.inl rfl)⟩)))), h4.wr hw (hA _ (.inr (.inr (.inr ⟨hN, .inr (.inr (.inl rfl))⟩)))), h5.wr hw (fun a hn ha => hA _ (.inr (.inr (.inr ⟨hN, .inr (.inr (.inr ⟨a, _, rfl, hn, ha, rfl⟩))⟩)))), h6⟩
theorem DkAt.wr (h : DkAt B F d D w) (hw : Wr A w w') (hA : ∀ b, F b → ¬ A b) : DkAt B F d D w' := by
  obtain ⟨h0, mb, V, sv, c, h1, h2, h3⟩ := h
  exact ⟨h0, mb, V, sv, c, h1.wr hw (fun b hb => hA b (h2 b hb)), h2, fun b hb => ⟨(h3 b hb).1, Nat.lt_of_lt_of_le (h3 b hb).2 hw.size⟩⟩
theorem DkAt.below (h : DkAt B F d D w) (hb : Below w.heap.size w w') : DkAt B F d D w' := h.wr (A := fun _ => False) (wr_below hb) (fun _ _ q => q)
theorem DkAt.lt (h : DkAt B F d D w) : d < w.heap.size := by
  obtain ⟨h0, mb, V, sv, c, h1, h2, h3⟩ := h
  exact h1.box.lt
theorem DkAt.mono {F' : Nat → Prop} (h : DkAt B F d D w) (hF : ∀ b, F b → F' b) (hB : ∀ b, F' b → B ≤ b ∧ b < w.heap.size) : DkAt B F' d D w := by
  obtain ⟨h0, mb, V, sv, c, h1, h2, h3⟩ := h
  exact ⟨h0, mb, V, sv, c, h1, fun b hb => hF b (h2 b hb), hB⟩
theorem DkAt.gr (h : DkAt B F d D w) (hs : w.heap.size ≤ w'.heap.size) (hB : B ≤ w.heap.size) : ∀ b, gr F w w' b → B ≤ b ∧ b < w'.heap.size := by
  obtain ⟨h0, mb, V, sv, c, h1, h2, h3⟩ := h
  rintro b (hb | hb)
  · have := h3 b hb; omega
  · omega
end

end Go.Proofs.Ytekmnpmeienhhaa
