/- Plain mathematics of layer 5: files by names, and what is done with them. -/
import Derived.Test.YtekmnpmeienhhaaWr
namespace Go.Proofs.Ytekmnpmeienhhaa
set_option linter.unusedVariables false
open Go Go.RowKit

namespace Dk
/-- A file: its name, its bytes, how many of them are safe. -/
structure Fl where
  name : List UInt8
  dat : List UInt8
  safe : Nat
def fl0 : Fl := ⟨[], [], 0⟩
/-- A disk: its room, how often it was started, whether it is running; a Fail: how many changes, what is kept; its files, by names. -/
structure St where
  room : Nat
  starts : Nat
  up : Bool
  set : Option (Nat × List Int)
  L : List Fl
def has (nm : List UInt8) (L : List Fl) : Bool := L.any fun f => f.name == nm
def get (nm : List UInt8) (L : List Fl) : Fl := (L.find? fun f => f.name == nm).getD fl0
def del (nm : List UInt8) (L : List Fl) : List Fl := L.filter fun f => !(f.name == nm)
def ins (f : Fl) : List Fl → List Fl
  | [] => [f]
  | g :: r => if Op.bytesLess f.name g.name then f :: g :: r else g :: ins f r
def put (f : Fl) (L : List Fl) : List Fl := ins f (del f.name L)
def size : List Fl → Nat
  | [] => 0
  | f :: r => f.dat.length + size r
def named (nm : List UInt8) : Bool := decide (1 ≤ nm.length) && decide (nm.length ≤ 16)
/-- What a crash leaves. -/
def left (f : Fl) (k : Int) : Fl := ⟨f.name, f.dat.take (f.safe + min k.toNat (f.dat.length - f.safe)), f.safe + min k.toNat (f.dat.length - f.safe)⟩
def cut : List Int → List Fl → List Fl
  | _, [] => []
  | [], f :: r => left f 0 :: cut [] r
  | k :: ks, f :: r => left f k :: cut ks r
def fall (ks : List Int) (D : St) : St := { D with up := false, set := none, L := cut ks D.L }
/-- A change: whether the disk crashes with it, and what it is then. -/
def struck (D : St) : Bool × St :=
  match D.set with
  | none => (false, D)
  | some (0, ks) => (true, fall ks D)
  | some (n + 1, ks) => (false, { D with set := some (n, ks) })
def append (nm s : List UInt8) (D : St) : Int × St :=
  if D.up = false then (51, D)
  else if named nm = false then (2, D)
  else if (has nm D.L = false ∧ D.L.length = 1024) ∨ D.room < size D.L + s.length then (50, D)
  else
    let r := struck { D with L := put ⟨nm, (get nm D.L).dat ++ s, (get nm D.L).safe⟩ D.L }
    (if r.1 then 51 else 0, r.2)
def sync (nm : List UInt8) (D : St) : Int × St :=
  if D.up = false then (51, D)
  else if has nm D.L = false then (4, D)
  else
    let r := struck D
    if r.1 then (51, r.2) else (0, { r.2 with L := put ⟨nm, (get nm D.L).dat, (get nm D.L).dat.length⟩ D.L })
def ren (a b : List UInt8) (L : List Fl) : List Fl := if a = b then L else put ⟨b, (get a L).dat, (get a L).safe⟩ (del a L)
def rename (a b : List UInt8) (D : St) : Int × St :=
  if D.up = false then (51, D)
  else if has a D.L = false then (4, D)
  else if named b = false then (2, D)
  else
    let r := struck D
    if r.1 then (51, r.2) else (0, { r.2 with L := ren a b D.L })
def remove (nm : List UInt8) (D : St) : Int × St :=
  if D.up = false then (51, D)
  else if has nm D.L = false then (4, D)
  else
    let r := struck D
    if r.1 then (51, r.2) else (0, { r.2 with L := del nm D.L })
def crash (ks : List Int) (D : St) : Int × St := if D.up = false then (51, D) else (0, fall ks D)
def fail (n : Int) (ks : List Int) (D : St) : Int × St := if D.up = false then (51, D) else if n < 0 then (2, D) else (0, { D with set := some (n.toNat, ks) })
def start (D : St) : Int × St := if D.up then (2, D) else (0, { D with up := true, starts := D.starts + 1 })
def read (nm : List UInt8) (D : St) : Int × List UInt8 := if D.up = false then (51, []) else if has nm D.L = false then (4, []) else (0, (get nm D.L).dat)
def new (room : Nat) : St := ⟨room, 0, true, none, []⟩
def names (L : List Fl) : List (List UInt8) := L.map (·.name)
def unsynced (L : List Fl) : List Int := L.map fun f => (f.dat.length : Int) - f.safe

/-- By names, which may be; safe bytes are bytes. -/
structure OkL (L : List Fl) : Prop where
  up : L.Pairwise fun f g => Op.bytesLess f.name g.name = true
  named : ∀ f ∈ L, named f.name = true
  safe : ∀ f ∈ L, f.safe ≤ f.dat.length
/-- Numbers that a Fail, or a crash, may be handed. -/
structure KsOk (ks : List Int) : Prop where
  len : ks.length ≤ 1000000
  at_ : ∀ x ∈ ks, -9223372036854775808 ≤ x ∧ x ≤ 9223372036854775807
structure Ok (D : St) : Prop where
  l : OkL D.L
  few : D.L.length ≤ 1024
  room : size D.L ≤ D.room
  most : D.room ≤ 1048576
  n : ∀ p, D.set = some p → (p.1 : Int) ≤ 9223372036854775807
  dn : D.up = false → D.set = none
  k : ∀ p, D.set = some p → KsOk p.2

theorem less_irr5 : ∀ (a : List UInt8), Op.bytesLess a a = false
  | [] => rfl
  | x :: a => by simp [Op.bytesLess, less_irr5 a, UInt8.lt_irrefl]
theorem less_trans5 : ∀ (a b c : List UInt8), Op.bytesLess a b = true → Op.bytesLess b c = true → Op.bytesLess a c = true
  | _, [], _, h, _ => by cases ‹List UInt8› <;> simp [Op.bytesLess] at h
  | _, _ :: _, [], _, h => by simp [Op.bytesLess] at h
  | [], _ :: _, _ :: _, _, _ => rfl
  | x :: a, y :: b, z :: c, h, k => by
    simp only [Op.bytesLess, Bool.or_eq_true, Bool.and_eq_true, decide_eq_true_eq, beq_iff_eq] at *
    rcases h with h | ⟨rfl, h⟩
    · rcases k with k | ⟨rfl, k⟩
      · exact Or.inl (UInt8.lt_trans h k)
      · exact Or.inl h
    · rcases k with k | ⟨rfl, k⟩
      · exact Or.inl k
      · exact Or.inr ⟨rfl, less_trans5 a b c h k⟩
theorem less_flip5 : ∀ (a b : List UInt8), a ≠ b → Op.bytesLess b a = !Op.bytesLess a b
  | [], [], h => absurd rfl h
  | [], _ :: _, _ => rfl
  | _ :: _, [], _ => rfl
  | x :: a, y :: b, h => by
    by_cases e : x = y
    · subst e
      simp only [Op.bytesLess, UInt8.lt_irrefl, decide_false, Bool.false_or, beq_self_eq_true, Bool.true_and]
      exact less_flip5 a b (fun e => h (by rw [e]))
    · have e1 : (x == y) = false := by simpa using e
      have e2 : (y == x) = false := by simpa using fun h => e h.symm
      simp only [Op.bytesLess, e1, e2, Bool.false_and, Bool.or_false]
      by_cases h1 : x < y
      · have h2 : ¬ y < x := fun h2 => UInt8.lt_irrefl _ (UInt8.lt_trans h1 h2)
        simp [h1, h2]
      · have h2 : y < x := UInt8.lt_of_le_of_ne (UInt8.not_lt.1 h1) (fun h => e h.symm)
        simp [h1, h2]
theorem before_less : ∀ (a b : List UInt8), bytesBefore a b = Op.bytesLess a b
  | [], [] => rfl
  | [], _ :: _ => rfl
  | _ :: _, [] => rfl
  | x :: a, y :: b => by simp only [bytesBefore, Op.bytesLess, before_less a b]

/-! Lists of files. -/
theorem mem_ins {f g : Fl} : ∀ {L : List Fl}, g ∈ ins f L ↔ g = f ∨ g ∈ L
  | [] => by simp [ins]
  | x :: r => by
    unfold ins
    split
    · simp
    · simp only [List.mem_cons, mem_ins (L := r)]
      constructor
      · rintro (h | h | h)
        · exact .inr (.inl h)
        · exact .inl h
        · exact .inr (.inr h)
      · rintro (h | h | h)
        · exact .inr (.inl h)
        · exact .inl h
        · exact .inr (.inr h)
theorem mem_del {nm : List UInt8} {g : Fl} {L : List Fl} : g ∈ del nm L ↔ g ∈ L ∧ g.name ≠ nm := by
  unfold del
  rw [List.mem_filter]
  simp
theorem mem_put {f g : Fl} {L : List Fl} : g ∈ put f L ↔ g = f ∨ (g ∈ L ∧ g.name ≠ f.name) := by
  unfold put
  rw [mem_ins, mem_del]
theorem has_iff {nm : List UInt8} {L : List Fl} : has nm L = true ↔ ∃ f ∈ L, f.name = nm := by
  unfold has
  rw [List.any_eq_true]
  constructor
  · rintro ⟨f, h1, h2⟩
    exact ⟨f, h1, by simpa using h2⟩
  · rintro ⟨f, h1, h2⟩
    exact ⟨f, h1, by simpa using h2⟩
theorem get_mem {nm : List UInt8} {L : List Fl} (h : has nm L = true) : get nm L ∈ L ∧ (get nm L).name = nm := by
  unfold get
  cases hf : L.find? fun f => f.name == nm with
  | none =>
    obtain ⟨f, h1, h2⟩ := has_iff.1 h
    have := List.find?_eq_none.1 hf f h1
    simp [h2] at this
  | some f =>
    have h1 := List.mem_of_find?_eq_some hf
    have h2 := List.find?_some hf
    exact ⟨h1, by simpa using h2⟩
theorem get_none {nm : List UInt8} {L : List Fl} (h : has nm L = false) : get nm L = fl0 := by
  unfold get
  rw [List.find?_eq_none.2 (fun f hf hx => by
    have : has nm L = true := has_iff.2 ⟨f, hf, by simpa using hx⟩
    rw [h] at this; cases this)]
  rfl
theorem up_ne {L : List Fl} (h : L.Pairwise fun f g => Op.bytesLess f.name g.name = true) : L.Pairwise fun f g => f.name ≠ g.name :=
  h.imp (fun {a b} h e => by rw [e, less_irr5] at h; cases h)
theorem up_ins {f : Fl} : ∀ {L : List Fl}, L.Pairwise (fun f g => Op.bytesLess f.name g.name = true) → (∀ g ∈ L, g.name ≠ f.name) → (ins f L).Pairwise (fun f g => Op.bytesLess f.name g.name = true)
  | [], _, _ => by simp [ins]
  | x :: r, h, hn => by
    obtain ⟨h1, h2⟩ := List.pairwise_cons.1 h
    unfold ins
    split
    · rename_i hb
      refine List.pairwise_cons.2 ⟨fun q hq => ?_, h⟩
      rcases List.mem_cons.1 hq with rfl | hq
      · exact hb
      · exact less_trans5 _ _ _ hb (h1 q hq)
    · rename_i hb
      refine List.pairwise_cons.2 ⟨fun q hq => ?_, up_ins h2 (fun g hg => hn g (by simp [hg]))⟩
      rcases mem_ins.1 hq with rfl | hq
      · have := less_flip5 x.name q.name (hn x (by simp))
        cases hx : Op.bytesLess x.name q.name with
        | true => rfl
        | false => rw [hx] at this; exact absurd this hb
      · exact h1 q hq
theorem size_ins (f : Fl) : ∀ L : List Fl, size (ins f L) = f.dat.length + size L
  | [] => by simp [ins, size]
  | x :: r => by
    unfold ins
    split
    · rfl
    · simp only [size, size_ins f r]; omega
theorem len_ins (f : Fl) : ∀ L : List Fl, (ins f L).length = L.length + 1
  | [] => by simp [ins]
  | x :: r => by
    unfold ins
    split
    · rfl
    · simp [len_ins f r]
theorem del_none {nm : List UInt8} {L : List Fl} (h : has nm L = false) : del nm L = L := by
  unfold del
  refine List.filter_eq_self.2 (fun f hf => ?_)
  cases hx : (f.name == nm) with
  | false => rfl
  | true =>
    have : has nm L = true := has_iff.2 ⟨f, hf, by simpa using hx⟩
    rw [h] at this; cases this
theorem size_del {nm : List UInt8} : ∀ {L : List Fl}, L.Pairwise (fun f g => f.name ≠ g.name) → size (del nm L) + (get nm L).dat.length = size L
  | [], _ => rfl
  | x :: r, h => by
    obtain ⟨h1, h2⟩ := List.pairwise_cons.1 h
    have ih := size_del (nm := nm) h2
    by_cases e : x.name = nm
    · have e1 : (x.name == nm) = true := by simpa using e
      have hr : has nm r = false := by
        cases hh : has nm r with
        | false => rfl
        | true =>
          obtain ⟨f, hf, hfe⟩ := has_iff.1 hh
          exact absurd (e.trans hfe.symm) (h1 f hf)
      have hg : get nm (x :: r) = x := by simp [get, e1]
      have hd : del nm (x :: r) = r := by
        have := del_none hr
        unfold del at *
        simp only [List.filter_cons, e1, Bool.not_true, Bool.false_eq_true, if_false]
        exact this
      rw [hg, hd]; simp only [size]; omega
    · have e1 : (x.name == nm) = false := by simpa using e
      have hg : get nm (x :: r) = get nm r := by simp [get, e1]
      have hd : del nm (x :: r) = x :: del nm r := by simp [del, e1]
      rw [hg, hd]; simp only [size]; omega
theorem len_del {nm : List UInt8} : ∀ {L : List Fl}, L.Pairwise (fun f g => f.name ≠ g.name) → (del nm L).length + (if has nm L then 1 else 0) = L.length
  | [], _ => rfl
  | x :: r, h => by
    obtain ⟨h1, h2⟩ := List.pairwise_cons.1 h
    have ih := len_del (nm := nm) h2
    by_cases e : x.name = nm
    · have e1 : (x.name == nm) = true := by simpa using e
      have hr : has nm r = false := by
        cases hh : has nm r with
        | false => rfl
        | true =>
          obtain ⟨f, hf, hfe⟩ := has_iff.1 hh
          exact absurd (e.trans hfe.symm) (h1 f hf)
      have hd : del nm (x :: r) = r := by
        have := del_none hr
        unfold del at *
        simp only [List.filter_cons, e1, Bool.not_true, Bool.false_eq_true, if_false]
        exact this
      have hh : has nm (x :: r) = true := by simp [has, e1]
      rw [hd, hh]; simp
    · have e1 : (x.name == nm) = false := by simpa using e
      have hd : del nm (x :: r) = x :: del nm r := by simp [del, e1]
      have hh : has nm (x :: r) = has nm r := by simp [has, e1]
      rw [hd, hh]; simp only [List.length_cons]; omega
theorem has_put {nm : List UInt8} {f : Fl} {L : List Fl} : has nm (put f L) = (decide (f.name = nm) || has nm L) := by
  rw [Bool.eq_iff_iff]
  simp only [has_iff, Bool.or_eq_true, decide_eq_true_eq]
  constructor
  · rintro ⟨g, hg, e⟩
    rcases mem_put.1 hg with rfl | ⟨hg, _⟩
    · exact .inl e
    · exact .inr ⟨g, hg, e⟩
  · rintro (h | ⟨g, hg, e⟩)
    · exact ⟨f, mem_put.2 (.inl rfl), h⟩
    · by_cases q : g.name = f.name
      · exact ⟨f, mem_put.2 (.inl rfl), q.symm.trans e⟩
      · exact ⟨g, mem_put.2 (.inr ⟨hg, q⟩), e⟩
theorem has_del {nm x : List UInt8} {L : List Fl} : has nm (del x L) = (!decide (nm = x) && has nm L) := by
  rw [Bool.eq_iff_iff]
  simp only [has_iff, Bool.and_eq_true, Bool.not_eq_true', decide_eq_false_iff_not]
  constructor
  · rintro ⟨g, hg, e⟩
    obtain ⟨h1, h2⟩ := mem_del.1 hg
    exact ⟨fun q => h2 (e.trans q), g, h1, e⟩
  · rintro ⟨h, g, hg, e⟩
    exact ⟨g, mem_del.2 ⟨hg, fun q => h (e.symm.trans q)⟩, e⟩
/-- Of one name there is one file. -/
theorem one {L : List Fl} (h : L.Pairwise fun f g => f.name ≠ g.name) {f g : Fl} (hf : f ∈ L) (hg : g ∈ L) (e : f.name = g.name) : f = g := by
  induction L with
  | nil => cases hf
  | cons x r ih =>
    obtain ⟨h1, h2⟩ := List.pairwise_cons.1 h
    rcases List.mem_cons.1 hf with e1 | hf
    · rcases List.mem_cons.1 hg with e2 | hg
      · exact e1.trans e2.symm
      · exact absurd (e1 ▸ e) (h1 g hg)
    · rcases List.mem_cons.1 hg with e2 | hg
      · exact absurd (e2 ▸ e).symm (h1 f hf)
      · exact ih h2 hf hg
theorem get_of {L : List Fl} (h : L.Pairwise fun f g => f.name ≠ g.name) {f : Fl} (hf : f ∈ L) : get f.name L = f := by
  obtain ⟨h1, h2⟩ := get_mem (has_iff.2 ⟨f, hf, rfl⟩)
  exact one h h1 hf h2

theorem OkL.ne {L : List Fl} (h : OkL L) : L.Pairwise fun f g => f.name ≠ g.name := up_ne h.up
theorem OkL.del {L : List Fl} (h : OkL L) (nm : List UInt8) : OkL (Dk.del nm L) :=
  ⟨h.up.filter _, fun f hf => h.named f (mem_del.1 hf).1, fun f hf => h.safe f (mem_del.1 hf).1⟩
theorem OkL.put {L : List Fl} (h : OkL L) {f : Fl} (hn : Dk.named f.name = true) (hs : f.safe ≤ f.dat.length) : OkL (Dk.put f L) := by
  refine ⟨up_ins (h.up.filter _) (fun g hg => (mem_del.1 hg).2), fun g hg => ?_, fun g hg => ?_⟩
  · rcases mem_put.1 hg with rfl | ⟨hg, _⟩
    · exact hn
    · exact h.named g hg
  · rcases mem_put.1 hg with rfl | ⟨hg, _⟩
    · exact hs
    · exact h.safe g hg
theorem get_put {nm : List UInt8} {f : Fl} {L : List Fl} (h : OkL (put f L)) : get nm (put f L) = if f.name = nm then f else get nm L := by
  by_cases e : f.name = nm
  · subst e
    rw [if_pos rfl]
    exact get_of h.ne (mem_put.2 (.inl rfl))
  · rw [if_neg e]
    cases hh : has nm L with
    | false =>
      rw [get_none hh, get_none]
      rw [has_put, hh]; simp [e]
    | true =>
      obtain ⟨h1, h2⟩ := get_mem hh
      have h3 : get nm L ∈ put f L := mem_put.2 (.inr ⟨h1, fun q => e (q.symm.trans h2)⟩)
      have := get_of h.ne h3
      rw [h2] at this
      exact this
theorem get_safe {L : List Fl} (h : OkL L) (nm : List UInt8) : (get nm L).safe ≤ (get nm L).dat.length := by
  cases hh : has nm L with
  | false => rw [get_none hh]; exact Nat.le_refl _
  | true => exact h.safe _ (get_mem hh).1
theorem get_size {L : List Fl} (h : OkL L) (nm : List UInt8) : (get nm L).dat.length ≤ size L := by have := size_del (nm := nm) h.ne; omega
theorem mem_size {L : List Fl} (h : OkL L) {f : Fl} (hf : f ∈ L) : f.dat.length ≤ size L := by have := get_size h f.name; rw [get_of h.ne hf] at this; exact this
theorem size_put {L : List Fl} (h : OkL L) (f : Fl) : size (put f L) + (get f.name L).dat.length = size L + f.dat.length := by
  unfold put
  have := size_del (nm := f.name) h.ne
  rw [size_ins]; omega
theorem len_put {L : List Fl} (h : OkL L) (f : Fl) : (put f L).length + (if has f.name L then 1 else 0) = L.length + 1 := by
  unfold put
  have := len_del (nm := f.name) h.ne
  rw [len_ins]; omega

/-! What a crash leaves. -/
theorem left_name (f : Fl) (k : Int) : (left f k).name = f.name := rfl
theorem cut_len : ∀ (ks : List Int) (L : List Fl), (cut ks L).length = L.length
  | _, [] => by simp [cut]
  | [], f :: r => by simp [cut, cut_len [] r]
  | k :: ks, f :: r => by simp [cut, cut_len ks r]
theorem cut_names : ∀ (ks : List Int) (L : List Fl), names (cut ks L) = names L
  | _, [] => by simp [cut]
  | [], f :: r => by
    have := cut_names [] r
    unfold names at *
    simp [cut, left, this]
  | k :: ks, f :: r => by
    have := cut_names ks r
    unfold names at *
    simp [cut, left, this]
theorem cut_at : ∀ (ks : List Int) (L : List Fl) (i : Nat), i < L.length → (cut ks L).getD i fl0 = left (L.getD i fl0) (ks.getD i 0)
  | _, [], i, h => by simp at h
  | [], f :: r, 0, h => by simp [cut]
  | [], f :: r, i + 1, h => by
    have := cut_at [] r i (by simpa using h)
    simpa [cut] using this
  | k :: ks, f :: r, 0, h => by simp [cut]
  | k :: ks, f :: r, i + 1, h => by
    have := cut_at ks r i (by simpa using h)
    simpa [cut] using this
theorem left_dat (f : Fl) (k : Int) (h : f.safe ≤ f.dat.length) : (left f k).dat.length = (left f k).safe := by
  unfold left
  simp only [List.length_take]
  omega
theorem left_le (f : Fl) (k : Int) (h : f.safe ≤ f.dat.length) : f.safe ≤ (left f k).safe ∧ (left f k).safe ≤ f.dat.length := by
  unfold left
  simp only
  omega
theorem size_cut : ∀ (ks : List Int) {L : List Fl}, (∀ f ∈ L, f.safe ≤ f.dat.length) → size (cut ks L) ≤ size L
  | _, [], _ => by simp [cut]
  | [], f :: r, h => by
    have := size_cut [] (fun g hg => h g (by simp [hg]) : ∀ g ∈ r, _)
    have h1 := left_dat f 0 (h f (by simp))
    have h2 := left_le f 0 (h f (by simp))
    simp only [cut, size]; omega
  | k :: ks, f :: r, h => by
    have := size_cut ks (fun g hg => h g (by simp [hg]) : ∀ g ∈ r, _)
    have h1 := left_dat f k (h f (by simp))
    have h2 := left_le f k (h f (by simp))
    simp only [cut, size]; omega
theorem mem_cut : ∀ {ks : List Int} {L : List Fl} {g : Fl}, g ∈ cut ks L → ∃ f ∈ L, ∃ k, g = left f k
  | _, [], g, h => by simp [cut] at h
  | [], f :: r, g, h => by
    simp only [cut, List.mem_cons] at h
    rcases h with rfl | h
    · exact ⟨f, by simp, 0, rfl⟩
    · obtain ⟨f', h1, k, h2⟩ := mem_cut h
      exact ⟨f', by simp [h1], k, h2⟩
  | k :: ks, f :: r, g, h => by
    simp only [cut, List.mem_cons] at h
    rcases h with rfl | h
    · exact ⟨f, by simp, k, rfl⟩
    · obtain ⟨f', h1, k, h2⟩ := mem_cut h
      exact ⟨f', by simp [h1], k, h2⟩
theorem pair_names {L L' : List Fl} (h : names L = names L') (hp : L.Pairwise fun f g => Op.bytesLess f.name g.name = true) : L'.Pairwise fun f g => Op.bytesLess f.name g.name = true := by
  have h1 : (names L).Pairwise (fun a b => Op.bytesLess a b = true) := List.pairwise_map.2 hp
  rw [h] at h1
  exact List.pairwise_map.1 h1
theorem OkL.cut {L : List Fl} (h : OkL L) (ks : List Int) : OkL (Dk.cut ks L) := by
  refine ⟨pair_names (cut_names ks L).symm h.up, fun g hg => ?_, fun g hg => ?_⟩
  · obtain ⟨f, hf, k, rfl⟩ := mem_cut hg
    exact h.named f hf
  · obtain ⟨f, hf, k, rfl⟩ := mem_cut hg
    rw [left_dat f k (h.safe f hf)]
    exact Nat.le_refl _
end Dk

end Go.Proofs.Ytekmnpmeienhhaa
