import Derived.Test.YtmammmjmipgmoaaGreatDoorZF
import Derived.Test.YtmammmjmipgmoaaGreatDoorChecked
import Derived.Test.YtmammmjmipgmoaaGreatDoorIter
import Derived.Deep.Cut
import Derived.Deep.QuietTactic
import Derived.BigQuiet
import Derived.Test.YtmammmjmipgmoaaGreatDoorZT
import Derived.Laws.EntriesVeiled
import Derived.Test.YtmammmjmipgmoaaGreatDoorZQh
set_option linter.unusedVariables false
set_option maxRecDepth 100000
set_option maxHeartbeats 16000000
namespace Go.Proofs.YtmammmjmipgmoaaGreatDoor
section
open Go Go.RowKit
namespace Dk
structure Fl where
 name : List UInt8
 dat : List UInt8
 safe : Nat
def fl0 : Fl := ⟨[], [], 0⟩
structure St where
 room : Nat
 starts : Nat
 up : Bool
 set : Option (Nat × List Int)
 L : List Fl
def has (nm : List UInt8) (L : List Fl) : Bool := L.any fun f => f.name == nm
def get (nm : List UInt8) (L : List Fl) : Fl := (L.find? fun f => f.name == nm).getD fl0
def del (nm : List UInt8) (L : List Fl) : List Fl := L.filter fun f => !(f.name == nm)
def ins (f : Fl) : List Fl → List Fl
 | [] => [f]
 | g :: r => if Op.bytesLess f.name g.name then f :: g :: r else g :: ins f r
def put (f : Fl) (L : List Fl) : List Fl := ins f (del f.name L)
def size : List Fl → Nat
 | [] => 0
 | f :: r => f.dat.length + size r
def named (nm : List UInt8) : Bool := decide (1 ≤ nm.length) && decide (nm.length ≤ 16)
def left (f : Fl) (k : Int) : Fl := ⟨f.name, f.dat.take (f.safe + min k.toNat (f.dat.length - f.safe)), f.safe + min k.toNat (f.dat.length - f.safe)⟩
def cut : List Int → List Fl → List Fl
 | _, [] => []
 | [], f :: r => left f 0 :: cut [] r
 | k :: ks, f :: r => left f k :: cut ks r
def fall (ks : List Int) (D : St) : St := { D with up := false, set := none, L := cut ks D.L }
def struck (D : St) : Bool × St :=
 match D.set with
 | none => (false, D)
 | some (0, ks) => (true, fall ks D)
 | some (n + 1, ks) => (false, { D with set := some (n, ks) })
def append (nm s : List UInt8) (D : St) : Int × St :=
 if D.up = false then (51, D)
 else if named nm = false then (2, D)
 else if (has nm D.L = false ∧ D.L.length = 1024) ∨ D.room < size D.L + s.length then (50, D)
 else
  let r := struck { D with L := put ⟨nm, (get nm D.L).dat ++ s, (get nm D.L).safe⟩ D.L }
  (if r.1 then 51 else 0, r.2)
def sync (nm : List UInt8) (D : St) : Int × St :=
 if D.up = false then (51, D)
 else if has nm D.L = false then (4, D)
 else
  let r := struck D
  if r.1 then (51, r.2) else (0, { r.2 with L := put ⟨nm, (get nm D.L).dat, (get nm D.L).dat.length⟩ D.L })
def ren (a b : List UInt8) (L : List Fl) : List Fl := if a = b then L else put ⟨b, (get a L).dat, (get a L).safe⟩ (del a L)
def rename (a b : List UInt8) (D : St) : Int × St :=
 if D.up = false then (51, D)
 else if has a D.L = false then (4, D)
 else if named b = false then (2, D)
 else
  let r := struck D
  if r.1 then (51, r.2) else (0, { r.2 with L := ren a b D.L })
def remove (nm : List UInt8) (D : St) : Int × St :=
 if D.up = false then (51, D)
 else if has nm D.L = false then (4, D)
 else
  let r := struck D
  if r.1 then (51, r.2) else (0, { r.2 with L := del nm D.L })
def crash (ks : List Int) (D : St) : Int × St := if D.up = false then (51, D) else (0, fall ks D)
def fail (n : Int) (ks : List Int) (D : St) : Int × St := if D.up = false then (51, D) else if n < 0 then (2, D) else (0, { D with set := some (n.toNat, ks) })
def start (D : St) : Int × St := if D.up then (2, D) else (0, { D with up := true, starts := D.starts + 1 })
def read (nm : List UInt8) (D : St) : Int × List UInt8 := if D.up = false then (51, []) else if has nm D.L = false then (4, []) else (0, (get nm D.L).dat)
def new (room : Nat) : St := ⟨room, 0, true, none, []⟩
def names (L : List Fl) : List (List UInt8) := L.map (·.name)
def unsynced (L : List Fl) : List Int := L.map fun f => (f.dat.length : Int) - f.safe
structure OkL (L : List Fl) : Prop where
 up : L.Pairwise fun f g => Op.bytesLess f.name g.name = true
 named : ∀ f ∈ L, named f.name = true
 safe : ∀ f ∈ L, f.safe ≤ f.dat.length
structure KsOk (ks : List Int) : Prop where
 len : ks.length ≤ 1000000
 at_ : ∀ x ∈ ks, -9223372036854775808 ≤ x ∧ x ≤ 9223372036854775807
structure Ok (D : St) : Prop where
 l : OkL D.L
 few : D.L.length ≤ 1024
 room : size D.L ≤ D.room
 most : D.room ≤ 1048576
 n : ∀ p, D.set = some p → (p.1 : Int) ≤ 9223372036854775807
 dn : D.up = false → D.set = none
 k : ∀ p, D.set = some p → KsOk p.2
theorem less_irr5 : ∀ (a : List UInt8), Op.bytesLess a a = false
 | [] => rfl
 | x :: a => by simp [Op.bytesLess, less_irr5 a, UInt8.lt_irrefl]
theorem less_trans5 : ∀ (a b c : List UInt8), Op.bytesLess a b = true → Op.bytesLess b c = true → Op.bytesLess a c = true
 | _, [], _, h, _ => by cases ‹List UInt8› <;> simp [Op.bytesLess] at h
 | _, _ :: _, [], _, h => by simp [Op.bytesLess] at h
 | [], _ :: _, _ :: _, _, _ => rfl
 | x :: a, y :: b, z :: c, h, k => by
  simp only [Op.bytesLess, Bool.or_eq_true, Bool.and_eq_true, decide_eq_true_eq, beq_iff_eq] at *;rcases h with h | ⟨rfl, h⟩
  ·rcases k with k | ⟨rfl, k⟩
   ·exact Or.inl (UInt8.lt_trans h k)
   ·exact Or.inl h
  ·rcases k with k | ⟨rfl, k⟩
   ·exact Or.inl k
   ·exact Or.inr ⟨rfl, less_trans5 a b c h k⟩
theorem less_flip5 : ∀ (a b : List UInt8), a ≠ b → Op.bytesLess b a = !Op.bytesLess a b
 | [], [], h => absurd rfl h
 | [], _ :: _, _ => rfl
 | _ :: _, [], _ => rfl
 | x :: a, y :: b, h => by
  by_cases e : x = y
  ·subst e
   simp only [Op.bytesLess, UInt8.lt_irrefl, decide_false, Bool.false_or, beq_self_eq_true, Bool.true_and];exact less_flip5 a b (fun e => h (by rw [e]))
  ·have e1 : (x == y) = false := by simpa using e
   have e2 : (y == x) = false := by simpa using fun h => e h.symm
   simp only [Op.bytesLess, e1, e2, Bool.false_and, Bool.or_false];by_cases h1 : x < y
   ·have h2 : ¬ y < x := fun h2 => UInt8.lt_irrefl _ (UInt8.lt_trans h1 h2)
    simp [h1, h2]
   ·have h2 : y < x := UInt8.lt_of_le_of_ne (UInt8.not_lt.1 h1) (fun h => e h.symm)
    simp [h1, h2]
theorem before_less : ∀ (a b : List UInt8), bytesBefore a b = Op.bytesLess a b
 | [], [] => rfl
 | [], _ :: _ => rfl
 | _ :: _, [] => rfl
 | x :: a, y :: b => by simp only [bytesBefore, Op.bytesLess, before_less a b]
theorem mem_ins {f g : Fl} : ∀ {L : List Fl}, g ∈ ins f L ↔ g = f ∨ g ∈ L
 | [] => by simp [ins]
 | x :: r => by
  unfold ins;split
  ·simp
  ·simp only [List.mem_cons, mem_ins (L := r)]
   constructor
   ·rintro (h | h | h)
    ·exact .inr (.inl h)
    ·exact .inl h
    ·exact .inr (.inr h)
   ·rintro (h | h | h)
    ·exact .inr (.inl h)
    ·exact .inl h
    ·exact .inr (.inr h)
theorem mem_del {nm : List UInt8} {g : Fl} {L : List Fl} : g ∈ del nm L ↔ g ∈ L ∧ g.name ≠ nm := by
 unfold del;rw [List.mem_filter];simp
theorem mem_put {f g : Fl} {L : List Fl} : g ∈ put f L ↔ g = f ∨ (g ∈ L ∧ g.name ≠ f.name) := by
 unfold put;rw [mem_ins, mem_del]
theorem has_iff {nm : List UInt8} {L : List Fl} : has nm L = true ↔ ∃ f ∈ L, f.name = nm := by
 unfold has;rw [List.any_eq_true];constructor
 ·rintro ⟨f, h1, h2⟩
  exact ⟨f, h1, by simpa using h2⟩
 ·rintro ⟨f, h1, h2⟩
  exact ⟨f, h1, by simpa using h2⟩
theorem get_mem {nm : List UInt8} {L : List Fl} (h : has nm L = true) : get nm L ∈ L ∧ (get nm L).name = nm := by
 unfold get;cases hf : L.find? fun f => f.name == nm with
 | none =>
  obtain ⟨f, h1, h2⟩ := has_iff.1 h;have := List.find?_eq_none.1 hf f h1;simp [h2] at this
 | some f =>
  have h1 := List.mem_of_find?_eq_some hf;have h2 := List.find?_some hf;exact ⟨h1, by simpa using h2⟩
theorem get_none {nm : List UInt8} {L : List Fl} (h : has nm L = false) : get nm L = fl0 := by
 unfold get
 rw [List.find?_eq_none.2 (fun f hf hx => by
  have : has nm L = true := has_iff.2 ⟨f, hf, by simpa using hx⟩
  rw [h] at this; cases this)]
 rfl
theorem up_ne {L : List Fl} (h : L.Pairwise fun f g => Op.bytesLess f.name g.name = true) : L.Pairwise fun f g => f.name ≠ g.name :=
 h.imp (fun {a b} h e => by rw [e, less_irr5] at h; cases h)
theorem up_ins {f : Fl} : ∀ {L : List Fl}, L.Pairwise (fun f g => Op.bytesLess f.name g.name = true) → (∀ g ∈ L, g.name ≠ f.name) → (ins f L).Pairwise (fun f g => Op.bytesLess f.name g.name = true)
 | [], _, _ => by simp [ins]
 | x :: r, h, hn => by
  obtain ⟨h1, h2⟩ := List.pairwise_cons.1 h;unfold ins;split
  ·rename_i hb
   refine List.pairwise_cons.2 ⟨fun q hq => ?_, h⟩;rcases List.mem_cons.1 hq with rfl | hq
   ·exact hb
   ·exact less_trans5 _ _ _ hb (h1 q hq)
  ·rename_i hb
   refine List.pairwise_cons.2 ⟨fun q hq => ?_, up_ins h2 (fun g hg => hn g (by simp [hg]))⟩;rcases mem_ins.1 hq with rfl | hq
   ·have := less_flip5 x.name q.name (hn x (by simp))
    cases hx : Op.bytesLess x.name q.name with
    | true => rfl
    | false => rw [hx] at this; exact absurd this hb
   ·exact h1 q hq
theorem size_ins (f : Fl) : ∀ L : List Fl, size (ins f L) = f.dat.length + size L
 | [] => by simp [ins, size]
 | x :: r => by
  unfold ins;split
  ·rfl
  ·simp only [size, size_ins f r]; omega
theorem len_ins (f : Fl) : ∀ L : List Fl, (ins f L).length = L.length + 1
 | [] => by simp [ins]
 | x :: r => by
  unfold ins;split
  ·rfl
  ·simp [len_ins f r]
theorem del_none {nm : List UInt8} {L : List Fl} (h : has nm L = false) : del nm L = L := by
 unfold del;refine List.filter_eq_self.2 (fun f hf => ?_);cases hx : (f.name == nm) with
 | false => rfl
 | true =>
  have : has nm L = true := has_iff.2 ⟨f, hf, by simpa using hx⟩;rw [h] at this; cases this
theorem size_del {nm : List UInt8} : ∀ {L : List Fl}, L.Pairwise (fun f g => f.name ≠ g.name) → size (del nm L) + (get nm L).dat.length = size L
 | [], _ => rfl
 | x :: r, h => by
  obtain ⟨h1, h2⟩ := List.pairwise_cons.1 h;have ih := size_del (nm := nm) h2;by_cases e : x.name = nm
  ·have e1 : (x.name == nm) = true := by simpa using e
   have hr : has nm r = false := by
    cases hh : has nm r with
    | false => rfl
    | true =>
     obtain ⟨f, hf, hfe⟩ := has_iff.1 hh;exact absurd (e.trans hfe.symm) (h1 f hf)
   have hg : get nm (x :: r) = x := by simp [get, e1]
   have hd : del nm (x :: r) = r := by
    have := del_none hr;unfold del at *;simp only [List.filter_cons, e1, Bool.not_true, Bool.false_eq_true, if_false];exact this
   rw [hg, hd]; simp only [size]; omega
  ·have e1 : (x.name == nm) = false := by simpa using e
   have hg : get nm (x :: r) = get nm r := by simp [get, e1]
   have hd : del nm (x :: r) = x :: del nm r := by simp [del, e1]
   rw [hg, hd]; simp only [size]; omega
theorem len_del {nm : List UInt8} : ∀ {L : List Fl}, L.Pairwise (fun f g => f.name ≠ g.name) → (del nm L).length + (if has nm L then 1 else 0) = L.length
 | [], _ => rfl
 | x :: r, h => by
  obtain ⟨h1, h2⟩ := List.pairwise_cons.1 h;have ih := len_del (nm := nm) h2;by_cases e : x.name = nm
  ·have e1 : (x.name == nm) = true := by simpa using e
   have hr : has nm r = false := by
    cases hh : has nm r with
    | false => rfl
    | true =>
     obtain ⟨f, hf, hfe⟩ := has_iff.1 hh;exact absurd (e.trans hfe.symm) (h1 f hf)
   have hd : del nm (x :: r) = r := by
    have := del_none hr;unfold del at *;simp only [List.filter_cons, e1, Bool.not_true, Bool.false_eq_true, if_false];exact this
   have hh : has nm (x :: r) = true := by simp [has, e1]
   rw [hd, hh]; simp
  ·have e1 : (x.name == nm) = false := by simpa using e
   have hd : del nm (x :: r) = x :: del nm r := by simp [del, e1]
   have hh : has nm (x :: r) = has nm r := by simp [has, e1]
   rw [hd, hh]; simp only [List.length_cons]; omega
theorem has_put {nm : List UInt8} {f : Fl} {L : List Fl} : has nm (put f L) = (decide (f.name = nm) || has nm L) := by
 rw [Bool.eq_iff_iff];simp only [has_iff, Bool.or_eq_true, decide_eq_true_eq];constructor
 ·rintro ⟨g, hg, e⟩
  rcases mem_put.1 hg with rfl | ⟨hg, _⟩
  ·exact .inl e
  ·exact .inr ⟨g, hg, e⟩
 ·rintro (h | ⟨g, hg, e⟩)
  ·exact ⟨f, mem_put.2 (.inl rfl), h⟩
  ·by_cases q : g.name = f.name
   ·exact ⟨f, mem_put.2 (.inl rfl), q.symm.trans e⟩
   ·exact ⟨g, mem_put.2 (.inr ⟨hg, q⟩), e⟩
theorem has_del {nm x : List UInt8} {L : List Fl} : has nm (del x L) = (!decide (nm = x) && has nm L) := by
 rw [Bool.eq_iff_iff];simp only [has_iff, Bool.and_eq_true, Bool.not_eq_true', decide_eq_false_iff_not];constructor
 ·rintro ⟨g, hg, e⟩
  obtain ⟨h1, h2⟩ := mem_del.1 hg;exact ⟨fun q => h2 (e.trans q), g, h1, e⟩
 ·rintro ⟨h, g, hg, e⟩
  exact ⟨g, mem_del.2 ⟨hg, fun q => h (e.symm.trans q)⟩, e⟩
theorem one {L : List Fl} (h : L.Pairwise fun f g => f.name ≠ g.name) {f g : Fl} (hf : f ∈ L) (hg : g ∈ L) (e : f.name = g.name) : f = g := by
 induction L with
 | nil => cases hf
 | cons x r ih =>
  obtain ⟨h1, h2⟩ := List.pairwise_cons.1 h;rcases List.mem_cons.1 hf with e1 | hf
  ·rcases List.mem_cons.1 hg with e2 | hg
   ·exact e1.trans e2.symm
   ·exact absurd (e1 ▸ e) (h1 g hg)
  ·rcases List.mem_cons.1 hg with e2 | hg
   ·exact absurd (e2 ▸ e).symm (h1 f hf)
   ·exact ih h2 hf hg
theorem get_of {L : List Fl} (h : L.Pairwise fun f g => f.name ≠ g.name) {f : Fl} (hf : f ∈ L) : get f.name L = f := by
 obtain ⟨h1, h2⟩ := get_mem (has_iff.2 ⟨f, hf, rfl⟩);exact one h h1 hf h2
theorem OkL.ne {L : List Fl} (h : OkL L) : L.Pairwise fun f g => f.name ≠ g.name := up_ne h.up
theorem OkL.del {L : List Fl} (h : OkL L) (nm : List UInt8) : OkL (Dk.del nm L) :=
 ⟨h.up.filter _, fun f hf => h.named f (mem_del.1 hf).1, fun f hf => h.safe f (mem_del.1 hf).1⟩
theorem OkL.put {L : List Fl} (h : OkL L) {f : Fl} (hn : Dk.named f.name = true) (hs : f.safe ≤ f.dat.length) : OkL (Dk.put f L) := by
 refine ⟨up_ins (h.up.filter _) (fun g hg => (mem_del.1 hg).2), fun g hg => ?_, fun g hg => ?_⟩
 ·rcases mem_put.1 hg with rfl | ⟨hg, _⟩
  ·exact hn
  ·exact h.named g hg
 ·rcases mem_put.1 hg with rfl | ⟨hg, _⟩
  ·exact hs
  ·exact h.safe g hg
theorem get_put {nm : List UInt8} {f : Fl} {L : List Fl} (h : OkL (put f L)) : get nm (put f L) = if f.name = nm then f else get nm L := by
 by_cases e : f.name = nm
 ·subst e
  rw [if_pos rfl];exact get_of h.ne (mem_put.2 (.inl rfl))
 ·rw [if_neg e]
  cases hh : has nm L with
  | false =>
   rw [get_none hh, get_none];rw [has_put, hh]; simp [e]
  | true =>
   obtain ⟨h1, h2⟩ := get_mem hh;have h3 : get nm L ∈ put f L := mem_put.2 (.inr ⟨h1, fun q => e (q.symm.trans h2)⟩);have := get_of h.ne h3;rw [h2] at this;exact this
theorem get_safe {L : List Fl} (h : OkL L) (nm : List UInt8) : (get nm L).safe ≤ (get nm L).dat.length := by
 cases hh : has nm L with
 | false => rw [get_none hh]; exact Nat.le_refl _
 | true => exact h.safe _ (get_mem hh).1
theorem get_size {L : List Fl} (h : OkL L) (nm : List UInt8) : (get nm L).dat.length ≤ size L := by have := size_del (nm := nm) h.ne; omega
theorem mem_size {L : List Fl} (h : OkL L) {f : Fl} (hf : f ∈ L) : f.dat.length ≤ size L := by have := get_size h f.name; rw [get_of h.ne hf] at this; exact this
theorem size_put {L : List Fl} (h : OkL L) (f : Fl) : size (put f L) + (get f.name L).dat.length = size L + f.dat.length := by
 unfold put;have := size_del (nm := f.name) h.ne;rw [size_ins]; omega
theorem len_put {L : List Fl} (h : OkL L) (f : Fl) : (put f L).length + (if has f.name L then 1 else 0) = L.length + 1 := by
 unfold put;have := len_del (nm := f.name) h.ne;rw [len_ins]; omega
theorem cut_len : ∀ (ks : List Int) (L : List Fl), (cut ks L).length = L.length
 | _, [] => by simp [cut]
 | [], f :: r => by simp [cut, cut_len [] r]
 | k :: ks, f :: r => by simp [cut, cut_len ks r]
theorem cut_names : ∀ (ks : List Int) (L : List Fl), names (cut ks L) = names L
 | _, [] => by simp [cut]
 | [], f :: r => by
  have := cut_names [] r;unfold names at *;simp [cut, left, this]
 | k :: ks, f :: r => by
  have := cut_names ks r;unfold names at *;simp [cut, left, this]
theorem cut_at : ∀ (ks : List Int) (L : List Fl) (i : Nat), i < L.length → (cut ks L).getD i fl0 = left (L.getD i fl0) (ks.getD i 0)
 | _, [], i, h => by simp at h
 | [], f :: r, 0, h => by simp [cut]
 | [], f :: r, i + 1, h => by
  have := cut_at [] r i (by simpa using h);simpa [cut] using this
 | k :: ks, f :: r, 0, h => by simp [cut]
 | k :: ks, f :: r, i + 1, h => by
  have := cut_at ks r i (by simpa using h);simpa [cut] using this
theorem left_dat (f : Fl) (k : Int) (h : f.safe ≤ f.dat.length) : (left f k).dat.length = (left f k).safe := by
 unfold left;simp only [List.length_take];omega
theorem left_le (f : Fl) (k : Int) (h : f.safe ≤ f.dat.length) : f.safe ≤ (left f k).safe ∧ (left f k).safe ≤ f.dat.length := by
 unfold left;simp only;omega
theorem size_cut : ∀ (ks : List Int) {L : List Fl}, (∀ f ∈ L, f.safe ≤ f.dat.length) → size (cut ks L) ≤ size L
 | _, [], _ => by simp [cut]
 | [], f :: r, h => by
  have := size_cut [] (fun g hg => h g (by simp [hg]) : ∀ g ∈ r, _);have h1 := left_dat f 0 (h f (by simp));have h2 := left_le f 0 (h f (by simp));simp only [cut, size]; omega
 | k :: ks, f :: r, h => by
  have := size_cut ks (fun g hg => h g (by simp [hg]) : ∀ g ∈ r, _);have h1 := left_dat f k (h f (by simp));have h2 := left_le f k (h f (by simp));simp only [cut, size]; omega
theorem mem_cut : ∀ {ks : List Int} {L : List Fl} {g : Fl}, g ∈ cut ks L → ∃ f ∈ L, ∃ k, g = left f k
 | _, [], g, h => by simp [cut] at h
 | [], f :: r, g, h => by
  simp only [cut, List.mem_cons] at h;rcases h with rfl | h
  ·exact ⟨f, by simp, 0, rfl⟩
  ·obtain ⟨f', h1, k, h2⟩ := mem_cut h
   exact ⟨f', by simp [h1], k, h2⟩
 | k :: ks, f :: r, g, h => by
  simp only [cut, List.mem_cons] at h;rcases h with rfl | h
  ·exact ⟨f, by simp, k, rfl⟩
  ·obtain ⟨f', h1, k, h2⟩ := mem_cut h
   exact ⟨f', by simp [h1], k, h2⟩
theorem pair_names {L L' : List Fl} (h : names L = names L') (hp : L.Pairwise fun f g => Op.bytesLess f.name g.name = true) : L'.Pairwise fun f g => Op.bytesLess f.name g.name = true := by
 have h1 : (names L).Pairwise (fun a b => Op.bytesLess a b = true) := List.pairwise_map.2 hp;rw [h] at h1;exact List.pairwise_map.1 h1
theorem OkL.cut {L : List Fl} (h : OkL L) (ks : List Int) : OkL (Dk.cut ks L) := by
 refine ⟨pair_names (cut_names ks L).symm h.up, fun g hg => ?_, fun g hg => ?_⟩
 ·obtain ⟨f, hf, k, rfl⟩ := mem_cut hg
  exact h.named f hf
 ·obtain ⟨f, hf, k, rfl⟩ := mem_cut hg
  rw [left_dat f k (h.safe f hf)];exact Nat.le_refl _
end Dk
end
section
open Go Go.RowKit Go.Maps
theorem law5 : Keyed Tryz.prog 9 := string_keyed Tryz.underlying9
theorem Jkj (w : World) : (zeroValue 118).run Tryz.prog w = .ok (.agg #[.slice none 0 0, .int .i64 0]) w := by kernel_rfl
theorem key5 {nm : List UInt8} (h : nm.length ≤ 140737488351232) : keyOf Tryz.prog 9 (.string (S nm)) = some (.string nm) := WideMaps.keyOf_string_mk Tryz.underlying9 (by unfold maxLen; simp [ByteArray.size]; omega)
def flV (v : Value) (s : Nat) : Value := .agg #[v, .int .i64 s]
def Ja8 (v : Value) : Option (DataW Value × List MemPlace) := some (.held v, [])
def entM (V : List UInt8 → Value) (f : Dk.Fl) : Lit × DataW Value := (.string f.name, .held (flV (V f.name) f.safe))
def datM (V : List UInt8 → Value) (L : List Dk.Fl) : DataW Value := .map (L.map (entM V))
def upV (V : List UInt8 → Value) (nm : List UInt8) (v : Value) : List UInt8 → Value := fun x => if x = nm then v else V x
theorem Jbp (V : List UInt8 → Value) (nm : List UInt8) (v : Value) : upV V nm v nm = v := if_pos rfl
theorem Jbb (V : List UInt8 → Value) {nm x : List UInt8} (v : Value) (h : x ≠ nm) : upV V nm v x = V x := if_neg h
theorem Jer (V : List UInt8 → Value) (nm : List UInt8) : ∀ L : List Dk.Fl, (L.map (entM V)).find? (fun p => p.1.sameKey (.string nm)) = (L.find? fun f => f.name == nm).map (entM V)
 | [] => rfl
 | f :: r => by
  rw [List.map_cons, List.find?_cons, List.find?_cons];show (match (f.name == nm) with | true => some (entM V f) | false => _) = _
  cases f.name == nm with
  | true => rfl
  | false => exact Jer V nm r
theorem Jkk (V : List UInt8 → Value) {nm : List UInt8} {L : List Dk.Fl} (z : DataW Value) (h : Dk.has nm L = true) : (datM V L).atKey (.string nm) z = .held (flV (V nm) (Dk.get nm L).safe) := by
 unfold datM DataW.atKey;simp only [Jer];have h2 := (Dk.get_mem h).2;unfold Dk.get at *;cases hf : L.find? fun f => f.name == nm with
 | none =>
  obtain ⟨f, h3, h4⟩ := Dk.has_iff.1 h;have := List.find?_eq_none.1 hf f h3;simp [h4] at this
 | some f =>
  rw [hf] at h2;simp only [Option.getD] at h2;simp only [Option.map_some, entM, Option.getD, h2]
theorem Jf1 (V : List UInt8 → Value) {nm : List UInt8} {L : List Dk.Fl} (z : DataW Value) (h : Dk.has nm L = false) : (datM V L).atKey (.string nm) z = z := by
 unfold datM DataW.atKey;simp only [Jer]
 rw [List.find?_eq_none.2 (fun f hf hx => by
  have : Dk.has nm L = true := Dk.has_iff.2 ⟨f, hf, by simpa using hx⟩
  rw [h] at this; cases this)]
 rfl
theorem Jn9 (V : List UInt8 → Value) (nm : List UInt8) (L : List Dk.Fl) : Maps.has (datM V L) (.string nm) = Dk.has nm L := by
 show (L.map (entM V)).any (fun p => p.1.sameKey (.string nm)) = _
 rw [List.any_map];rfl
theorem Ja3 (V : List UInt8 → Value) (L : List Dk.Fl) : Maps.size (datM V L) = L.length := by
 show (L.map (entM V)).length = _
 simp
theorem Jfd (V : List UInt8 → Value) (nm : List UInt8) (L : List Dk.Fl) : (L.map (entM V)).filter (fun p => !p.1.sameKey (.string nm)) = (Dk.del nm L).map (entM V) := by
 unfold Dk.del;rw [List.filter_map];rfl
theorem Jie (V : List UInt8 → Value) (nm : List UInt8) (L : List Dk.Fl) : (datM V L).del (.string nm) = datM V (Dk.del nm L) := by
 show DataW.map ((L.map (entM V)).filter fun p => !p.1.sameKey (.string nm)) = _
 rw [Jfd];rfl
theorem Jif (V : List UInt8 → Value) (f : Dk.Fl) : ∀ L : List Dk.Fl, DataW.insert (entM V f) (L.map (entM V)) = (Dk.ins f L).map (entM V)
 | [] => rfl
 | g :: r => by
  rw [List.map_cons];unfold DataW.insert Dk.ins;have e : (entM V f).1.before (entM V g).1 = Op.bytesLess f.name g.name := Dk.before_less _ _;rw [e];split
  ·rfl
  ·rw [Jif V f r]; rfl
theorem Jpq (V : List UInt8 → Value) (nm : List UInt8) (v : Value) {L : List Dk.Fl} (h : ∀ f ∈ L, f.name ≠ nm) : L.map (entM V) = L.map (entM (upV V nm v)) :=
 List.map_congr_left (fun f hf => by unfold entM; rw [Jbb V v (h f hf)])
theorem Joa (V : List UInt8 → Value) (v : Value) (f : Dk.Fl) (L : List Dk.Fl) : (datM V L).put (.string f.name) (.held (flV v f.safe)) = datM (upV V f.name v) (Dk.put f L) := by
 show DataW.map (DataW.insert (.string f.name, .held (flV v f.safe)) ((L.map (entM V)).filter fun p => !p.1.sameKey (.string f.name))) = _
 rw [Jfd, Jpq V f.name v (fun g hg => (Dk.mem_del.1 hg).2)];have e : ((.string f.name, .held (flV v f.safe)) : Lit × DataW Value) = entM (upV V f.name v) f := by unfold entM; rw [Jbp]
 rw [e, Jif];rfl
def KsAt (B : Nat) (w : World) (ao : Option Addr) (cap : Nat) (ks : List Int) : Prop := ks ≠ [] → w.ownsRow B 3 1 (.slice ao ks.length cap) ks.length (ks.map (Value.int .i64))
structure Cs where
 n : Nat
 d : Nat
 k : Nat
 a : Option Addr
 c : Nat
def csV (c : Cs) : Value := .func (Fn.func 81) #[] #[.pointer (some ⟨c.n, 0, none⟩), .pointer (some ⟨c.d, 0, none⟩), .pointer (some ⟨c.k, 0, none⟩)]
def Jh0 (B d : Nat) (sv : Value) (c : Cs) (w : World) : Option (Nat × List Int) → Prop
 | none => sv = .nilFunc
 | some (n, ks) => sv = csV c ∧ Bk #[.int .i64 n] 3 w c.n ∧ Bk #[.pointer (some ⟨d, 0, none⟩)] 24 w c.d ∧ Bk #[.slice c.a ks.length c.c] 40 w c.k ∧ KsAt B w c.a c.c ks ∧ (∀ a, ks ≠ [] → c.a = some a → a.block ≠ c.n)
def Ft (d mb : Nat) (V : List UInt8 → Value) (c : Cs) (D : Dk.St) (b : Nat) : Prop :=
 b = d ∨ b = mb ∨ (∃ f ∈ D.L, (V f.name).ownBlock = some b) ∨ (D.set ≠ none ∧ (b = c.n ∨ b = c.d ∨ b = c.k ∨ ∃ a p, D.set = some p ∧ p.2 ≠ [] ∧ c.a = some a ∧ b = a.block))
def dkC (D : Dk.St) (mb : Nat) (sv : Value) : Array Value := #[.int .i64 D.room, .int .i64 (Dk.size D.L), .map (some mb), .bool D.up, .int .i64 D.starts, sv]
structure DkIn (B d mb : Nat) (V : List UInt8 → Value) (sv : Value) (c : Cs) (D : Dk.St) (w : World) : Prop where
 box : Bk (dkC D mb sv) 51 w d
 map : w.ownsMap Tryz.prog 9 Ja8 mb D.L.length (datM V D.L)
 row : ∀ f ∈ D.L, w.ownsRow B 5 1 (V f.name) f.dat.length (bts f.dat)
 ap : ∀ f ∈ D.L, ∀ g ∈ D.L, f.name ≠ g.name → ∀ q, (V f.name).ownBlock = some q → (V g.name).ownBlock ≠ some q
 set : Jh0 B d sv c w D.set
def DkAt (B : Nat) (F : Nat → Prop) (d : Nat) (D : Dk.St) (w : World) : Prop :=
 Dk.Ok D ∧ ∃ mb V sv c, DkIn B d mb V sv c D w ∧ (∀ b, Ft d mb V c D b → F b) ∧ (∀ b, F b → B ≤ b ∧ b < w.heap.size)
def gr (F : Nat → Prop) (w w' : World) (b : Nat) : Prop := F b ∨ (w.heap.size ≤ b ∧ b < w'.heap.size)
section
variable {B d mb : Nat} {V : List UInt8 → Value} {sv : Value} {c : Cs} {D : Dk.St} {w w' : World} {A F : Nat → Prop}
theorem KsAt.wr {ao : Option Addr} {cap : Nat} {ks : List Int} (h : KsAt B w ao cap ks) (hw : Wr A w w') (hA : ∀ a, ks ≠ [] → ao = some a → ¬ A a.block) : KsAt B w' ao cap ks := fun hn =>
 Jal (h hn) hw (fun q hq => by
  cases ao with
  | none => cases hq
  | some a =>
   simp only [Value.ownBlock, Option.some.injEq] at hq;subst hq
   exact hA a hn rfl)
theorem DkIn.wr (h : DkIn B d mb V sv c D w) (hw : Wr A w w') (hA : ∀ b, Ft d mb V c D b → ¬ A b) : DkIn B d mb V sv c D w' := by
 refine ⟨h.box.wr hw (hA _ (.inl rfl)), Jcp h.map hw (hA _ (.inr (.inl rfl))), fun f hf => Jal (h.row f hf) hw (fun q hq => hA _ (.inr (.inr (.inl ⟨f, hf, hq⟩)))), h.ap, ?_⟩;have hs := h.set;unfold Ft at hA;generalize D.set = o at *;cases o with
 | none => exact hs
 | some p =>
  obtain ⟨n, ks⟩ := p;obtain ⟨h1, h2, h3, h4, h5, h6⟩ := hs;have hN : (some (n, ks) : Option (Nat × List Int)) ≠ none := by simp
  exact ⟨h1, h2.wr hw (hA _ (.inr (.inr (.inr ⟨hN, .inl rfl⟩)))), h3.wr hw (hA _ (.inr (.inr (.inr ⟨hN, .inr (.inl rfl)⟩)))), h4.wr hw (hA _ (.inr (.inr (.inr ⟨hN, .inr (.inr (.inl rfl))⟩)))), h5.wr hw (fun a hn ha => hA _ (.inr (.inr (.inr ⟨hN, .inr (.inr (.inr ⟨a, _, rfl, hn, ha, rfl⟩))⟩)))), h6⟩
theorem DkAt.wr (h : DkAt B F d D w) (hw : Wr A w w') (hA : ∀ b, F b → ¬ A b) : DkAt B F d D w' := by
 obtain ⟨h0, mb, V, sv, c, h1, h2, h3⟩ := h;exact ⟨h0, mb, V, sv, c, h1.wr hw (fun b hb => hA b (h2 b hb)), h2, fun b hb => ⟨(h3 b hb).1, Nat.lt_of_lt_of_le (h3 b hb).2 hw.size⟩⟩
theorem DkAt.below (h : DkAt B F d D w) (hb : Below w.heap.size w w') : DkAt B F d D w' := h.wr (A := fun _ => False) (Jad hb) (fun _ _ q => q)
theorem DkAt.mono {F' : Nat → Prop} (h : DkAt B F d D w) (hF : ∀ b, F b → F' b) (hB : ∀ b, F' b → B ≤ b ∧ b < w.heap.size) : DkAt B F' d D w := by
 obtain ⟨h0, mb, V, sv, c, h1, h2, h3⟩ := h;exact ⟨h0, mb, V, sv, c, h1, fun b hb => hF b (h2 b hb), hB⟩
theorem DkAt.gr (h : DkAt B F d D w) (hs : w.heap.size ≤ w'.heap.size) (hB : B ≤ w.heap.size) : ∀ b, gr F w w' b → B ≤ b ∧ b < w'.heap.size := by
 obtain ⟨h0, mb, V, sv, c, h1, h2, h3⟩ := h;rintro b (hb | hb)
 ·have := h3 b hb; omega
 ·omega
end
end
section
open Go Go.RowKit Go.Maps Go.Sort Go.Shelf
theorem sorts5 (m : Nat) : AnyZ.SortsIn Tryz.prog Tryz.sorted85_ren Fence.wide m :=
 ⟨fun blk off cap ss W hH hblk hsz => callsIn_wide.2 (AnyM.slices_Sort_string Tryz.sort133 blk off cap ss W hH hblk hsz),
  fun p cap W => callsIn_wide.2 (AnyM.slices_Sort_string_none Tryz.sort133 p cap W)⟩
theorem Jmg (mb : Option Nat) (W : World) : Calls Tryz.prog 86 #[.map mb] W fun e w' => e = .returned (.func (.func 134) #[] #[.pointer (some ⟨W.heap.size, 0, none⟩)]) ∧ w' = W.alloc (.cells #[.map mb] 49) :=
 callsIn_wide.1 (AnyZ.keys_in Tryz.keys86 Fence.wide 5 trivial rfl mb W)
theorem Jjw {H : Type} (b nn : Nat) (D0 : DataW H) (R : Value → Option (DataW H × List MemPlace)) (w : World) (hown : w.ownsMap Tryz.prog 9 R b nn D0) (hmax : Maps.size D0 ≤ 100000) :
  Calls Tryz.prog 85 #[.func (.func 134) #[] #[.pointer (some ⟨w.heap.size, 0, none⟩)]] (w.alloc (.cells #[.map (some b)] 49)) fun e w' => ∃ (v : Value) (ss : List (List UInt8)), e = .returned v ∧ ss.Perm (strKeys D0) ∧
   w'.ownsRow (w.heap.size + 1) 9 1 v ss.length ((ss.mergeSort (fun x y => decide (x ≤ y))).map encStr) ∧ Below (w.heap.size + 1) (w.alloc (.cells #[.map (some b)] 49)) w' := by
 have hbl := hown.lt;have hm1 : Maps.size D0 ≤ maxLen := by unfold maxLen; omega
 have hm2 : Maps.size D0 * 16 ≤ 140737488355328 := by omega
 have hseq : SeqGives Fence.wide 2 Tryz.prog 134 #[.pointer (some ⟨w.heap.size, 0, none⟩)] encStr (fun ss => ss.Perm (strKeys D0)) (Maps.size D0) (w.alloc (.cells #[.map (some b)] 49)) :=
  AnyZ.keys_gives (ρ := Tryz.keys86_ren) { Tryz.keys86 with } Fence.wide _ trivial rfl (by omega) w.heap.size b nn D0 _ (by simp) (by simp) (by
   obtain ⟨es, clock, hb, Ft, hs, hD⟩ := hown
   exact ⟨es, clock, (Below.heap_alloc _ _ b hbl).trans hb, Ft, hs, hD⟩)
 have h := AnyZ.sorted_in Tryz.sorted85 Fence.wide 5 trivial trivial trivial trivial rfl (by omega) (sorts5 _) (enters_of Tryz.func133 (by kernel_rfl) rfl) 134 #[.pointer (some ⟨w.heap.size, 0, none⟩)] trivial (enters_of Tryz.func134 (by kernel_rfl) rfl) _ _ hm1 hm2 _ hseq;refine (callsIn_wide.1 h).mono ?_;rintro e w' ⟨v, ss, he, hS, hrow, _, hb⟩;rw [sz5] at hrow hb;exact ⟨v, ss, he, hS, hrow, hb⟩
end
section
open Go Go.RowKit Go.Maps
theorem Dk.lt_less : ∀ a b : List UInt8, a < b ↔ Op.bytesLess a b = true
 | [], [] => by simp [Op.bytesLess]
 | [], _ :: _ => by simp [Op.bytesLess]
 | _ :: _, [] => by simp [Op.bytesLess]
 | x :: a, y :: b => by
  rw [List.cons_lt_cons_iff, Dk.lt_less a b];simp [Op.bytesLess]
theorem Dk.names_sorted {L : List Dk.Fl} (h : Dk.OkL L) : (Dk.names L).mergeSort (fun x y => decide (x ≤ y)) = Dk.names L := by
 refine List.mergeSort_of_pairwise ?_;unfold Dk.names;rw [List.pairwise_map];refine h.up.imp (fun {a b} hab => ?_)
 have h1 : ¬ b.name < a.name := fun hx => by
  rw [Dk.lt_less] at hx;have := Dk.less_trans5 _ _ _ hx hab;rw [Dk.less_irr5] at this;cases this
 simpa using h1
theorem Jig (V : List UInt8 → Value) (L : List Dk.Fl) : Go.strKeys (datM V L) = Dk.names L := by
 show (L.map (entM V)).map (fun p => strOf p.1) = L.map _
 rw [List.map_map];rfl
def txs5 (l : List (List UInt8)) : List Value := l.map fun t => Value.string (S t)
theorem Jpr (cap : Int) (w : World) (h : cap < 1 ∨ 1048576 < cap) : Calls Tryz.prog 11 #[.int .i64 cap] w fun e w' => e = .returned (.tuple #[.pointer none, .int .i64 2]) ∧ w = w' := by
 by_cases h1 : cap < 1
 ·have t1 : decide (cap < 1) = true := by simpa using h1
  go_enter Tryz.func11, Tryz.ntmps11;go_wp2_with fail;go_ret2
  exact ⟨rfl, rfl⟩
 ·have t1 : decide (cap < 1) = false := by simp; omega
  have t2 : decide (1048576 < cap) = true := by simp; omega
  go_enter Tryz.func11, Tryz.ntmps11;go_wp2_with fail;go_ret2
  exact ⟨rfl, rfl⟩
theorem Dk.new_ok {n : Nat} (h : n ≤ 1048576) : Dk.Ok (Dk.new n) :=
 ⟨⟨List.Pairwise.nil, (fun f hf => by cases hf), (fun f hf => by cases hf)⟩, Nat.zero_le _, Nat.zero_le _, h, (fun p hp => by cases hp), (fun hp => by cases hp), (fun p hp => by cases hp)⟩
def NewD5 (n : Nat) (w : World) (e : Ending) (w' : World) : Prop := ∃ d, e = .returned (.tuple #[.pointer (some ⟨d, 0, none⟩), .int .i64 0]) ∧ DkAt w.heap.size (fun b => w.heap.size ≤ b ∧ b < w'.heap.size) d (Dk.new n) w' ∧ Below w.heap.size w w'
theorem Job (n : Nat) (w : World) (h1 : 1 ≤ n) (h2 : n ≤ 1048576) : Calls Tryz.prog 11 #[.int .i64 n] w (NewD5 n w) := by
 have t1 : decide ((n : Int) < 1) = false := by simp; omega
 have t2 : decide (1048576 < (n : Int)) = false := by simp; omega
 have hmm := @run_makeMap Tryz.prog;go_enter Tryz.func11, Tryz.ntmps11;go_wp2_with fail;go_ret2
 have hm := World.ownsMap_made (H := Value) w Tryz.prog 9 Ja8;have hb := (Below.refl w.heap.size w).alloc (Nat.le_refl _) (.map #[] 0);have hb2 := hb.alloc hb.size (.cells #[.int .i64 n, .int .i64 0, .map (some w.heap.size), .bool true, .int .i64 0, .nilFunc] 51);refine ⟨w.heap.size + 1, rfl, ⟨Dk.new_ok h2, w.heap.size, fun _ => .slice none 0 0, .nilFunc, ⟨0, 0, 0, none, 0⟩, ⟨?_, hm.alloc _, (fun f hf => by cases hf), (fun f hf => by cases hf), rfl⟩, ?_, fun b hb => hb⟩, hb2⟩
 ·have := Jae (dkC (Dk.new n) w.heap.size .nilFunc) 51 (w.alloc (.map #[] 0))
  rw [sz5] at this;exact this
 ·rintro b (rfl | rfl | ⟨f, hf, _⟩ | ⟨hn, _⟩)
  ·rw [sz5, sz5]; omega
  ·rw [sz5, sz5]; omega
  ·cases hf
  ·exact absurd rfl hn
section
variable {B d : Nat} {D : Dk.St} {w : World} {F : Nat → Prop}
theorem Jea (h : DkAt B F d D w) : Calls Tryz.prog 82 #[.pointer (some ⟨d, 0, none⟩)] w fun e w' => e = .returned (.bool false) ∧ w = w' := by
 obtain ⟨h0, mb, V, sv, c, h1, h2, h3⟩ := h;have c2 : w.cell? ⟨d, 2, none⟩ = some (.map (some mb)) := h1.box.cell 2;have hmn := fun W => Jfb (P := Tryz.prog) W _ Tryz.underlying49 mb
 go_enter Tryz.func82, Tryz.ntmps82;go_wp2_with fail;go_ret;exact ⟨rfl, rfl⟩
def stE (D : Dk.St) : Int := if D.up then 0 else 51
theorem Jbt (h : DkAt B F d D w) : Calls Tryz.prog 78 #[.pointer (some ⟨d, 0, none⟩)] w fun e w' => e = .returned (.int .i64 (stE D)) ∧ w = w' := by
 have C := Qh (Jea h);obtain ⟨h0, mb, V, sv, c, h1, h2, h3⟩ := h;have c3 : w.cell? ⟨d, 3, none⟩ = some (.bool D.up) := h1.box.cell 3;clear h1;unfold stE;cases hu : D.up with
 | true =>
  rw [hu] at c3;go_enter Tryz.func78, Tryz.ntmps78;go_wp2_with fail;with_reducible refine C.o.mono ?_
  rintro e w' ⟨rfl, rfl⟩;go_wp2_with fail;go_ret;exact ⟨rfl, rfl⟩
 | false =>
  rw [hu] at c3;go_enter Tryz.func78, Tryz.ntmps78;go_wp2_with fail;with_reducible refine C.o.mono ?_
  rintro e w' ⟨rfl, rfl⟩;go_wp2_with fail;go_ret;exact ⟨rfl, rfl⟩
theorem Jcq (nm : List UInt8) (hl : nm.length ≤ 140737488351232) (w : World) : Calls Tryz.prog 164 #[.string (S nm)] w fun e w' => e = .returned (.bool (Dk.named nm)) ∧ w = w' := by
 unfold Dk.named;go_enter Tryz.func164, Tryz.ntmps164;go_wp2_with fail
 all_goals
  go_ret;refine ⟨ret_bool ?_, rfl⟩;rw [Bool.eq_iff_iff];simp;omega
theorem up5 (h : DkAt B F d D w) : Calls Tryz.prog 30 #[.pointer (some ⟨d, 0, none⟩)] w fun e w' => e = .returned (.bool D.up) ∧ w = w' := by
 have C := Qh (Jea h);obtain ⟨h0, mb, V, sv, c, h1, h2, h3⟩ := h;have c3 : w.cell? ⟨d, 3, none⟩ = some (.bool D.up) := h1.box.cell 3;clear h1;go_enter Tryz.func30, Tryz.ntmps30;go_wp2_with fail;with_reducible refine C.o.mono ?_
 rintro e w' ⟨rfl, rfl⟩;go_wp2_with fail;go_ret;exact ⟨rfl, rfl⟩
theorem Jps (h : DkAt B F d D w) : Calls Tryz.prog 106 #[.pointer (some ⟨d, 0, none⟩)] w fun e w' => e = .returned (.int .i64 D.starts) ∧ w = w' := by
 have C := Qh (Jea h);obtain ⟨h0, mb, V, sv, c, h1, h2, h3⟩ := h;have c3 : w.cell? ⟨d, 4, none⟩ = some (.int .i64 D.starts) := h1.box.cell 4;clear h1;go_enter Tryz.func106, Tryz.ntmps106;go_wp2_with fail;with_reducible refine C.o.mono ?_
 rintro e w' ⟨rfl, rfl⟩;go_wp2_with fail;go_ret;exact ⟨rfl, rfl⟩
theorem size5 (h : DkAt B F d D w) : Calls Tryz.prog 38 #[.pointer (some ⟨d, 0, none⟩)] w fun e w' => e = .returned (.int .i64 (Dk.size D.L)) ∧ w = w' := by
 have C := Qh (Jea h);obtain ⟨h0, mb, V, sv, c, h1, h2, h3⟩ := h;have c3 : w.cell? ⟨d, 1, none⟩ = some (.int .i64 (Dk.size D.L)) := h1.box.cell 1;clear h1;go_enter Tryz.func38, Tryz.ntmps38;go_wp2_with fail;with_reducible refine C.o.mono ?_
 rintro e w' ⟨rfl, rfl⟩;go_wp2_with fail;go_ret;exact ⟨rfl, rfl⟩
end
end
section
open Go Go.RowKit Go.Maps
def vOf (V : List UInt8 → Value) (nm : List UInt8) (L : List Dk.Fl) : Value := if Dk.has nm L then V nm else .slice none 0 0
section
variable {mb n : Nat} {V : List UInt8 → Value} {L : List Dk.Fl} {nm : List UInt8}
theorem Jg9 {w : World} (h : w.ownsMap Tryz.prog 9 Ja8 mb n (datM V L)) (hl : nm.length ≤ 140737488351232) :
  (Instr.lookup 49 (.map (some mb)) (.string (S nm)) false).run Tryz.prog w = .ok (.agg #[vOf V nm L, .int .i64 (Dk.get nm L).safe]) w := by
 obtain ⟨v, ps, hr, hv⟩ := h.lookup law5 Tryz.underlying49 (Jkj w) (zd := .held (.agg #[.slice none 0 0, .int .i64 0])) (zp := []) rfl (key5 hl);rw [hr]
 have e : v = .agg #[vOf V nm L, .int .i64 (Dk.get nm L).safe] := by
  unfold vOf;simp only [Ja8, Option.some.injEq, Prod.mk.injEq] at hv;have h1 := hv.1;cases hh : Dk.has nm L with
  | true =>
   rw [Jkk V _ hh] at h1;injection h1
  | false =>
   rw [Jf1 V _ hh] at h1;rw [Dk.get_none hh];injection h1
 rw [e]
theorem Jih {w : World} (h : w.ownsMap Tryz.prog 9 Ja8 mb n (datM V L)) (hl : nm.length ≤ 140737488351232) :
  (Instr.lookup 49 (.map (some mb)) (.string (S nm)) true).run Tryz.prog w = .ok (.tuple #[.agg #[vOf V nm L, .int .i64 (Dk.get nm L).safe], .bool (Dk.has nm L)]) w := by
 obtain ⟨v, ps, hr, hv⟩ := h.look_ok law5 Tryz.underlying49 (Jkj w) (zd := .held (.agg #[.slice none 0 0, .int .i64 0])) (zp := []) rfl (key5 hl);rw [hr, Jn9]
 have e : v = .agg #[vOf V nm L, .int .i64 (Dk.get nm L).safe] := by
  unfold vOf;simp only [Ja8, Option.some.injEq, Prod.mk.injEq] at hv;have h1 := hv.1;cases hh : Dk.has nm L with
  | true =>
   rw [Jkk V _ hh] at h1;injection h1
  | false =>
   rw [Jf1 V _ hh] at h1;rw [Dk.get_none hh];injection h1
 rw [e]
section
variable (w : World) {ops : Array Oper} {rest : List Oper} {o : Oper} {a : Act} {Q : Exit → Act → World → Prop}
theorem Jcr (hg : o.guard = none) (m x : Operand) (hop : o.op = Op.lookup 49 m x false) (hm : a.eval m = .map (some mb)) (hx : a.eval x = .string (S nm))
  (hown : w.ownsMap Tryz.prog 9 Ja8 mb n (datM V L)) (hl : nm.length ≤ 140737488351232) (v : Value) (he : vOf V nm L = v) (hK : wpList Tryz.prog ops Q rest (a.put o.dst (.agg #[v, .int .i64 (Dk.get nm L).safe])) w) : wpList Tryz.prog ops Q (o :: rest) a w   := by
 subst he;refine wpList_plain hg fun K' hK' => ?_
 have hrun := Jg9 hown hl;unfold Oper.wp;simp [execOp, hop, hm, hx, hrun, Result.andThen];exact hK' _ _ hK
theorem Ja9 (hg : o.guard = none) (m x : Operand) (hop : o.op = Op.lookup 49 m x true) (hm : a.eval m = .map (some mb)) (hx : a.eval x = .string (S nm))
  (hown : w.ownsMap Tryz.prog 9 Ja8 mb n (datM V L)) (hl : nm.length ≤ 140737488351232) (v : Value) (he : vOf V nm L = v) (hK : wpList Tryz.prog ops Q rest (a.put o.dst (.tuple #[.agg #[v, .int .i64 (Dk.get nm L).safe], .bool (Dk.has nm L)])) w) : wpList Tryz.prog ops Q (o :: rest) a w   := by
 subst he;refine wpList_plain hg fun K' hK' => ?_
 have hrun := Jih hown hl;unfold Oper.wp;simp [execOp, hop, hm, hx, hrun, Result.andThen];exact hK' _ _ hK
end
end
theorem Jas (w : World) (o o' : Obj) : Below w.heap.size w ((w.alloc o).alloc o') := (Qa o).alloc ((Below.refl w.heap.size w).alloc (Nat.le_refl _) o).size o'
theorem Jjx (w : World) (v : Value) (n : Int) : (Instr.field 118 (.agg #[v, .int .i64 n]) 1).run Tryz.prog w = .ok (.int .i64 n) w := by kernel_rfl
section
variable {B d mb : Nat} {V : List UInt8 → Value} {sv : Value} {c : Cs} {D : Dk.St} {w : World} {F : Nat → Prop}
theorem DkIn.vrow (h : DkIn B d mb V sv c D w) (nm : List UInt8) : w.ownsRow B 5 1 (vOf V nm D.L) (Dk.get nm D.L).dat.length (bts (Dk.get nm D.L).dat) := by
 unfold vOf;cases hh : Dk.has nm D.L with
 | true =>
  obtain ⟨h1, h2⟩ := Dk.get_mem hh;have := h.row _ h1;rw [h2] at this;exact this
 | false =>
  rw [Dk.get_none hh];exact World.ownsRow_nil _ _ _ _
theorem DkAt.in (h : DkAt B F d D w) : ∃ mb V sv c, DkIn B d mb V sv c D w := by
 obtain ⟨h0, mb, V, sv, c, h1, h2, h3⟩ := h;exact ⟨mb, V, sv, c, h1⟩
theorem Jpt (h : DkAt B F d D w) (nm : List UInt8) (hl : nm.length ≤ 140737488351232) : Calls Tryz.prog 77 #[.pointer (some ⟨d, 0, none⟩), .string (S nm)] w fun e w' => e = .returned (.int .i64 (Dk.get nm D.L).safe) ∧ w = w' := by
 have C := Qh (Jea h);obtain ⟨mb, V, sv, c, h1⟩ := h.in;have c2 : w.cell? ⟨d, 2, none⟩ = some (.map (some mb)) := h1.box.cell 2;have HM := Qh h1.map;have HL := Qh hl;obtain ⟨ao, ac, hv⟩ := Jac (h1.vrow nm);have HV := Qh hv;have hfs := Jjx;clear h1 hl hv;go_enter Tryz.func77, Tryz.ntmps77;go_wp2_with fail;with_reducible refine C.o.mono ?_
 rintro e w' ⟨rfl, rfl⟩;go_wp2_with (at_lookup; refine Jcr _ rfl _ _ rfl rfl rfl HM.o HL.o _ HV.o ?_)
 go_ret;exact ⟨rfl, rfl⟩
def fndE (nm : List UInt8) (D : Dk.St) : Int := if D.up = false then 51 else if Dk.has nm D.L = false then 4 else 0
def fndV (V : List UInt8 → Value) (nm : List UInt8) (D : Dk.St) : Value := if fndE nm D = 0 then V nm else .slice none 0 0
def fndS (nm : List UInt8) (D : Dk.St) : Int := if fndE nm D = 0 then (Dk.get nm D.L).safe else 0
theorem Jes {fn : Func} {p q : Tmp} {T : TypeId} {fs : Array Field} {C : Array Value} (hu : Tryz.prog.underlying T = some (.struct fs)) (hi : (Tryz.prog.info? T).map (·.size) = some C.size)
  (hr : fn.results = #[.cell p T, .tmp q]) (tmps : Array Value) (w : World) (g : Nat) (hp : tmps.getD p undef = .pointer (some ⟨g, 0, none⟩)) (hg : Bk C T w g) :
  (results fn tmps).run Tryz.prog w = .ok (.tuple #[.agg C, tmps.getD q undef]) w := by
 have hp' : tmps[p]?.getD undef = .pointer (some ⟨g, 0, none⟩) := by simpa using hp
 have hl : (loadVar T ⟨g, 0, none⟩).run Tryz.prog w = .ok (.agg C) w := run_loadVar_row w g _ _ C (0, 0) _ hg hu rfl hi;simp [results, hr, hp', asAddr, hl]
theorem Jcg (h : DkAt B F d D w) (hI : DkIn B d mb V sv c D w) (nm : List UInt8) (hl : nm.length ≤ 140737488351232) : Calls Tryz.prog 127 #[.pointer (some ⟨d, 0, none⟩), .string (S nm)] w fun e w' =>
  e = .returned (.tuple #[.agg #[fndV V nm D, .int .i64 (fndS nm D)], .int .i64 (fndE nm D)]) ∧ Below w.heap.size w w' := by
 have C := Qh (fun o => Jbt (h.below (Qa o)));have c2 : ∀ o, (w.alloc o).cell? ⟨d, 2, none⟩ = some (.map (some mb)) := fun o => (hI.box.more o).cell 2
 have HM := Qh (fun o => hI.map.alloc o);have HL := Qh hl;have hb := Qh (fun o => (Below.refl w.heap.size w).alloc (Nat.le_refl _) o);have hi93 : (Tryz.prog.info? 118).map (·.size) = some 2 := by kernel_rfl
 have HI := Qh hi93;obtain ⟨ao, ac, hv⟩ := Jac (hI.vrow nm);have HV0 := Qh hv;have HV := Qh (show Dk.has nm D.L = true → V nm = .slice ao (Dk.get nm D.L).dat.length ac from fun hh => (if_pos hh).symm.trans hv);clear hI h hi93 hl hv;unfold fndV fndS fndE stE at *;cases hu : D.up with
 | false =>
  rw [hu] at C;simp only [Bool.false_eq_true, if_false] at C;simp only [if_true, if_false, show ¬ ((51 : Int) = 0) from by decide];have HB1 := Qh (hb.o (.cells #[.slice none 0 0, .int .i64 0] 118));go_enter Tryz.func127, Tryz.ntmps127;go_wp2_with fail;with_reducible refine (C.o _).mono ?_
  rintro e w' ⟨rfl, rfl⟩;go_wp2_with fail;exact bodyPost_ret (v := .tuple #[.agg #[.slice none 0 0, .int .i64 0], .int .i64 51]) (Jes (p := 4) (q := 5) (C := #[.slice none 0 0, .int .i64 0]) Tryz.underlying118 HI.o rfl _ _ w.heap.size rfl (Jae _ _ _)) rfl ⟨rfl, HB1.o⟩
 | true =>
  rw [hu] at C;simp only [if_true] at C;have HB1 := Qh (hb.o (.cells #[.slice none 0 0, .int .i64 0] 118));cases hh : Dk.has nm D.L with
  | false =>
   have HH := Qh hh;clear hh;simp only [Bool.true_eq_false, if_false, if_true, show ¬ ((4 : Int) = 0) from by decide];go_enter Tryz.func127, Tryz.ntmps127;go_wp2_with fail;with_reducible refine (C.o _).mono ?_
   rintro e w' ⟨rfl, rfl⟩;go_wp2_with (at_lookup; refine Ja9 _ rfl _ _ rfl rfl rfl (HM.o _) HL.o _ HV0.o ?_; rw [HH.o])
   exact bodyPost_ret (v := .tuple #[.agg #[.slice none 0 0, .int .i64 0], .int .i64 4]) (Jes (p := 4) (q := 5) (C := #[.slice none 0 0, .int .i64 0]) Tryz.underlying118 HI.o rfl _ _ w.heap.size rfl ((Jae _ _ _).more _)) rfl ⟨rfl, (Jas _ _ _)⟩
  | true =>
   have HH := Qh hh;clear hh;simp only [Bool.true_eq_false, if_false, if_true];have HVN := Qh (HV.o HH.o);rw [HVN.o];go_enter Tryz.func127, Tryz.ntmps127;go_wp2_with fail;with_reducible refine (C.o _).mono ?_
   rintro e w' ⟨rfl, rfl⟩;go_wp2_with (first | (at_lookup; refine Ja9 _ rfl _ _ rfl rfl rfl (HM.o _) HL.o _ HV0.o ?_; rw [HH.o]))
   exact bodyPost_ret (v := .tuple #[.agg #[.slice ao (Dk.get nm D.L).dat.length ac, .int .i64 ((Dk.get nm D.L).safe : Nat)], .int .i64 0]) (Jes (p := 4) (q := 5) (C := #[.slice ao (Dk.get nm D.L).dat.length ac, .int .i64 (Dk.get nm D.L).safe]) Tryz.underlying118 HI.o rfl _ _ w.heap.size rfl ((Jae _ _ _).more _)) rfl ⟨rfl, (Jas _ _ _)⟩
theorem DkIn.below (h : DkIn B d mb V sv c D w) {w' : World} (hb : Below w.heap.size w w') : DkIn B d mb V sv c D w' := h.wr (A := fun _ => False) (Jad hb) (fun _ _ q => q)
theorem DkIn.fnd (h : DkIn B d mb V sv c D w) (nm : List UInt8) : w.ownsRow B 5 1 (fndV V nm D) (if fndE nm D = 0 then (Dk.get nm D.L).dat.length else 0) (if fndE nm D = 0 then bts (Dk.get nm D.L).dat else []) := by
 unfold fndV;by_cases he : fndE nm D = 0
 ·simp only [if_pos he]
  have hh : Dk.has nm D.L = true := by
   unfold fndE at he;split at he
   ·cases he
   ·split at he
    ·cases he
    ·rename_i h1; simpa using h1
  have := h.vrow nm;unfold vOf at this;rw [if_pos hh] at this;exact this
 ·simp only [if_neg he]
  exact World.ownsRow_nil _ _ _ _
def rdL (nm : List UInt8) (D : Dk.St) : List UInt8 := if fndE nm D = 0 then (Dk.get nm D.L).dat else []
theorem rd_eq (nm : List UInt8) (D : Dk.St) : Dk.read nm D = (fndE nm D, rdL nm D) := by
 unfold Dk.read rdL fndE;cases D.up with
 | false => rfl
 | true =>
  cases Dk.has nm D.L <;> rfl
theorem read5 (h : DkAt B F d D w) (nm : List UInt8) (hl : nm.length ≤ 140737488351232) : Calls Tryz.prog 107 #[.pointer (some ⟨d, 0, none⟩), .string (S nm)] w fun e w' =>
  e = .returned (.tuple #[.string (S (Dk.read nm D).2), .int .i64 (Dk.read nm D).1]) ∧ Below w.heap.size w w' := by
 obtain ⟨mb, V, sv, c, hI⟩ := h.in;have C := Qh (Jcg h hI nm hl);have hr := hI.fnd nm
 have hr2 : w.ownsRow B 5 1 (fndV V nm D) (rdL nm D).length (bts (rdL nm D)) := by
  unfold rdL;by_cases he : fndE nm D = 0
  ·simp only [if_pos he] at hr ⊢; exact hr
  ·simp only [if_neg he] at hr ⊢; exact hr
 rw [rd_eq];simp only;generalize rdL nm D = l at *;obtain ⟨ao, ac, hv⟩ := Jac hr2;rw [hv] at C hr2;have hs := Qh hr2;generalize fndS nm D = n at *;generalize fndE nm D = er at *;clear hr hr2 hv hI h hl;go_enter Tryz.func107, Tryz.ntmps107;go_wp2_with fail;with_reducible refine C.o.mono ?_
 rintro e w1 ⟨rfl, hb⟩;have hc := fun o => Jjv l (Jaf (Jaf hs.o hb) ((Below.refl w1.heap.size w1).alloc (Nat.le_refl _) o)) 116 9 Tryz.underlying116 Tryz.underlying5 Tryz.underlying9
 have HB := Qh (fun o => Jaa hb ((Below.refl w1.heap.size w1).alloc (Nat.le_refl _) o));clear hb;go_wp2_with fail;go_ret2
 exact ⟨rfl, HB.o _⟩
end
end
section
open Go Go.RowKit Go.Maps
def RowT (l : List (List UInt8)) (w : World) (e : Ending) (w' : World) : Prop := ∃ ao cap, e = .returned (.slice ao l.length cap) ∧ w'.ownsRow w.heap.size 9 1 (.slice ao l.length cap) l.length (txs5 l) ∧ Below w.heap.size w w'
def Jap (l : List Int) : List Value := l.map (Value.int .i64)
def RowN (l : List Int) (w : World) (e : Ending) (w' : World) : Prop := ∃ ao cap, e = .returned (.slice ao l.length cap) ∧ w'.ownsRow w.heap.size 3 1 (.slice ao l.length cap) l.length (Jap l) ∧ Below w.heap.size w w'
section
variable {B d mb : Nat} {V : List UInt8 → Value} {sv : Value} {c : Cs} {D : Dk.St} {w : World} {F : Nat → Prop}
theorem DkAt.ok (h : DkAt B F d D w) : Dk.Ok D := h.1
theorem Jii (h : DkAt B F d D w) : Calls Tryz.prog 36 #[.pointer (some ⟨d, 0, none⟩)] w (RowT (Dk.names D.L) w) := by
 have C := Qh (Jea h);have HO := Qh h.ok;obtain ⟨mb, V, sv, c, hI⟩ := h.in;have c2 : w.cell? ⟨d, 2, none⟩ = some (.map (some mb)) := hI.box.cell 2;have CK := Qh (Jmg (some mb) w);have CS := Qh (Jjw mb D.L.length (datM V D.L) Ja8 w hI.map (by rw [Ja3]; have := h.ok.few; omega));clear hI h;go_enter Tryz.func36, Tryz.ntmps36;go_wp2_with fail;with_reducible refine C.o.mono ?_
 rintro e w1 ⟨rfl, rfl⟩;go_wp2_with fail;with_reducible refine CK.o.mono ?_
 rintro e w2 ⟨rfl, rfl⟩;go_wp2_with fail;with_reducible refine CS.o.mono ?_
 rintro e w3 ⟨v, ss, rfl, hp, hr, hb⟩
 have hss : ss.mergeSort (fun x y => decide (x ≤ y)) = Dk.names D.L := by
  rw [Jig] at hp;rw [mergeSort_of_perm hp, Dk.names_sorted HO.o.l]
 have hlen : ss.length = (Dk.names D.L).length := by rw [← hss, List.length_mergeSort]
 rw [hss, hlen] at hr;have hr1 : w3.ownsRow w.heap.size 9 1 v (Dk.names D.L).length (txs5 (Dk.names D.L)) := Jaq hr (Nat.le_succ _);obtain ⟨ao, ac, rfl⟩ := Jac hr1;have HR := Qh hr1;have HB := Qh (show Below w.heap.size w w3 from ((Below.refl w.heap.size w).alloc (Nat.le_refl _) _).trans (hb.mono (Nat.le_succ _)));clear hss hlen hr hr1 hb hp;go_wp2_with fail;go_ret;exact ⟨ao, ac, rfl, HR.o, HB.o⟩
end
theorem Jck {B : Nat} {e : TypeId} {ao : Option Addr} {n cap : Nat} {xs : List Value} {w : World} (h : w.ownsRow B e 1 (.slice ao n cap) n xs) {k : Nat} (hk : k < n) : ∃ g, ao = some ⟨g, 0, none⟩ ∧ B ≤ g ∧ g < w.heap.size ∧ w.cell? ⟨g, k, none⟩ = xs[k]? := by
 have hl : xs.length = n := by simpa using h.1
 rcases h.2 with ⟨e1, e2⟩ | ⟨g, cap', cur, e1, hB, hg, _⟩
 ·omega
 ·injection e1 with q1 q2 q3
  subst q1;refine ⟨g, rfl, hB, (h.lt g rfl).2, ?_⟩;have := h.cells (g := g) rfl k xs[k] (List.getElem?_eq_getElem (by omega));rw [List.getElem?_eq_getElem (by omega)];rw [Addr.add_lit, Nat.zero_add] at this;exact this
theorem Jcs {α : Type} (l : List α) (k : Nat) (h : k < l.length) : l.take (k + 1) = l.take k ++ [l[k]] := by
 rw [List.take_succ_eq_append_getElem h]
theorem Jha (a b : List Int) : Jap (a ++ b) = Jap a ++ Jap b := by simp [Jap]
theorem Jmh (w : World) (o : Obj) (x : Value) (t : TypeId) : ∀ j u, [x][j]? = some u → ((w.alloc o).alloc (.cells #[x] t)).cell? ((⟨w.heap.size + 1, 0, none⟩ : Addr).add j) = some u := by
 have := cell_one_new (w.alloc o) x t;rw [sz5] at this;exact this
theorem Jcw : (Tryz.prog.info? 3).map (fun i => (i.zero, i.size, i.bytes)) = some (some (.int .i64 0), 1, 8) := by kernel_rfl
section
variable {B d mb : Nat} {V : List UInt8 → Value} {sv : Value} {c : Cs} {D : Dk.St} {w : World} {F : Nat → Prop}
theorem Dk.at5 {L : List Dk.Fl} (h : Dk.OkL L) {k : Nat} (hk : k < L.length) : Dk.get (L[k]).name L = L[k] ∧ Dk.has (L[k]).name L = true ∧ (L[k]).name.length ≤ 16 := by
 have hm := List.getElem_mem hk;refine ⟨Dk.get_of h.ne hm, Dk.has_iff.2 ⟨_, hm, rfl⟩, ?_⟩;have := h.named _ hm;unfold Dk.named at this;simp at this;omega
theorem Jmi (h : DkAt B F d D w) : Calls Tryz.prog 37 #[.pointer (some ⟨d, 0, none⟩)] w (RowN (Dk.unsynced D.L) w) := by
 have C := Qh (Jii h);obtain ⟨j0, hj, hy0, hy1, hy2⟩ := info_parts Jcw;have HO := Qh h.ok.l;have HF := Qh h.ok.few;obtain ⟨mb, V, sv, c, hI⟩ := h.in;have HI := Qh hI;have HN := Qh (show (Dk.names D.L).length = D.L.length from by simp [Dk.names]);have HU := Qh (show (Dk.unsynced D.L).length = D.L.length from by simp [Dk.unsynced]);have HS := Qh (fun f hf => h.ok.l.safe f hf);have HZ := Qh (fun f (hf : f ∈ D.L) => Nat.le_trans (Dk.mem_size h.ok.l hf) (Nat.le_trans h.ok.room h.ok.most));clear hI h;go_enter Tryz.func37, Tryz.ntmps37;go_wp2_with fail;with_reducible refine C.o.mono ?_
 rintro e w1 ⟨ao, ac, rfl, hr, hb⟩;have HR := Qh hr;have HB := Qh hb;have HI1 := Qh (HI.o.below hb);clear hr hb C;rw [HN.o];go_wp2_with fail;go_loopw [3, 10] (fun v i wr => ∃ (k : Nat) (bo : Option Addr) (bc : Nat), k ≤ D.L.length ∧ i = .int .i64 k ∧ v = .slice bo k bc ∧ Hid (wr.ownsRow w1.heap.size 3 1 (.slice bo k bc) k (Jap ((Dk.unsynced D.L).take k)) ∧ Below w1.heap.size w1 wr)) (fun _ i _ => D.L.length - (intOf i).toNat)
 case atStart => exact ⟨0, none, 0, Nat.zero_le _, rfl, rfl, Qh ⟨World.ownsRow_nil _ _ _ _, Below.refl _ _⟩⟩
 case round =>
  rename_i wr
  obtain ⟨k, bo, bc, hk, rfl, rfl, HH⟩ := hrel;have HFk := HF.o;by_cases hlt : k < D.L.length
  ·have d1 : decide (k < D.L.length) = true := by simpa using hlt
   obtain ⟨q1, q2, q3⟩ := Dk.at5 HO.o hlt;have hm := List.getElem_mem hlt;have hs := HS.o _ hm;have hz := HZ.o _ hm;have HI2 := HI1.o.below HH.o.2;have hR2 := Jaf HR.o HH.o.2;rw [HN.o] at hR2;obtain ⟨g, rfl, _, _, hcg⟩ := Jck hR2 hlt;have hnk : (txs5 (Dk.names D.L))[k]? = some (.string (S (D.L[k]).name)) := by simp [txs5, Dk.names, hlt]
   rw [hnk] at hcg;have c2 : wr.cell? ⟨d, 2, none⟩ = some (.map (some mb)) := HI2.box.cell 2;have HM := Qh HI2.map;have HNL := Qh (show (D.L[k]).name.length ≤ 140737488351232 from by omega);obtain ⟨fo, fc, hv⟩ := Jac (HI2.vrow (D.L[k]).name)
   have HTK := Qh (show Jap ((Dk.unsynced D.L).take (k + 1)) = Jap ((Dk.unsynced D.L).take k) ++ [.int .i64 ((D.L[k].dat.length : Int) - (D.L[k].safe : Int))] from by
    rw [Jcs _ k (by rw [HU.o]; exact hlt), Jha]
    simp [Jap, Dk.unsynced])
   rw [q1] at hv;have HV := Qh hv;have HQ1 := Qh q1;clear HI2 hR2 hnk q1 q2 q3 hv hm;generalize D.L[k] = f at *;have hs2 : (f.safe : Int) ≤ f.dat.length := by omega
   go_wp2_with (first
    | (at_lookup; refine Jcr _ rfl _ _ rfl rfl rfl HM.o HNL.o _ HV.o ?_; rw [HQ1.o])
    | (at_builtin; refine wpList_append_own _ rfl _ _ 40 rfl w1.heap.size 3 j0 (.int .i64 0) 1 8 Tryz.underlying40 hj hy0 hy1 hy2 rfl (by decide) (.slice bo k bc) k _ rfl ((HH.o.1.alloc _).alloc _) ⟨wr.heap.size + 1, 0, none⟩ 1 1 [.int .i64 ((f.dat.length : Int) - (f.safe : Int))] rfl rfl (Jmh _ _ _ _) (by simp [Value.oneCell']) (by unfold maxLen; omega) (by omega) (by have := HH.o.2.size; simp; omega) ?_; intro v8 w8 ho8 hg8 hn8; obtain ⟨a8, c8, rfl⟩ := Jac ho8; have HO8 := Qh (show w8.ownsRow w1.heap.size 3 1 (.slice a8 (k + 1) c8) (k + 1) (Jap ((Dk.unsynced D.L).take (k + 1))) ∧ Below w1.heap.size w1 w8 from ⟨by rw [HTK.o]; exact ho8, ((HH.o.2.alloc HH.o.2.size _).alloc (by have := HH.o.2.size; simp; omega) _).grown hg8 (by have := HH.o.2.size; simp; omega) (fun q hq => (HH.o.1.lt q hq).1)⟩); clear ho8 hg8 hn8))
   go_roundw
   case rel => exact ⟨k + 1, a8, c8, by omega, by go_num, rfl, HO8⟩
   case measure => simp [intOf]; omega
  ·have d1 : decide (k < D.L.length) = false := by simpa using hlt
   obtain rfl : k = D.L.length := by omega
   have HFIN := Qh (show (Dk.unsynced D.L).take D.L.length = Dk.unsynced D.L from by rw [← HU.o, List.take_length]);go_wp2_with fail;go_ret;refine ⟨bo, bc, by rw [HU.o]; rfl, ?_, Jaa HB.o (HH.o.2)⟩;have := HH.o.1;rw [HFIN.o] at this;rw [HU.o];exact Jaq this HB.o.size
end
end
section
open Go Go.RowKit Go.Maps
structure DkCo (B d mb : Nat) (V : List UInt8 → Value) (sv : Value) (D : Dk.St) (w : World) : Prop where
 box : Bk (dkC D mb sv) 51 w d
 map : w.ownsMap Tryz.prog 9 Ja8 mb D.L.length (datM V D.L)
 row : ∀ f ∈ D.L, w.ownsRow B 5 1 (V f.name) f.dat.length (bts f.dat)
 ap : ∀ f ∈ D.L, ∀ g ∈ D.L, f.name ≠ g.name → ∀ q, (V f.name).ownBlock = some q → (V g.name).ownBlock ≠ some q
def Fc (d mb : Nat) (V : List UInt8 → Value) (L : List Dk.Fl) (b : Nat) : Prop := b = d ∨ b = mb ∨ ∃ f ∈ L, (V f.name).ownBlock = some b
theorem Jeb {H : Type} {P : Program} {k : TypeId} {R : Value → Option (DataW H × List MemPlace)} {w : World} {b n : Nat} {D : DataW H} (h : w.ownsMap P k R b n D) {m : Nat} (hm : Maps.size D ≤ m) : w.ownsMap P k R b m D := by
 obtain ⟨es, clock, hb, F, hs, rfl⟩ := h;exact ⟨es, clock, hb, F, by simpa [Maps.size, length_sorted] using hm, rfl⟩
section
variable {B d mb : Nat} {V : List UInt8 → Value} {sv sv' : Value} {c : Cs} {D : Dk.St} {w w' : World} {A F : Nat → Prop}
theorem DkIn.co (h : DkIn B d mb V sv c D w) : DkCo B d mb V sv D w := ⟨h.box, h.map, h.row, h.ap⟩
theorem DkCo.in (h : DkCo B d mb V sv D w) (hs : Jh0 B d sv c w D.set) : DkIn B d mb V sv c D w := ⟨h.box, h.map, h.row, h.ap, hs⟩
theorem DkCo.wr (h : DkCo B d mb V sv D w) (hw : Wr A w w') (hA : ∀ b, Fc d mb V D.L b → ¬ A b) : DkCo B d mb V sv D w' :=
 ⟨h.box.wr hw (hA _ (.inl rfl)), Jcp h.map hw (hA _ (.inr (.inl rfl))), fun f hf => Jal (h.row f hf) hw (fun q hq => hA _ (.inr (.inr ⟨f, hf, hq⟩))), h.ap⟩
theorem DkCo.below (h : DkCo B d mb V sv D w) (hb : Below w.heap.size w w') : DkCo B d mb V sv D w' := h.wr (A := fun _ => False) (Jad hb) (fun _ _ q => q)
theorem DkCo.ne (h : DkCo B d mb V sv D w) : mb ≠ d := Jbs h.map h.box
theorem DkCo.rne (h : DkCo B d mb V sv D w) {f : Dk.Fl} (hf : f ∈ D.L) {q : Nat} (hq : (V f.name).ownBlock = some q) : q ≠ d ∧ q ≠ mb ∧ B ≤ q ∧ q < w.heap.size :=
 ⟨Jao h.box (h.row f hf) (by decide) q hq, Jd9 h.map (h.row f hf) q hq, (h.row f hf).lt q hq⟩
theorem DkCo.boxed (h : DkCo B d mb V sv D w) (hw : Wr (fun q => q = d) w w') {D' : Dk.St} (hL : D'.L = D.L) (hb : Bk (dkC D' mb sv') 51 w' d) : DkCo B d mb V sv' D' w' := by
 refine ⟨hb, ?_, ?_, ?_⟩
 ·rw [hL]; exact Jcp h.map hw h.ne
 ·rw [hL]; exact fun f hf => Jal (h.row f hf) hw (fun q hq => (h.rne hf hq).1)
 ·rw [hL]; exact h.ap
theorem DkCo.putW (h : DkCo B d mb V sv D w) {f : Dk.Fl} {v : Value} (hw : Wr A w w') (hA : ∀ g ∈ D.L, g.name ≠ f.name → ∀ q, (V g.name).ownBlock = some q → ¬ A q)
  (hbox : Bk (dkC { D with L := Dk.put f D.L } mb sv') 51 w' d) {n : Nat} (hmap : w'.ownsMap Tryz.prog 9 Ja8 mb n (datM (upV V f.name v) (Dk.put f D.L)))
  (hrow : w'.ownsRow B 5 1 v f.dat.length (bts f.dat)) (hap : ∀ g ∈ D.L, g.name ≠ f.name → ∀ q, v.ownBlock = some q → (V g.name).ownBlock ≠ some q) :
  DkCo B d mb (upV V f.name v) sv' { D with L := Dk.put f D.L } w' := by
 refine ⟨hbox, Jeb hmap (by rw [Ja3]; exact Nat.le_refl _), fun g hg => ?_, fun g hg g' hg' hne q hq hq' => ?_⟩
 ·rcases Dk.mem_put.1 hg with rfl | ⟨hg, hn⟩
  ·rw [Jbp]; exact hrow
  ·rw [Jbb V v hn]
   exact Jal (h.row g hg) hw (hA g hg hn)
 ·rcases Dk.mem_put.1 hg with e1 | ⟨hm, hn⟩
  ·rcases Dk.mem_put.1 hg' with e2 | ⟨hm', hn'⟩
   ·exact hne (e1.trans e2.symm ▸ rfl)
   ·rw [e1, Jbp] at hq
    rw [Jbb V v hn'] at hq';exact hap g' hm' hn' q hq hq'
  ·rw [Jbb V v hn] at hq
   rcases Dk.mem_put.1 hg' with e2 | ⟨hm', hn'⟩
   ·rw [e2, Jbp] at hq'
    exact hap g hm hn q hq' hq
   ·rw [Jbb V v hn'] at hq'
    exact h.ap g hm g' hm' hne q hq hq'
theorem DkCo.delW (h : DkCo B d mb V sv D w) {nm : List UInt8} (hw : Wr (fun q => q = d ∨ q = mb) w w')
  (hbox : Bk (dkC { D with L := Dk.del nm D.L } mb sv) 51 w' d) {n : Nat} (hmap : w'.ownsMap Tryz.prog 9 Ja8 mb n (datM V (Dk.del nm D.L))) : DkCo B d mb V sv { D with L := Dk.del nm D.L } w' := by
 refine ⟨hbox, Jeb hmap (by rw [Ja3]; exact Nat.le_refl _), fun g hg => ?_, fun g hg g' hg' => h.ap g (Dk.mem_del.1 hg).1 g' (Dk.mem_del.1 hg').1⟩;have hg := (Dk.mem_del.1 hg).1
 exact Jal (h.row g hg) hw (fun q hq => by
  obtain ⟨h1, h2, _⟩ := h.rne hg hq;rintro (e | e)
  ·exact h1 e
  ·exact h2 e)
theorem DkIn.setW (h : DkIn B d mb V sv c D w) (hw : Wr A w w') (hA : ∀ q, A q → q = d ∨ q = mb ∨ (∃ f ∈ D.L, (V f.name).ownBlock = some q) ∨ w.heap.size ≤ q) : Jh0 B d sv c w' D.set := by
 have hs := h.set;have hc := h.co;generalize D.set = o at *;cases o with
 | none => exact hs
 | some p =>
  obtain ⟨n, ks⟩ := p;obtain ⟨h1, h2, h3, h4, h5, h6⟩ := hs
  have key : ∀ {C : Array Value} {T : TypeId} {b : Nat}, Bk C T w b → T ≠ 51 → T ≠ 5 → ¬ A b := fun {C T b} hb hT hT' ha => by
   rcases hA b ha with rfl | rfl | ⟨f, hf, hq⟩ | hl
   ·have h7 := h.box
    unfold Bk at hb h7;rw [hb] at h7;simp at h7;exact hT h7.2
   ·exact Jbs h.map hb rfl
   ·exact Jao hb (h.row f hf) hT' _ hq rfl
   ·have := hb.lt; omega
  refine ⟨h1, h2.wr hw (key h2 (by decide) (by decide)), h3.wr hw (key h3 (by decide) (by decide)), h4.wr hw (key h4 (by decide) (by decide)), h5.wr hw (fun a hn ha => ?_), h6⟩;intro hx;have hr := h5 hn;rw [ha] at hr;rcases hr.2 with ⟨e, _⟩ | ⟨g, cap, cur, e, _, hg, _⟩
  ·cases e
  ·injection e with e1
   injection e1 with e1
   subst e1;have hb : w.heap[g]? = some (.cells cur 3 (0, 0)) := hg;exact key (C := cur) (T := 3) (b := g) hb (by decide) (by decide) hx
end
end
section
open Go Go.RowKit Go.Maps
section
variable {w : World} {ops : Array Oper} {o : Oper} {a : Act} {K : Act → World → Prop} {Q : Exit → Act → World → Prop} {E : Prop}
theorem Jk5 (hgd : o.guard = none) (m x : Operand) (hop : o.op = Op.lookup 49 m x false) {mb n : Nat} {V : List UInt8 → Value} {L : List Dk.Fl} {nm : List UInt8} (hm : a.eval m = .map (some mb)) (hx : a.eval x = .string (S nm))
  (hown : w.ownsMap Tryz.prog 9 Ja8 mb n (datM V L)) (hl : nm.length ≤ 140737488351232) (v : Value) (he : vOf V nm L = v) (hK : K (a.put o.dst (.agg #[v, .int .i64 (Dk.get nm L).safe])) w) :
  if Region.wanted o (yielded ops a.tmps) = true then Oper.wp Tryz.prog o a w K Q else E := by
 subst he;have hw : Region.wanted o (yielded ops a.tmps) = true := by simp [Region.wanted, hgd]
 rw [if_pos hw];have hrun := Jg9 hown hl;unfold Oper.wp;simp [execOp, hop, hm, hx, hrun, Result.andThen];exact hK
theorem Jcl (hgd : o.guard = none) (m x v : Operand) (hop : o.op = Op.mapUpdate 49 m x v) {mb n : Nat} {V : List UInt8 → Value} {L : List Dk.Fl} {f : Dk.Fl} {u : Value} (hm : a.eval m = .map (some mb)) (hx : a.eval x = .string (S f.name)) (hv : a.eval v = .agg #[u, .int .i64 f.safe])
  (hown : w.ownsMap Tryz.prog 9 Ja8 mb n (datM V L)) (hn : n ≤ 100000) (hl : f.name.length ≤ 140737488351232)
  (hK : ∀ w', w'.ownsMap Tryz.prog 9 Ja8 mb (n + 1) (datM (upV V f.name u) (Dk.put f L)) → w.mapTurned w' mb → K (a.put o.dst undef) w') :
  if Region.wanted o (yielded ops a.tmps) = true then Oper.wp Tryz.prog o a w K Q else E := by
 have hw : Region.wanted o (yielded ops a.tmps) = true := by simp [Region.wanted, hgd]
 rw [if_pos hw];obtain ⟨w', hrun, r1, r2⟩ := hown.store law5 Tryz.underlying49 (by unfold maxLen; omega) (key5 hl) (val := .agg #[u, .int .i64 f.safe]) (d := .held (flV u f.safe)) (ps := []) rfl;rw [Joa] at r1;unfold Oper.wp;simp [execOp, hop, hm, hx, hv, hrun, Result.andThen];exact hK _ r1 r2
end
theorem Jjy (w : World) (v : Value) (n : Int) : (Instr.field 118 (.agg #[v, .int .i64 n]) 0).run Tryz.prog w = .ok v w := by kernel_rfl
theorem Ja7 {w w' : World} {b : Nat} {A : Nat → Prop} (h : w.mapTurned w' b) (hA : A b) : Wr A w w' := Jby h.grown (fun q hq => by cases hq; exact .inl hA)
section
variable {B d mb : Nat} {V : List UInt8 → Value} {sv : Value} {c : Cs} {D : Dk.St} {w : World} {F : Nat → Prop}
theorem DkCo.vrow (h : DkCo B d mb V sv D w) (nm : List UInt8) : w.ownsRow B 5 1 (vOf V nm D.L) (Dk.get nm D.L).dat.length (bts (Dk.get nm D.L).dat) := by
 unfold vOf;cases hh : Dk.has nm D.L with
 | true =>
  obtain ⟨h1, h2⟩ := Dk.get_mem hh;have := h.row _ h1;rw [h2] at this;exact this
 | false =>
  rw [Dk.get_none hh];exact World.ownsRow_nil _ _ _ _
theorem DkCo.drew (h : DkCo B d mb V sv D w) : DkCo B d mb V sv D w.drew := ⟨h.box, h.map, h.row, h.ap⟩
theorem drop5 (h : DkCo B d mb V sv D w) (hO : Dk.OkL D.L) (hz : Dk.size D.L ≤ 1048576) (nm : List UInt8) (hl : nm.length ≤ 140737488351232) : Calls Tryz.prog 129 #[.pointer (some ⟨d, 0, none⟩), .string (S nm)] w fun e w' =>
  e = .returned (.tuple #[]) ∧ DkCo B d mb V sv { D with L := Dk.del nm D.L } w' ∧ Wr (fun q => q = d ∨ q = mb) w w' := by
 have hsd := Dk.size_del (nm := nm) hO.ne;obtain ⟨ao, ac, hv⟩ := Jac (h.vrow nm);have HV := Qh hv;have HL := Qh hl;have hft := Jjy;have e1 : IntKind.i64.wrap ((Dk.size D.L : Int) - ((Dk.get nm D.L).dat.length : Int)) = (Dk.size D.L : Int) - ((Dk.get nm D.L).dat.length : Int) := IntWalk.i64_in _ (by omega);have HE := Qh (show (Dk.size D.L : Int) - ((Dk.get nm D.L).dat.length : Int) = (Dk.size (Dk.del nm D.L) : Int) from by omega);have HX0 := Qh h;have HOK := Qh hO;clear hsd hv hl h hO hz;go_enter Tryz.func129, Tryz.ntmps129;go_wp2_with fail;refine Jaj (S := fun W => W.cell? ⟨d, 1, none⟩ = some (.int .i64 (Dk.size D.L)) ∧ W.cell? ⟨d, 2, none⟩ = some (.map (some mb)) ∧ W.ownsMap Tryz.prog 9 Ja8 mb D.L.length (datM V D.L)) 15 (by kernel_rfl) ?_ (fun hQ => ?_)
 ·exact ⟨HX0.o.box.cell 1, HX0.o.box.cell 2, HX0.o.map⟩
 have HX := Qh HX0.o.drew;have HW := Qh ((Wr.refl (fun q => q = d ∨ q = mb) w).drew);obtain ⟨wd, hwd⟩ : ∃ x, x = World.drew w := ⟨_, rfl⟩
 rw [← hwd] at HX HW hQ ⊢;clear hwd;refine tkY 0 ?_;refine tkY 1 ?_;refine tkY 2 ?_;refine tkZ 3 [12, 13, 14, 15] ?_;refine tkY 4 ?_;refine tkY 5 ?_;refine tkY 6 ?_;refine tkZ 7 [9, 10, 11, 12, 13, 14, 15] ?_;refine tkY 8 ?_;refine tqZ 9 fun K hK => ?_
 refine Jk5 (by rfl) _ _ (by rfl) (by rfl) (by rfl) hQ.2.2 HL.o _ HV.o ?_;refine hK.out _ _ ?_ (fun hQ => ?_)
 ·exact hQ
 clear hK K;refine tkY 10 ?_;refine tkY 11 ?_;refine tkY 12 ?_;refine tkY 13 ?_;refine tkY 14 ?_;refine tqL 15 fun K hK => ?_
 have f1 := HX.o.box.free 1;have m1 : wd.cell? ⟨d, 1, none⟩ = some (.int .i64 (Dk.size D.L)) := HX.o.box.cell 1;go_simp;refine hK.out _ _ ?_;clear hK K;refine wpAny_done (by kernel_rfl) ?_ _;clear hQ f1 m1 e1;rw [HE.o];have HB := Qh (show Bk (dkC { D with L := Dk.del nm D.L } mb sv) 51 (wd.setCell ⟨d, 1, none⟩ (.int .i64 (Dk.size (Dk.del nm D.L)))) d from HX.o.box.set 1 _);have HM := Qh (HX.o.map.setCell (a := ⟨d, 1, none⟩) HX.o.ne (.int .i64 (Dk.size (Dk.del nm D.L))));have HWW := Qh (show Wr (fun q => q = d ∨ q = mb) wd (wd.setCell ⟨d, 1, none⟩ (.int .i64 (Dk.size (Dk.del nm D.L)))) from Jai _ _ _ (.inl rfl));generalize (wd.setCell ⟨d, 1, none⟩ (.int .i64 (Dk.size (Dk.del nm D.L)))) = w5 at *;have c2 : w5.cell? ⟨d, 2, none⟩ = some (.map (some mb)) := HB.o.cell 2;go_wp2_with (at_delete; refine wpList_delete_own _ rfl _ _ 49 9 rfl 118 law5 Tryz.underlying49 Ja8 mb D.L.length (datM V D.L) rfl HM.o _ _ rfl (key5 HL.o) ?_; intro w6 hm6 ht6)
 go_end0
 rw [Jie] at hm6;have hwt : Wr (fun q => q = d ∨ q = mb) w5 w6 := Ja7 ht6 (.inr rfl);have hw2 := HWW.o.trans hwt;exact ⟨rfl, HX.o.delW hw2 (HB.o.wr (Ja7 (A := fun q => q = mb) ht6 rfl) (fun e => HX.o.ne e.symm)) hm6, HW.o.trans hw2⟩
end
end
section
open Go Go.RowKit
namespace Dk
theorem put_at {f : Fl} : ∀ {L : List Fl} {k : Nat}, L.Pairwise (fun f g => Op.bytesLess f.name g.name = true) → ∀ h : k < L.length, f.name = (L[k]).name → put f L = L.set k f
 | [], k, _, h, _ => by simp at h
 | x :: r, 0, hp, h, e => by
  obtain ⟨h1, h2⟩ := List.pairwise_cons.1 hp;simp only [List.getElem_cons_zero] at e
  have hd : del f.name (x :: r) = r := by
   unfold del;have e1 : (x.name == f.name) = true := by rw [e]; simp
   simp only [List.filter_cons, e1, Bool.not_true, Bool.false_eq_true, if_false];refine List.filter_eq_self.2 (fun g hg => ?_);have h3 := h1 g hg;cases hx : (g.name == f.name) with
   | false => rfl
   | true =>
    have : g.name = f.name := by simpa using hx
    rw [this, e, less_irr5] at h3;cases h3
  unfold put;rw [hd];cases r with
  | nil => rfl
  | cons y r =>
   have h3 := h1 y (by simp);rw [← e] at h3;simp [ins, h3]
 | x :: r, k + 1, hp, h, e => by
  obtain ⟨h1, h2⟩ := List.pairwise_cons.1 hp;have hk : k < r.length := by simpa using h
  simp only [List.getElem_cons_succ] at e;have h3 := h1 _ (List.getElem_mem hk);rw [← e] at h3;have hne : x.name ≠ f.name := fun q => by rw [q, less_irr5] at h3; cases h3
  have hx : (x.name == f.name) = false := by simpa using hne
  have hl : Op.bytesLess f.name x.name = false := by rw [less_flip5 x.name f.name hne, h3]; rfl
  have ih := put_at (f := f) h2 hk e;unfold put at *;have hd : del f.name (x :: r) = x :: del f.name r := by simp [del, hx]
  rw [hd];simp only [ins, hl, Bool.false_eq_true, if_false, List.set_cons_succ];rw [ih]
def mix (ks : List Int) (L : List Fl) (k : Nat) : List Fl := (cut ks L).take k ++ L.drop k
theorem mix_zero (ks : List Int) (L : List Fl) : mix ks L 0 = L := by simp [mix]
theorem mix_all (ks : List Int) (L : List Fl) : mix ks L L.length = cut ks L := by
 unfold mix;rw [List.drop_length, List.append_nil, List.take_of_length_le (by rw [cut_len]; exact Nat.le_refl _)]
theorem mix_len (ks : List Int) (L : List Fl) (k : Nat) : (mix ks L k).length = L.length := by
 unfold mix;rw [List.length_append, List.length_take, cut_len, List.length_drop];omega
theorem mix_names (ks : List Int) (L : List Fl) (k : Nat) : names (mix ks L k) = names L := by
 have h := cut_names ks L;unfold mix names at *;rw [List.map_append, List.map_take, h, ← List.map_take, ← List.map_append, List.take_append_drop]
theorem mix_at (ks : List Int) (L : List Fl) {k : Nat} (hk : k < L.length) : ∃ h : k < (mix ks L k).length, (mix ks L k)[k] = L[k] := by
 refine ⟨by rw [mix_len]; exact hk, ?_⟩;unfold mix;rw [List.getElem_append_right (by rw [List.length_take, cut_len]; omega)];simp only [List.length_take, cut_len, List.getElem_drop];congr 1
 omega
theorem mix_set (ks : List Int) (L : List Fl) {k : Nat} (hk : k < L.length) : (mix ks L k).set k (left L[k] (ks.getD k 0)) = mix ks L (k + 1) := by
 unfold mix;have hc : k < (cut ks L).length := by rw [cut_len]; exact hk
 have ha := cut_at ks L k hk;have e1 : (cut ks L).getD k fl0 = (cut ks L)[k] := by simp [List.getD, hc]
 have e2 : L.getD k fl0 = L[k] := by simp [List.getD, hk]
 rw [e1, e2] at ha;rw [List.set_append_right _ _ (by rw [List.length_take]; omega)];rw [show k - ((cut ks L).take k).length = 0 from by rw [List.length_take]; omega];rw [List.drop_eq_getElem_cons hk, List.set_cons_zero, List.take_succ_eq_append_getElem hc, ha];simp
theorem mix_ok {ks : List Int} {L : List Fl} (h : OkL L) (k : Nat) : OkL (mix ks L k) := by
 refine ⟨pair_names (mix_names ks L k).symm h.up, fun f hf => ?_, fun f hf => ?_⟩
 ·rcases List.mem_append.1 hf with hf | hf
  ·exact (h.cut ks).named f (List.mem_of_mem_take hf)
  ·exact h.named f (List.mem_of_mem_drop hf)
 ·rcases List.mem_append.1 hf with hf | hf
  ·exact (h.cut ks).safe f (List.mem_of_mem_take hf)
  ·exact h.safe f (List.mem_of_mem_drop hf)
theorem mix_put {ks : List Int} {L : List Fl} (h : OkL L) {k : Nat} (hk : k < L.length) : put (left L[k] (ks.getD k 0)) (mix ks L k) = mix ks L (k + 1) := by
 obtain ⟨h1, h2⟩ := mix_at ks L hk;rw [put_at (mix_ok h k).up h1 (by rw [h2]; rfl), mix_set ks L hk]
theorem mix_get {ks : List Int} {L : List Fl} (h : OkL L) {k : Nat} (hk : k < L.length) : get (L[k]).name (mix ks L k) = L[k] ∧ has (L[k]).name (mix ks L k) = true := by
 obtain ⟨h1, h2⟩ := mix_at ks L hk;have hm := List.getElem_mem h1;rw [h2] at hm;exact ⟨get_of (mix_ok h k).ne hm, has_iff.2 ⟨_, hm, rfl⟩⟩
theorem mix_size {ks : List Int} {L : List Fl} (h : OkL L) {k : Nat} (hk : k < L.length) : size (mix ks L (k + 1)) + (L[k]).dat.length = size (mix ks L k) + (left L[k] (ks.getD k 0)).dat.length := by
 have h1 := size_put (mix_ok (ks := ks) h k) (left L[k] (ks.getD k 0));rw [mix_put h hk] at h1;have h2 : (left L[k] (ks.getD k 0)).name = (L[k]).name := rfl;rw [h2, (mix_get h hk).1] at h1;exact h1
theorem mix_le {ks : List Int} {L : List Fl} (h : OkL L) : ∀ {k : Nat}, k ≤ L.length → size (mix ks L k) ≤ size L
 | 0, _ => by rw [mix_zero]; exact Nat.le_refl _
 | k + 1, hk => by
  have h1 := mix_le (ks := ks) h (k := k) (by omega);have h2 := mix_size (ks := ks) h (k := k) (by omega);have h3 := left_dat L[k] (ks.getD k 0) (h.safe _ (List.getElem_mem (by omega)));have h4 := (left_le L[k] (ks.getD k 0) (h.safe _ (List.getElem_mem (by omega)))).2;omega
end Dk
end
section
open Go Go.RowKit Go.Maps
def NsA5 (w : World) (ao : Option Addr) (l : List Int) : Prop := l ≠ [] → ∃ g off, ao = some ⟨g, off, none⟩ ∧ ∀ j, j < l.length → w.cell? ⟨g, off + j, none⟩ = some (.int .i64 (l.getD j 0))
theorem Jaz {w : World} {p : Addr} {v : Value} (h : w.cell? p = some v) : p.block < w.heap.size := by
 unfold World.cell? at h;rcases Nat.lt_or_ge p.block w.heap.size with q | q
 ·exact q
 ·rw [Array.getElem?_eq_none q] at h; simp at h
theorem NsA5.wr {w w' : World} {ao : Option Addr} {l : List Int} {A : Nat → Prop} (h : NsA5 w ao l) (hw : Wr A w w') (hA : ∀ a, l ≠ [] → ao = some a → ¬ A a.block) : NsA5 w' ao l := fun hn => by
 obtain ⟨g, off, e, hc⟩ := h hn;refine ⟨g, off, e, fun j hj => ?_⟩;have h1 := hc j hj;rw [← h1];exact World.cell?_of_block (a := ⟨g, off + j, none⟩) (hw.block g (Jaz h1) (hA _ hn e))
theorem NsA5.below {w w' : World} {ao : Option Addr} {l : List Int} (h : NsA5 w ao l) (hb : Below w.heap.size w w') : NsA5 w' ao l := h.wr (A := fun _ => False) (Jad hb) (fun _ _ _ q => q)
theorem Joc {w : World} {B : Nat} {ao : Option Addr} {cap : Nat} {l : List Int} (h : w.ownsRow B 3 1 (.slice ao l.length cap) l.length (l.map (Value.int .i64))) : NsA5 w ao l := fun hn => by
 have hl : 0 < l.length := List.length_pos_iff.2 hn;obtain ⟨g, e, _, _, _⟩ := Jck h hl;refine ⟨g, 0, e, fun j hj => ?_⟩;obtain ⟨g', e', _, _, hc⟩ := Jck h hj;rw [e] at e';injection e' with e'
 injection e' with e'
 subst e';rw [Nat.zero_add, hc];simp [List.getD, hj]
theorem Jmj {w : World} {B : Nat} {e : TypeId} {ao : Option Addr} {n cap s : Nat} {xs : List Value} (h : w.ownsRow B e 1 (.slice ao n cap) n xs) (hs : s ≤ n) : w.ownsRow B e 1 (.slice ao s cap) s (xs.take s) := by
 have hl : xs.length = n := by simpa using h.1
 refine ⟨by rw [List.length_take, hl]; omega, ?_⟩;rcases h.2 with ⟨e1, rfl⟩ | ⟨g, cap', cur, e1, hB, hg, hc, hm, hz, ht⟩
 ·injection e1 with q1 q2 q3
  subst q1 q3;obtain rfl : s = 0 := by omega
  exact .inl ⟨rfl, rfl⟩
 ·injection e1 with q1 q2 q3
  subst q1 q3;refine .inr ⟨g, cap, cur, rfl, hB, hg, by omega, hm, hz, ?_⟩;rw [← ht, List.take_take];congr 1
  omega
theorem Jod {w : World} {B : Nat} {e : TypeId} {ao : Option Addr} {n cap : Nat} {xs : List Value} (h : w.ownsRow B e 1 (.slice ao n cap) n xs) : n ≤ cap ∧ (ao = none → cap = 0) ∧ ∀ a, ao = some a → a.off = 0 ∧ a.spot = none := by
 rcases h.2 with ⟨e1, rfl⟩ | ⟨g, cap', cur, e1, hB, hg, hc, hm, hz, ht⟩
 ·injection e1 with q1 q2 q3
  subst q1 q3;exact ⟨Nat.le_refl _, fun _ => rfl, fun a ha => by cases ha⟩
 ·injection e1 with q1 q2 q3
  subst q1 q3;exact ⟨hc, (fun h => by cases h), fun a ha => by cases ha; exact ⟨rfl, rfl⟩⟩
theorem Jkl (W : World) {ao : Option Addr} {n cap s : Nat} (i : Int) (hi : i = s) (hs : s ≤ cap) : (Instr.slice 116 (.slice ao n cap) none (some (.int .i64 i)) none).run Tryz.prog W = .ok (.slice ao s cap) W := by
 subst hi;have ht : Tryz.prog.underlying 116 = some (.slice (Tryz.prog.elem 116)) := by kernel_rfl
 rw [run_slice_h (P := Tryz.prog) (w := W) _ ao n cap ht .i64 s (by omega) (by omega)];have hz : (sizeOf (Tryz.prog.elem 116)).run Tryz.prog W = .ok 1 W := by kernel_rfl
 rw [hz];simp only [Result.andThen, sliced, Nat.zero_mul, Nat.sub_zero, Int.toNat_natCast]
 have e : (if cap = 0 then ao else ao.map (fun x => x.add 0)) = ao := by
  split
  ·rfl
  ·cases ao with
   | none => rfl
   | some a => simp [Addr.add]
 rw [e]
section
variable {B d mb : Nat} {V : List UInt8 → Value} {sv : Value} {c : Cs} {D : Dk.St} {w : World} {F : Nat → Prop}
def dnD (D : Dk.St) (ks : List Int) (k : Nat) : Dk.St := { D with up := false, set := none, L := Dk.mix ks D.L k }
theorem Jpu (D : Dk.St) (ks : List Int) : dnD D ks D.L.length = Dk.fall ks D := by unfold dnD Dk.fall; rw [Dk.mix_all]
def FlI (B d mb : Nat) (V : List UInt8 → Value) (D : Dk.St) (ks : List Int) (ao nao : Option Addr) (nac : Nat) (w wr : World) (k : Nat) : Prop :=
 ∃ Vk, DkCo B d mb Vk .nilFunc (dnD D ks k) wr ∧ (∀ nm, (Vk nm).ownBlock = (V nm).ownBlock) ∧ Wr (fun q => q = d ∨ q = mb) w wr ∧ NsA5 wr ao ks ∧ wr.ownsRow w.heap.size 9 1 (.slice nao D.L.length nac) D.L.length (txs5 (Dk.names D.L))
theorem Jij (ao : Option Addr) (n c n' c' : Nat) : (Value.slice ao n c).ownBlock = (Value.slice ao n' c').ownBlock := by cases ao <;> rfl
theorem FlI.step {ks : List Int} {ao nao : Option Addr} {nac k m X sz' n : Nat} {Vk : List UInt8 → Value} {f : Dk.Fl} {fo : Option Addr} {fc : Nat} {CX : Array Value} {W4 W7 w8 : World}
  (hC : DkCo B d mb Vk .nilFunc (dnD D ks k) W4) (hfm : f ∈ (dnD D ks k).L) (hvk : Vk f.name = .slice fo f.dat.length fc) (hm1 : f.safe + m ≤ f.dat.length)
  (hput : Dk.put ⟨f.name, f.dat.take (f.safe + m), f.safe + m⟩ (Dk.mix ks D.L k) = Dk.mix ks D.L (k + 1)) (hsz : sz' = Dk.size (Dk.mix ks D.L (k + 1)))
  (hX : Bk CX 118 W4 X) (hB : Bk ((dkC (dnD D ks k) mb .nilFunc).setIfInBounds 1 (.int .i64 sz')) 51 W7 d) (hW : Wr (fun q => q = d ∨ q = X) W4 W7)
  (hmap : w8.ownsMap Tryz.prog 9 Ja8 mb n (datM (upV Vk f.name (.slice fo (f.safe + m) fc)) (Dk.put ⟨f.name, f.dat.take (f.safe + m), f.safe + m⟩ (dnD D ks k).L))) (ht : W7.mapTurned w8 mb)
  (hVo : ∀ nm, (Vk nm).ownBlock = (V nm).ownBlock) (hWr : Wr (fun q => q = d ∨ q = mb) w W4) (hXw : w.heap.size ≤ X)
  (hNs : NsA5 W4 ao ks) (hkn : ∀ a, ks ≠ [] → ao = some a → ¬ (a.block = d ∨ a.block = mb)) (hkX : ∀ a, ks ≠ [] → ao = some a → a.block < X)
  (hNr : W4.ownsRow w.heap.size 9 1 (.slice nao D.L.length nac) D.L.length (txs5 (Dk.names D.L))) : FlI B d mb V D ks ao nao nac w w8 (k + 1) := by
 have hmd := hC.ne;have hmX := Jbs hC.map hX;have hw78 : Wr (fun q => q = mb) W7 w8 := Ja7 ht rfl;have hw : Wr (fun q => q = d ∨ q = X ∨ q = mb) W4 w8 := (hW.mono (fun x hx => .inl (hx.elim .inl (fun e => .inr (.inl e))))).step hw78 (fun x hx => .inl (.inr (.inr hx)))
 have hrne : ∀ g ∈ (dnD D ks k).L, ∀ q, (Vk g.name).ownBlock = some q → ¬ (q = d ∨ q = X ∨ q = mb) := fun g hg q hq => by
  have h1 := hC.rne hg hq;have h2 := Jao hX (hC.row g hg) (by decide) q hq;rintro (e | e | e)
  ·exact h1.1 e
  ·exact h2 e
  ·exact h1.2.1 e
 have hrow := hC.row f hfm;rw [hvk] at hrow;have htk := Jmj hrow hm1;have hbt : (bts f.dat).take (f.safe + m) = bts (f.dat.take (f.safe + m)) := by unfold bts; rw [List.map_take]
 have hlt : (f.dat.take (f.safe + m)).length = f.safe + m := by rw [List.length_take]; omega
 rw [hbt] at htk;have hown : ∀ q, (Value.slice fo (f.safe + m) fc).ownBlock = some q → (Vk f.name).ownBlock = some q := fun q hq => by rw [hvk, Jij fo _ _ (f.safe + m) fc]; exact hq
 have hput' : Dk.put ⟨f.name, f.dat.take (f.safe + m), f.safe + m⟩ (dnD D ks k).L = Dk.mix ks D.L (k + 1) := hput
 have h1 : DkCo B d mb (upV Vk f.name (.slice fo (f.safe + m) fc)) .nilFunc { dnD D ks k with L := Dk.put ⟨f.name, f.dat.take (f.safe + m), f.safe + m⟩ (dnD D ks k).L } w8 := by
  refine hC.putW (f := ⟨f.name, f.dat.take (f.safe + m), f.safe + m⟩) (v := .slice fo (f.safe + m) fc) hw (fun g hg hn q hq => hrne g hg q hq) ?_ hmap ?_ (fun g hg hn q hq hq' => ?_)
  ·have h2 := hB.wr hw78 (fun e => hmd e.symm)
   rw [hsz, ← hput'] at h2;exact h2
  ·show w8.ownsRow B 5 1 (.slice fo (f.safe + m) fc) (f.dat.take (f.safe + m)).length _
   rw [hlt];exact Jal htk hw (fun q hq => hrne f hfm q (hown q hq))
  ·exact hC.ap f hfm g hg (fun e => hn e.symm) q (hown q hq) hq'
 rw [hput'] at h1;refine ⟨_, h1, fun nm => ?_, hWr.step hw (fun x hx => ?_), hNs.wr hw (fun a hn ha hx => ?_), Jal hNr hw (fun q hq hx => ?_)⟩
 ·by_cases e : nm = f.name
  ·subst e
   rw [Jbp, ← hVo f.name, hvk];exact Jij _ _ _ _ _
  ·rw [Jbb _ _ e]; exact hVo nm
 ·rcases hx with e | e | e
  ·exact .inl (.inl e)
  ·exact .inr (by omega)
  ·exact .inl (.inr e)
 ·rcases hx with e | e | e
  ·exact hkn a hn ha (.inl e)
  ·have := hkX a hn ha; omega
  ·exact hkn a hn ha (.inr e)
 ·rcases hx with e | e | e
  ·exact Jao hC.box hNr (by decide) q hq e
  ·exact Jao hX hNr (by decide) q hq e
  ·exact Jd9 hC.map hNr q hq e
theorem fall5 (h : DkCo B d mb V sv D w) (hBd : B ≤ d) (hBm : B ≤ mb) (hO : Dk.OkL D.L) (hz : Dk.size D.L ≤ D.room) (hrm : D.room ≤ 1048576) (hn : D.L.length ≤ 1024) (ks : List Int) (ao : Option Addr) (cap : Nat) (hKO : Dk.KsOk ks) (hk : NsA5 w ao ks) (hkd : ∀ a, ks ≠ [] → ao = some a → a.block ≠ d) :
  Calls Tryz.prog 79 #[.pointer (some ⟨d, 0, none⟩), .slice ao ks.length cap] w fun e w' =>
   e = .returned (.tuple #[]) ∧ (∃ V', DkCo B d mb V' .nilFunc (Dk.fall ks D) w' ∧ ∀ nm, (V' nm).ownBlock = (V nm).ownBlock) ∧ Wr (fun q => q = d ∨ q = mb) w w' := by
 have hkm : ∀ a, ks ≠ [] → ao = some a → a.block ≠ mb := fun a hn ha e => by
  obtain ⟨g, off, e1, hc⟩ := hk hn;rw [ha] at e1;injection e1 with e1
  subst e1;have h0 := hc 0 (List.length_pos_iff.2 hn);obtain ⟨es, clock, hm, _⟩ := h.map;simp only at e;subst e;unfold World.cell? at h0;simp only [hm] at h0;cases h0
 have HKN := Qh (show ∀ a, ks ≠ [] → ao = some a → ¬ (a.block = d ∨ a.block = mb) from fun a h1 h2 h3 => h3.elim (hkd a h1 h2) (hkm a h1 h2));have HK := Qh hk;have hks := hKO.len;have HKB := Qh hKO.at_;have HX := Qh h;have HO := Qh hO;have HNL := Qh (show (Dk.names D.L).length = D.L.length from by simp [Dk.names]);have c3 : ∀ i, w.cell? ⟨d, i, none⟩ = (dkC D mb sv)[i]? := fun i => h.box.cell i
 have x3 : w.cell? ⟨d, 3, none⟩ = some (.bool D.up) := c3 3;have x5 : w.cell? ⟨d, 5, none⟩ = some sv := c3 5;have f3 : ∀ j, w.frozen? ⟨d, j, none⟩ = false := fun j => h.box.free j
 have HSZ := Qh (fun k (hk : k ≤ D.L.length) => Nat.le_trans (Dk.mix_le (ks := ks) hO hk) (Nat.le_trans hz hrm));have HB1 := Qh ((h.box.set 3 (.bool false)).set 5 .nilFunc);have HB2 := Qh hBd;have HB3 := Qh hBm;have HRM := Qh hrm;have HZZ := Qh hz;have HNN := Qh hn;clear h hO hkm hkd hk hKO c3 hBd hBm hrm hz hn;go_enter Tryz.func79, Tryz.ntmps79;go_wp2_with fail;obtain ⟨W0, hW0⟩ : ∃ x, x = (w.setCell ⟨d, 3, none⟩ (.bool false)).setCell ⟨d, 5, none⟩ .nilFunc := ⟨_, rfl⟩
 rw [← hW0] at HB1 ⊢;have hw0 : Wr (fun q => q = d) w W0 := by rw [hW0]; exact (Jai (A := fun q => q = d) _ _ _ rfl).trans (Jai _ _ _ rfl)
 clear hW0 x3 x5 f3
 have hc0 : DkCo B d mb V .nilFunc (dnD D ks 0) W0 := HX.o.boxed hw0 (by unfold dnD; exact Dk.mix_zero _ _) (by
  have h1 := HB1.o;unfold dkC dnD;rw [Dk.mix_zero]
  exact h1)
 have hdk : DkAt B (fun b => B ≤ b ∧ b < W0.heap.size) d (dnD D ks 0) W0 := by
  refine ⟨⟨Dk.mix_ok HO.o 0, by unfold dnD; rw [Dk.mix_len]; exact HNN.o, by unfold dnD; rw [Dk.mix_zero]; exact HZZ.o, HRM.o, (fun p hp => by cases hp), (fun _ => rfl), (fun p hp => by cases hp)⟩, mb, V, .nilFunc, ⟨0, 0, 0, none, 0⟩, hc0.in rfl, ?_, fun b hb => hb⟩;rintro b (rfl | rfl | ⟨f, hf, hq⟩ | ⟨hn, _⟩)
  ·exact ⟨HB2.o, hc0.box.lt⟩
  ·exact ⟨HB3.o, hc0.map.lt⟩
  ·have := hc0.rne hf hq
   exact ⟨this.2.2.1, this.2.2.2⟩
  ·exact absurd rfl hn
 have CN := Qh (Jii hdk);have HE0 := Qh (show Dk.names (dnD D ks 0).L = Dk.names D.L from by unfold dnD; exact Dk.mix_names _ _ _);rw [HE0.o] at CN;have HC0 := Qh hc0;have HW0 := Qh (hw0.mono (A' := fun q => q = d ∨ q = mb) (fun x hx => .inl (.inl hx)));have HK0 := Qh (HK.o.wr HW0.o HKN.o);clear hc0 hdk hw0 HB1 HE0;with_reducible refine CN.o.mono ?_
 rintro e W1 ⟨nao, nac, rfl, hrn, hbn⟩
 have HI0 := Qh (show FlI B d mb V D ks ao nao nac w W1 0 from ⟨V, HC0.o.below hbn, fun _ => rfl, HW0.o.trans (Jad hbn), HK0.o.below hbn, by
  have h1 := Jaq hrn HW0.o.size;rw [HNL.o] at h1
  exact h1⟩)
 clear CN HC0 HW0 HK0 hrn hbn;rw [HNL.o];go_wp2_with fail;go_loopw [17] (fun i wr => ∃ k : Nat, k ≤ D.L.length ∧ i = .int .i64 k ∧ Hid (FlI B d mb V D ks ao nao nac w wr k)) (fun i _ => D.L.length - (intOf i).toNat)
 case atStart => exact ⟨0, Nat.zero_le _, rfl, HI0⟩
 case round =>
  rename_i wr
  obtain ⟨k, hk, rfl, HH⟩ := hrel;have HFk := HNN.o;by_cases hlt : k < D.L.length
  ·have d1 : decide (k < D.L.length) = true := by simpa using hlt
   obtain ⟨Vk, hC, hVo, hWr, hNs, hNr⟩ := HH.o;have hg := Dk.mix_get (ks := ks) HO.o hlt;have hms := Dk.mix_size (ks := ks) HO.o hlt;have hmp := Qh (Dk.mix_put (ks := ks) HO.o hlt);have hzk := HSZ.o k hk;have hm := List.getElem_mem hlt;have hsf := HO.o.safe _ hm;have hn16 := (Dk.at5 HO.o hlt).2.2;have hvr := hC.vrow (D.L[k]).name;have hvo : vOf Vk (D.L[k]).name (dnD D ks k).L = Vk (D.L[k]).name := if_pos hg.2;have hgg : Dk.get (D.L[k]).name (dnD D ks k).L = D.L[k] := hg.1;have hgg0 := hgg;rw [hvo, hgg] at hvr;obtain ⟨fo, fc, hv⟩ := Jac hvr;rw [hv] at hvr;have hcap := (Jod hvr).1;have HV := Qh (hvo.trans hv);have HVK := Qh hv;have HGG := Qh hgg;have HVR := Qh hvr;obtain ⟨g, rfl, _, _, hcg⟩ := Jck hNr hlt;have hnk : (txs5 (Dk.names D.L))[k]? = some (.string (S (D.L[k]).name)) := by simp [txs5, Dk.names, hlt]
   rw [hnk] at hcg;have c2 : wr.cell? ⟨d, 2, none⟩ = some (.map (some mb)) := hC.box.cell 2;have HM := Qh hC.map;have HNM := Qh (show (D.L[k]).name.length ≤ 140737488351232 from by omega);have HMEM := Qh (show D.L[k] ∈ (dnD D ks k).L from by have h1 := (Dk.get_mem (L := (dnD D ks k).L) hg.2).1; rw [hgg0] at h1; exact h1)
   have HKX := Qh (show ∀ a, ks ≠ [] → ao = some a → a.block < wr.heap.size from fun a hn ha => by
    obtain ⟨g1, o1, e1, h1⟩ := hNs hn;rw [ha] at e1;injection e1 with e1
    subst e1
    exact Jaz (h1 0 (List.length_pos_iff.2 hn)))
   have HLEN := Qh (show (dnD D ks k).L.length ≤ 100000 from by unfold dnD; simp only; rw [Dk.mix_len]; omega);have HC := Qh hC;have HVO := Qh hVo;have HWR := Qh hWr;have HNS := Qh hNs;have HNR := Qh hNr;have hzf : (D.L[k]).dat.length ≤ 1048576 := Nat.le_trans (Dk.mem_size HO.o hm) (Nat.le_trans HZZ.o HRM.o)
   have hzg : (D.L[k]).dat.length ≤ Dk.size (Dk.mix ks D.L k) := by
    have h1 := Dk.get_size (Dk.mix_ok (ks := ks) HO.o k) (D.L[k]).name;rw [hg.1] at h1;exact h1
   have hkr : k < ks.length → -9223372036854775808 ≤ ks.getD k 0 ∧ ks.getD k 0 ≤ 9223372036854775807 := fun h => HKB.o _ (by
    have : ks.getD k 0 = ks[k] := by simp [List.getD, h]
    rw [this]; exact List.getElem_mem h)
   have hk0 : ¬ k < ks.length → ks.getD k 0 = 0 := fun h => by simp [List.getD, h]
   have HKC := Qh (fun (W : World) (hN : NsA5 W ao ks) (h : k < ks.length) => hN (fun e => by rw [e] at h; simp at h));clear hC hVo hWr hNs hNr hg hvr hvo hgg hgg0 hv hnk hm
   have hld : (Dk.left (D.L[k]) (ks.getD k 0)).dat.length = (D.L[k]).safe + min (ks.getD k 0).toNat ((D.L[k]).dat.length - (D.L[k]).safe) := by
    rw [Dk.left_dat _ _ hsf]; rfl
   have HLF := Qh (show Dk.left (D.L[k]) (ks.getD k 0) = ⟨(D.L[k]).name, (D.L[k]).dat.take ((D.L[k]).safe + min (ks.getD k 0).toNat ((D.L[k]).dat.length - (D.L[k]).safe)), (D.L[k]).safe + min (ks.getD k 0).toNat ((D.L[k]).dat.length - (D.L[k]).safe)⟩ from rfl);rw [hld] at hms;generalize D.L[k] = f at *;generalize hkv : ks.getD k 0 = kv at *;have HKV := Qh hkv;obtain ⟨m, hm⟩ : ∃ m, m = min kv.toNat (f.dat.length - f.safe) := ⟨_, rfl⟩
   rw [← hm] at hms HLF;have hm1 : f.safe + m ≤ f.dat.length := by omega
   clear hkv hld;obtain ⟨sz, hsz⟩ : ∃ sz, sz = Dk.size (Dk.mix ks D.L k) := ⟨_, rfl⟩
   have HSZK := Qh hsz;rw [← hsz] at hms hzk hzg;obtain ⟨sz', hsz'⟩ : ∃ sz', sz' = Dk.size (Dk.mix ks D.L (k + 1)) := ⟨_, rfl⟩
   have HSZK' := Qh hsz';rw [← hsz'] at hms;clear hsz hsz';by_cases hkk : k < ks.length
   ·have d2 : decide (k < ks.length) = true := by simpa using hkk
    have hmin : min (max kv 0) ((f.dat.length : Int) - (f.safe : Int)) = (m : Int) := by have := hkr hkk; omega
    have HMIN := Qh hmin;have hkr1 := hkr hkk;have HKK := Qh hkk;have hki : (k : Int) < (ks.length : Int) := by omega
    clear hkr hk0 hm hkk hmin;go_wp2_with (at_lookup; refine Jcr _ rfl _ _ rfl rfl rfl HM.o HNM.o _ HV.o ?_; rw [HGG.o])
    have HXB := Qh (Jae #[.slice fo f.dat.length fc, .int .i64 f.safe] 118 wr);have HC2 := Qh (HC.o.below (Qa (.cells #[.slice fo f.dat.length fc, .int .i64 f.safe] 118)));have HN2 := Qh (HNS.o.below (Qa (.cells #[.slice fo f.dat.length fc, .int .i64 f.safe] 118)));have HR2 := Qh (Jaf HNR.o (Qa (.cells #[.slice fo f.dat.length fc, .int .i64 f.safe] 118)));have HW2 := Qh (HWR.o.trans (Jcv wr (.cells #[.slice fo f.dat.length fc, .int .i64 f.safe] 118)));have HV2 := Qh (Jaf HVR.o (Qa (.cells #[.slice fo f.dat.length fc, .int .i64 f.safe] 118)));have HXL := Qh (show w.heap.size ≤ wr.heap.size from HWR.o.size);generalize (wr.alloc (.cells #[.slice fo f.dat.length fc, .int .i64 f.safe] 118)) = W2 at *;generalize wr.heap.size = X at *;clear c2 hcg HC HNS HNR HWR HVR HM HH;have e1 : IntKind.i64.wrap ((f.dat.length : Int) - (f.safe : Int)) = (f.dat.length : Int) - (f.safe : Int) := IntWalk.i64_in _ (by omega);obtain ⟨ga, oa, rfl, hka⟩ := HKC.o W2 HN2.o HKK.o;have hka1 := hka k HKK.o;rw [HKV.o] at hka1;have HKA := Qh hka1;clear hka hka1;refine wp_region_held_drew (S := fun V => V.cell? ⟨ga, oa + k, none⟩ = some (.int .i64 kv) ∧ V.cell? ⟨X, 0, none⟩ = some (.slice fo f.dat.length fc) ∧ V.cell? ⟨X, 1, none⟩ = some (.int .i64 f.safe)) (by kernel_rfl) ?_ (fun hQ => ?_)
    ·exact ⟨HKA.o, HXB.o.cell 0, HXB.o.cell 1⟩
    replace HXB := Qh (show _ from HXB.o.drew);replace HC2 := Qh (show _ from HC2.o.drew);replace HW2 := Qh (show _ from HW2.o.drew);obtain ⟨W3, hW3⟩ : ∃ x, x = World.drew W2 := ⟨_, rfl⟩
    replace HN2 := Qh (show NsA5 (World.drew W2) _ ks from HN2.o);replace HR2 := Qh (Jaf HR2.o ((Below.refl _ W2).drew));replace HV2 := Qh (Jaf HV2.o ((Below.refl _ W2).drew));rw [← hW3] at HXB HC2 HN2 HR2 HW2 HV2 hQ ⊢;clear hW3;refine tkH 0 ?_;refine tkH 1 ?_;refine tkH 2 ?_;refine tkH 3 ?_;refine tkH 4 ?_;refine tkH 5 ?_;refine tkH 6 ?_;refine tkH 7 ?_;refine tkH 8 ?_;refine tkH 9 ?_;refine tkH 10 ?_;refine tkH 11 ?_;refine tkH 12 ?_;refine wpAnyH_done (by kernel_rfl) ?_ _;clear hQ HKA;rw [HMIN.o];go_wp2_with fail;have e2 : IntKind.i64.wrap ((f.dat.length : Int) - (f.safe : Int) - (m : Int)) = (f.dat.length : Int) - (f.safe : Int) - (m : Int) := IntWalk.i64_in _ (by omega);have e3 : IntKind.i64.wrap ((sz : Int) - ((f.dat.length : Int) - (f.safe : Int) - (m : Int))) = (sz : Int) - ((f.dat.length : Int) - (f.safe : Int) - (m : Int)) := IntWalk.i64_in _ (by omega);have HSE := Qh (show (sz : Int) - ((f.dat.length : Int) - (f.safe : Int) - (m : Int)) = (sz' : Int) from by omega);have HSB := Qh (show W3.cell? ⟨d, 1, none⟩ = some (.int .i64 sz) from by rw [HC2.o.box.cell 1, HSZK.o]; rfl);refine Jaj (S := fun V => V.cell? ⟨d, 1, none⟩ = some (.int .i64 sz) ∧ V.cell? ⟨X, 0, none⟩ = some (.slice fo f.dat.length fc) ∧ V.cell? ⟨X, 1, none⟩ = some (.int .i64 f.safe)) 15 (by kernel_rfl) ?_ (fun hQ => ?_)
    ·exact ⟨HSB.o, HXB.o.cell 0, HXB.o.cell 1⟩
    replace HXB := Qh (show _ from HXB.o.drew);replace HC2 := Qh (show _ from HC2.o.drew);replace HW2 := Qh (show _ from HW2.o.drew);obtain ⟨W4, hW4⟩ : ∃ x, x = World.drew W3 := ⟨_, rfl⟩
    replace HN2 := Qh (show NsA5 (World.drew W3) _ ks from HN2.o);replace HR2 := Qh (Jaf HR2.o ((Below.refl _ W3).drew));replace HV2 := Qh (Jaf HV2.o ((Below.refl _ W3).drew));replace HSB := Qh (show (World.drew W3).cell? ⟨d, 1, none⟩ = some (.int .i64 sz) from HSB.o);rw [← hW4] at HXB HC2 HN2 HR2 HW2 HV2 HSB hQ ⊢;clear hW4;refine tkY 0 ?_;refine tkY 1 ?_;refine tkY 2 ?_;refine tkZ 3 [12, 13, 14, 15] ?_;refine tkY 4 ?_;refine tkZ 5 [6, 9, 11, 12, 13, 14, 15] ?_;refine tkY 6 ?_;refine tkY 7 ?_;refine tkZ 8 [9, 11, 12, 13, 14, 15] ?_;refine tkY 9 ?_;refine tkY 10 ?_;refine tkY 11 ?_;refine tkY 12 ?_;refine tkY 13 ?_;refine tkY 14 ?_;refine tqL 15 fun K hK => ?_
    have f1 := HC2.o.box.free 1;have m1 := HSB.o;go_simp;refine hK.out _ _ ?_;clear hK K;refine wpAny_done (by kernel_rfl) ?_ _;clear hQ f1 m1 e1 e2 e3;rw [HSE.o];have HB5 := Qh (HC2.o.box.set 1 (.int .i64 sz'));have HW5 := Qh (show Wr (fun q => q = d) W4 (W4.setCell ⟨d, 1, none⟩ (.int .i64 sz')) from Jai _ _ _ rfl);generalize (W4.setCell ⟨d, 1, none⟩ (.int .i64 sz')) = W5 at *;have hXd : X ≠ d := fun e => by have h1 := HXB.o; have h2 := HC2.o.box; unfold Bk at h1 h2; rw [e, h2] at h1; simp at h1
    have HXD := Qh hXd;have HX5 := Qh (HXB.o.wr HW5.o hXd);clear hXd;have x0 : W5.cell? ⟨X, 0, none⟩ = some (.slice fo f.dat.length fc) := HX5.o.cell 0;have x1 : W5.cell? ⟨X, 1, none⟩ = some (.int .i64 f.safe) := HX5.o.cell 1;have xf : ∀ j, W5.frozen? ⟨X, j, none⟩ = false := fun j => HX5.o.free j
    have hto := fun (W : World) => Jkl W (ao := fo) (n := f.dat.length) (cap := fc) (s := f.safe + m) ((f.safe : Int) + (m : Int)) (by omega) (by omega)
    go_wp2_with fail;rw [show ((f.safe : Int) + (m : Int)) = ((f.safe + m : Nat) : Int) from by omega];clear x0 x1 xf hto;have HX6 := Qh ((HX5.o.set 1 (.int .i64 ((f.safe + m) : Nat))).set 0 (.slice fo (f.safe + m) fc));have HW6 := Qh (show Wr (fun q => q = d ∨ q = X) W4 ((W5.setCell ⟨X, 1, none⟩ (.int .i64 ((f.safe + m) : Nat))).setCell ⟨X, 0, none⟩ (.slice fo (f.safe + m) fc)) from ((HW5.o.mono (fun x hx => .inl (.inl hx))).trans (Jai (A := fun q => q = d ∨ q = X) _ _ _ (.inr rfl))).trans (Jai (A := fun q => q = d ∨ q = X) _ _ _ (.inr rfl)));have HB6 := Qh (((HB5.o.other (c := X) (fun e => HXD.o e.symm) 1 (.int .i64 ((f.safe + m) : Nat))).other (c := X) (fun e => HXD.o e.symm) 0 (.slice fo (f.safe + m) fc)));generalize ((W5.setCell ⟨X, 1, none⟩ (.int .i64 ((f.safe + m) : Nat))).setCell ⟨X, 0, none⟩ (.slice fo (f.safe + m) fc)) = W6 at *;have HMX := Qh (Jbs HC2.o.map HXB.o);have HM6 := Qh (Jcp HC2.o.map HW6.o (fun h => h.elim HC2.o.ne HMX.o));have HS2 := Qh (show W6.cell? ⟨d, 2, none⟩ = some (.map (some mb)) from HB6.o.cell 2);have HS0 := Qh (show W6.cell? ⟨X, 0, none⟩ = some (.slice fo (f.safe + m) fc) from HX6.o.cell 0);have HS1 := Qh (show W6.cell? ⟨X, 1, none⟩ = some (.int .i64 ((f.safe + m) : Nat)) from HX6.o.cell 1);refine Jaj (S := fun V => V.cell? ⟨d, 2, none⟩ = some (.map (some mb)) ∧ V.cell? ⟨X, 0, none⟩ = some (.slice fo (f.safe + m) fc) ∧ V.cell? ⟨X, 1, none⟩ = some (.int .i64 ((f.safe + m) : Nat))) 6 (by kernel_rfl) ?_ (fun hQ => ?_)
    ·exact ⟨HS2.o, HS0.o, HS1.o⟩
    replace HM6 := Qh HM6.o.drew;replace HB6 := Qh HB6.o.drew;replace HW6 := Qh HW6.o.drew;obtain ⟨W7, hW7⟩ : ∃ x, x = World.drew W6 := ⟨_, rfl⟩
    rw [← hW7] at HM6 HB6 HW6 hQ ⊢;clear hW7;refine tkY 0 ?_;refine tkY 1 ?_;refine tkY 2 ?_;refine tkZ 3 [6] ?_;refine tkY 4 ?_;refine tkZ 5 [6] ?_;refine tqL 6 fun K hK => ?_
    refine Jcl (f := (⟨f.name, f.dat.take (f.safe + m), (f.safe + m)⟩ : Dk.Fl)) (u := .slice fo (f.safe + m) fc) (by rfl) _ _ _ (by rfl) (by rfl) (by rfl) (by rfl) HM6.o HLEN.o HNM.o ?_;intro w8 hm8 ht8;refine hK.out _ _ ?_;clear hK K;refine wpAny_done (by kernel_rfl) ?_ _;have hput := hmp.o;rw [HLF.o] at hput;have HFI := Qh (FlI.step (m := m) HC2.o HMEM.o HVK.o (by omega) hput HSZK'.o HXB.o HB6.o HW6.o hm8 ht8 HVO.o HW2.o HXL.o HN2.o HKN.o HKX.o HR2.o);clear hput hm8 ht8 hQ;go_wp2_with fail;go_roundw
    case rel => exact ⟨k + 1, by omega, by go_num, HFI⟩
    case measure => simp [intOf]; omega
   ·have d2 : decide (k < ks.length) = false := by simpa using hkk
    have hm0 : m = 0 := by rw [hm, hk0 hkk]; simp
    clear hkr hk0 hm hkk;go_wp2_with (at_lookup; refine Jcr _ rfl _ _ rfl rfl rfl HM.o HNM.o _ HV.o ?_; rw [HGG.o])
    have HXB := Qh (Jae #[.slice fo f.dat.length fc, .int .i64 f.safe] 118 wr);have HC2 := Qh (HC.o.below (Qa (.cells #[.slice fo f.dat.length fc, .int .i64 f.safe] 118)));have HN2 := Qh (HNS.o.below (Qa (.cells #[.slice fo f.dat.length fc, .int .i64 f.safe] 118)));have HR2 := Qh (Jaf HNR.o (Qa (.cells #[.slice fo f.dat.length fc, .int .i64 f.safe] 118)));have HW2 := Qh (HWR.o.trans (Jcv wr (.cells #[.slice fo f.dat.length fc, .int .i64 f.safe] 118)));have HV2 := Qh (Jaf HVR.o (Qa (.cells #[.slice fo f.dat.length fc, .int .i64 f.safe] 118)));have HXL := Qh (show w.heap.size ≤ wr.heap.size from HWR.o.size);generalize (wr.alloc (.cells #[.slice fo f.dat.length fc, .int .i64 f.safe] 118)) = W2 at *;generalize wr.heap.size = X at *;clear c2 hcg HC HNS HNR HWR HVR HM HH;have e1 : IntKind.i64.wrap ((f.dat.length : Int) - (f.safe : Int)) = (f.dat.length : Int) - (f.safe : Int) := IntWalk.i64_in _ (by omega);obtain rfl : m = 0 := hm0;have e2 : IntKind.i64.wrap ((f.dat.length : Int) - (f.safe : Int) - 0) = (f.dat.length : Int) - (f.safe : Int) := by rw [Int.sub_zero]; exact e1
    have e3 : IntKind.i64.wrap ((sz : Int) - ((f.dat.length : Int) - (f.safe : Int))) = (sz : Int) - ((f.dat.length : Int) - (f.safe : Int)) := IntWalk.i64_in _ (by omega);have HSE := Qh (show (sz : Int) - ((f.dat.length : Int) - (f.safe : Int)) = (sz' : Int) from by omega);have HSB := Qh (show W2.cell? ⟨d, 1, none⟩ = some (.int .i64 sz) from by rw [HC2.o.box.cell 1, HSZK.o]; rfl);refine Jaj (S := fun V => V.cell? ⟨d, 1, none⟩ = some (.int .i64 sz) ∧ V.cell? ⟨X, 0, none⟩ = some (.slice fo f.dat.length fc) ∧ V.cell? ⟨X, 1, none⟩ = some (.int .i64 f.safe)) 15 (by kernel_rfl) ?_ (fun hQ => ?_)
    ·exact ⟨HSB.o, HXB.o.cell 0, HXB.o.cell 1⟩
    replace HXB := Qh (show _ from HXB.o.drew);replace HC2 := Qh (show _ from HC2.o.drew);replace HW2 := Qh (show _ from HW2.o.drew);obtain ⟨W4, hW4⟩ : ∃ x, x = World.drew W2 := ⟨_, rfl⟩
    replace HN2 := Qh (show NsA5 (World.drew W2) _ ks from HN2.o);replace HR2 := Qh (Jaf HR2.o ((Below.refl _ W2).drew));replace HV2 := Qh (Jaf HV2.o ((Below.refl _ W2).drew));replace HSB := Qh (show (World.drew W2).cell? ⟨d, 1, none⟩ = some (.int .i64 sz) from HSB.o);rw [← hW4] at HXB HC2 HN2 HR2 HW2 HV2 HSB hQ ⊢;clear hW4;refine tkY 0 ?_;refine tkY 1 ?_;refine tkY 2 ?_;refine tkZ 3 [12, 13, 14, 15] ?_;refine tkY 4 ?_;refine tkZ 5 [6, 9, 11, 12, 13, 14, 15] ?_;refine tkY 6 ?_;refine tkY 7 ?_;refine tkZ 8 [9, 11, 12, 13, 14, 15] ?_;refine tkY 9 ?_;refine tkY 10 ?_;refine tkY 11 ?_;refine tkY 12 ?_;refine tkY 13 ?_;refine tkY 14 ?_;refine tqL 15 fun K hK => ?_
    have f1 := HC2.o.box.free 1;have m1 := HSB.o;go_simp;refine hK.out _ _ ?_;clear hK K;refine wpAny_done (by kernel_rfl) ?_ _;clear hQ f1 m1 e1 e2 e3;rw [HSE.o];have HB5 := Qh (HC2.o.box.set 1 (.int .i64 sz'));have HW5 := Qh (show Wr (fun q => q = d) W4 (W4.setCell ⟨d, 1, none⟩ (.int .i64 sz')) from Jai _ _ _ rfl);generalize (W4.setCell ⟨d, 1, none⟩ (.int .i64 sz')) = W5 at *;have hXd : X ≠ d := fun e => by have h1 := HXB.o; have h2 := HC2.o.box; unfold Bk at h1 h2; rw [e, h2] at h1; simp at h1
    have HXD := Qh hXd;have HX5 := Qh (HXB.o.wr HW5.o hXd);clear hXd;have x0 : W5.cell? ⟨X, 0, none⟩ = some (.slice fo f.dat.length fc) := HX5.o.cell 0;have x1 : W5.cell? ⟨X, 1, none⟩ = some (.int .i64 f.safe) := HX5.o.cell 1;have xf : ∀ j, W5.frozen? ⟨X, j, none⟩ = false := fun j => HX5.o.free j
    have hto := fun (W : World) => Jkl W (ao := fo) (n := f.dat.length) (cap := fc) (s := f.safe + 0) ((f.safe : Int) + 0) (by omega) (by omega)
    go_wp2_with fail;have hms0 : Dk.left f kv = ⟨f.name, f.dat.take (f.safe + 0), f.safe + 0⟩ := HLF.o;clear x0 x1 xf hto;have HX6 := Qh ((HX5.o.set 1 (.int .i64 (f.safe : Nat))).set 0 (.slice fo f.safe fc));have HW6 := Qh (show Wr (fun q => q = d ∨ q = X) W4 ((W5.setCell ⟨X, 1, none⟩ (.int .i64 (f.safe : Nat))).setCell ⟨X, 0, none⟩ (.slice fo f.safe fc)) from ((HW5.o.mono (fun x hx => .inl (.inl hx))).trans (Jai (A := fun q => q = d ∨ q = X) _ _ _ (.inr rfl))).trans (Jai (A := fun q => q = d ∨ q = X) _ _ _ (.inr rfl)));have HB6 := Qh (((HB5.o.other (c := X) (fun e => HXD.o e.symm) 1 (.int .i64 (f.safe : Nat))).other (c := X) (fun e => HXD.o e.symm) 0 (.slice fo f.safe fc)));generalize ((W5.setCell ⟨X, 1, none⟩ (.int .i64 (f.safe : Nat))).setCell ⟨X, 0, none⟩ (.slice fo f.safe fc)) = W6 at *;have HMX := Qh (Jbs HC2.o.map HXB.o);have HM6 := Qh (Jcp HC2.o.map HW6.o (fun h => h.elim HC2.o.ne HMX.o));have HS2 := Qh (show W6.cell? ⟨d, 2, none⟩ = some (.map (some mb)) from HB6.o.cell 2);have HS0 := Qh (show W6.cell? ⟨X, 0, none⟩ = some (.slice fo f.safe fc) from HX6.o.cell 0);have HS1 := Qh (show W6.cell? ⟨X, 1, none⟩ = some (.int .i64 (f.safe : Nat)) from HX6.o.cell 1);refine Jaj (S := fun V => V.cell? ⟨d, 2, none⟩ = some (.map (some mb)) ∧ V.cell? ⟨X, 0, none⟩ = some (.slice fo f.safe fc) ∧ V.cell? ⟨X, 1, none⟩ = some (.int .i64 (f.safe : Nat))) 6 (by kernel_rfl) ?_ (fun hQ => ?_)
    ·exact ⟨HS2.o, HS0.o, HS1.o⟩
    replace HM6 := Qh HM6.o.drew;replace HB6 := Qh HB6.o.drew;replace HW6 := Qh HW6.o.drew;obtain ⟨W7, hW7⟩ : ∃ x, x = World.drew W6 := ⟨_, rfl⟩
    rw [← hW7] at HM6 HB6 HW6 hQ ⊢;clear hW7;refine tkY 0 ?_;refine tkY 1 ?_;refine tkY 2 ?_;refine tkZ 3 [6] ?_;refine tkY 4 ?_;refine tkZ 5 [6] ?_;refine tqL 6 fun K hK => ?_
    refine Jcl (f := (⟨f.name, f.dat.take f.safe, f.safe⟩ : Dk.Fl)) (u := .slice fo f.safe fc) (by rfl) _ _ _ (by rfl) (by rfl) (by rfl) (by rfl) HM6.o HLEN.o HNM.o ?_;intro w8 hm8 ht8;refine hK.out _ _ ?_;clear hK K;refine wpAny_done (by kernel_rfl) ?_ _;have hput := hmp.o;rw [hms0] at hput;have HFI := Qh (FlI.step (m := 0) HC2.o HMEM.o HVK.o (by omega) hput HSZK'.o HXB.o HB6.o HW6.o hm8 ht8 HVO.o HW2.o HXL.o HN2.o HKN.o HKX.o HR2.o);clear hput hm8 ht8 hQ;go_wp2_with fail;go_roundw
    case rel => exact ⟨k + 1, by omega, by go_num, HFI⟩
    case measure => simp [intOf]; omega
  ·have d1 : decide (k < D.L.length) = false := by simpa using hlt
   obtain rfl : k = D.L.length := by omega
   go_wp2_with fail;go_end0
   obtain ⟨Vk, hC, hVo, hWr, _⟩ := HH.o;rw [Jpu] at hC;exact ⟨rfl, ⟨Vk, hC, hVo⟩, hWr⟩
end
end
end Go.Proofs.YtmammmjmipgmoaaGreatDoor
