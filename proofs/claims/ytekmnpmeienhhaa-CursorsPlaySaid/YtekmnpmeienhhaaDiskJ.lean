/- Layer 5: a disk's names, rising; what it tells of itself. -/
import Derived.Test.YtekmnpmeienhhaaDiskI
import Derived.Deep.QuietTactic
import Derived.BigQuiet
namespace Go.Proofs.Ytekmnpmeienhhaa
set_option linter.unusedVariables false
open Go Go.RowKit Go.Maps

theorem Dk.lt_less : ∀ a b : List UInt8, a < b ↔ Op.bytesLess a b = true
  | [], [] => by simp [Op.bytesLess]
  | [], _ :: _ => by simp [Op.bytesLess]
  | _ :: _, [] => by simp [Op.bytesLess]
  | x :: a, y :: b => by
    rw [List.cons_lt_cons_iff, Dk.lt_less a b]
    simp [Op.bytesLess]
theorem Dk.names_sorted {L : List Dk.Fl} (h : Dk.OkL L) : (Dk.names L).mergeSort (fun x y => decide (x ≤ y)) = Dk.names L := by
  refine List.mergeSort_of_pairwise ?_
  unfold Dk.names
  rw [List.pairwise_map]
  refine h.up.imp (fun {a b} hab => ?_)
  have h1 : ¬ b.name < a.name := fun hx => by
    rw [Dk.lt_less] at hx
    have := Dk.less_trans5 _ _ _ hx hab
    rw [Dk.less_irr5] at this
    cases this
  simpa using h1
theorem strKeys_datM (V : List UInt8 → Value) (L : List Dk.Fl) : Go.strKeys (datM V L) = Dk.names L := by
  show (L.map (entM V)).map (fun p => strOf p.1) = L.map _
  rw [List.map_map]
  rfl
/-- The cells of texts. -/
def txs5 (l : List (List UInt8)) : List Value := l.map fun t => Value.string (S t)
theorem txs5_enc (l : List (List UInt8)) : l.map encStr = txs5 l := rfl

theorem new_no5 (cap : Int) (w : World) (h : cap < 1 ∨ 1048576 < cap) : Calls Try.prog 17 #[.int .i64 cap] w fun e w' => e = .returned (.tuple #[.pointer none, .int .i64 2]) ∧ w = w' := by
  by_cases h1 : cap < 1
  · have t1 : decide (cap < 1) = true := by simpa using h1
    go_enter Try.func17, Try.ntmps17
    go_wp2_with fail
    go_ret2
    exact ⟨rfl, rfl⟩
  · have t1 : decide (cap < 1) = false := by simp; omega
    have t2 : decide (1048576 < cap) = true := by simp; omega
    go_enter Try.func17, Try.ntmps17
    go_wp2_with fail
    go_ret2
    exact ⟨rfl, rfl⟩
theorem Dk.new_ok {n : Nat} (h : n ≤ 1048576) : Dk.Ok (Dk.new n) :=
  ⟨⟨List.Pairwise.nil, (fun f hf => by cases hf), (fun f hf => by cases hf)⟩, Nat.zero_le _, Nat.zero_le _, h, (fun p hp => by cases hp), (fun hp => by cases hp), (fun p hp => by cases hp)⟩
def NewD5 (n : Nat) (w : World) (e : Ending) (w' : World) : Prop := ∃ d, e = .returned (.tuple #[.pointer (some ⟨d, 0, none⟩), .int .i64 0]) ∧ DkAt w.heap.size (fun b => w.heap.size ≤ b ∧ b < w'.heap.size) d (Dk.new n) w' ∧ Below w.heap.size w w'
theorem new_yes5 (n : Nat) (w : World) (h1 : 1 ≤ n) (h2 : n ≤ 1048576) : Calls Try.prog 17 #[.int .i64 n] w (NewD5 n w) := by
  have t1 : decide ((n : Int) < 1) = false := by simp; omega
  have t2 : decide (1048576 < (n : Int)) = false := by simp; omega
  have hmm := @run_makeMap Try.prog
  go_enter Try.func17, Try.ntmps17
  go_wp2_with fail
  go_ret2
  have hm := World.ownsMap_made (H := Value) w Try.prog 9 heldR
  have hb := (Below.refl w.heap.size w).alloc (Nat.le_refl _) (.map #[] 0)
  have hb2 := hb.alloc hb.size (.cells #[.int .i64 n, .int .i64 0, .map (some w.heap.size), .bool true, .int .i64 0, .nilFunc] 43)
  refine ⟨w.heap.size + 1, rfl, ⟨Dk.new_ok h2, w.heap.size, fun _ => .slice none 0 0, .nilFunc, ⟨0, 0, 0, none, 0⟩, ⟨?_, hm.alloc _, (fun f hf => by cases hf), (fun f hf => by cases hf), rfl⟩, ?_, fun b hb => hb⟩, hb2⟩
  · have := bk_new (dkC (Dk.new n) w.heap.size .nilFunc) 43 (w.alloc (.map #[] 0))
    rw [sz5] at this
    exact this
  · rintro b (rfl | rfl | ⟨f, hf, _⟩ | ⟨hn, _⟩)
    · rw [sz5, sz5]; omega
    · rw [sz5, sz5]; omega
    · cases hf
    · exact absurd rfl hn
section
variable {B d : Nat} {D : Dk.St} {w : World} {F : Nat → Prop}
theorem none5 (h : DkAt B F d D w) : Calls Try.prog 61 #[.pointer (some ⟨d, 0, none⟩)] w fun e w' => e = .returned (.bool false) ∧ w = w' := by
  obtain ⟨h0, mb, V, sv, c, h1, h2, h3⟩ := h
  have c2 : w.cell? ⟨d, 2, none⟩ = some (.map (some mb)) := h1.box.cell 2
  have hmn := fun W => run_eql_map_none5 (P := Try.prog) W _ Try.underlying41 mb
  go_enter Try.func61, Try.ntmps61
  go_wp2_with fail
  go_ret
  exact ⟨rfl, rfl⟩
def stE (D : Dk.St) : Int := if D.up then 0 else 51
theorem state5 (h : DkAt B F d D w) : Calls Try.prog 70 #[.pointer (some ⟨d, 0, none⟩)] w fun e w' => e = .returned (.int .i64 (stE D)) ∧ w = w' := by
  have C := Lib.hid (none5 h)
  obtain ⟨h0, mb, V, sv, c, h1, h2, h3⟩ := h
  have c3 : w.cell? ⟨d, 3, none⟩ = some (.bool D.up) := h1.box.cell 3
  clear h1
  unfold stE
  cases hu : D.up with
  | true =>
    rw [hu] at c3
    go_enter Try.func70, Try.ntmps70
    go_wp2_with fail
    with_reducible refine C.out.mono ?_
    rintro e w' ⟨rfl, rfl⟩
    go_wp2_with fail
    go_ret
    exact ⟨rfl, rfl⟩
  | false =>
    rw [hu] at c3
    go_enter Try.func70, Try.ntmps70
    go_wp2_with fail
    with_reducible refine C.out.mono ?_
    rintro e w' ⟨rfl, rfl⟩
    go_wp2_with fail
    go_ret
    exact ⟨rfl, rfl⟩
theorem named5 (nm : List UInt8) (hl : nm.length ≤ 140737488351232) (w : World) : Calls Try.prog 71 #[.string (S nm)] w fun e w' => e = .returned (.bool (Dk.named nm)) ∧ w = w' := by
  unfold Dk.named
  go_enter Try.func71, Try.ntmps71
  go_wp2_with fail
  all_goals
    go_ret
    refine ⟨ret_bool ?_, rfl⟩
    rw [Bool.eq_iff_iff]
    simp
    omega
theorem up5 (h : DkAt B F d D w) : Calls Try.prog 30 #[.pointer (some ⟨d, 0, none⟩)] w fun e w' => e = .returned (.bool D.up) ∧ w = w' := by
  have C := Lib.hid (none5 h)
  obtain ⟨h0, mb, V, sv, c, h1, h2, h3⟩ := h
  have c3 : w.cell? ⟨d, 3, none⟩ = some (.bool D.up) := h1.box.cell 3
  clear h1
  go_enter Try.func30, Try.ntmps30
  go_wp2_with fail
  with_reducible refine C.out.mono ?_
  rintro e w' ⟨rfl, rfl⟩
  go_wp2_with fail
  go_ret
  exact ⟨rfl, rfl⟩
theorem starts5 (h : DkAt B F d D w) : Calls Try.prog 31 #[.pointer (some ⟨d, 0, none⟩)] w fun e w' => e = .returned (.int .i64 D.starts) ∧ w = w' := by
  have C := Lib.hid (none5 h)
  obtain ⟨h0, mb, V, sv, c, h1, h2, h3⟩ := h
  have c3 : w.cell? ⟨d, 4, none⟩ = some (.int .i64 D.starts) := h1.box.cell 4
  clear h1
  go_enter Try.func31, Try.ntmps31
  go_wp2_with fail
  with_reducible refine C.out.mono ?_
  rintro e w' ⟨rfl, rfl⟩
  go_wp2_with fail
  go_ret
  exact ⟨rfl, rfl⟩
theorem size5 (h : DkAt B F d D w) : Calls Try.prog 29 #[.pointer (some ⟨d, 0, none⟩)] w fun e w' => e = .returned (.int .i64 (Dk.size D.L)) ∧ w = w' := by
  have C := Lib.hid (none5 h)
  obtain ⟨h0, mb, V, sv, c, h1, h2, h3⟩ := h
  have c3 : w.cell? ⟨d, 1, none⟩ = some (.int .i64 (Dk.size D.L)) := h1.box.cell 1
  clear h1
  go_enter Try.func29, Try.ntmps29
  go_wp2_with fail
  with_reducible refine C.out.mono ?_
  rintro e w' ⟨rfl, rfl⟩
  go_wp2_with fail
  go_ret
  exact ⟨rfl, rfl⟩
end

end Go.Proofs.Ytekmnpmeienhhaa
