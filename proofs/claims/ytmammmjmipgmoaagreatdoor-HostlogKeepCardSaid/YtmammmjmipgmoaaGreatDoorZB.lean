/- Texts of lower layers, as one. -/
import Derived.Test.YtmammmjmipgmoaaGreatDoorZA
import Derived.StillTailTactics
import Derived.Deep.RegionWith
import Derived.BigRegion
import Derived.Deep.QuietTactic
import Derived.BigQuiet
import Derived.Lib.QuietBelow
import Derived.ProofKit
import Derived.OpenShut
import Derived.Lib.SmallJoins
/- Plain mathematics of layer 2: sums over bytes. No Go here. -/
namespace Go.Proofs.YtmammmjmipgmoaaGreatDoor.M
set_option linter.unusedVariables false

/-- By a byte a sum's parts go on. -/
def stepP (p : Nat × Nat) (x : UInt8) : Nat × Nat := ((p.1 + x.toNat) % 65521, (p.2 + (p.1 + x.toNat) % 65521) % 65521)
def runP (p : Nat × Nat) (l : List UInt8) : Nat × Nat := l.foldl stepP p
def partsP (s : Nat) : Nat × Nat := (s % 65536 % 65521, s / 65536 % 65521)
def wholeP (p : Nat × Nat) : Nat := p.2 * 65536 + p.1
/-- P2.1 More. -/
def moreP (s : Nat) (l : List UInt8) : Nat := wholeP (runP (partsP s) l)
/-- P2.1 Sum. -/
def sumP (l : List UInt8) : Nat := moreP 1 l

theorem stepP_lt (p : Nat × Nat) (x : UInt8) : (stepP p x).1 < 65521 ∧ (stepP p x).2 < 65521 := by simp only [stepP]; omega
theorem partsP_lt (s : Nat) : (partsP s).1 < 65521 ∧ (partsP s).2 < 65521 := by simp only [partsP]; omega
theorem runP_snoc (p : Nat × Nat) (l : List UInt8) (x : UInt8) : runP p (l ++ [x]) = stepP (runP p l) x := by simp [runP]
theorem runP_take (p : Nat × Nat) (l : List UInt8) (k : Nat) (h : k < l.length) : runP p (l.take (k + 1)) = stepP (runP p (l.take k)) l[k] := by
  rw [List.take_succ_eq_append_getElem h, runP_snoc]
theorem runP_lt (p : Nat × Nat) (h : p.1 < 65521 ∧ p.2 < 65521) (l : List UInt8) : (runP p l).1 < 65521 ∧ (runP p l).2 < 65521 := by
  refine snoc_ind (p := fun l => (runP p l).1 < 65521 ∧ (runP p l).2 < 65521) h ?_ l
  intro ds d _
  rw [runP_snoc]
  exact stepP_lt _ _
theorem wholeP_lt (p : Nat × Nat) (h : p.1 < 65521 ∧ p.2 < 65521) : wholeP p < 4294967296 := by simp only [wholeP]; omega
theorem moreP_lt (s : Nat) (l : List UInt8) : moreP s l < 4294967296 := wholeP_lt _ (runP_lt _ (partsP_lt s) l)
end Go.Proofs.YtmammmjmipgmoaaGreatDoor.M

/- Plain mathematics of layer 2, continued: sums without the modulus, windows, and texts that differ. No Go here. -/
namespace Go.Proofs.YtmammmjmipgmoaaGreatDoor.M
set_option linter.unusedVariables false

/-- A text's parts. -/
def sp (l : List UInt8) : Nat × Nat := runP (1, 0) l
theorem sumP_lt (l : List UInt8) : sumP l < 4294967296 := moreP_lt 1 l

theorem big4_length (n : Nat) : (big 4 n).length = 4 := big_length 4 n
end Go.Proofs.YtmammmjmipgmoaaGreatDoor.M

/- Layer 2: the document's answers (spoorref02), each function by a contract. -/
namespace Go.Proofs.YtmammmjmipgmoaaGreatDoor
set_option linter.unusedVariables false
open Go Go.RowKit
attribute [local go_sem ↓] run_index_S
attribute [local go_sem] S_append S_extract

end Go.Proofs.YtmammmjmipgmoaaGreatDoor

/- Layer 2: the program's functions (sums), each by a contract. -/
namespace Go.Proofs.YtmammmjmipgmoaaGreatDoor
set_option linter.unusedVariables false
open Go Go.RowKit
attribute [local go_sem ↓] run_index_S
attribute [local go_sem] S_append S_extract

theorem below_any (n : Int) (w : World) (h0 : 0 ≤ n) (h1 : n < 131042) :
    Calls Tryz.prog 206 #[.int .u32 n] w fun e w' => e = .returned (.int .u32 (n % 65521)) ∧ w = w' := by
  by_cases h : 65521 ≤ n
  · go_enter Tryz.func206, Tryz.ntmps206
    go_wp2_with fail
    go_ret
    exact ⟨ret_int (by omega), rfl⟩
  · go_enter Tryz.func206, Tryz.ntmps206
    go_wp2_with fail
    go_ret
    exact ⟨ret_int (by omega), rfl⟩

/-- The block of a sum's parts. -/
def PartsAt (w : World) (b : Nat) (p : Nat × Nat) : Prop := w.heap[b]? = some (.cells #[.int .u32 p.1, .int .u32 p.2] 188 (0, 0))

set_option maxHeartbeats 400000 in
theorem add_any (b : Nat) (p : Nat × Nat) (hp : p.1 < 65521 ∧ p.2 < 65521) (x : UInt8) (w : World) (hw : PartsAt w b p) :
    Calls Tryz.prog 180 #[.pointer (some ⟨b, 0, none⟩), .int .u8 x.toNat] w fun e w' => e = .returned (.tuple #[]) ∧ PartsAt w' b (M.stepP p x) ∧ Below b w w' := by
  obtain ⟨a, c⟩ := p
  have hx := x.toNat_lt
  simp only at hp
  unfold PartsAt at hw
  have h0 : w.cell? ⟨b, 0, none⟩ = some (.int .u32 a) := by simp [World.cell?, hw]
  have h1 : w.cell? ⟨b, 1, none⟩ = some (.int .u32 c) := by simp [World.cell?, hw]
  have f0 : w.frozen? ⟨b, 0, none⟩ = false := by simp [World.frozen?, hw]
  have f1 : w.frozen? ⟨b, 1, none⟩ = false := by simp [World.frozen?, hw]
  have HW := Lib.hid hw
  clear hw
  go_enter Tryz.func180, Tryz.ntmps180
  obtain ⟨a', ha'⟩ : ∃ a' : Nat, a' = (a + x.toNat) % 65521 := ⟨_, rfl⟩
  have hm : ((a : Int) + (x.toNat : Int)) % 65521 = (a' : Int) := by omega
  have ha'lt : a' < 65521 := by omega
  have HA := Lib.hid ha'
  clear ha'
  have hw1 : PartsAt (w.setCell ⟨b, 0, none⟩ (.int .u32 a')) b (a', c) := by
    unfold PartsAt
    rw [heap_setCell_same w b 0 _ _ _ HW.out]; simp
  have hbw1 : Below b w (w.setCell ⟨b, 0, none⟩ (.int .u32 a')) := (Below.refl b w).setCell (p := ⟨b, 0, none⟩) (Nat.le_refl b) _
  go_wp2_with (go_at_call 206; refine (below_any _ _ (by omega) (by omega)).mono ?_; rintro e w' ⟨rfl, rfl⟩)
  generalize w.setCell ⟨b, 0, none⟩ (.int .u32 a') = w1 at *
  unfold PartsAt at hw1
  have g0 : w1.cell? ⟨b, 0, none⟩ = some (.int .u32 a') := by simp [World.cell?, hw1]
  have g1 : w1.cell? ⟨b, 1, none⟩ = some (.int .u32 c) := by simp [World.cell?, hw1]
  have e1 : w1.frozen? ⟨b, 1, none⟩ = false := by simp [World.frozen?, hw1]
  have HW1 := Lib.hid hw1
  clear hw1 h0 h1 f0 f1 hm
  have ew : IntKind.u32.wrap ((c : Int) + (a' : Int)) = (c : Int) + (a' : Int) := IntWalk.u32_in _ (by omega)
  go_region_with (go_at_call 206; refine (below_any _ _ (by omega) (by omega)).mono ?_; rintro e w' ⟨rfl, rfl⟩)
  all_goals go_wp2_with fail
  all_goals
    go_end0
    refine ⟨rfl, ?_, (hbw1.setCell (p := ⟨b, 1, none⟩) (Nat.le_refl b) _).drew⟩
    show (w1.setCell _ _).heap[b]? = _
    rw [heap_setCell_same w1 b 1 _ _ _ HW1.out]
    simp only [M.stepP, ← HA.out]
    rfl

theorem wraps_u32 : ∀ n : Int, 0 ≤ n → n < 2 ^ 32 → IntKind.u32.wrap n = n := fun n h0 h1 => IntWalk.u32_in n (by omega)
theorem and16 (s : Nat) (hs : s < 4294967296) : bits .and .u32 (s : Int) 65535 = ((s % 65536 : Nat) : Int) := by
  rw [show (65535 : Int) = 2 ^ 16 - 1 from rfl, bits_mask .u32 32 (by decide) wraps_u32 16 (by decide) _ (by omega) (by omega)]
  rfl
theorem join16 (c a : Nat) (hc : c < 65536) (ha : a < 65536) : bits .or .u32 ((c : Int) * 65536) (a : Int) = ((c * 65536 + a : Nat) : Int) := by
  rw [bits_join .u32 32 (by decide) wraps_u32 16 _ _ (by omega) (by omega) (by omega) (by omega) (by omega) (by omega)]
  omega

set_option maxHeartbeats 400000 in
theorem split_any (s : Nat) (hs : s < 4294967296) (w : World) :
    Calls Tryz.prog 178 #[.int .u32 s] w fun e w' => e = .returned (.agg #[.int .u32 (M.partsP s).1, .int .u32 (M.partsP s).2]) ∧ w' = w.alloc (.cells #[.int .u32 (M.partsP s).1, .int .u32 (M.partsP s).2] 188) := by
  have ha := and16 s hs
  obtain ⟨x, hx⟩ : ∃ x, x = s % 65536 := ⟨_, rfl⟩
  rw [← hx] at ha
  have hx2 : x < 65536 := by omega
  have e1 : (M.partsP s).1 = x % 65521 := by simp [M.partsP, hx]
  have e2 : (M.partsP s).2 = s / 65536 % 65521 := rfl
  rw [e1, e2]
  have HX := Lib.hid hx
  clear hx e1 e2
  go_enter Tryz.func178, Tryz.ntmps178
  go_wp2_with fail
  exact bodyPost_ret (v := .agg #[.int .u32 (x % 65521 : Nat), .int .u32 (s / 65536 % 65521 : Nat)]) (by simp [results, Tryz.results178, go_sem]) rfl ⟨rfl, rfl⟩

set_option maxHeartbeats 400000 in
theorem sum_any (p : Nat × Nat) (hp : p.1 < 65521 ∧ p.2 < 65521) (w : World) :
    Calls Tryz.prog 181 #[.agg #[.int .u32 p.1, .int .u32 p.2]] w fun e w' => e = .returned (.int .u32 (M.wholeP p)) ∧ Below w.heap.size w w' := by
  obtain ⟨a, c⟩ := p
  simp only at hp
  have hj := join16 c a (by omega) (by omega)
  go_enter Tryz.func181, Tryz.ntmps181
  go_wp2_with fail
  go_ret
  exact ⟨rfl, (Below.refl _ _).alloc (Nat.le_refl _) _⟩

set_option maxHeartbeats 400000 in
theorem each_any (b : Nat) (p : Nat × Nat) (hp : p.1 < 65521 ∧ p.2 < 65521) (l : List UInt8) (hl : l.length ≤ 9223372036854775807) (w : World) (hw : PartsAt w b p) :
    Calls Tryz.prog 179 #[.string (S l), .func (Fn.func 180) #[.pointer (some ⟨b, 0, none⟩)] #[]] w fun e w' => e = .returned (.tuple #[]) ∧ PartsAt w' b (M.runP p l) ∧ Below b w w' := by
  go_enter Tryz.func179, Tryz.ntmps179
  go_wp2_with fail
  go_loopw [7] (fun i wr => ∃ k : Nat, k ≤ l.length ∧ i = .int .i64 k ∧ PartsAt wr b (M.runP p (l.take k)) ∧ Below b w wr) (fun i _ => l.length - (intOf i).toNat)
  case atStart => exact ⟨0, Nat.zero_le _, rfl, hw, Below.refl _ _⟩
  case round =>
    obtain ⟨k, hk, rfl, hpk, hb⟩ := hrel
    by_cases hkl : k < l.length
    · have hadd := add_any b (M.runP p (l.take k)) (M.runP_lt p hp _) l[k] wr hpk
      rw [← B_at l k hkl, ← M.runP_take p l k hkl] at hadd
      have HADD := Lib.hid hadd
      have HP := Lib.hid hpk
      have hbr := B_range l k
      clear hadd hpk
      go_wp2_with fail
      with_reducible refine HADD.out.mono ?_
      rintro e w2 ⟨rfl, hp2, hb2⟩
      have HP2 := Lib.hid hp2
      clear hp2
      go_wp2_with fail
      go_roundw
      case rel => exact ⟨k + 1, by omega, by go_num, HP2.out, hb.trans hb2⟩
      case measure => simp [intOf]; omega
    · obtain rfl : k = l.length := by omega
      rw [List.take_length] at hpk
      have HP := Lib.hid hpk
      clear hpk
      go_wp2_with fail
      go_end0
      exact ⟨rfl, HP.out, hb⟩

theorem partsAt_new (w : World) (p : Nat × Nat) : PartsAt (w.alloc (.cells #[.int .u32 p.1, .int .u32 p.2] 188)) w.heap.size p := heap_alloc_new w _

set_option maxHeartbeats 400000 in
theorem more_any (s : Nat) (hs : s < 4294967296) (l : List UInt8) (hl : l.length ≤ 9223372036854775807) (w : World) :
    Calls Tryz.prog 163 #[.int .u32 s, .string (S l)] w fun e w' => e = .returned (.int .u32 (M.moreP s l)) ∧ Below w.heap.size w w' := by
  have hp := M.partsP_lt s
  have hw1 : PartsAt ((w.alloc (.cells #[.int .u32 (M.partsP s).1, .int .u32 (M.partsP s).2] 188)).alloc (.cells #[.int .u32 (M.partsP s).1, .int .u32 (M.partsP s).2] 188)) (w.heap.size + 1) (M.partsP s) := by
    have := partsAt_new (w.alloc (.cells #[.int .u32 (M.partsP s).1, .int .u32 (M.partsP s).2] 188)) (M.partsP s)
    simpa using this
  have hb1 : Below w.heap.size w ((w.alloc (.cells #[.int .u32 (M.partsP s).1, .int .u32 (M.partsP s).2] 188)).alloc (.cells #[.int .u32 (M.partsP s).1, .int .u32 (M.partsP s).2] 188)) :=
    ((Below.refl _ _).alloc (Nat.le_refl _) _).alloc (by simp) _
  have HW1 := Lib.hid hw1
  clear hw1
  go_enter Tryz.func163, Tryz.ntmps163
  go_wp2_with (go_at_call 178; refine (split_any s hs _).mono ?_; rintro e w' ⟨rfl, rfl⟩)
  with_reducible refine (each_any (w.heap.size + 1) (M.partsP s) hp l hl _ HW1.out).mono ?_
  rintro e w2 ⟨rfl, hp2, hb2⟩
  have hq := M.runP_lt (M.partsP s) hp l
  obtain ⟨q, hqq⟩ : ∃ q, q = M.runP (M.partsP s) l := ⟨_, rfl⟩
  rw [← hqq] at hp2 hq
  unfold PartsAt at hp2
  have g0 : w2.cell? ⟨w.heap.size + 1, 0, none⟩ = some (.int .u32 q.1) := by simp [World.cell?, hp2]
  have g1 : w2.cell? ⟨w.heap.size + 1, 1, none⟩ = some (.int .u32 q.2) := by simp [World.cell?, hp2]
  have HQ := Lib.hid hqq
  have HP2 := Lib.hid hp2
  clear hqq hp2
  go_wp2_with fail
  with_reducible refine (sum_any q hq _).mono ?_
  rintro e w3 ⟨rfl, hb3⟩
  go_wp2_with fail
  go_ret
  exact ⟨ret_int (by rw [HQ.out]; rfl), below_step (hb1.trans (hb2.mono (by omega))) hb3⟩

theorem sum0_any (l : List UInt8) (hl : l.length ≤ 9223372036854775807) (w : World) :
    Calls Tryz.prog 121 #[.string (S l)] w fun e w' => e = .returned (.int .u32 (M.sumP l)) ∧ Below w.heap.size w w' := by
  have h1 : ∀ W, Calls Tryz.prog 163 #[.int .u32 1, .string (S l)] W fun e w' => e = .returned (.int .u32 (M.moreP 1 l)) ∧ Below W.heap.size W w' := fun W => more_any 1 (by decide) l hl W
  have H1 := Lib.hid h1
  clear h1
  go_enter Tryz.func121, Tryz.ntmps121
  go_wp2_with fail
  with_reducible refine (H1.out _).mono ?_
  rintro e w3 ⟨rfl, hb3⟩
  go_wp2_with fail
  go_ret
  exact ⟨rfl, hb3⟩

end Go.Proofs.YtmammmjmipgmoaaGreatDoor

/- Layer 2: Roll and Bytes, the program's and the document's, each by a contract. -/
namespace Go.Proofs.YtmammmjmipgmoaaGreatDoor
set_option linter.unusedVariables false
open Go Go.RowKit
attribute [local go_sem ↓] run_index_S
attribute [local go_sem] S_append S_extract

theorem bytes_any (s : Nat) (hs : s < 4294967296) (w : World) :
    Calls Tryz.prog 120 #[.int .u32 s] w fun e w' => e = .returned (.string (S (M.big 4 s))) ∧ Below w.heap.size w w' := by
  have hd : (M.bigN s).drop 4 = M.big 4 s := rfl
  have hsl := run_piece_from (P := Tryz.prog) 9 Tryz.underlying9 (M.bigN s) 4 4 rfl (by rw [M.bigN_length]; omega)
  rw [hd] at hsl
  go_enter Tryz.func120, Tryz.ntmps120
  go_wp2_with (go_at_call 162; refine (big_nat s _ (by omega)).mono ?_; rintro e w' ⟨rfl, hb1⟩)
  go_ret
  exact ⟨rfl, by assumption⟩

end Go.Proofs.YtmammmjmipgmoaaGreatDoor

/- '[]byte(s)': a new row of the string's bytes; read, written, and made a string again. -/
namespace Go.Proofs.YtmammmjmipgmoaaGreatDoor
set_option linter.unusedVariables false
open Go Go.RowKit

/-- Block b begins with the bytes l, which may be written. -/
def BytesAt (w : World) (b : Nat) (e : TypeId) (l : List UInt8) : Prop :=
  ∃ (C : Array Value) (m : Nat), w.heap[b]? = some (.cells C e (m, m + 1)) ∧ C.size ≤ m ∧ l.length ≤ C.size ∧ ∀ j (h : j < l.length), C[j]? = some (.int .u8 (l[j].toNat : Int))

section
variable {w : World} {b : Nat} {e : TypeId} {l : List UInt8}
theorem BytesAt.cell (h : BytesAt w b e l) (j : Nat) (hj : j < l.length) : w.cell? ⟨b, j, none⟩ = some (.int .u8 (B l j)) := by
  obtain ⟨C, m, h1, h2, h3, h4⟩ := h
  have := h4 j hj
  rw [B_at l j hj]
  simp [World.cell?, h1, this]
theorem BytesAt.free (h : BytesAt w b e l) (j : Nat) (hj : j < l.length) : w.frozen? ⟨b, j, none⟩ = false := by
  obtain ⟨C, m, h1, h2, h3, h4⟩ := h
  simp [World.frozen?, h1]
  omega
theorem BytesAt.set (h : BytesAt w b e l) (j : Nat) (hj : j < l.length) (v : UInt8) : BytesAt (w.setCell ⟨b, j, none⟩ (.int .u8 (v.toNat : Int))) b e (l.set j v) := by
  obtain ⟨C, m, h1, h2, h3, h4⟩ := h
  refine ⟨C.setIfInBounds j (.int .u8 (v.toNat : Int)), m, ?_, by simpa using h2, by simpa using h3, ?_⟩
  · have hlt : b < w.heap.size := by
      rcases Nat.lt_or_ge b w.heap.size with h | h
      · exact h
      · simp [Array.getElem?_eq_none h] at h1
    have hget : w.heap[b] = .cells C e (m, m + 1) := by
      have := h1; rw [Array.getElem?_eq_getElem hlt] at this; exact Option.some.inj this
    simp [World.setCell, Array.getElem?_modify, h1]
  · intro i hi
    have hi' : i < l.length := by simpa using hi
    rw [Array.getElem?_setIfInBounds]
    by_cases hij : j = i
    · subst hij
      rw [if_pos rfl, if_pos (by omega)]
      simp
    · rw [if_neg hij, h4 i hi', List.getElem_set_ne hij]
theorem BytesAt.below {w' : World} {B' : Nat} (h : BytesAt w b e l) (hb : Below B' w w') (hlt : b < B') : BytesAt w' b e l := by
  obtain ⟨C, m, h1, h2, h3, h4⟩ := h
  exact ⟨C, m, by rw [hb.block b hlt]; exact h1, h2, h3, h4⟩
end

end Go.Proofs.YtmammmjmipgmoaaGreatDoor

/- Layer 2: the chapter's examples (spoorlaw02.does) come out true. -/
namespace Go.Proofs.YtmammmjmipgmoaaGreatDoor
set_option linter.unusedVariables false
open Go Go.RowKit

end Go.Proofs.YtmammmjmipgmoaaGreatDoor

/- Layer 2: the laws' walks: SumsOf, SumsJoin. -/
namespace Go.Proofs.YtmammmjmipgmoaaGreatDoor
set_option linter.unusedVariables false
open Go Go.RowKit
attribute [local go_sem ↓] run_index_S
attribute [local go_sem] S_append S_extract

end Go.Proofs.YtmammmjmipgmoaaGreatDoor

/- Layer 2: the laws' walks, continued: SumsWindow, SumsOne. -/
namespace Go.Proofs.YtmammmjmipgmoaaGreatDoor
set_option linter.unusedVariables false
open Go Go.RowKit
attribute [local go_sem ↓] run_index_S
attribute [local go_sem] S_append S_extract

end Go.Proofs.YtmammmjmipgmoaaGreatDoor

/- Layer 2: the law's walk, SumsRoll: an array of two bytes comes in. -/
namespace Go.Proofs.YtmammmjmipgmoaaGreatDoor
set_option linter.unusedVariables false
open Go Go.RowKit
attribute [local go_sem ↓] run_index_S
attribute [local go_sem] S_append S_extract

end Go.Proofs.YtmammmjmipgmoaaGreatDoor
