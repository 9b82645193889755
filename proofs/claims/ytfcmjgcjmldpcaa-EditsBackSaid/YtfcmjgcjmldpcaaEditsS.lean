/- Layer 16: edits in memory; Beyond, by a contract. -/
import Derived.Test.YtfcmjgcjmldpcaaEditsR
namespace Go.Proofs.Ytfcmjgcjmldpcaa
set_option linter.unusedVariables false
set_option linter.unusedSimpArgs false
open Go Go.RowKit
attribute [local go_sem ↓] run_index_S
attribute [local go_sem] S_append S_extract

/-- An edit in memory: what it is, where its files lie, and their room. -/
structure Re where
  kind : Int
  at_ : Int
  file : Int
  fs : List Int
  o : Option Addr
  k : Nat
  key : List UInt8
def re0 : Re := ⟨0, 0, 0, [], none, 0, []⟩
def Re.ed (r : Re) : Ed.Ed := ⟨r.kind, r.at_, r.file, r.fs, r.key⟩
def EdAt (w : World) (g o : Nat) (r : Re) : Prop := w.cell? ⟨g, o, none⟩ = some (.int .i64 r.kind) ∧ w.cell? ⟨g, o + 1, none⟩ = some (.int .i64 r.at_) ∧ w.cell? ⟨g, o + 2, none⟩ = some (.int .i64 r.file) ∧ w.cell? ⟨g, o + 3, none⟩ = some (.slice r.o r.fs.length r.k) ∧ w.cell? ⟨g, o + 4, none⟩ = some (.string (S r.key)) ∧ NsAt w r.o r.fs
def EdsAt (w : World) (ao : Option Addr) (L : List Re) : Prop := L ≠ [] → ∃ g off, ao = some ⟨g, off, none⟩ ∧ ∀ j, j < L.length → EdAt w g (off + j * 5) (L.getD j re0)
theorem EdAt.below {w w' : World} {g o : Nat} {r : Re} (h : EdAt w g o r) (hb : Below w.heap.size w w') : EdAt w' g o r := by
  have k := fun {a v} (h : w.cell? a = some v) => (hb.cell (p := a) (cell_lt h)).trans h
  obtain ⟨h0, h1, h2, h3, h4, h5⟩ := h
  exact ⟨k h0, k h1, k h2, k h3, k h4, h5.below hb⟩
theorem EdsAt.below {w w' : World} {ao : Option Addr} {L : List Re} (h : EdsAt w ao L) (hb : Below w.heap.size w w') : EdsAt w' ao L := fun hn => by
  obtain ⟨g, off, e, hc⟩ := h hn
  exact ⟨g, off, e, fun j hj => (hc j hj).below hb⟩
theorem EdsAt.off {w : World} {ao : Option Addr} {L : List Re} (h : EdsAt w ao L) (j : Nat) (hj : j < L.length) : ∃ g off, ao = some ⟨g, off, none⟩ ∧ EdAt w g (off + j * 5) (L.getD j re0) := by
  obtain ⟨g, off, e, hc⟩ := h (fun h => by rw [h] at hj; simp at hj)
  exact ⟨g, off, e, hc j hj⟩
/-- Edits as they come in. -/
structure ResOk (L : List Re) : Prop where
  n : L.length ≤ 9223372036854775807
  fs : ∀ r, r ∈ L → r.fs.length ≤ 9223372036854775807
  key : ∀ r, r ∈ L → r.key.length ≤ 9223372036854775807
def SmallE (r : Re) : Prop := r.fs.length ≤ 100 ∧ r.key.length ≤ 200
def BeyR (L : List Re) (many : Int) (w : World) (e : Ending) (w' : World) : Prop := (e = .returned (.bool true) ∨ (e = .returned (.bool false) ∧ (L.length : Int) ≤ many ∧ ∀ r, r ∈ L → SmallE r)) ∧ w = w'
set_option maxHeartbeats 4000000 in
set_option maxRecDepth 100000 in
theorem beyond16_any (L : List Re) (hL : ResOk L) (ao : Option Addr) (cap : Nat) (many : Int) (w : World) (h : EdsAt w ao L) :
    Calls Try.prog 10 #[.slice ao L.length cap, .int .i64 many] w (BeyR L many w) := by
  have HA := Lib.hid h
  have HL := Lib.hid hL
  have hn := hL.n
  clear h hL
  go_enter Try.func10, Try.ntmps10
  by_cases hm : many < (L.length : Int)
  · have d0 : decide (many < (L.length : Int)) = true := decide_eq_true hm
    go_wp2_with fail
    go_ret
    exact ⟨.inl rfl, rfl⟩
  have d0 : decide (many < (L.length : Int)) = false := decide_eq_false hm
  have HM := Lib.hid hm
  clear hm
  go_wp2_with fail
  clear d0
  go_loopw [5] (fun i wr => ∃ k : Nat, k ≤ L.length ∧ i = .int .i64 k ∧ Hid (∀ r, r ∈ L.take k → SmallE r) ∧ w = wr) (fun i _ => L.length - (intOf i).toNat)
  case atStart => exact ⟨0, Nat.zero_le _, rfl, Lib.hid (fun r hr => by simp at hr), rfl⟩
  case round =>
    obtain ⟨k, hk, rfl, HS, rfl⟩ := hrel
    by_cases hlt : k < L.length
    · have hki : (k : Int) < (L.length : Int) := by omega
      obtain ⟨g, off, rfl, hc⟩ := HA.out.off k hlt
      obtain ⟨_, _, _, x3, x4, _⟩ := hc
      have HT := Lib.hid (Ed.take_snoc L k re0 hlt)
      have f1 := HL.out.fs _ (Ed.gD_mem (d := re0) hlt)
      have f2 := HL.out.key _ (Ed.gD_mem (d := re0) hlt)
      generalize L.getD k re0 = r at *
      obtain ⟨kd, at_, fl, fs, o, kc, key⟩ := r
      simp only at x3 x4 f1 f2
      by_cases h1 : 100 < fs.length
      · have d1 : decide ((100 : Int) < (fs.length : Int)) = true := decide_eq_true (by omega)
        have d2 : decide (100 < fs.length) = true := decide_eq_true h1
        go_wp2_with fail
        go_ret
        exact ⟨.inl rfl, rfl⟩
      · have d1 : decide ((100 : Int) < (fs.length : Int)) = false := decide_eq_false (by omega)
        have d2 : decide (100 < fs.length) = false := decide_eq_false h1
        by_cases h2 : 200 < key.length
        · have d3 : decide ((200 : Int) < (key.length : Int)) = true := decide_eq_true (by omega)
          have d4 : decide (200 < key.length) = true := decide_eq_true h2
          go_wp2_with fail
          go_ret
          exact ⟨.inl rfl, rfl⟩
        · have d3 : decide ((200 : Int) < (key.length : Int)) = false := decide_eq_false (by omega)
          have d4 : decide (200 < key.length) = false := decide_eq_false h2
          have HS1 := Lib.hid (show ∀ r, r ∈ L.take (k + 1) → SmallE r from fun r hr => by
            rw [HT.out, List.mem_append, List.mem_singleton] at hr
            rcases hr with hr | rfl
            · exact HS.out r hr
            · exact ⟨by simp only; omega, by simp only; omega⟩)
          clear HS HT
          go_wp2_with fail
          go_roundw
          case rel => exact ⟨k + 1, by omega, by go_num, HS1, trivial⟩
          case measure => simp [intOf]; omega
    · obtain rfl : k = L.length := by omega
      have HS1 := Lib.hid (show ∀ r, r ∈ L → SmallE r from by have := HS.out; rwa [List.take_length] at this)
      clear HS
      go_wp2_with fail
      go_ret
      exact ⟨.inr ⟨rfl, by have := HM.out; omega, HS1.out⟩, rfl⟩

end Go.Proofs.Ytfcmjgcjmldpcaa
