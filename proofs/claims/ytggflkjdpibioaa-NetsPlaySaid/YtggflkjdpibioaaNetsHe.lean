/- Layer 7: the document's net: Double for every place, by a contract. -/
import Derived.Test.YtggflkjdpibioaaNetsHd
import Derived.Test.YtggflkjdpibioaaNetsHb
namespace Go.Proofs.Ytggflkjdpibioaa
set_option linter.unusedVariables false
open Go Go.RowKit

theorem refDouble_any {w : World} {base r : Nat} {L : List Ml} (h : RefIn w base r L) (i : Int) (hl : L.length ≤ 64) :
    Calls Try.prog 24 #[.pointer (some ⟨r, 0, none⟩), .int .i64 i] w fun e w' => e = .returned (.bool (decide ((0 ≤ i ∧ i < L.length) ∧ L.length < 64))) ∧ RefIn w' base r (doubleL L i) ∧ Away base r w w' ∧ KeepQ r w w' := by
  have hs : r < base ∧ base ≤ w.heap.size := by obtain ⟨_, _, _, _, h⟩ := h; exact h
  unfold doubleL
  by_cases hi : (0 ≤ i ∧ i < L.length) ∧ L.length < 64
  · rw [if_pos hi, decide_eq_true hi]
    obtain ⟨⟨h0, h1⟩, h2⟩ := hi
    obtain ⟨n, rfl⟩ := Int.eq_ofNat_of_zero_le h0
    exact (refDouble_yes h n (by omega) h2).mono fun e w' ⟨he, hR, hO⟩ => ⟨he, hR.mono hs.2 hs.1, hO.away hs.2, keepQ_only hO hR⟩
  · rw [if_neg hi, decide_eq_false hi]
    have c1 := ref_is h i
    have C1 := Lib.hid c1
    have H := Lib.hid h
    obtain ⟨v, T, hb, ho, hr, hs2⟩ := h
    obtain ⟨ao, cap, rfl, -⟩ := own_parts ho
    have c0 : w.cell? ⟨r, 0, none⟩ = some (.slice ao L.length cap) := hb.cell 0
    clear c1 hb ho
    by_cases h1 : 0 ≤ i ∧ i < (L.length : Int)
    · have d1 : decide ((L.length : Int) ≥ 64) = true := by simp; omega
      rw [decide_eq_true h1] at C1
      go_enter Try.func24, Try.ntmps24
      go_wp2_with fail
      with_reducible refine (C1.out).mono ?_
      rintro e w1 ⟨rfl, rfl⟩
      go_wp2_with fail
      go_ret
      exact ⟨rfl, H.out, Away.ofBelow (Below.refl _ _) hs.2, keepQ_below (Below.refl _ _)⟩
    · rw [decide_eq_false h1] at C1
      go_enter Try.func24, Try.ntmps24
      go_wp2_with fail
      with_reducible refine (C1.out).mono ?_
      rintro e w1 ⟨rfl, rfl⟩
      go_wp2_with fail
      go_ret
      exact ⟨rfl, H.out, Away.ofBelow (Below.refl _ _) hs.2, keepQ_below (Below.refl _ _)⟩

end Go.Proofs.Ytggflkjdpibioaa
