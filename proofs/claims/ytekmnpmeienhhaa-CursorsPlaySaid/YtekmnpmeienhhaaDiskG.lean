/- Layer 5: more than is gone through. -/
import Derived.Test.YtekmnpmeienhhaaDiskE
namespace Go.Proofs.Ytekmnpmeienhhaa
set_option linter.unusedVariables false
open Go Go.RowKit Go.Maps

/-- As much as is gone through. -/
structure FewR (r : Ra) : Prop where
  name : r.name.length ≤ 500
  other : r.other.length ≤ 500
  data : r.data.length ≤ 3000
  keep : r.keep.length ≤ 100
structure Few5 (L : List Ra) : Prop where
  n : L.length ≤ 150
  each : ∀ j, j < L.length → FewR (L.getD j ra0)
def GreatR (L : List Ra) (w : World) (e : Ending) (w' : World) : Prop := (e = .returned (.bool true) ∧ w = w') ∨ (e = .returned (.bool false) ∧ Few5 L ∧ w = w')
set_option maxHeartbeats 1000000 in
theorem great5 (L : List Ra) (ao : Option Addr) (cap : Nat) (w : World) (hI : RasI L) (h : RasAt w ao L) : Calls Try.prog 16 #[.slice ao L.length cap] w (GreatR L w) := by
  have hn := hI.n
  have HI := Lib.hid hI
  have HA := Lib.hid h
  clear hI h
  go_enter Try.func16, Try.ntmps16
  go_wp2_with fail
  go_loop [3, 4] (fun nv i => ∃ k m : Nat, k ≤ L.length ∧ i = .int .i64 k ∧ nv = .int .i64 m ∧ m ≤ 60000 ∧ Hid (∀ j, j < k → FewR (L.getD j ra0))) (fun _ i => L.length - (intOf i).toNat)
  case atStart => exact ⟨0, 0, Nat.zero_le _, rfl, rfl, by omega, Lib.hid (fun j hj => by omega)⟩
  case round =>
    obtain ⟨k, m, hk, rfl, rfl, hm, HF⟩ := hrel
    by_cases hlt : k < L.length
    · have d1 : decide (k < L.length) = true := by simpa using hlt
      obtain ⟨g, off, rfl, c0, c1, c2, c3, c4, c5, -⟩ := HA.out.off hlt
      have HR := Lib.hid (HI.out.each (L.getD k ra0) (by rw [show L.getD k ra0 = L[k] from by simp [List.getD, hlt]]; exact List.getElem_mem hlt))
      have b1 := HR.out.name
      have b2 := HR.out.other
      have b3 := HR.out.data
      have b4 := HR.out.keep.n
      have HG := Lib.hid (show FewR (L.getD k ra0) → ∀ j, j < k + 1 → FewR (L.getD j ra0) from fun h j hj => by
        by_cases e : j = k
        · rw [e]; exact h
        · exact HF.out j (by omega))
      clear c0 c4
      generalize L.getD k ra0 = r at *
      obtain ⟨rk, rn, ro, rd, rN, rkp, roA, rkk⟩ := r
      simp only at b1 b2 b3 b4 c1 c2 c3 c5
      go_wp2_with fail
      all_goals first
        | (go_ret; exact .inl ⟨rfl, rfl⟩)
        | (go_round
           case rel => exact ⟨k + 1, m + rd.length, by omega, by go_num, by go_num, by omega, Lib.hid (HG.out ⟨by simp only; omega, by simp only; omega, by simp only; omega, by simp only; omega⟩)⟩
           case measure => simp [intOf]; omega)
    · have d1 : decide (k < L.length) = false := by simpa using hlt
      obtain rfl : k = L.length := by omega
      by_cases h150 : 150 < L.length
      · have d2 : decide (150 < (L.length : Int)) = true := by simp; omega
        go_wp2_with fail
        go_ret
        exact .inl ⟨rfl, rfl⟩
      · have d2 : decide (150 < (L.length : Int)) = false := by simp; omega
        go_wp2_with fail
        go_ret
        exact .inr ⟨rfl, ⟨by omega, HF.out⟩, rfl⟩

end Go.Proofs.Ytekmnpmeienhhaa
