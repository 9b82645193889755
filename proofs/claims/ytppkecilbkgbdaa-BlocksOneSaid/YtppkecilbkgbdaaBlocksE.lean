/- Layer 9: whether cells are sorted, by contracts. -/
import Derived.Test.YtppkecilbkgbdaaBlocksD
namespace Go.Proofs.Ytppkecilbkgbdaa
set_option linter.unusedVariables false
open Go Go.RowKit
attribute [local go_sem ↓] run_index_S
attribute [local go_sem] S_append S_extract

theorem takeC_snoc {L : List M.Cl} {k : Nat} (h : k < L.length) : L.take (k + 1) = L.take k ++ [L.getD k M.cl0] := by
  rw [List.take_succ_eq_append_getElem h]; simp [List.getD, List.getElem?_eq_getElem h]
theorem memC {L : List M.Cl} {P : M.Cl → Prop} (h : ∀ c ∈ L, P c) {k : Nat} (hk : k < L.length) : P (L.getD k M.cl0) := by
  rw [show L.getD k M.cl0 = L[k] from by simp [List.getD, List.getElem?_eq_getElem hk]]; exact h _ (List.getElem_mem hk)
theorem M.srt_take {L : List M.Cl} {n : Nat} (h : M.srt none L = true) : M.srt none (L.take n) = true := by
  rw [← List.take_append_drop n L, M.srt_append] at h
  simp only [Bool.and_eq_true] at h
  exact h.1
def IdxR (b : Bool) (w0 : World) (e : Ending) (w' : World) : Prop := ∃ k : Int, e = .returned (.int .i64 k) ∧ decide (0 ≤ k) = !b ∧ Below w0.heap.size w0 w'
set_option maxHeartbeats 2000000 in
theorem indexF_any (L : List M.Cl) (hl : L.length ≤ 1000000) (ao : Option Addr) (cap d : Nat) (w0 : World) (hC : ClsAt w0 ao L) (hv : ∀ c ∈ L, ClOk c) (hd0 : w0.heap.size ≤ d) (w : World) (hb : Below w0.heap.size w0 w) (hd : DisAt w d none) :
    Calls Try.prog 47 #[.slice ao L.length cap, .func (.func 48) #[] #[.pointer (some ⟨d, 0, none⟩)]] w fun e w' => IdxR (M.srt none L) w0 e w' := by
  have HC := Lib.hid hC
  have HV := Lib.hid hv
  have HB := Lib.hid hb
  have HD := Lib.hid hd
  clear hC hv hb hd
  go_enter Try.func47, Try.ntmps47
  go_wp2_with fail
  go_loopw [8] (fun i wr => ∃ k : Nat, k ≤ L.length ∧ i = .int .i64 k ∧ Hid (M.srt none (L.take k) = true) ∧ Hid (DisAt wr d (M.lastO none (L.take k))) ∧ Hid (Below w0.heap.size w0 wr)) (fun i _ => L.length - (intOf i).toNat)
  case atStart => exact ⟨0, Nat.zero_le _, rfl, Lib.hid rfl, HD, HB⟩
  case round =>
    clear HD HB
    obtain ⟨k, hk, rfl, HS, HD, HB⟩ := hrel
    by_cases hlt : k < L.length
    · have hd : decide ((k : Int) < (L.length : Int)) = true := by simp; omega
      have hki : (k : Int) < (L.length : Int) := by omega
      obtain ⟨g, off, rfl, hc⟩ := (HC.out.below HB.out).off k hlt
      obtain ⟨x0, x1, x2⟩ := hc
      have HF := Lib.hid (memC HV.out hlt)
      have HT := Lib.hid (takeC_snoc hlt)
      have HN := Lib.hid (show M.srt none (L.take (k + 1)) = (M.srt none (L.take k) && M.nextB (M.lastO none (L.take k)) (L.getD k M.cl0)) from by rw [HT.out, M.srt_snoc])
      have HO := Lib.hid (show M.lastO none (L.take (k + 1)) = some (L.getD k M.cl0) from by rw [HT.out, M.lastO_snoc])
      generalize L.getD k M.cl0 = c at *
      generalize M.lastO none (L.take k) = p at *
      go_wp2_with fail
      with_reducible refine (dis1_any c HF.out p d _ HD.out).mono ?_
      rintro e w1 ⟨rfl, h1, h2⟩
      have HB1 := Lib.hid (HB.out.grown h2 HB.out.size (fun q hq => by cases hq; exact hd0))
      cases hn : M.nextB p c with
      | true =>
        have HD1 := Lib.hid (h1 hn)
        have HN1 := Lib.hid (show M.srt none (L.take (k + 1)) = true from by rw [HN.out, HS.out, hn]; rfl)
        clear h1 h2 hn x0 x1 x2
        go_wp2_with fail
        go_roundw
        case rel => exact ⟨k + 1, by omega, by go_num, HN1, by rw [HO.out]; exact HD1, HB1⟩
        case measure => simp [intOf]; omega
      | false =>
        have HE := Lib.hid (show M.srt none L = false from by
          cases hs : M.srt none L with
          | false => rfl
          | true =>
            have := M.srt_take (n := k + 1) hs
            rw [HN.out, hn] at this
            simp at this)
        clear h1 h2 hn x0 x1 x2
        go_wp2_with fail
        go_ret
        exact ⟨_, rfl, by rw [HE.out]; simp, HB1.out⟩
    · obtain rfl : k = L.length := by omega
      have hd : decide ((L.length : Int) < (L.length : Int)) = false := by simp
      have HE := Lib.hid (show M.srt none L = true from by have := HS.out; rwa [List.take_length] at this)
      go_wp2_with fail
      go_ret
      exact ⟨-1, rfl, by rw [HE.out]; rfl, HB.out⟩

set_option maxHeartbeats 1000000 in
theorem containsF_any (L : List M.Cl) (hl : L.length ≤ 1000000) (ao : Option Addr) (cap d : Nat) (w0 : World) (hC : ClsAt w0 ao L) (hv : ∀ c ∈ L, ClOk c) (hd0 : w0.heap.size ≤ d) (w : World) (hb : Below w0.heap.size w0 w) (hd : DisAt w d none) :
    Calls Try.prog 33 #[.slice ao L.length cap, .func (.func 48) #[] #[.pointer (some ⟨d, 0, none⟩)]] w fun e w' => e = .returned (.bool (!M.srt none L)) ∧ Below w0.heap.size w0 w' := by
  have C := Lib.hid (indexF_any L hl ao cap d w0 hC hv hd0 w hb hd)
  clear hC hv hb hd
  go_enter Try.func33, Try.ntmps33
  go_wp2_with fail
  with_reducible refine (C.out).mono ?_
  rintro e w1 ⟨k, rfl, hk, hb⟩
  have HB := Lib.hid hb
  clear hb
  have HK := Lib.hid hk
  clear hk
  go_wp2_with fail
  go_ret
  exact ⟨ret_bool HK.out, HB.out⟩

set_option maxHeartbeats 1000000 in
theorem sorted9_any (L : List M.Cl) (hl : L.length ≤ 1000000) (ao : Option Addr) (cap : Nat) (w : World) (hC : ClsAt w ao L) (hv : ∀ c ∈ L, ClOk c) :
    Calls Try.prog 14 #[.slice ao L.length cap] w fun e w' => e = .returned (.bool (M.srt none L)) ∧ Below w.heap.size w w' := by
  have HB := Lib.hid ((Below.refl w.heap.size w).alloc (Nat.le_refl _) (.cells #[.pointer none] 74))
  have C := Lib.hid (containsF_any L hl ao cap w.heap.size w hC hv (Nat.le_refl _) (w.alloc (.cells #[.pointer none] 74)) HB.out (rowIn_new _ _ _))
  clear hC hv
  go_enter Try.func14, Try.ntmps14
  go_wp2_with fail
  with_reducible refine (disorder_any _).mono ?_
  rintro e w1 ⟨rfl, rfl⟩
  go_wp2_with fail
  with_reducible refine (C.out).mono ?_
  rintro e w1 ⟨rfl, hb⟩
  have HB1 := Lib.hid hb
  clear hb
  go_wp2_with fail
  go_ret
  exact ⟨rfl, HB1.out⟩

end Go.Proofs.Ytppkecilbkgbdaa
