/- Layer 5: SameInts, SameTexts. -/
import Derived.Test.YtekmnpmeienhhaaDiskW
namespace Go.Proofs.Ytekmnpmeienhhaa
set_option linter.unusedVariables false
open Go Go.RowKit Go.Maps

/-- Texts that are to be read. -/
def TsA5 (w : World) (ao : Option Addr) (l : List (List UInt8)) : Prop := l ≠ [] → ∃ g off, ao = some ⟨g, off, none⟩ ∧ ∀ j, j < l.length → w.cell? ⟨g, off + j, none⟩ = some (.string (S (l.getD j [])))
theorem TsA5.wr {w w' : World} {ao : Option Addr} {l : List (List UInt8)} {A : Nat → Prop} (h : TsA5 w ao l) (hw : Wr A w w') (hA : ∀ a, l ≠ [] → ao = some a → ¬ A a.block) : TsA5 w' ao l := fun hn => by
  obtain ⟨g, off, e, hc⟩ := h hn
  refine ⟨g, off, e, fun j hj => ?_⟩
  have h1 := hc j hj
  rw [← h1]
  exact World.cell?_of_block (a := ⟨g, off + j, none⟩) (hw.block g (cell_lt5 h1) (hA _ hn e))
theorem TsA5.below {w w' : World} {ao : Option Addr} {l : List (List UInt8)} (h : TsA5 w ao l) (hb : Below w.heap.size w w') : TsA5 w' ao l := h.wr (A := fun _ => False) (wr_below hb) (fun _ _ _ q => q)
theorem tsA_row5 {w : World} {B : Nat} {ao : Option Addr} {cap : Nat} {l : List (List UInt8)} (h : w.ownsRow B 9 1 (.slice ao l.length cap) l.length (txs5 l)) : TsA5 w ao l := fun hn => by
  have hl : 0 < l.length := List.length_pos_iff.2 hn
  obtain ⟨g, e, _, _, _⟩ := row_at5 h hl
  refine ⟨g, 0, e, fun j hj => ?_⟩
  obtain ⟨g', e', _, _, hc⟩ := row_at5 h hj
  rw [e] at e'
  injection e' with e'
  injection e' with e'
  subst e'
  rw [Nat.zero_add, hc]
  simp [txs5, List.getD, hj]
def SameTo5 {α : Type} (z : α) (a b : List α) (k : Nat) : Prop := ∀ j, j < k → a.getD j z = b.getD j z
theorem same_all5 {α : Type} {z : α} {a b : List α} (hl : a.length = b.length) (h : SameTo5 z a b a.length) : a = b := by
  refine List.ext_getElem hl fun j h1 h2 => ?_
  have := h j h1
  simpa [List.getD, List.getElem?_eq_getElem h1, List.getElem?_eq_getElem h2] using this
set_option maxHeartbeats 1000000 in
theorem sameInts5_eq (a b : List Int) (ha : a.length ≤ 1000000) (hl : a.length = b.length) (ao bo : Option Addr) (ca cb : Nat) (w : World) (ra : NsA5 w ao a) (rb : NsA5 w bo b) :
    Calls Try.prog 22 #[.slice ao a.length ca, .slice bo a.length cb] w fun e w' => e = .returned (.bool (decide (a = b))) ∧ Below w.heap.size w w' := by
  have HL := Lib.hid hl
  by_cases hz : a = []
  · have hb0 : b = [] := List.length_eq_zero_iff.1 (by rw [← hl, hz]; rfl)
    have hd : decide (a = b) = true := by simp [hz, hb0]
    rw [hd]
    clear ra rb hl HL
    have hz0 : a.length = 0 := by rw [hz]; rfl
    rw [hz0]
    go_enter Try.func22, Try.ntmps22
    go_wp2_with fail
    refine wp_loop_rounds 1 ?_
    rw [rounds_succ]
    go_wp2_with fail
    go_ret
    exact ⟨rfl, Below.refl _ _⟩
  · have hzb : b ≠ [] := fun e => hz (List.length_eq_zero_iff.1 (by rw [hl, e]; rfl))
    have RA := Lib.hid ra
    have RB := Lib.hid rb
    obtain ⟨ga, oa, rfl, _⟩ := ra hz
    obtain ⟨gb, ob, rfl, _⟩ := rb hzb
    have HZ := Lib.hid hz
    have HZB := Lib.hid hzb
    clear ra rb hl hz hzb
    go_enter Try.func22, Try.ntmps22
    go_wp2_with fail
    go_loopw [5] (fun i wr => ∃ k : Nat, k ≤ a.length ∧ i = .int .i64 k ∧ SameTo5 0 a b k ∧ Below w.heap.size w wr) (fun i _ => a.length - (intOf i).toNat)
    case atStart => exact ⟨0, by omega, rfl, fun j hj => by omega, Below.refl _ _⟩
    case round =>
      obtain ⟨k, hk, rfl, hst, hb⟩ := hrel
      by_cases hka : k < a.length
      · obtain ⟨_, _, e1, xa'⟩ := (RA.out.below hb) HZ.out
        obtain ⟨_, _, e2, xb'⟩ := (RB.out.below hb) HZB.out
        injection e1 with e1; injection e1 with e1 e1'; subst e1 e1'
        injection e2 with e2; injection e2 with e2 e2'; subst e2 e2'
        have xa := xa' k hka
        have xb := xb' k (by have := HL.out; omega)
        have HS := Lib.hid hst
        clear hst xa' xb'
        by_cases he : a.getD k 0 = b.getD k 0
        · rw [← he] at xb
          have HE := Lib.hid he
          clear he
          generalize hu : a.getD k 0 = u at *
          have HU := Lib.hid hu
          clear hu
          go_wp2_with fail
          go_quiet (fail)
          go_wp2_with fail
          go_roundw
          case rel => exact ⟨k + 1, by omega, by go_num, fun j hj => by
            by_cases e : j = k
            · subst e; rw [HU.out]; exact HE.out
            · exact HS.out j (by omega), below_drewN hb _⟩
          case measure => simp [intOf]; omega
        · have hd : decide (a = b) = false := by simp; intro e; exact he (by rw [e])
          have HD := Lib.hid hd
          clear hd
          generalize a.getD k 0 = u at *
          generalize b.getD k 0 = v at *
          have huv : (u == v) = false := by simpa using he
          have huw : (u != v) = true := by simpa using he
          go_wp2_with fail
          go_quiet (fail)
          go_wp2_with fail
          go_ret
          exact ⟨ret_bool HD.out.symm, below_drewN hb _⟩
      · obtain rfl : k = a.length := by omega
        have hd : decide (a = b) = true := by simp; exact same_all5 HL.out hst
        have HD := Lib.hid hd
        clear hd
        go_wp2_with fail
        go_ret
        exact ⟨ret_bool HD.out.symm, hb⟩
theorem sameInts5_any (a b : List Int) (ha : a.length ≤ 1000000) (hb : b.length ≤ 1000000) (ao bo : Option Addr) (ca cb : Nat) (w : World) (ra : NsA5 w ao a) (rb : NsA5 w bo b) :
    Calls Try.prog 22 #[.slice ao a.length ca, .slice bo b.length cb] w fun e w' => e = .returned (.bool (decide (a = b))) ∧ Below w.heap.size w w' := by
  by_cases hl : a.length = b.length
  · have := sameInts5_eq a b ha hl ao bo ca cb w ra rb
    rw [← hl]
    exact this
  · have hd : decide (a = b) = false := by simp; intro e; exact hl (by rw [e])
    rw [hd]
    have d1 : ((a.length : Int) != (b.length : Int)) = true := by simp; omega
    have d2 : ((a.length : Int) == (b.length : Int)) = false := by simp; omega
    have d3 : (a.length != b.length) = true := by simpa using hl
    have d4 : (a.length == b.length) = false := by simpa using hl
    clear hl ra rb hd
    go_enter Try.func22, Try.ntmps22
    go_wp2_with fail
    go_ret
    exact ⟨rfl, Below.refl _ _⟩
set_option maxHeartbeats 1000000 in
theorem sameTexts5_eq (a b : List (List UInt8)) (ha : a.length ≤ 1000000) (hl : a.length = b.length) (ao bo : Option Addr) (ca cb : Nat) (w : World) (ra : TsA5 w ao a) (rb : TsA5 w bo b) :
    Calls Try.prog 33 #[.slice ao a.length ca, .slice bo a.length cb] w fun e w' => e = .returned (.bool (decide (a = b))) ∧ Below w.heap.size w w' := by
  have HL := Lib.hid hl
  by_cases hz : a = []
  · have hb0 : b = [] := List.length_eq_zero_iff.1 (by rw [← hl, hz]; rfl)
    have hd : decide (a = b) = true := by simp [hz, hb0]
    rw [hd]
    clear ra rb hl HL
    have hz0 : a.length = 0 := by rw [hz]; rfl
    rw [hz0]
    go_enter Try.func33, Try.ntmps33
    go_wp2_with fail
    refine wp_loop_rounds 1 ?_
    rw [rounds_succ]
    go_wp2_with fail
    go_ret
    exact ⟨rfl, Below.refl _ _⟩
  · have hzb : b ≠ [] := fun e => hz (List.length_eq_zero_iff.1 (by rw [hl, e]; rfl))
    have RA := Lib.hid ra
    have RB := Lib.hid rb
    obtain ⟨ga, oa, rfl, _⟩ := ra hz
    obtain ⟨gb, ob, rfl, _⟩ := rb hzb
    have HZ := Lib.hid hz
    have HZB := Lib.hid hzb
    clear ra rb hl hz hzb
    go_enter Try.func33, Try.ntmps33
    go_wp2_with fail
    go_loopw [5] (fun i wr => ∃ k : Nat, k ≤ a.length ∧ i = .int .i64 k ∧ SameTo5 [] a b k ∧ Below w.heap.size w wr) (fun i _ => a.length - (intOf i).toNat)
    case atStart => exact ⟨0, by omega, rfl, fun j hj => by omega, Below.refl _ _⟩
    case round =>
      obtain ⟨k, hk, rfl, hst, hb⟩ := hrel
      by_cases hka : k < a.length
      · obtain ⟨_, _, e1, xa'⟩ := (RA.out.below hb) HZ.out
        obtain ⟨_, _, e2, xb'⟩ := (RB.out.below hb) HZB.out
        injection e1 with e1; injection e1 with e1 e1'; subst e1 e1'
        injection e2 with e2; injection e2 with e2 e2'; subst e2 e2'
        have xa := xa' k hka
        have xb := xb' k (by have := HL.out; omega)
        have HS := Lib.hid hst
        clear hst xa' xb'
        by_cases he : a.getD k [] = b.getD k []
        · rw [← he] at xb
          have HE := Lib.hid he
          clear he
          generalize hu : a.getD k [] = u at *
          have HU := Lib.hid hu
          clear hu
          go_wp2_with fail
          go_quiet (fail)
          go_wp2_with fail
          go_roundw
          case rel => exact ⟨k + 1, by omega, by go_num, fun j hj => by
            by_cases e : j = k
            · subst e; rw [HU.out]; exact HE.out
            · exact HS.out j (by omega), below_drewN hb _⟩
          case measure => simp [intOf]; omega
        · have hd : decide (a = b) = false := by simp; intro e; exact he (by rw [e])
          have HD := Lib.hid hd
          clear hd
          generalize a.getD k [] = u at *
          generalize b.getD k [] = v at *
          have huv : (u == v) = false := by simpa using he
          go_wp2_with fail
          go_quiet (fail)
          go_wp2_with fail
          go_ret
          exact ⟨ret_bool HD.out.symm, below_drewN hb _⟩
      · obtain rfl : k = a.length := by omega
        have hd : decide (a = b) = true := by simp; exact same_all5 HL.out hst
        have HD := Lib.hid hd
        clear hd
        go_wp2_with fail
        go_ret
        exact ⟨ret_bool HD.out.symm, hb⟩
theorem sameTexts5_any (a b : List (List UInt8)) (ha : a.length ≤ 1000000) (hb : b.length ≤ 1000000) (ao bo : Option Addr) (ca cb : Nat) (w : World) (ra : TsA5 w ao a) (rb : TsA5 w bo b) :
    Calls Try.prog 33 #[.slice ao a.length ca, .slice bo b.length cb] w fun e w' => e = .returned (.bool (decide (a = b))) ∧ Below w.heap.size w w' := by
  by_cases hl : a.length = b.length
  · have := sameTexts5_eq a b ha hl ao bo ca cb w ra rb
    rw [← hl]
    exact this
  · have hd : decide (a = b) = false := by simp; intro e; exact hl (by rw [e])
    rw [hd]
    have d1 : ((a.length : Int) != (b.length : Int)) = true := by simp; omega
    have d2 : ((a.length : Int) == (b.length : Int)) = false := by simp; omega
    have d3 : (a.length != b.length) = true := by simpa using hl
    have d4 : (a.length == b.length) = false := by simpa using hl
    clear hl ra rb hd
    go_enter Try.func33, Try.ntmps33
    go_wp2_with fail
    go_ret
    exact ⟨rfl, Below.refl _ _⟩

end Go.Proofs.Ytekmnpmeienhhaa
