/- Layer 11: how often a list has a cell. -/
import Derived.Test.YthidmgnfdikppaaMergesZ
import Derived.BigQuiet
namespace Go.Proofs.Ythidmgnfdikppaa
set_option linter.unusedVariables false
open Go Go.RowKit
attribute [local go_sem ↓] run_index_S
attribute [local go_sem] S_append S_extract

def M.eqC (a b : M.Cl) : Bool := a.key == b.key && (a.seq == b.seq && a.val == b.val)
theorem M.eqC_iff {a b : M.Cl} : M.eqC a b = true ↔ a = b := by
  obtain ⟨a1, a2, a3⟩ := a
  obtain ⟨b1, b2, b3⟩ := b
  simp [M.eqC]
def M.cnt (c : M.Cl) (L : List M.Cl) : Nat := (L.filter (fun x => M.eqC x c)).length
theorem M.cnt_snoc (c : M.Cl) {L : List M.Cl} {k : Nat} (h : k < L.length) : M.cnt c (L.take (k + 1)) = M.cnt c (L.take k) + (if M.eqC (L.getD k M.cl0) c = true then 1 else 0) := by
  rw [takeC_snoc h]
  generalize L.getD k M.cl0 = d
  simp only [M.cnt, List.filter_append, List.length_append]
  by_cases e : M.eqC d c = true
  · rw [if_pos e, List.filter_cons_of_pos (p := fun x => M.eqC x c) e]; rfl
  · rw [if_neg e, List.filter_cons_of_neg (p := fun x => M.eqC x c) e]; rfl
set_option maxRecDepth 100000 in
theorem run_eql_cl (a b : M.Cl) (w : World) : Sem.run Try.prog (binOp .eql 38 (.agg (clA a)) (.agg (clA b))) w = .ok (.bool (M.eqC a b)) w := by
  unfold M.eqC
  cases h1 : a.key == b.key
  · go_simp
  · cases h2 : a.seq == b.seq
    · go_simp
    · cases h3 : a.val == b.val
      · go_simp
      · go_simp
theorem M.cnt_le (c : M.Cl) (L : List M.Cl) : M.cnt c L ≤ L.length := List.length_filter_le _ _
set_option maxHeartbeats 4000000 in
set_option maxRecDepth 100000 in
theorem count11_any (L : List M.Cl) (hl : L.length ≤ 1000000) (ao : Option Addr) (cap : Nat) (c : M.Cl) (w : World) (hC : ClsAt w ao L) :
    Calls Try.prog 49 #[.slice ao L.length cap, .agg (clA c)] w fun e w' => e = .returned (.int .i64 (M.cnt c L)) ∧ Below w.heap.size w w' := by
  have HC := Lib.hid hC
  clear hC
  have HR0 := Lib.hid (rowIn_new (clA c) 38 w)
  have HB0 := Lib.hid ((Below.refl w.heap.size w).alloc (Nat.le_refl _) (.cells (clA c) 38))
  go_enter Try.func49, Try.ntmps49
  go_wp2_with fail
  go_loopw [5, 6] (fun nv i wr => ∃ k : Nat, k ≤ L.length ∧ i = .int .i64 k ∧ nv = .int .i64 (M.cnt c (L.take k)) ∧ Hid (RowIn (clA c) 38 wr w.heap.size) ∧ Hid (Below w.heap.size w wr)) (fun nv i _ => L.length - (intOf i).toNat)
  case atStart => exact ⟨0, Nat.zero_le _, rfl, by simp [M.cnt], HR0, HB0⟩
  case round =>
    clear HR0 HB0
    obtain ⟨k, hk, rfl, rfl, HR, HB⟩ := hrel
    by_cases hlt : k < L.length
    · have hki : (k : Int) < (L.length : Int) := by omega
      obtain ⟨g, off, rfl, hc⟩ := (HC.out.below HB.out).off k hlt
      obtain ⟨x0, x1, x2⟩ := hc
      have HT := Lib.hid (M.cnt_snoc c hlt)
      have hcl := M.cnt_le c (L.take k)
      have hcl2 : M.cnt c (L.take k) ≤ 1000000 := by
        have : (L.take k).length ≤ L.length := by simp; omega
        omega
      generalize M.cnt c (L.take k) = m at *
      generalize L.getD k M.cl0 = d at *
      have y0 : wr.cell? ⟨w.heap.size, 0, none⟩ = some (.string (S c.key)) := HR.out.cell 0
      have y1 : wr.cell? ⟨w.heap.size, 1, none⟩ = some (.int .i64 c.seq) := HR.out.cell 1
      have y2 : wr.cell? ⟨w.heap.size, 2, none⟩ = some (.string (S c.val)) := HR.out.cell 2
      clear hcl
      have hq := fun w => run_eql_cl d c w
      generalize hbe : M.eqC d c = be at *
      clear hbe
      go_wp2_with fail
      go_quiet (fail)
      have hbq : Below wr.heap.size wr (wr.drewN nq) := below_drewN (Below.refl _ _) nq
      obtain ⟨wq, hwq⟩ : ∃ x, x = wr.drewN nq := ⟨_, rfl⟩
      rw [← hwq] at hbq ⊢
      replace HR := Lib.hid (HR.out.below hbq)
      replace HB := Lib.hid (HB.out.trans (hbq.mono HB.out.size))
      clear hwq hbq x0 x1 x2 y0 y1 y2
      clear hq
      cases be with
      | true =>
        simp only [if_true] at HT
        go_wp2_with fail
        go_roundw
        case rel => exact ⟨k + 1, by omega, by go_num, by rw [HT.out]; rfl, HR, HB⟩
        case measure => simp [intOf]; omega
      | false =>
        simp only [Bool.false_eq_true, if_false, Nat.add_zero] at HT
        go_wp2_with fail
        go_roundw
        case rel => exact ⟨k + 1, by omega, by go_num, by rw [HT.out], HR, HB⟩
        case measure => simp [intOf]; omega
    · obtain rfl : k = L.length := by omega
      have HE := Lib.hid (show M.cnt c (L.take L.length) = M.cnt c L from by rw [List.take_length])
      generalize M.cnt c (L.take L.length) = m at *
      go_wp2_with fail
      go_ret
      exact ⟨by rw [← HE.out]; rfl, HB.out⟩

end Go.Proofs.Ythidmgnfdikppaa
