/- Layer 15: the document's Put, by a contract. -/
import Derived.Test.YthidmgnfdikppaaMemYa
import Derived.BigQuiet
import Derived.Deep.CutRange
import Derived.Test.YthidmgnfdikppaaMemXo
namespace Go.Proofs.Ythidmgnfdikppaa
set_option linter.unusedVariables false
set_option linter.unusedSimpArgs false
open Go Go.RowKit
attribute [local go_sem ↓] run_index_S
attribute [local go_sem] S_append S_extract

theorem M.insC_at {c : M.Cl} {L : List M.Cl} {k : Nat} (h1 : ∀ j, j < k → M.aheadC (L.getD j M.cl0) c = true) (hk : k ≤ L.length) (h2 : k < L.length → M.aheadC (L.getD k M.cl0) c = false) :
    M.insC c L = if k < L.length ∧ M.sameC (L.getD k M.cl0) c = true then L else L.take k ++ c :: L.drop k := by
  have hA : ∀ x, x ∈ L.take k → M.aheadC x c = true := fun x hx => by
    obtain ⟨j, hj, e⟩ := List.getElem_of_mem hx
    rw [List.length_take] at hj
    have := h1 j (by omega)
    rw [List.getElem_take] at e
    rw [M.gD15 L j M.cl0 (by omega), e] at this
    exact this
  rcases Nat.lt_or_ge k L.length with q | q
  · have e : L.drop k = L.getD k M.cl0 :: L.drop (k + 1) := by rw [M.gD15 L k M.cl0 q]; exact List.drop_eq_getElem_cons q
    have hc := M.insC_cut c (L.take k) (L.drop k) hA (fun x t ex => by
      rw [e] at ex
      cases ex
      exact h2 q)
    rw [List.take_append_drop] at hc
    rw [hc, e]
    by_cases hs : M.sameC (L.getD k M.cl0) c = true
    · rw [if_pos ⟨q, hs⟩]
      simp only [if_pos hs]
      rw [← e, List.take_append_drop]
    · rw [if_neg (fun h => hs h.2)]
      simp only [if_neg hs]
  · obtain rfl : k = L.length := by omega
    have hc := M.insC_cut c (L.take L.length) [] hA (fun x t ex => by cases ex)
    rw [if_neg (fun h => absurd h.1 (Nat.lt_irrefl _))]
    simpa using hc
def RPutR15 (b : Nat) (v : Int) (ao : Option Addr) (L' : List M.Cl) (w : World) (e : Ending) (w' : World) : Prop := e = .returned (.int .i64 v) ∧ ∃ ao' cap', RefM b ao' cap' L' w' ∧ OnlyS (fun k => k = b) w w' ∧ (ao' = ao ∨ ∀ a, ao' = some a → w.heap.size ≤ a.block ∧ a.block < w'.heap.size)
theorem refFin15 {b : Nat} {ao a18 : Option Addr} {cap c18 : Nat} {L L' : List M.Cl} {w wX w18 : World} (hM : RefM b ao cap L wX) (hB0 : Below w.heap.size w wX) (hB : Below wX.heap.size wX w18) (hO : w18.ownsRow wX.heap.size 38 3 (.slice a18 (L.length + 1) c18) (L.length + 1) (cls L')) (hl : L'.length = L.length + 1) :
    RefM b a18 c18 L' (w18.setCell ⟨b, 0, none⟩ (.slice a18 (L.length + 1) c18)) ∧ OnlyS (fun k => k = b) w (w18.setCell ⟨b, 0, none⟩ (.slice a18 (L.length + 1) c18)) ∧ (a18 = ao ∨ ∀ a, a18 = some a → w.heap.size ≤ a.block ∧ a.block < (w18.setCell ⟨b, 0, none⟩ (.slice a18 (L.length + 1) c18)).heap.size) := by
  have hrow := hM.row.below hB
  have hap := row_apart hrow hO (by decide)
  refine ⟨⟨?_, ?_, ?_, ?_⟩, ?_, ?_⟩
  · rw [hl]; exact hrow.set 0 _
  · refine clsAt_only15 (clsAt_own hO hl.symm) (onlyS_set (A := fun k => k = b) w18 b 0 _ rfl) (fun a ha e => ?_)
    subst ha
    exact hap a.block rfl e
  · obtain ⟨g, rfl⟩ := ownC_addr hO (by omega)
    have := ownC_cap hO
    omega
  · intro _
    obtain ⟨g, rfl⟩ := ownC_addr hO (by omega)
    exact ⟨g, 0, rfl⟩
  · exact ((onlyS_below hB0).trans (onlyS_below hB)).trans (onlyS_set _ b 0 _ rfl)
  · refine .inr (fun a ha => ?_)
    have h1 := hO.lt a.block (by rw [ha]; rfl)
    exact ⟨Nat.le_trans hB0.size h1.1, Nat.lt_of_lt_of_le h1.2 (onlyS_set (A := fun k => k = b) w18 b 0 _ rfl).size⟩

set_option maxHeartbeats 8000000 in
set_option maxRecDepth 100000 in
theorem refPut15_any (b : Nat) (ao : Option Addr) (cap : Nat) (L : List M.Cl) (c : M.Cl) (w : World) (h : RefM b ao cap L w) (hc : ClOk c) (hn : L.length ≤ 100000) :
    Calls Try.prog 52 #[.pointer (some ⟨b, 0, none⟩), .agg (clA c)] w (RPutR15 b (if M.mayC c then 0 else 2) ao (M.putL c L) w) := by
  obtain ⟨i0, z0, hi0, hz0, hz1, hz2, hz3⟩ := infoCl_parts
  have hal := (Below.refl w.heap.size w).alloc (Nat.le_refl _) (.cells (clA c) 38)
  have HB0 := Lib.hid hal
  have HXX := Lib.hid (rowIn_new (clA c) 38 w)
  have HMX := Lib.hid (h.below hal)
  have CM := Lib.hid (fun V => refMay9_any c hc V)
  have CA := Lib.hid (fun d V => refAhead9_any d c V)
  have hcap := h.le
  have HEM := Lib.hid h.emp
  have HP := Lib.hid (show M.putL c L = if M.mayC c = true then M.insC c L else L from rfl)
  have HWL := Lib.hid (show w.heap.size < (w.alloc (.cells (clA c) 38)).heap.size from by rw [szA]; exact Nat.lt_succ_self _)
  have HBW := Lib.hid h.row.lt
  unfold RPutR15
  generalize hrv : (if M.mayC c = true then (0 : Int) else 2) = rv
  have HRV := Lib.hid hrv
  clear hrv
  generalize M.putL c L = L' at *
  clear h hal hc
  unfold clA at CM CA
  go_enter Try.func52, Try.ntmps52
  go_wp2_with fail
  obtain ⟨X, hX⟩ : ∃ x, x = w.heap.size := ⟨_, rfl⟩
  obtain ⟨wX, hwX⟩ : ∃ x, x = w.alloc (.cells (clA c) 38) := ⟨_, rfl⟩
  rw [← hwX] at HB0 HXX HMX HWL
  rw [show w.alloc (.cells #[.string (S c.key), .int .i64 c.seq, .string (S c.val)] 38) = wX from hwX.symm]
  rw [← hX] at HXX ⊢
  clear hX hwX
  have HB := Lib.hid (Below.refl wX.heap.size wX)
  have x0 := HXX.out.cell 0
  have x1 := HXX.out.cell 1
  have x2 := HXX.out.cell 2
  with_reducible refine (CM.out _).mono ?_
  rintro e w2 ⟨rfl, hbq⟩
  replace HB := carry hbq HB
  clear hbq CM x0 x1 x2
  cases hmay : M.mayC c with
  | false =>
    rw [hmay, if_neg (by decide)] at HP HRV
    clear hmay
    obtain rfl := HRV.out
    go_wp2_with fail
    go_ret
    have hr := (HMX.out.below HB.out)
    exact ⟨rfl, ao, cap, by rw [HP.out]; exact hr, onlyS_below (HB0.out.trans (HB.out.mono HB0.out.size)), .inl rfl⟩
  | true =>
    rw [hmay, if_pos rfl] at HP HRV
    clear hmay
    obtain rfl := HRV.out
    go_wp2_with fail
    go_loopw [5] (fun v5 wr => ∃ (k : Nat), k ≤ L.length ∧ v5 = .int .i64 k ∧ Hid (∀ j, j < k → M.aheadC (L.getD j M.cl0) c = true) ∧ Hid (Below wX.heap.size wX wr)) (fun v _ => L.length - (intOf v).toNat)
    case atStart => exact ⟨0, Nat.zero_le _, rfl, Lib.hid (fun j hj => by omega), HB⟩
    case round =>
      clear HB
      obtain ⟨k, hk, rfl, HJ, HB⟩ := hrel
      have HRX := Lib.hid (HXX.out.below HB.out)
      have HRM := Lib.hid (HMX.out.below HB.out)
      have m0 := fun d os => cell_regrown (HRM.out.row.cell 0) d os
      by_cases hlt : k < L.length
      · have d2 : decide ((k : Int) < (L.length : Int)) = true := by simp; omega
        have d3 : decide (k < L.length) = true := by simp; omega
        have hki : (k : Int) < (L.length : Int) := by omega
        obtain ⟨g, off, rfl, y0, y1, y2⟩ := HRM.out.cls.off k hlt
        replace y0 := fun d os => cell_regrown y0 d os
        replace y1 := fun d os => cell_regrown y1 d os
        replace y2 := fun d os => cell_regrown y2 d os
        have x0 := fun d os => cell_regrown (HRX.out.cell 0) d os
        have x1 := fun d os => cell_regrown (HRX.out.cell 1) d os
        have x2 := fun d os => cell_regrown (HRX.out.cell 2) d os
        have CAk := Lib.hid (fun V => CA.out (L.getD k M.cl0) V)
        have HST := Lib.hid (show M.aheadC (L.getD k M.cl0) c = true → ∀ j, j < k + 1 → M.aheadC (L.getD j M.cl0) c = true from fun h j hj => by
          rcases Nat.lt_or_ge j k with q | q
          · exact HJ.out j q
          · obtain rfl : j = k := by omega
            exact h)
        have HSP := Lib.hid (fun h => M.insC_at HJ.out hk (fun _ => h))
        have hcl0 : ClOff (L.getD k M.cl0) wX g (off + k * 3) := by
          obtain ⟨g', off', e, hh⟩ := HMX.out.cls.off k hlt
          cases e
          exact hh
        have HCL := Lib.hid hcl0
        clear hcl0
        generalize hdd : L.getD k M.cl0 = d at *
        clear hdd
        obtain ⟨B, hB⟩ : ∃ b, b = M.aheadC d c := ⟨_, rfl⟩
        rw [← hB] at HST HSP
        simp only [← hB] at CAk
        clear hB
        go_upto_region 4 with (fail)
        go_cut [26] from 9 to 28 (fun v wx => v = .bool B ∧ Below wr.heap.size wr wx)
        case first =>
          refine wp_region_quiet_below (by kernel_rfl) (by kernel_rfl) ?_
          repeat (any_goals (first | go_big_quiet_step ((first | (go_at_call 93; with_reducible exact Calls.regrown_of (CAk.out _)))) | quiet_step ((first | (go_at_call 93; with_reducible exact Calls.regrown_of (CAk.out _))))))
          refine wpQuiet_nil ?_
          intro _ hw1
          obtain ⟨⟨dd, oo⟩, hw1⟩ := hw1
          subst hw1
          go_wp2_with fail
          go_meet
          case rel => exact ⟨rfl, below_regrown wr dd oo⟩
        case rest =>
        obtain ⟨rfl, hb4⟩ := hcut
        have HB4 := carry hb4 HB
        clear hb4
        cases B with
        | true =>
          have HJ2 := Lib.hid (HST.out rfl)
          clear HST HSP HJ
          go_wp2_with fail
          go_roundw
          case rel => exact ⟨k + 1, by omega, by go_num, HJ2, HB4⟩
          case measure => simp [intOf]; omega
        | false =>
          have HPL := Lib.hid (HP.out.trans (HSP.out rfl))
          clear HST HSP HP HB
          have HB := HB4
          clear HB4 m0 y0 y1 y2 x0 x1 x2 HRX HRM
          go_wp2_with fail
          clear HJ
          have m0 := (HMX.out.below HB.out).row.cell 0
          obtain ⟨y0, y1, y2⟩ := (HCL.out.below HB.out)
          clear y2
          have x0 := (HXX.out.below HB.out).cell 0
          have x1 := (HXX.out.below HB.out).cell 1
          have x2 := (HXX.out.below HB.out).cell 2
          by_cases hkey : d.key = c.key
          · have b1 : (d.key == c.key) = true := by simpa using hkey
            by_cases hseq : d.seq = c.seq
            · have b2 : (d.seq == c.seq) = true := by simpa using hseq
              have HPE := Lib.hid (show L' = L from by rw [HPL.out, if_pos ⟨hlt, M.sameC_iff.2 ⟨hkey, hseq⟩⟩])
              clear hkey hseq HPL
              go_wp2_with fail
              go_quiet (fail)
              have hbq : Below wc.heap.size wc (wc.drewN nq) := below_drewN (Below.refl _ _) nq
              obtain ⟨wq, hwq⟩ : ∃ x, x = wc.drewN nq := ⟨_, rfl⟩
              rw [← hwq] at hbq ⊢
              replace HB := carry hbq HB
              clear hwq hbq m0 y0 y1 x0 x1 x2
              go_wp2_with fail
              go_ret
              exact ⟨rfl, some ⟨g, off, none⟩, cap, by rw [HPE.out]; exact HMX.out.below HB.out, onlyS_below (HB0.out.trans (HB.out.mono HB0.out.size)), .inl rfl⟩
            · have b2 : (d.seq == c.seq) = false := by rw [beq_eq_false_iff_ne]; exact hseq
              replace HPL := Lib.hid (HPL.out.trans (if_neg (fun h => hseq (M.sameC_iff.1 h.2).2)))
              clear hkey hseq
              go_wp2_with fail
              go_quiet (fail)
              have hbq : Below wc.heap.size wc (wc.drewN nq) := below_drewN (Below.refl _ _) nq
              obtain ⟨wq, hwq⟩ : ∃ x, x = wc.drewN nq := ⟨_, rfl⟩
              rw [← hwq] at hbq ⊢
              replace HB := carry hbq HB
              clear hwq hbq m0 y0 y1 x0 x1 x2
              have e0 : (L.take k).length = k := by rw [List.length_take]; omega
              have e1 : (L.drop k).length = L.length - k := List.length_drop ..
              have HE0 := Lib.hid e0
              have HE1 := Lib.hid e1
              have HL1 := Lib.hid (show L' = (L.take k ++ [c]) ++ L.drop k from by rw [HPL.out]; simp)
              have HLL := Lib.hid (show L'.length = L.length + 1 from by rw [HL1.out, List.length_append, List.length_append, e0, e1]; show k + 1 + (L.length - k) = _; omega)
              have hcq : ¬ cap = k := by omega
              have bq0 : (0 : Int) ≤ (k : Int) := by omega
              have bq1 : (k : Int) ≤ (L.length : Int) := by omega
              have bq2 : (L.length : Int) ≤ (cap : Int) := by omega
              have bq3 : (k : Int) ≤ (cap : Int) := by omega
              clear HPL e0 e1
              go_wp2_with fail
              refine wp_region_Z (S := fun V => V.cell? ⟨b, 0, none⟩ = some (.slice (some ⟨g, off, none⟩) L.length cap) ∧ V.cell? ⟨X, 0, none⟩ = some (.string (S c.key)) ∧ V.cell? ⟨X, 1, none⟩ = some (.int .i64 c.seq) ∧ V.cell? ⟨X, 2, none⟩ = some (.string (S c.val))) 21 (by kernel_rfl) ?_ (fun hHeld => ?_)
              · exact ⟨(HMX.out.below HB.out.drew).row.cell 0, (HXX.out.below HB.out.drew).cell 0, (HXX.out.below HB.out.drew).cell 1, (HXX.out.below HB.out.drew).cell 2⟩
              replace HB := Lib.hid HB.out.drew
              obtain ⟨wr, hwr⟩ : ∃ x, x = World.drew wq := ⟨_, rfl⟩
              rw [← hwr] at HB hHeld ⊢
              clear hwr
              refine wpAnyZ_takeY (i := 0) (oi := { dst := some 62, op := Op.move (Operand.tmp 0), type := 76, pos := "ref.go:24", after := #[], guard := none }) (v := ?_) rfl (by kernel_rfl) (by kernel_rfl) (by kernel_rfl) (by rfl) (fun _ _ _ h => h) (Or.inl ⟨by rfl, ?_⟩) (by assumption) ?_
              rotate_left
              · (intro w; go_simp); (first | done | with_reducible rfl)
              try simp only [Act.put, List.setIfInBounds_toArray, List.set_cons_zero, List.set_cons_succ]
              refine wpAnyZ_takeY (i := 2) (oi := { dst := some 64, op := Op.move (Operand.tmp 0), type := 76, pos := "ref.go:24", after := #[], guard := none }) (v := ?_) rfl (by kernel_rfl) (by kernel_rfl) (by kernel_rfl) (by rfl) (fun _ _ _ h => h) (Or.inl ⟨by rfl, ?_⟩) (by assumption) ?_
              rotate_left
              · (intro w; go_simp); (first | done | with_reducible rfl)
              try simp only [Act.put, List.setIfInBounds_toArray, List.set_cons_zero, List.set_cons_succ]
              refine wpAnyZ_takeY (i := 3) (oi := { dst := some 65, op := Op.nilCheck (Operand.tmp 64), type := 0, pos := "ref.go:24", after := #[{ on := 2, ground := Ground.data }], guard := none }) (v := ?_) rfl (by kernel_rfl) (by kernel_rfl) (by kernel_rfl) (by rfl) (fun _ _ _ h => h) (Or.inl ⟨by rfl, ?_⟩) (by assumption) ?_
              rotate_left
              · (intro w; go_simp); (first | done | with_reducible rfl)
              try simp only [Act.put, List.setIfInBounds_toArray, List.set_cons_zero, List.set_cons_succ]
              refine wpAnyZ_takeY (i := 4) (oi := { dst := some 66, op := Op.fieldAddr 78 (Operand.tmp 65) 0, type := 0, pos := "ref.go:24", after := #[{ on := 3, ground := Ground.data }], guard := none }) (v := ?_) rfl (by kernel_rfl) (by kernel_rfl) (by kernel_rfl) (by rfl) (fun _ _ _ h => h) (Or.inl ⟨by rfl, ?_⟩) (by assumption) ?_
              rotate_left
              · (intro w; go_simp); (first | done | with_reducible rfl)
              try simp only [Act.put, List.setIfInBounds_toArray, List.set_cons_zero, List.set_cons_succ]
              refine wpAnyZ_take (i := 5) (oi := { dst := some 67, op := Op.load 22 (Operand.tmp 66), type := 22, pos := "ref.go:24", after := #[{ on := 4, ground := Ground.data }], guard := none }) (v := ?_) [7, 8, 11, 18, 19, 20, 21] rfl (by kernel_rfl) (by kernel_rfl) (by kernel_rfl) (by kernel_rfl) (fun _ _ _ h => h) (Or.inl ⟨by rfl, ?_⟩) (by assumption) ?_
              rotate_left
              · (intro w hSw; (try dsimp only at hSw); go_simp); (first | done | with_reducible rfl)
              try simp only [Act.put, List.setIfInBounds_toArray, List.set_cons_zero, List.set_cons_succ]
              refine wpAnyZ_takeY (i := 6) (oi := { dst := some 68, op := Op.move (Operand.tmp 5), type := 3, pos := "ref.go:24", after := #[], guard := none }) (v := ?_) rfl (by kernel_rfl) (by kernel_rfl) (by kernel_rfl) (by rfl) (fun _ _ _ h => h) (Or.inl ⟨by rfl, ?_⟩) (by assumption) ?_
              rotate_left
              · (intro w; go_simp); (first | done | with_reducible rfl)
              try simp only [Act.put, List.setIfInBounds_toArray, List.set_cons_zero, List.set_cons_succ]
              refine wpAnyZ_takeY (i := 7) (oi := { dst := some 69, op := Op.slice 22 (Operand.tmp 67) none (some (Operand.tmp 68)) none, type := 22, pos := "ref.go:24", after := #[{ on := 5, ground := Ground.data }, { on := 6, ground := Ground.data }], guard := none }) (v := ?_) rfl (by kernel_rfl) (by kernel_rfl) (by kernel_rfl) (by rfl) (fun _ _ _ h => h) (Or.inl ⟨by rfl, ?_⟩) (by assumption) ?_
              rotate_left
              · (intro w; go_simp); (first | done | with_reducible rfl)
              try simp only [Act.put, List.setIfInBounds_toArray, List.set_cons_zero, List.set_cons_succ]
              refine wpAnyZ_take (i := 9) (oi := { dst := some 71, op := Op.load 38 (Operand.tmp 3), type := 38, pos := "ref.go:24", after := #[], guard := none }) (v := ?_) [10, 11, 18, 19, 20, 21] rfl (by kernel_rfl) (by kernel_rfl) (by kernel_rfl) (by kernel_rfl) (fun _ _ _ h => h) (Or.inl ⟨by rfl, ?_⟩) (by assumption) ?_
              rotate_left
              · (intro w hSw; (try dsimp only at hSw); go_simp); (first | done | with_reducible rfl)
              try simp only [Act.put, List.setIfInBounds_toArray, List.set_cons_zero, List.set_cons_succ]
              refine wpAnyZ_takeY (i := 12) (oi := { dst := some 74, op := Op.move (Operand.tmp 0), type := 76, pos := "ref.go:24", after := #[], guard := none }) (v := ?_) rfl (by kernel_rfl) (by kernel_rfl) (by kernel_rfl) (by rfl) (fun _ _ _ h => h) (Or.inl ⟨by rfl, ?_⟩) (by assumption) ?_
              rotate_left
              · (intro w; go_simp); (first | done | with_reducible rfl)
              try simp only [Act.put, List.setIfInBounds_toArray, List.set_cons_zero, List.set_cons_succ]
              refine wpAnyZ_takeY (i := 13) (oi := { dst := some 75, op := Op.nilCheck (Operand.tmp 74), type := 0, pos := "ref.go:24", after := #[{ on := 12, ground := Ground.data }], guard := none }) (v := ?_) rfl (by kernel_rfl) (by kernel_rfl) (by kernel_rfl) (by rfl) (fun _ _ _ h => h) (Or.inl ⟨by rfl, ?_⟩) (by assumption) ?_
              rotate_left
              · (intro w; go_simp); (first | done | with_reducible rfl)
              try simp only [Act.put, List.setIfInBounds_toArray, List.set_cons_zero, List.set_cons_succ]
              refine wpAnyZ_takeY (i := 14) (oi := { dst := some 76, op := Op.fieldAddr 78 (Operand.tmp 75) 0, type := 0, pos := "ref.go:24", after := #[{ on := 13, ground := Ground.data }], guard := none }) (v := ?_) rfl (by kernel_rfl) (by kernel_rfl) (by kernel_rfl) (by rfl) (fun _ _ _ h => h) (Or.inl ⟨by rfl, ?_⟩) (by assumption) ?_
              rotate_left
              · (intro w; go_simp); (first | done | with_reducible rfl)
              try simp only [Act.put, List.setIfInBounds_toArray, List.set_cons_zero, List.set_cons_succ]
              refine wpAnyZ_take (i := 15) (oi := { dst := some 77, op := Op.load 22 (Operand.tmp 76), type := 22, pos := "ref.go:24", after := #[{ on := 14, ground := Ground.data }], guard := none }) (v := ?_) [17, 18, 19, 20, 21] rfl (by kernel_rfl) (by kernel_rfl) (by kernel_rfl) (by kernel_rfl) (fun _ _ _ h => h) (Or.inl ⟨by rfl, ?_⟩) (by assumption) ?_
              rotate_left
              · (intro w hSw; (try dsimp only at hSw); go_simp); (first | done | with_reducible rfl)
              try simp only [Act.put, List.setIfInBounds_toArray, List.set_cons_zero, List.set_cons_succ]
              refine wpAnyZ_takeY (i := 16) (oi := { dst := some 78, op := Op.move (Operand.tmp 5), type := 3, pos := "ref.go:24", after := #[], guard := none }) (v := ?_) rfl (by kernel_rfl) (by kernel_rfl) (by kernel_rfl) (by rfl) (fun _ _ _ h => h) (Or.inl ⟨by rfl, ?_⟩) (by assumption) ?_
              rotate_left
              · (intro w; go_simp); (first | done | with_reducible rfl)
              try simp only [Act.put, List.setIfInBounds_toArray, List.set_cons_zero, List.set_cons_succ]
              refine wpAnyZ_takeY (i := 17) (oi := { dst := some 79, op := Op.slice 22 (Operand.tmp 77) (some (Operand.tmp 78)) none none, type := 22, pos := "ref.go:24", after := #[{ on := 15, ground := Ground.data }, { on := 16, ground := Ground.data }], guard := none }) (v := ?_) rfl (by kernel_rfl) (by kernel_rfl) (by kernel_rfl) (by rfl) (fun _ _ _ h => h) (Or.inl ⟨by rfl, ?_⟩) (by assumption) ?_
              rotate_left
              · (intro w; go_simp); (first | done | with_reducible rfl)
              try simp only [Act.put, List.setIfInBounds_toArray, List.set_cons_zero, List.set_cons_succ]
              refine wpAnyZ_ready (rs := [1, 10]) (by kernel_rfl) (by simp) ?_
              refine AllReadyZ.cons (o := { dst := some 63, op := Op.buildSlice 22 0 #[], type := 22, pos := "ref.go:24", after := #[], guard := none }) rfl (by rfl) (fun K hK => ?_) (AllReadyZ.cons (o := { dst := some 72, op := Op.buildSlice 22 1 #[(0, Operand.tmp 71)], type := 22, pos := "ref.go:24", after := #[{ on := 9, ground := Ground.data }], guard := none }) rfl (by rfl) (fun K hK => ?_) (AllReadyZ.nil))
              · go_simp
                have HOo := Lib.hid (World.ownsRow_made (base := wX.heap.size) (e := 38) (size := 3) wr #[] 0 HB.out.size (Nat.zero_le _) rfl)
                replace HB := carryA (w := wr) (.cells #[] 38) HB
                generalize hq1 : wr.heap.size = q1 at *
                generalize hw1 : wr.alloc (.cells #[] 38) = w1 at *
                clear hq1 hw1
                refine hK.out _ _ ?_ (fun hHeld => ?_)
                · exact ⟨(HMX.out.below HB.out).row.cell 0, (HXX.out.below HB.out).cell 0, (HXX.out.below HB.out).cell 1, (HXX.out.below HB.out).cell 2⟩
                clear hK K
                try simp only [Act.put, List.setIfInBounds_toArray, List.set_cons_zero, List.set_cons_succ]
                refine wpAnyZ_ready (rs := [8, 10]) (by kernel_rfl) (by simp) ?_
                refine AllReadyZ.cons (o := { dst := some 70, op := Op.call { callee := Callee.builtin Builtin.append, args := #[Operand.tmp 63, Operand.tmp 69], argTypes := #[22, 22] }, type := 22, pos := "ref.go:24", after := #[{ on := 1, ground := Ground.data }, { on := 7, ground := Ground.data }], guard := none }) rfl (by rfl) (fun K hK => ?_) (AllReadyZ.cons (o := { dst := some 72, op := Op.buildSlice 22 1 #[(0, Operand.tmp 71)], type := 22, pos := "ref.go:24", after := #[{ on := 9, ground := Ground.data }], guard := none }) rfl (by rfl) (fun K hK => ?_) (AllReadyZ.nil))
                · refine step_append_cls15 (by rfl) _ _ 22 (by rfl) wX.heap.size i0 z0 Try.underlying22 hi0 hz0 hz1 hz2 hz3 (.slice (some ⟨q1, 0, none⟩) 0 0) 0 [] (by rfl) HOo.out (some ⟨g, off, none⟩) cap k (L.take k) (by rfl) HE0.out.symm (clsAt_take15 (HMX.out.below HB.out).cls k) (by rw [HE0.out]; omega) HB.out.size ?_
                  intro v8 w8 ho8 hg8 hat8
                  rw [Nat.zero_add, List.nil_append, HE0.out] at ho8
                  obtain ⟨a8, c8, rfl⟩ := ownP_shape ho8
                  have HO8 := Lib.hid ho8
                  replace HB := Lib.hid (HB.out.grown hg8 HB.out.size (fun k hk => (HOo.out.lt k hk).1))
                  clear ho8 hg8 hat8 HOo
                  refine hK.out _ _ ?_ (fun hHeld => ?_)
                  · exact ⟨(HMX.out.below HB.out).row.cell 0, (HXX.out.below HB.out).cell 0, (HXX.out.below HB.out).cell 1, (HXX.out.below HB.out).cell 2⟩
                  clear hK K
                  try simp only [Act.put, List.setIfInBounds_toArray, List.set_cons_zero, List.set_cons_succ]
                  refine wpAnyZ_ready (rs := [10]) (by kernel_rfl) (by simp) ?_
                  refine AllReadyZ.cons (o := { dst := some 72, op := Op.buildSlice 22 1 #[(0, Operand.tmp 71)], type := 22, pos := "ref.go:24", after := #[{ on := 9, ground := Ground.data }], guard := none }) rfl (by rfl) (fun K hK => ?_) (AllReadyZ.nil)
                  go_simp
                  have HNE := Lib.hid (show ∀ q, (Value.slice a8 k c8).ownBlock = some q → q ≠ w8.heap.size from fun q hq e => by have := (HO8.out.lt q hq).2; omega)
                  have HY := Lib.hid (show RowIn (clA c) 38 (w8.alloc (.cells #[.string (S c.key), .int .i64 c.seq, .string (S c.val)] 38)) w8.heap.size from rowIn_new (clA c) 38 w8)
                  replace HB := carryA (w := w8) (.cells #[.string (S c.key), .int .i64 c.seq, .string (S c.val)] 38) HB
                  replace HO8 := carryA (w := w8) (.cells #[.string (S c.key), .int .i64 c.seq, .string (S c.val)] 38) HO8
                  generalize hq10 : w8.heap.size = q10 at *
                  generalize hw10 : w8.alloc (.cells #[.string (S c.key), .int .i64 c.seq, .string (S c.val)] 38) = w10 at *
                  clear hq10 hw10
                  refine hK.out _ _ ?_ (fun hHeld => ?_)
                  · exact ⟨(HMX.out.below HB.out).row.cell 0, (HXX.out.below HB.out).cell 0, (HXX.out.below HB.out).cell 1, (HXX.out.below HB.out).cell 2⟩
                  clear hK K
                  try simp only [Act.put, List.setIfInBounds_toArray, List.set_cons_zero, List.set_cons_succ]
                  refine wpAnyZ_ready (rs := [11]) (by kernel_rfl) (by simp) ?_
                  refine AllReadyZ.cons (o := { dst := some 73, op := Op.call { callee := Callee.builtin Builtin.append, args := #[Operand.tmp 70, Operand.tmp 72], argTypes := #[22, 22] }, type := 22, pos := "ref.go:24", after := #[{ on := 8, ground := Ground.data }, { on := 10, ground := Ground.data }, { on := 8, ground := Ground.chain }], guard := none }) rfl (by rfl) (fun K hK => ?_) (AllReadyZ.nil)
                  refine step_append_cls15 (by rfl) _ _ 22 (by rfl) wX.heap.size i0 z0 Try.underlying22 hi0 hz0 hz1 hz2 hz3 (.slice a8 k c8) k (cls (L.take k)) (by rfl) HO8.out (some ⟨q10, 0, none⟩) 1 1 [c] (by rfl) rfl (clsAt_row HY.out rfl) (by show k + 1 ≤ 1000000; omega) HB.out.size ?_
                  intro v11 w11 ho11 hg11 hat11
                  replace ho11 : w11.ownsRow wX.heap.size 38 3 v11 (k + 1) (cls (L.take k ++ [c])) := by rw [cls_append]; exact ho11
                  obtain ⟨a11, c11, rfl⟩ := ownP_shape ho11
                  have HO11 := Lib.hid ho11
                  replace HB := Lib.hid (HB.out.grown hg11 HB.out.size (fun k hk => (HO8.out.lt k hk).1))
                  clear ho11 hg11 hat11 HO8 HY HNE
                  refine hK.out _ _ ?_ (fun hHeld => ?_)
                  · exact ⟨(HMX.out.below HB.out).row.cell 0, (HXX.out.below HB.out).cell 0, (HXX.out.below HB.out).cell 1, (HXX.out.below HB.out).cell 2⟩
                  clear hK K
                  try simp only [Act.put, List.setIfInBounds_toArray, List.set_cons_zero, List.set_cons_succ]
                  refine wpAnyZ_ready (rs := [18]) (by kernel_rfl) (by simp) ?_
                  refine AllReadyZ.cons (o := { dst := some 80, op := Op.call { callee := Callee.builtin Builtin.append, args := #[Operand.tmp 73, Operand.tmp 79], argTypes := #[22, 22] }, type := 22, pos := "ref.go:24", after := #[{ on := 11, ground := Ground.data }, { on := 17, ground := Ground.data }, { on := 11, ground := Ground.chain }], guard := none }) rfl (by rfl) (fun K hK => ?_) (AllReadyZ.nil)
                  refine step_append_cls15 (by rfl) _ _ 22 (by rfl) wX.heap.size i0 z0 Try.underlying22 hi0 hz0 hz1 hz2 hz3 (.slice a11 (k + 1) c11) (k + 1) (cls (L.take k ++ [c])) (by rfl) HO11.out (some ⟨g, off + k * 3, none⟩) (cap - k) (L.length - k) (L.drop k) (by rfl) HE1.out.symm (clsAt_drop15 (HMX.out.below HB.out).cls k) (by rw [HE1.out]; omega) HB.out.size ?_
                  intro v18 w18 ho18 hg18 hat18
                  replace ho18 : w18.ownsRow wX.heap.size 38 3 v18 (L.length + 1) (cls L') := by rw [HL1.out, cls_append]; have e := HE1.out; rw [e] at ho18; rw [show k + 1 + (L.length - k) = L.length + 1 from (by omega)] at ho18; exact ho18
                  obtain ⟨a18, c18, rfl⟩ := ownP_shape ho18
                  have HO18 := Lib.hid ho18
                  replace HB := Lib.hid (HB.out.grown hg18 HB.out.size (fun k hk => (HO11.out.lt k hk).1))
                  clear ho18 hg18 hat18 HO11
                  refine hK.out _ _ ?_ (fun hHeld => ?_)
                  · exact ⟨(HMX.out.below HB.out).row.cell 0, (HXX.out.below HB.out).cell 0, (HXX.out.below HB.out).cell 1, (HXX.out.below HB.out).cell 2⟩
                  clear hK K
                  try simp only [Act.put, List.setIfInBounds_toArray, List.set_cons_zero, List.set_cons_succ]
                  refine wpAnyZ_takeY (i := 19) (oi := { dst := some 81, op := Op.nilCheck (Operand.tmp 62), type := 0, pos := "ref.go:24", after := #[{ on := 0, ground := Ground.data }, { on := 0, ground := Ground.phase }, { on := 1, ground := Ground.phase }, { on := 2, ground := Ground.phase }, { on := 3, ground := Ground.phase }, { on := 4, ground := Ground.phase }, { on := 5, ground := Ground.phase }, { on := 6, ground := Ground.phase }, { on := 7, ground := Ground.phase }, { on := 8, ground := Ground.phase }, { on := 9, ground := Ground.phase }, { on := 10, ground := Ground.phase }, { on := 11, ground := Ground.phase }, { on := 12, ground := Ground.phase }, { on := 13, ground := Ground.phase }, { on := 14, ground := Ground.phase }, { on := 15, ground := Ground.phase }, { on := 16, ground := Ground.phase }, { on := 17, ground := Ground.phase }, { on := 18, ground := Ground.phase }], guard := none }) (v := ?_) rfl (by kernel_rfl) (by kernel_rfl) (by kernel_rfl) (by rfl) (fun _ _ _ h => h) (Or.inl ⟨by rfl, ?_⟩) (by assumption) ?_
                  rotate_left
                  · (intro w; go_simp); (first | done | with_reducible rfl)
                  try simp only [Act.put, List.setIfInBounds_toArray, List.set_cons_zero, List.set_cons_succ]
                  refine wpAnyZ_takeY (i := 20) (oi := { dst := some 82, op := Op.fieldAddr 78 (Operand.tmp 81) 0, type := 0, pos := "ref.go:24", after := #[{ on := 19, ground := Ground.data }, { on := 0, ground := Ground.phase }, { on := 1, ground := Ground.phase }, { on := 2, ground := Ground.phase }, { on := 3, ground := Ground.phase }, { on := 4, ground := Ground.phase }, { on := 5, ground := Ground.phase }, { on := 6, ground := Ground.phase }, { on := 7, ground := Ground.phase }, { on := 8, ground := Ground.phase }, { on := 9, ground := Ground.phase }, { on := 10, ground := Ground.phase }, { on := 11, ground := Ground.phase }, { on := 12, ground := Ground.phase }, { on := 13, ground := Ground.phase }, { on := 14, ground := Ground.phase }, { on := 15, ground := Ground.phase }, { on := 16, ground := Ground.phase }, { on := 17, ground := Ground.phase }, { on := 18, ground := Ground.phase }], guard := none }) (v := ?_) rfl (by kernel_rfl) (by kernel_rfl) (by kernel_rfl) (by rfl) (fun _ _ _ h => h) (Or.inl ⟨by rfl, ?_⟩) (by assumption) ?_
                  rotate_left
                  · (intro w; go_simp); (first | done | with_reducible rfl)
                  try simp only [Act.put, List.setIfInBounds_toArray, List.set_cons_zero, List.set_cons_succ]
                  refine wpAnyZ_ready (rs := [21]) (by kernel_rfl) (by simp) ?_
                  refine AllReadyZ.last (o := { dst := none, op := Op.store 22 (Operand.tmp 82) (Operand.tmp 80), type := 0, pos := "ref.go:24", after := #[{ on := 20, ground := Ground.data }, { on := 18, ground := Ground.data }, { on := 18, ground := Ground.chain }, { on := 0, ground := Ground.phase }, { on := 1, ground := Ground.phase }, { on := 2, ground := Ground.phase }, { on := 3, ground := Ground.phase }, { on := 4, ground := Ground.phase }, { on := 5, ground := Ground.phase }, { on := 6, ground := Ground.phase }, { on := 7, ground := Ground.phase }, { on := 8, ground := Ground.phase }, { on := 9, ground := Ground.phase }, { on := 10, ground := Ground.phase }, { on := 11, ground := Ground.phase }, { on := 12, ground := Ground.phase }, { on := 13, ground := Ground.phase }, { on := 14, ground := Ground.phase }, { on := 15, ground := Ground.phase }, { on := 16, ground := Ground.phase }, { on := 17, ground := Ground.phase }, { on := 18, ground := Ground.phase }], guard := none }) rfl (fun K hK => ?_) AllReadyZ.nil
                  have f0 := (HMX.out.below HB.out).row.free 0
                  have m0 := (HMX.out.below HB.out).row.cell 0
                  go_simp
                  refine hK.out _ _ ?_
                  clear hK K
                  refine wpAny_done (by kernel_rfl) ?_ _
                  have HF := Lib.hid (refFin15 HMX.out HB0.out HB.out HO18.out HLL.out)
                  clear HO18
                  go_wp2_with fail
                  go_ret
                  exact ⟨rfl, a18, c18, HF.out.1, HF.out.2.1, HF.out.2.2⟩
                · go_simp
                  have HNE := Lib.hid (show q1 ≠ w1.heap.size from fun e => by have := (HOo.out.lt q1 rfl).2; omega)
                  have HY := Lib.hid (show RowIn (clA c) 38 (w1.alloc (.cells #[.string (S c.key), .int .i64 c.seq, .string (S c.val)] 38)) w1.heap.size from rowIn_new (clA c) 38 w1)
                  replace HB := carryA (w := w1) (.cells #[.string (S c.key), .int .i64 c.seq, .string (S c.val)] 38) HB
                  replace HOo := carryA (w := w1) (.cells #[.string (S c.key), .int .i64 c.seq, .string (S c.val)] 38) HOo
                  generalize hq10 : w1.heap.size = q10 at *
                  generalize hw10 : w1.alloc (.cells #[.string (S c.key), .int .i64 c.seq, .string (S c.val)] 38) = w10 at *
                  clear hq10 hw10
                  refine hK.out _ _ ?_ (fun hHeld => ?_)
                  · exact ⟨(HMX.out.below HB.out).row.cell 0, (HXX.out.below HB.out).cell 0, (HXX.out.below HB.out).cell 1, (HXX.out.below HB.out).cell 2⟩
                  clear hK K
                  try simp only [Act.put, List.setIfInBounds_toArray, List.set_cons_zero, List.set_cons_succ]
                  refine wpAnyZ_ready (rs := [8]) (by kernel_rfl) (by simp) ?_
                  refine AllReadyZ.cons (o := { dst := some 70, op := Op.call { callee := Callee.builtin Builtin.append, args := #[Operand.tmp 63, Operand.tmp 69], argTypes := #[22, 22] }, type := 22, pos := "ref.go:24", after := #[{ on := 1, ground := Ground.data }, { on := 7, ground := Ground.data }], guard := none }) rfl (by rfl) (fun K hK => ?_) (AllReadyZ.nil)
                  refine step_append_cls15 (by rfl) _ _ 22 (by rfl) wX.heap.size i0 z0 Try.underlying22 hi0 hz0 hz1 hz2 hz3 (.slice (some ⟨q1, 0, none⟩) 0 0) 0 [] (by rfl) HOo.out (some ⟨g, off, none⟩) cap k (L.take k) (by rfl) HE0.out.symm (clsAt_take15 (HMX.out.below HB.out).cls k) (by rw [HE0.out]; omega) HB.out.size ?_
                  intro v8 w8 ho8 hg8 hat8
                  rw [Nat.zero_add, List.nil_append, HE0.out] at ho8
                  obtain ⟨a8, c8, rfl⟩ := ownP_shape ho8
                  have HO8 := Lib.hid ho8
                  replace HB := Lib.hid (HB.out.grown hg8 HB.out.size (fun k hk => (HOo.out.lt k hk).1))
                  have HYL := Lib.hid (show q10 < w10.heap.size from HY.out.lt)
                  replace HY := Lib.hid (row_kept10 HY.out hg8 (fun e => HNE.out (by cases e; rfl)))
                  replace HNE := Lib.hid (show ∀ q, (Value.slice a8 k c8).ownBlock = some q → q ≠ q10 from fun q hq e => by rcases hat8 with h | h; exact HNE.out (by rw [hq] at h; cases h; exact e); rw [hq] at h; cases h; have := HYL.out; omega)
                  clear HYL
                  clear ho8 hg8 hat8 HOo
                  refine hK.out _ _ ?_ (fun hHeld => ?_)
                  · exact ⟨(HMX.out.below HB.out).row.cell 0, (HXX.out.below HB.out).cell 0, (HXX.out.below HB.out).cell 1, (HXX.out.below HB.out).cell 2⟩
                  clear hK K
                  try simp only [Act.put, List.setIfInBounds_toArray, List.set_cons_zero, List.set_cons_succ]
                  refine wpAnyZ_ready (rs := [11]) (by kernel_rfl) (by simp) ?_
                  refine AllReadyZ.cons (o := { dst := some 73, op := Op.call { callee := Callee.builtin Builtin.append, args := #[Operand.tmp 70, Operand.tmp 72], argTypes := #[22, 22] }, type := 22, pos := "ref.go:24", after := #[{ on := 8, ground := Ground.data }, { on := 10, ground := Ground.data }, { on := 8, ground := Ground.chain }], guard := none }) rfl (by rfl) (fun K hK => ?_) (AllReadyZ.nil)
                  refine step_append_cls15 (by rfl) _ _ 22 (by rfl) wX.heap.size i0 z0 Try.underlying22 hi0 hz0 hz1 hz2 hz3 (.slice a8 k c8) k (cls (L.take k)) (by rfl) HO8.out (some ⟨q10, 0, none⟩) 1 1 [c] (by rfl) rfl (clsAt_row HY.out rfl) (by show k + 1 ≤ 1000000; omega) HB.out.size ?_
                  intro v11 w11 ho11 hg11 hat11
                  replace ho11 : w11.ownsRow wX.heap.size 38 3 v11 (k + 1) (cls (L.take k ++ [c])) := by rw [cls_append]; exact ho11
                  obtain ⟨a11, c11, rfl⟩ := ownP_shape ho11
                  have HO11 := Lib.hid ho11
                  replace HB := Lib.hid (HB.out.grown hg11 HB.out.size (fun k hk => (HO8.out.lt k hk).1))
                  clear ho11 hg11 hat11 HO8 HY HNE
                  refine hK.out _ _ ?_ (fun hHeld => ?_)
                  · exact ⟨(HMX.out.below HB.out).row.cell 0, (HXX.out.below HB.out).cell 0, (HXX.out.below HB.out).cell 1, (HXX.out.below HB.out).cell 2⟩
                  clear hK K
                  try simp only [Act.put, List.setIfInBounds_toArray, List.set_cons_zero, List.set_cons_succ]
                  refine wpAnyZ_ready (rs := [18]) (by kernel_rfl) (by simp) ?_
                  refine AllReadyZ.cons (o := { dst := some 80, op := Op.call { callee := Callee.builtin Builtin.append, args := #[Operand.tmp 73, Operand.tmp 79], argTypes := #[22, 22] }, type := 22, pos := "ref.go:24", after := #[{ on := 11, ground := Ground.data }, { on := 17, ground := Ground.data }, { on := 11, ground := Ground.chain }], guard := none }) rfl (by rfl) (fun K hK => ?_) (AllReadyZ.nil)
                  refine step_append_cls15 (by rfl) _ _ 22 (by rfl) wX.heap.size i0 z0 Try.underlying22 hi0 hz0 hz1 hz2 hz3 (.slice a11 (k + 1) c11) (k + 1) (cls (L.take k ++ [c])) (by rfl) HO11.out (some ⟨g, off + k * 3, none⟩) (cap - k) (L.length - k) (L.drop k) (by rfl) HE1.out.symm (clsAt_drop15 (HMX.out.below HB.out).cls k) (by rw [HE1.out]; omega) HB.out.size ?_
                  intro v18 w18 ho18 hg18 hat18
                  replace ho18 : w18.ownsRow wX.heap.size 38 3 v18 (L.length + 1) (cls L') := by rw [HL1.out, cls_append]; have e := HE1.out; rw [e] at ho18; rw [show k + 1 + (L.length - k) = L.length + 1 from (by omega)] at ho18; exact ho18
                  obtain ⟨a18, c18, rfl⟩ := ownP_shape ho18
                  have HO18 := Lib.hid ho18
                  replace HB := Lib.hid (HB.out.grown hg18 HB.out.size (fun k hk => (HO11.out.lt k hk).1))
                  clear ho18 hg18 hat18 HO11
                  refine hK.out _ _ ?_ (fun hHeld => ?_)
                  · exact ⟨(HMX.out.below HB.out).row.cell 0, (HXX.out.below HB.out).cell 0, (HXX.out.below HB.out).cell 1, (HXX.out.below HB.out).cell 2⟩
                  clear hK K
                  try simp only [Act.put, List.setIfInBounds_toArray, List.set_cons_zero, List.set_cons_succ]
                  refine wpAnyZ_takeY (i := 19) (oi := { dst := some 81, op := Op.nilCheck (Operand.tmp 62), type := 0, pos := "ref.go:24", after := #[{ on := 0, ground := Ground.data }, { on := 0, ground := Ground.phase }, { on := 1, ground := Ground.phase }, { on := 2, ground := Ground.phase }, { on := 3, ground := Ground.phase }, { on := 4, ground := Ground.phase }, { on := 5, ground := Ground.phase }, { on := 6, ground := Ground.phase }, { on := 7, ground := Ground.phase }, { on := 8, ground := Ground.phase }, { on := 9, ground := Ground.phase }, { on := 10, ground := Ground.phase }, { on := 11, ground := Ground.phase }, { on := 12, ground := Ground.phase }, { on := 13, ground := Ground.phase }, { on := 14, ground := Ground.phase }, { on := 15, ground := Ground.phase }, { on := 16, ground := Ground.phase }, { on := 17, ground := Ground.phase }, { on := 18, ground := Ground.phase }], guard := none }) (v := ?_) rfl (by kernel_rfl) (by kernel_rfl) (by kernel_rfl) (by rfl) (fun _ _ _ h => h) (Or.inl ⟨by rfl, ?_⟩) (by assumption) ?_
                  rotate_left
                  · (intro w; go_simp); (first | done | with_reducible rfl)
                  try simp only [Act.put, List.setIfInBounds_toArray, List.set_cons_zero, List.set_cons_succ]
                  refine wpAnyZ_takeY (i := 20) (oi := { dst := some 82, op := Op.fieldAddr 78 (Operand.tmp 81) 0, type := 0, pos := "ref.go:24", after := #[{ on := 19, ground := Ground.data }, { on := 0, ground := Ground.phase }, { on := 1, ground := Ground.phase }, { on := 2, ground := Ground.phase }, { on := 3, ground := Ground.phase }, { on := 4, ground := Ground.phase }, { on := 5, ground := Ground.phase }, { on := 6, ground := Ground.phase }, { on := 7, ground := Ground.phase }, { on := 8, ground := Ground.phase }, { on := 9, ground := Ground.phase }, { on := 10, ground := Ground.phase }, { on := 11, ground := Ground.phase }, { on := 12, ground := Ground.phase }, { on := 13, ground := Ground.phase }, { on := 14, ground := Ground.phase }, { on := 15, ground := Ground.phase }, { on := 16, ground := Ground.phase }, { on := 17, ground := Ground.phase }, { on := 18, ground := Ground.phase }], guard := none }) (v := ?_) rfl (by kernel_rfl) (by kernel_rfl) (by kernel_rfl) (by rfl) (fun _ _ _ h => h) (Or.inl ⟨by rfl, ?_⟩) (by assumption) ?_
                  rotate_left
                  · (intro w; go_simp); (first | done | with_reducible rfl)
                  try simp only [Act.put, List.setIfInBounds_toArray, List.set_cons_zero, List.set_cons_succ]
                  refine wpAnyZ_ready (rs := [21]) (by kernel_rfl) (by simp) ?_
                  refine AllReadyZ.last (o := { dst := none, op := Op.store 22 (Operand.tmp 82) (Operand.tmp 80), type := 0, pos := "ref.go:24", after := #[{ on := 20, ground := Ground.data }, { on := 18, ground := Ground.data }, { on := 18, ground := Ground.chain }, { on := 0, ground := Ground.phase }, { on := 1, ground := Ground.phase }, { on := 2, ground := Ground.phase }, { on := 3, ground := Ground.phase }, { on := 4, ground := Ground.phase }, { on := 5, ground := Ground.phase }, { on := 6, ground := Ground.phase }, { on := 7, ground := Ground.phase }, { on := 8, ground := Ground.phase }, { on := 9, ground := Ground.phase }, { on := 10, ground := Ground.phase }, { on := 11, ground := Ground.phase }, { on := 12, ground := Ground.phase }, { on := 13, ground := Ground.phase }, { on := 14, ground := Ground.phase }, { on := 15, ground := Ground.phase }, { on := 16, ground := Ground.phase }, { on := 17, ground := Ground.phase }, { on := 18, ground := Ground.phase }], guard := none }) rfl (fun K hK => ?_) AllReadyZ.nil
                  have f0 := (HMX.out.below HB.out).row.free 0
                  have m0 := (HMX.out.below HB.out).row.cell 0
                  go_simp
                  refine hK.out _ _ ?_
                  clear hK K
                  refine wpAny_done (by kernel_rfl) ?_ _
                  have HF := Lib.hid (refFin15 HMX.out HB0.out HB.out HO18.out HLL.out)
                  clear HO18
                  go_wp2_with fail
                  go_ret
                  exact ⟨rfl, a18, c18, HF.out.1, HF.out.2.1, HF.out.2.2⟩
              · go_simp
                have HY := Lib.hid (show RowIn (clA c) 38 (wr.alloc (.cells #[.string (S c.key), .int .i64 c.seq, .string (S c.val)] 38)) wr.heap.size from rowIn_new (clA c) 38 wr)
                replace HB := carryA (w := wr) (.cells #[.string (S c.key), .int .i64 c.seq, .string (S c.val)] 38) HB
                generalize hq10 : wr.heap.size = q10 at *
                generalize hw10 : wr.alloc (.cells #[.string (S c.key), .int .i64 c.seq, .string (S c.val)] 38) = w10 at *
                clear hq10 hw10
                have HYL := Lib.hid HY.out.lt
                refine hK.out _ _ ?_ (fun hHeld => ?_)
                · exact ⟨(HMX.out.below HB.out).row.cell 0, (HXX.out.below HB.out).cell 0, (HXX.out.below HB.out).cell 1, (HXX.out.below HB.out).cell 2⟩
                clear hK K
                try simp only [Act.put, List.setIfInBounds_toArray, List.set_cons_zero, List.set_cons_succ]
                refine wpAnyZ_ready (rs := [1]) (by kernel_rfl) (by simp) ?_
                refine AllReadyZ.cons (o := { dst := some 63, op := Op.buildSlice 22 0 #[], type := 22, pos := "ref.go:24", after := #[], guard := none }) rfl (by rfl) (fun K hK => ?_) (AllReadyZ.nil)
                go_simp
                have HOo := Lib.hid (World.ownsRow_made (base := wX.heap.size) (e := 38) (size := 3) w10 #[] 0 HB.out.size (Nat.zero_le _) rfl)
                replace HB := carryA (w := w10) (.cells #[] 38) HB
                replace HY := carryA (w := w10) (.cells #[] 38) HY
                have HNE := Lib.hid (show w10.heap.size ≠ q10 from fun e => by have := HYL.out; omega)
                generalize hq1 : w10.heap.size = q1 at *
                generalize hw1 : w10.alloc (.cells #[] 38) = w1 at *
                clear hq1 hw1
                refine hK.out _ _ ?_ (fun hHeld => ?_)
                · exact ⟨(HMX.out.below HB.out).row.cell 0, (HXX.out.below HB.out).cell 0, (HXX.out.below HB.out).cell 1, (HXX.out.below HB.out).cell 2⟩
                clear hK K
                try simp only [Act.put, List.setIfInBounds_toArray, List.set_cons_zero, List.set_cons_succ]
                refine wpAnyZ_ready (rs := [8]) (by kernel_rfl) (by simp) ?_
                refine AllReadyZ.cons (o := { dst := some 70, op := Op.call { callee := Callee.builtin Builtin.append, args := #[Operand.tmp 63, Operand.tmp 69], argTypes := #[22, 22] }, type := 22, pos := "ref.go:24", after := #[{ on := 1, ground := Ground.data }, { on := 7, ground := Ground.data }], guard := none }) rfl (by rfl) (fun K hK => ?_) (AllReadyZ.nil)
                refine step_append_cls15 (by rfl) _ _ 22 (by rfl) wX.heap.size i0 z0 Try.underlying22 hi0 hz0 hz1 hz2 hz3 (.slice (some ⟨q1, 0, none⟩) 0 0) 0 [] (by rfl) HOo.out (some ⟨g, off, none⟩) cap k (L.take k) (by rfl) HE0.out.symm (clsAt_take15 (HMX.out.below HB.out).cls k) (by rw [HE0.out]; omega) HB.out.size ?_
                intro v8 w8 ho8 hg8 hat8
                rw [Nat.zero_add, List.nil_append, HE0.out] at ho8
                obtain ⟨a8, c8, rfl⟩ := ownP_shape ho8
                have HO8 := Lib.hid ho8
                replace HB := Lib.hid (HB.out.grown hg8 HB.out.size (fun k hk => (HOo.out.lt k hk).1))
                have HYL := Lib.hid (show q10 < w1.heap.size from HY.out.lt)
                replace HY := Lib.hid (row_kept10 HY.out hg8 (fun e => HNE.out (by cases e; rfl)))
                replace HNE := Lib.hid (show ∀ q, (Value.slice a8 k c8).ownBlock = some q → q ≠ q10 from fun q hq e => by rcases hat8 with h | h; exact HNE.out (by rw [hq] at h; cases h; exact e); rw [hq] at h; cases h; have := HYL.out; omega)
                clear HYL
                clear ho8 hg8 hat8 HOo
                refine hK.out _ _ ?_ (fun hHeld => ?_)
                · exact ⟨(HMX.out.below HB.out).row.cell 0, (HXX.out.below HB.out).cell 0, (HXX.out.below HB.out).cell 1, (HXX.out.below HB.out).cell 2⟩
                clear hK K
                try simp only [Act.put, List.setIfInBounds_toArray, List.set_cons_zero, List.set_cons_succ]
                refine wpAnyZ_ready (rs := [11]) (by kernel_rfl) (by simp) ?_
                refine AllReadyZ.cons (o := { dst := some 73, op := Op.call { callee := Callee.builtin Builtin.append, args := #[Operand.tmp 70, Operand.tmp 72], argTypes := #[22, 22] }, type := 22, pos := "ref.go:24", after := #[{ on := 8, ground := Ground.data }, { on := 10, ground := Ground.data }, { on := 8, ground := Ground.chain }], guard := none }) rfl (by rfl) (fun K hK => ?_) (AllReadyZ.nil)
                refine step_append_cls15 (by rfl) _ _ 22 (by rfl) wX.heap.size i0 z0 Try.underlying22 hi0 hz0 hz1 hz2 hz3 (.slice a8 k c8) k (cls (L.take k)) (by rfl) HO8.out (some ⟨q10, 0, none⟩) 1 1 [c] (by rfl) rfl (clsAt_row HY.out rfl) (by show k + 1 ≤ 1000000; omega) HB.out.size ?_
                intro v11 w11 ho11 hg11 hat11
                replace ho11 : w11.ownsRow wX.heap.size 38 3 v11 (k + 1) (cls (L.take k ++ [c])) := by rw [cls_append]; exact ho11
                obtain ⟨a11, c11, rfl⟩ := ownP_shape ho11
                have HO11 := Lib.hid ho11
                replace HB := Lib.hid (HB.out.grown hg11 HB.out.size (fun k hk => (HO8.out.lt k hk).1))
                clear ho11 hg11 hat11 HO8 HY HNE
                refine hK.out _ _ ?_ (fun hHeld => ?_)
                · exact ⟨(HMX.out.below HB.out).row.cell 0, (HXX.out.below HB.out).cell 0, (HXX.out.below HB.out).cell 1, (HXX.out.below HB.out).cell 2⟩
                clear hK K
                try simp only [Act.put, List.setIfInBounds_toArray, List.set_cons_zero, List.set_cons_succ]
                refine wpAnyZ_ready (rs := [18]) (by kernel_rfl) (by simp) ?_
                refine AllReadyZ.cons (o := { dst := some 80, op := Op.call { callee := Callee.builtin Builtin.append, args := #[Operand.tmp 73, Operand.tmp 79], argTypes := #[22, 22] }, type := 22, pos := "ref.go:24", after := #[{ on := 11, ground := Ground.data }, { on := 17, ground := Ground.data }, { on := 11, ground := Ground.chain }], guard := none }) rfl (by rfl) (fun K hK => ?_) (AllReadyZ.nil)
                refine step_append_cls15 (by rfl) _ _ 22 (by rfl) wX.heap.size i0 z0 Try.underlying22 hi0 hz0 hz1 hz2 hz3 (.slice a11 (k + 1) c11) (k + 1) (cls (L.take k ++ [c])) (by rfl) HO11.out (some ⟨g, off + k * 3, none⟩) (cap - k) (L.length - k) (L.drop k) (by rfl) HE1.out.symm (clsAt_drop15 (HMX.out.below HB.out).cls k) (by rw [HE1.out]; omega) HB.out.size ?_
                intro v18 w18 ho18 hg18 hat18
                replace ho18 : w18.ownsRow wX.heap.size 38 3 v18 (L.length + 1) (cls L') := by rw [HL1.out, cls_append]; have e := HE1.out; rw [e] at ho18; rw [show k + 1 + (L.length - k) = L.length + 1 from (by omega)] at ho18; exact ho18
                obtain ⟨a18, c18, rfl⟩ := ownP_shape ho18
                have HO18 := Lib.hid ho18
                replace HB := Lib.hid (HB.out.grown hg18 HB.out.size (fun k hk => (HO11.out.lt k hk).1))
                clear ho18 hg18 hat18 HO11
                refine hK.out _ _ ?_ (fun hHeld => ?_)
                · exact ⟨(HMX.out.below HB.out).row.cell 0, (HXX.out.below HB.out).cell 0, (HXX.out.below HB.out).cell 1, (HXX.out.below HB.out).cell 2⟩
                clear hK K
                try simp only [Act.put, List.setIfInBounds_toArray, List.set_cons_zero, List.set_cons_succ]
                refine wpAnyZ_takeY (i := 19) (oi := { dst := some 81, op := Op.nilCheck (Operand.tmp 62), type := 0, pos := "ref.go:24", after := #[{ on := 0, ground := Ground.data }, { on := 0, ground := Ground.phase }, { on := 1, ground := Ground.phase }, { on := 2, ground := Ground.phase }, { on := 3, ground := Ground.phase }, { on := 4, ground := Ground.phase }, { on := 5, ground := Ground.phase }, { on := 6, ground := Ground.phase }, { on := 7, ground := Ground.phase }, { on := 8, ground := Ground.phase }, { on := 9, ground := Ground.phase }, { on := 10, ground := Ground.phase }, { on := 11, ground := Ground.phase }, { on := 12, ground := Ground.phase }, { on := 13, ground := Ground.phase }, { on := 14, ground := Ground.phase }, { on := 15, ground := Ground.phase }, { on := 16, ground := Ground.phase }, { on := 17, ground := Ground.phase }, { on := 18, ground := Ground.phase }], guard := none }) (v := ?_) rfl (by kernel_rfl) (by kernel_rfl) (by kernel_rfl) (by rfl) (fun _ _ _ h => h) (Or.inl ⟨by rfl, ?_⟩) (by assumption) ?_
                rotate_left
                · (intro w; go_simp); (first | done | with_reducible rfl)
                try simp only [Act.put, List.setIfInBounds_toArray, List.set_cons_zero, List.set_cons_succ]
                refine wpAnyZ_takeY (i := 20) (oi := { dst := some 82, op := Op.fieldAddr 78 (Operand.tmp 81) 0, type := 0, pos := "ref.go:24", after := #[{ on := 19, ground := Ground.data }, { on := 0, ground := Ground.phase }, { on := 1, ground := Ground.phase }, { on := 2, ground := Ground.phase }, { on := 3, ground := Ground.phase }, { on := 4, ground := Ground.phase }, { on := 5, ground := Ground.phase }, { on := 6, ground := Ground.phase }, { on := 7, ground := Ground.phase }, { on := 8, ground := Ground.phase }, { on := 9, ground := Ground.phase }, { on := 10, ground := Ground.phase }, { on := 11, ground := Ground.phase }, { on := 12, ground := Ground.phase }, { on := 13, ground := Ground.phase }, { on := 14, ground := Ground.phase }, { on := 15, ground := Ground.phase }, { on := 16, ground := Ground.phase }, { on := 17, ground := Ground.phase }, { on := 18, ground := Ground.phase }], guard := none }) (v := ?_) rfl (by kernel_rfl) (by kernel_rfl) (by kernel_rfl) (by rfl) (fun _ _ _ h => h) (Or.inl ⟨by rfl, ?_⟩) (by assumption) ?_
                rotate_left
                · (intro w; go_simp); (first | done | with_reducible rfl)
                try simp only [Act.put, List.setIfInBounds_toArray, List.set_cons_zero, List.set_cons_succ]
                refine wpAnyZ_ready (rs := [21]) (by kernel_rfl) (by simp) ?_
                refine AllReadyZ.last (o := { dst := none, op := Op.store 22 (Operand.tmp 82) (Operand.tmp 80), type := 0, pos := "ref.go:24", after := #[{ on := 20, ground := Ground.data }, { on := 18, ground := Ground.data }, { on := 18, ground := Ground.chain }, { on := 0, ground := Ground.phase }, { on := 1, ground := Ground.phase }, { on := 2, ground := Ground.phase }, { on := 3, ground := Ground.phase }, { on := 4, ground := Ground.phase }, { on := 5, ground := Ground.phase }, { on := 6, ground := Ground.phase }, { on := 7, ground := Ground.phase }, { on := 8, ground := Ground.phase }, { on := 9, ground := Ground.phase }, { on := 10, ground := Ground.phase }, { on := 11, ground := Ground.phase }, { on := 12, ground := Ground.phase }, { on := 13, ground := Ground.phase }, { on := 14, ground := Ground.phase }, { on := 15, ground := Ground.phase }, { on := 16, ground := Ground.phase }, { on := 17, ground := Ground.phase }, { on := 18, ground := Ground.phase }], guard := none }) rfl (fun K hK => ?_) AllReadyZ.nil
                have f0 := (HMX.out.below HB.out).row.free 0
                have m0 := (HMX.out.below HB.out).row.cell 0
                go_simp
                refine hK.out _ _ ?_
                clear hK K
                refine wpAny_done (by kernel_rfl) ?_ _
                have HF := Lib.hid (refFin15 HMX.out HB0.out HB.out HO18.out HLL.out)
                clear HO18
                go_wp2_with fail
                go_ret
                exact ⟨rfl, a18, c18, HF.out.1, HF.out.2.1, HF.out.2.2⟩
          · have b1 : (d.key == c.key) = false := by rw [beq_eq_false_iff_ne]; exact hkey
            replace HPL := Lib.hid (HPL.out.trans (if_neg (fun h => hkey (M.sameC_iff.1 h.2).1)))
            clear hkey
            go_wp2_with fail
            go_quiet (fail)
            have hbq : Below wc.heap.size wc (wc.drewN nq) := below_drewN (Below.refl _ _) nq
            obtain ⟨wq, hwq⟩ : ∃ x, x = wc.drewN nq := ⟨_, rfl⟩
            rw [← hwq] at hbq ⊢
            replace HB := carry hbq HB
            clear hwq hbq m0 y0 y1 x0 x1 x2
            have e0 : (L.take k).length = k := by rw [List.length_take]; omega
            have e1 : (L.drop k).length = L.length - k := List.length_drop ..
            have HE0 := Lib.hid e0
            have HE1 := Lib.hid e1
            have HL1 := Lib.hid (show L' = (L.take k ++ [c]) ++ L.drop k from by rw [HPL.out]; simp)
            have HLL := Lib.hid (show L'.length = L.length + 1 from by rw [HL1.out, List.length_append, List.length_append, e0, e1]; show k + 1 + (L.length - k) = _; omega)
            have hcq : ¬ cap = k := by omega
            have bq0 : (0 : Int) ≤ (k : Int) := by omega
            have bq1 : (k : Int) ≤ (L.length : Int) := by omega
            have bq2 : (L.length : Int) ≤ (cap : Int) := by omega
            have bq3 : (k : Int) ≤ (cap : Int) := by omega
            clear HPL e0 e1
            go_wp2_with fail
            refine wp_region_Z (S := fun V => V.cell? ⟨b, 0, none⟩ = some (.slice (some ⟨g, off, none⟩) L.length cap) ∧ V.cell? ⟨X, 0, none⟩ = some (.string (S c.key)) ∧ V.cell? ⟨X, 1, none⟩ = some (.int .i64 c.seq) ∧ V.cell? ⟨X, 2, none⟩ = some (.string (S c.val))) 21 (by kernel_rfl) ?_ (fun hHeld => ?_)
            · exact ⟨(HMX.out.below HB.out.drew).row.cell 0, (HXX.out.below HB.out.drew).cell 0, (HXX.out.below HB.out.drew).cell 1, (HXX.out.below HB.out.drew).cell 2⟩
            replace HB := Lib.hid HB.out.drew
            obtain ⟨wr, hwr⟩ : ∃ x, x = World.drew wq := ⟨_, rfl⟩
            rw [← hwr] at HB hHeld ⊢
            clear hwr
            refine wpAnyZ_takeY (i := 0) (oi := { dst := some 62, op := Op.move (Operand.tmp 0), type := 76, pos := "ref.go:24", after := #[], guard := none }) (v := ?_) rfl (by kernel_rfl) (by kernel_rfl) (by kernel_rfl) (by rfl) (fun _ _ _ h => h) (Or.inl ⟨by rfl, ?_⟩) (by assumption) ?_
            rotate_left
            · (intro w; go_simp); (first | done | with_reducible rfl)
            try simp only [Act.put, List.setIfInBounds_toArray, List.set_cons_zero, List.set_cons_succ]
            refine wpAnyZ_takeY (i := 2) (oi := { dst := some 64, op := Op.move (Operand.tmp 0), type := 76, pos := "ref.go:24", after := #[], guard := none }) (v := ?_) rfl (by kernel_rfl) (by kernel_rfl) (by kernel_rfl) (by rfl) (fun _ _ _ h => h) (Or.inl ⟨by rfl, ?_⟩) (by assumption) ?_
            rotate_left
            · (intro w; go_simp); (first | done | with_reducible rfl)
            try simp only [Act.put, List.setIfInBounds_toArray, List.set_cons_zero, List.set_cons_succ]
            refine wpAnyZ_takeY (i := 3) (oi := { dst := some 65, op := Op.nilCheck (Operand.tmp 64), type := 0, pos := "ref.go:24", after := #[{ on := 2, ground := Ground.data }], guard := none }) (v := ?_) rfl (by kernel_rfl) (by kernel_rfl) (by kernel_rfl) (by rfl) (fun _ _ _ h => h) (Or.inl ⟨by rfl, ?_⟩) (by assumption) ?_
            rotate_left
            · (intro w; go_simp); (first | done | with_reducible rfl)
            try simp only [Act.put, List.setIfInBounds_toArray, List.set_cons_zero, List.set_cons_succ]
            refine wpAnyZ_takeY (i := 4) (oi := { dst := some 66, op := Op.fieldAddr 78 (Operand.tmp 65) 0, type := 0, pos := "ref.go:24", after := #[{ on := 3, ground := Ground.data }], guard := none }) (v := ?_) rfl (by kernel_rfl) (by kernel_rfl) (by kernel_rfl) (by rfl) (fun _ _ _ h => h) (Or.inl ⟨by rfl, ?_⟩) (by assumption) ?_
            rotate_left
            · (intro w; go_simp); (first | done | with_reducible rfl)
            try simp only [Act.put, List.setIfInBounds_toArray, List.set_cons_zero, List.set_cons_succ]
            refine wpAnyZ_take (i := 5) (oi := { dst := some 67, op := Op.load 22 (Operand.tmp 66), type := 22, pos := "ref.go:24", after := #[{ on := 4, ground := Ground.data }], guard := none }) (v := ?_) [7, 8, 11, 18, 19, 20, 21] rfl (by kernel_rfl) (by kernel_rfl) (by kernel_rfl) (by kernel_rfl) (fun _ _ _ h => h) (Or.inl ⟨by rfl, ?_⟩) (by assumption) ?_
            rotate_left
            · (intro w hSw; (try dsimp only at hSw); go_simp); (first | done | with_reducible rfl)
            try simp only [Act.put, List.setIfInBounds_toArray, List.set_cons_zero, List.set_cons_succ]
            refine wpAnyZ_takeY (i := 6) (oi := { dst := some 68, op := Op.move (Operand.tmp 5), type := 3, pos := "ref.go:24", after := #[], guard := none }) (v := ?_) rfl (by kernel_rfl) (by kernel_rfl) (by kernel_rfl) (by rfl) (fun _ _ _ h => h) (Or.inl ⟨by rfl, ?_⟩) (by assumption) ?_
            rotate_left
            · (intro w; go_simp); (first | done | with_reducible rfl)
            try simp only [Act.put, List.setIfInBounds_toArray, List.set_cons_zero, List.set_cons_succ]
            refine wpAnyZ_takeY (i := 7) (oi := { dst := some 69, op := Op.slice 22 (Operand.tmp 67) none (some (Operand.tmp 68)) none, type := 22, pos := "ref.go:24", after := #[{ on := 5, ground := Ground.data }, { on := 6, ground := Ground.data }], guard := none }) (v := ?_) rfl (by kernel_rfl) (by kernel_rfl) (by kernel_rfl) (by rfl) (fun _ _ _ h => h) (Or.inl ⟨by rfl, ?_⟩) (by assumption) ?_
            rotate_left
            · (intro w; go_simp); (first | done | with_reducible rfl)
            try simp only [Act.put, List.setIfInBounds_toArray, List.set_cons_zero, List.set_cons_succ]
            refine wpAnyZ_take (i := 9) (oi := { dst := some 71, op := Op.load 38 (Operand.tmp 3), type := 38, pos := "ref.go:24", after := #[], guard := none }) (v := ?_) [10, 11, 18, 19, 20, 21] rfl (by kernel_rfl) (by kernel_rfl) (by kernel_rfl) (by kernel_rfl) (fun _ _ _ h => h) (Or.inl ⟨by rfl, ?_⟩) (by assumption) ?_
            rotate_left
            · (intro w hSw; (try dsimp only at hSw); go_simp); (first | done | with_reducible rfl)
            try simp only [Act.put, List.setIfInBounds_toArray, List.set_cons_zero, List.set_cons_succ]
            refine wpAnyZ_takeY (i := 12) (oi := { dst := some 74, op := Op.move (Operand.tmp 0), type := 76, pos := "ref.go:24", after := #[], guard := none }) (v := ?_) rfl (by kernel_rfl) (by kernel_rfl) (by kernel_rfl) (by rfl) (fun _ _ _ h => h) (Or.inl ⟨by rfl, ?_⟩) (by assumption) ?_
            rotate_left
            · (intro w; go_simp); (first | done | with_reducible rfl)
            try simp only [Act.put, List.setIfInBounds_toArray, List.set_cons_zero, List.set_cons_succ]
            refine wpAnyZ_takeY (i := 13) (oi := { dst := some 75, op := Op.nilCheck (Operand.tmp 74), type := 0, pos := "ref.go:24", after := #[{ on := 12, ground := Ground.data }], guard := none }) (v := ?_) rfl (by kernel_rfl) (by kernel_rfl) (by kernel_rfl) (by rfl) (fun _ _ _ h => h) (Or.inl ⟨by rfl, ?_⟩) (by assumption) ?_
            rotate_left
            · (intro w; go_simp); (first | done | with_reducible rfl)
            try simp only [Act.put, List.setIfInBounds_toArray, List.set_cons_zero, List.set_cons_succ]
            refine wpAnyZ_takeY (i := 14) (oi := { dst := some 76, op := Op.fieldAddr 78 (Operand.tmp 75) 0, type := 0, pos := "ref.go:24", after := #[{ on := 13, ground := Ground.data }], guard := none }) (v := ?_) rfl (by kernel_rfl) (by kernel_rfl) (by kernel_rfl) (by rfl) (fun _ _ _ h => h) (Or.inl ⟨by rfl, ?_⟩) (by assumption) ?_
            rotate_left
            · (intro w; go_simp); (first | done | with_reducible rfl)
            try simp only [Act.put, List.setIfInBounds_toArray, List.set_cons_zero, List.set_cons_succ]
            refine wpAnyZ_take (i := 15) (oi := { dst := some 77, op := Op.load 22 (Operand.tmp 76), type := 22, pos := "ref.go:24", after := #[{ on := 14, ground := Ground.data }], guard := none }) (v := ?_) [17, 18, 19, 20, 21] rfl (by kernel_rfl) (by kernel_rfl) (by kernel_rfl) (by kernel_rfl) (fun _ _ _ h => h) (Or.inl ⟨by rfl, ?_⟩) (by assumption) ?_
            rotate_left
            · (intro w hSw; (try dsimp only at hSw); go_simp); (first | done | with_reducible rfl)
            try simp only [Act.put, List.setIfInBounds_toArray, List.set_cons_zero, List.set_cons_succ]
            refine wpAnyZ_takeY (i := 16) (oi := { dst := some 78, op := Op.move (Operand.tmp 5), type := 3, pos := "ref.go:24", after := #[], guard := none }) (v := ?_) rfl (by kernel_rfl) (by kernel_rfl) (by kernel_rfl) (by rfl) (fun _ _ _ h => h) (Or.inl ⟨by rfl, ?_⟩) (by assumption) ?_
            rotate_left
            · (intro w; go_simp); (first | done | with_reducible rfl)
            try simp only [Act.put, List.setIfInBounds_toArray, List.set_cons_zero, List.set_cons_succ]
            refine wpAnyZ_takeY (i := 17) (oi := { dst := some 79, op := Op.slice 22 (Operand.tmp 77) (some (Operand.tmp 78)) none none, type := 22, pos := "ref.go:24", after := #[{ on := 15, ground := Ground.data }, { on := 16, ground := Ground.data }], guard := none }) (v := ?_) rfl (by kernel_rfl) (by kernel_rfl) (by kernel_rfl) (by rfl) (fun _ _ _ h => h) (Or.inl ⟨by rfl, ?_⟩) (by assumption) ?_
            rotate_left
            · (intro w; go_simp); (first | done | with_reducible rfl)
            try simp only [Act.put, List.setIfInBounds_toArray, List.set_cons_zero, List.set_cons_succ]
            refine wpAnyZ_ready (rs := [1, 10]) (by kernel_rfl) (by simp) ?_
            refine AllReadyZ.cons (o := { dst := some 63, op := Op.buildSlice 22 0 #[], type := 22, pos := "ref.go:24", after := #[], guard := none }) rfl (by rfl) (fun K hK => ?_) (AllReadyZ.cons (o := { dst := some 72, op := Op.buildSlice 22 1 #[(0, Operand.tmp 71)], type := 22, pos := "ref.go:24", after := #[{ on := 9, ground := Ground.data }], guard := none }) rfl (by rfl) (fun K hK => ?_) (AllReadyZ.nil))
            · go_simp
              have HOo := Lib.hid (World.ownsRow_made (base := wX.heap.size) (e := 38) (size := 3) wr #[] 0 HB.out.size (Nat.zero_le _) rfl)
              replace HB := carryA (w := wr) (.cells #[] 38) HB
              generalize hq1 : wr.heap.size = q1 at *
              generalize hw1 : wr.alloc (.cells #[] 38) = w1 at *
              clear hq1 hw1
              refine hK.out _ _ ?_ (fun hHeld => ?_)
              · exact ⟨(HMX.out.below HB.out).row.cell 0, (HXX.out.below HB.out).cell 0, (HXX.out.below HB.out).cell 1, (HXX.out.below HB.out).cell 2⟩
              clear hK K
              try simp only [Act.put, List.setIfInBounds_toArray, List.set_cons_zero, List.set_cons_succ]
              refine wpAnyZ_ready (rs := [8, 10]) (by kernel_rfl) (by simp) ?_
              refine AllReadyZ.cons (o := { dst := some 70, op := Op.call { callee := Callee.builtin Builtin.append, args := #[Operand.tmp 63, Operand.tmp 69], argTypes := #[22, 22] }, type := 22, pos := "ref.go:24", after := #[{ on := 1, ground := Ground.data }, { on := 7, ground := Ground.data }], guard := none }) rfl (by rfl) (fun K hK => ?_) (AllReadyZ.cons (o := { dst := some 72, op := Op.buildSlice 22 1 #[(0, Operand.tmp 71)], type := 22, pos := "ref.go:24", after := #[{ on := 9, ground := Ground.data }], guard := none }) rfl (by rfl) (fun K hK => ?_) (AllReadyZ.nil))
              · refine step_append_cls15 (by rfl) _ _ 22 (by rfl) wX.heap.size i0 z0 Try.underlying22 hi0 hz0 hz1 hz2 hz3 (.slice (some ⟨q1, 0, none⟩) 0 0) 0 [] (by rfl) HOo.out (some ⟨g, off, none⟩) cap k (L.take k) (by rfl) HE0.out.symm (clsAt_take15 (HMX.out.below HB.out).cls k) (by rw [HE0.out]; omega) HB.out.size ?_
                intro v8 w8 ho8 hg8 hat8
                rw [Nat.zero_add, List.nil_append, HE0.out] at ho8
                obtain ⟨a8, c8, rfl⟩ := ownP_shape ho8
                have HO8 := Lib.hid ho8
                replace HB := Lib.hid (HB.out.grown hg8 HB.out.size (fun k hk => (HOo.out.lt k hk).1))
                clear ho8 hg8 hat8 HOo
                refine hK.out _ _ ?_ (fun hHeld => ?_)
                · exact ⟨(HMX.out.below HB.out).row.cell 0, (HXX.out.below HB.out).cell 0, (HXX.out.below HB.out).cell 1, (HXX.out.below HB.out).cell 2⟩
                clear hK K
                try simp only [Act.put, List.setIfInBounds_toArray, List.set_cons_zero, List.set_cons_succ]
                refine wpAnyZ_ready (rs := [10]) (by kernel_rfl) (by simp) ?_
                refine AllReadyZ.cons (o := { dst := some 72, op := Op.buildSlice 22 1 #[(0, Operand.tmp 71)], type := 22, pos := "ref.go:24", after := #[{ on := 9, ground := Ground.data }], guard := none }) rfl (by rfl) (fun K hK => ?_) (AllReadyZ.nil)
                go_simp
                have HNE := Lib.hid (show ∀ q, (Value.slice a8 k c8).ownBlock = some q → q ≠ w8.heap.size from fun q hq e => by have := (HO8.out.lt q hq).2; omega)
                have HY := Lib.hid (show RowIn (clA c) 38 (w8.alloc (.cells #[.string (S c.key), .int .i64 c.seq, .string (S c.val)] 38)) w8.heap.size from rowIn_new (clA c) 38 w8)
                replace HB := carryA (w := w8) (.cells #[.string (S c.key), .int .i64 c.seq, .string (S c.val)] 38) HB
                replace HO8 := carryA (w := w8) (.cells #[.string (S c.key), .int .i64 c.seq, .string (S c.val)] 38) HO8
                generalize hq10 : w8.heap.size = q10 at *
                generalize hw10 : w8.alloc (.cells #[.string (S c.key), .int .i64 c.seq, .string (S c.val)] 38) = w10 at *
                clear hq10 hw10
                refine hK.out _ _ ?_ (fun hHeld => ?_)
                · exact ⟨(HMX.out.below HB.out).row.cell 0, (HXX.out.below HB.out).cell 0, (HXX.out.below HB.out).cell 1, (HXX.out.below HB.out).cell 2⟩
                clear hK K
                try simp only [Act.put, List.setIfInBounds_toArray, List.set_cons_zero, List.set_cons_succ]
                refine wpAnyZ_ready (rs := [11]) (by kernel_rfl) (by simp) ?_
                refine AllReadyZ.cons (o := { dst := some 73, op := Op.call { callee := Callee.builtin Builtin.append, args := #[Operand.tmp 70, Operand.tmp 72], argTypes := #[22, 22] }, type := 22, pos := "ref.go:24", after := #[{ on := 8, ground := Ground.data }, { on := 10, ground := Ground.data }, { on := 8, ground := Ground.chain }], guard := none }) rfl (by rfl) (fun K hK => ?_) (AllReadyZ.nil)
                refine step_append_cls15 (by rfl) _ _ 22 (by rfl) wX.heap.size i0 z0 Try.underlying22 hi0 hz0 hz1 hz2 hz3 (.slice a8 k c8) k (cls (L.take k)) (by rfl) HO8.out (some ⟨q10, 0, none⟩) 1 1 [c] (by rfl) rfl (clsAt_row HY.out rfl) (by show k + 1 ≤ 1000000; omega) HB.out.size ?_
                intro v11 w11 ho11 hg11 hat11
                replace ho11 : w11.ownsRow wX.heap.size 38 3 v11 (k + 1) (cls (L.take k ++ [c])) := by rw [cls_append]; exact ho11
                obtain ⟨a11, c11, rfl⟩ := ownP_shape ho11
                have HO11 := Lib.hid ho11
                replace HB := Lib.hid (HB.out.grown hg11 HB.out.size (fun k hk => (HO8.out.lt k hk).1))
                clear ho11 hg11 hat11 HO8 HY HNE
                refine hK.out _ _ ?_ (fun hHeld => ?_)
                · exact ⟨(HMX.out.below HB.out).row.cell 0, (HXX.out.below HB.out).cell 0, (HXX.out.below HB.out).cell 1, (HXX.out.below HB.out).cell 2⟩
                clear hK K
                try simp only [Act.put, List.setIfInBounds_toArray, List.set_cons_zero, List.set_cons_succ]
                refine wpAnyZ_ready (rs := [18]) (by kernel_rfl) (by simp) ?_
                refine AllReadyZ.cons (o := { dst := some 80, op := Op.call { callee := Callee.builtin Builtin.append, args := #[Operand.tmp 73, Operand.tmp 79], argTypes := #[22, 22] }, type := 22, pos := "ref.go:24", after := #[{ on := 11, ground := Ground.data }, { on := 17, ground := Ground.data }, { on := 11, ground := Ground.chain }], guard := none }) rfl (by rfl) (fun K hK => ?_) (AllReadyZ.nil)
                refine step_append_cls15 (by rfl) _ _ 22 (by rfl) wX.heap.size i0 z0 Try.underlying22 hi0 hz0 hz1 hz2 hz3 (.slice a11 (k + 1) c11) (k + 1) (cls (L.take k ++ [c])) (by rfl) HO11.out (some ⟨g, off + k * 3, none⟩) (cap - k) (L.length - k) (L.drop k) (by rfl) HE1.out.symm (clsAt_drop15 (HMX.out.below HB.out).cls k) (by rw [HE1.out]; omega) HB.out.size ?_
                intro v18 w18 ho18 hg18 hat18
                replace ho18 : w18.ownsRow wX.heap.size 38 3 v18 (L.length + 1) (cls L') := by rw [HL1.out, cls_append]; have e := HE1.out; rw [e] at ho18; rw [show k + 1 + (L.length - k) = L.length + 1 from (by omega)] at ho18; exact ho18
                obtain ⟨a18, c18, rfl⟩ := ownP_shape ho18
                have HO18 := Lib.hid ho18
                replace HB := Lib.hid (HB.out.grown hg18 HB.out.size (fun k hk => (HO11.out.lt k hk).1))
                clear ho18 hg18 hat18 HO11
                refine hK.out _ _ ?_ (fun hHeld => ?_)
                · exact ⟨(HMX.out.below HB.out).row.cell 0, (HXX.out.below HB.out).cell 0, (HXX.out.below HB.out).cell 1, (HXX.out.below HB.out).cell 2⟩
                clear hK K
                try simp only [Act.put, List.setIfInBounds_toArray, List.set_cons_zero, List.set_cons_succ]
                refine wpAnyZ_takeY (i := 19) (oi := { dst := some 81, op := Op.nilCheck (Operand.tmp 62), type := 0, pos := "ref.go:24", after := #[{ on := 0, ground := Ground.data }, { on := 0, ground := Ground.phase }, { on := 1, ground := Ground.phase }, { on := 2, ground := Ground.phase }, { on := 3, ground := Ground.phase }, { on := 4, ground := Ground.phase }, { on := 5, ground := Ground.phase }, { on := 6, ground := Ground.phase }, { on := 7, ground := Ground.phase }, { on := 8, ground := Ground.phase }, { on := 9, ground := Ground.phase }, { on := 10, ground := Ground.phase }, { on := 11, ground := Ground.phase }, { on := 12, ground := Ground.phase }, { on := 13, ground := Ground.phase }, { on := 14, ground := Ground.phase }, { on := 15, ground := Ground.phase }, { on := 16, ground := Ground.phase }, { on := 17, ground := Ground.phase }, { on := 18, ground := Ground.phase }], guard := none }) (v := ?_) rfl (by kernel_rfl) (by kernel_rfl) (by kernel_rfl) (by rfl) (fun _ _ _ h => h) (Or.inl ⟨by rfl, ?_⟩) (by assumption) ?_
                rotate_left
                · (intro w; go_simp); (first | done | with_reducible rfl)
                try simp only [Act.put, List.setIfInBounds_toArray, List.set_cons_zero, List.set_cons_succ]
                refine wpAnyZ_takeY (i := 20) (oi := { dst := some 82, op := Op.fieldAddr 78 (Operand.tmp 81) 0, type := 0, pos := "ref.go:24", after := #[{ on := 19, ground := Ground.data }, { on := 0, ground := Ground.phase }, { on := 1, ground := Ground.phase }, { on := 2, ground := Ground.phase }, { on := 3, ground := Ground.phase }, { on := 4, ground := Ground.phase }, { on := 5, ground := Ground.phase }, { on := 6, ground := Ground.phase }, { on := 7, ground := Ground.phase }, { on := 8, ground := Ground.phase }, { on := 9, ground := Ground.phase }, { on := 10, ground := Ground.phase }, { on := 11, ground := Ground.phase }, { on := 12, ground := Ground.phase }, { on := 13, ground := Ground.phase }, { on := 14, ground := Ground.phase }, { on := 15, ground := Ground.phase }, { on := 16, ground := Ground.phase }, { on := 17, ground := Ground.phase }, { on := 18, ground := Ground.phase }], guard := none }) (v := ?_) rfl (by kernel_rfl) (by kernel_rfl) (by kernel_rfl) (by rfl) (fun _ _ _ h => h) (Or.inl ⟨by rfl, ?_⟩) (by assumption) ?_
                rotate_left
                · (intro w; go_simp); (first | done | with_reducible rfl)
                try simp only [Act.put, List.setIfInBounds_toArray, List.set_cons_zero, List.set_cons_succ]
                refine wpAnyZ_ready (rs := [21]) (by kernel_rfl) (by simp) ?_
                refine AllReadyZ.last (o := { dst := none, op := Op.store 22 (Operand.tmp 82) (Operand.tmp 80), type := 0, pos := "ref.go:24", after := #[{ on := 20, ground := Ground.data }, { on := 18, ground := Ground.data }, { on := 18, ground := Ground.chain }, { on := 0, ground := Ground.phase }, { on := 1, ground := Ground.phase }, { on := 2, ground := Ground.phase }, { on := 3, ground := Ground.phase }, { on := 4, ground := Ground.phase }, { on := 5, ground := Ground.phase }, { on := 6, ground := Ground.phase }, { on := 7, ground := Ground.phase }, { on := 8, ground := Ground.phase }, { on := 9, ground := Ground.phase }, { on := 10, ground := Ground.phase }, { on := 11, ground := Ground.phase }, { on := 12, ground := Ground.phase }, { on := 13, ground := Ground.phase }, { on := 14, ground := Ground.phase }, { on := 15, ground := Ground.phase }, { on := 16, ground := Ground.phase }, { on := 17, ground := Ground.phase }, { on := 18, ground := Ground.phase }], guard := none }) rfl (fun K hK => ?_) AllReadyZ.nil
                have f0 := (HMX.out.below HB.out).row.free 0
                have m0 := (HMX.out.below HB.out).row.cell 0
                go_simp
                refine hK.out _ _ ?_
                clear hK K
                refine wpAny_done (by kernel_rfl) ?_ _
                have HF := Lib.hid (refFin15 HMX.out HB0.out HB.out HO18.out HLL.out)
                clear HO18
                go_wp2_with fail
                go_ret
                exact ⟨rfl, a18, c18, HF.out.1, HF.out.2.1, HF.out.2.2⟩
              · go_simp
                have HNE := Lib.hid (show q1 ≠ w1.heap.size from fun e => by have := (HOo.out.lt q1 rfl).2; omega)
                have HY := Lib.hid (show RowIn (clA c) 38 (w1.alloc (.cells #[.string (S c.key), .int .i64 c.seq, .string (S c.val)] 38)) w1.heap.size from rowIn_new (clA c) 38 w1)
                replace HB := carryA (w := w1) (.cells #[.string (S c.key), .int .i64 c.seq, .string (S c.val)] 38) HB
                replace HOo := carryA (w := w1) (.cells #[.string (S c.key), .int .i64 c.seq, .string (S c.val)] 38) HOo
                generalize hq10 : w1.heap.size = q10 at *
                generalize hw10 : w1.alloc (.cells #[.string (S c.key), .int .i64 c.seq, .string (S c.val)] 38) = w10 at *
                clear hq10 hw10
                refine hK.out _ _ ?_ (fun hHeld => ?_)
                · exact ⟨(HMX.out.below HB.out).row.cell 0, (HXX.out.below HB.out).cell 0, (HXX.out.below HB.out).cell 1, (HXX.out.below HB.out).cell 2⟩
                clear hK K
                try simp only [Act.put, List.setIfInBounds_toArray, List.set_cons_zero, List.set_cons_succ]
                refine wpAnyZ_ready (rs := [8]) (by kernel_rfl) (by simp) ?_
                refine AllReadyZ.cons (o := { dst := some 70, op := Op.call { callee := Callee.builtin Builtin.append, args := #[Operand.tmp 63, Operand.tmp 69], argTypes := #[22, 22] }, type := 22, pos := "ref.go:24", after := #[{ on := 1, ground := Ground.data }, { on := 7, ground := Ground.data }], guard := none }) rfl (by rfl) (fun K hK => ?_) (AllReadyZ.nil)
                refine step_append_cls15 (by rfl) _ _ 22 (by rfl) wX.heap.size i0 z0 Try.underlying22 hi0 hz0 hz1 hz2 hz3 (.slice (some ⟨q1, 0, none⟩) 0 0) 0 [] (by rfl) HOo.out (some ⟨g, off, none⟩) cap k (L.take k) (by rfl) HE0.out.symm (clsAt_take15 (HMX.out.below HB.out).cls k) (by rw [HE0.out]; omega) HB.out.size ?_
                intro v8 w8 ho8 hg8 hat8
                rw [Nat.zero_add, List.nil_append, HE0.out] at ho8
                obtain ⟨a8, c8, rfl⟩ := ownP_shape ho8
                have HO8 := Lib.hid ho8
                replace HB := Lib.hid (HB.out.grown hg8 HB.out.size (fun k hk => (HOo.out.lt k hk).1))
                have HYL := Lib.hid (show q10 < w10.heap.size from HY.out.lt)
                replace HY := Lib.hid (row_kept10 HY.out hg8 (fun e => HNE.out (by cases e; rfl)))
                replace HNE := Lib.hid (show ∀ q, (Value.slice a8 k c8).ownBlock = some q → q ≠ q10 from fun q hq e => by rcases hat8 with h | h; exact HNE.out (by rw [hq] at h; cases h; exact e); rw [hq] at h; cases h; have := HYL.out; omega)
                clear HYL
                clear ho8 hg8 hat8 HOo
                refine hK.out _ _ ?_ (fun hHeld => ?_)
                · exact ⟨(HMX.out.below HB.out).row.cell 0, (HXX.out.below HB.out).cell 0, (HXX.out.below HB.out).cell 1, (HXX.out.below HB.out).cell 2⟩
                clear hK K
                try simp only [Act.put, List.setIfInBounds_toArray, List.set_cons_zero, List.set_cons_succ]
                refine wpAnyZ_ready (rs := [11]) (by kernel_rfl) (by simp) ?_
                refine AllReadyZ.cons (o := { dst := some 73, op := Op.call { callee := Callee.builtin Builtin.append, args := #[Operand.tmp 70, Operand.tmp 72], argTypes := #[22, 22] }, type := 22, pos := "ref.go:24", after := #[{ on := 8, ground := Ground.data }, { on := 10, ground := Ground.data }, { on := 8, ground := Ground.chain }], guard := none }) rfl (by rfl) (fun K hK => ?_) (AllReadyZ.nil)
                refine step_append_cls15 (by rfl) _ _ 22 (by rfl) wX.heap.size i0 z0 Try.underlying22 hi0 hz0 hz1 hz2 hz3 (.slice a8 k c8) k (cls (L.take k)) (by rfl) HO8.out (some ⟨q10, 0, none⟩) 1 1 [c] (by rfl) rfl (clsAt_row HY.out rfl) (by show k + 1 ≤ 1000000; omega) HB.out.size ?_
                intro v11 w11 ho11 hg11 hat11
                replace ho11 : w11.ownsRow wX.heap.size 38 3 v11 (k + 1) (cls (L.take k ++ [c])) := by rw [cls_append]; exact ho11
                obtain ⟨a11, c11, rfl⟩ := ownP_shape ho11
                have HO11 := Lib.hid ho11
                replace HB := Lib.hid (HB.out.grown hg11 HB.out.size (fun k hk => (HO8.out.lt k hk).1))
                clear ho11 hg11 hat11 HO8 HY HNE
                refine hK.out _ _ ?_ (fun hHeld => ?_)
                · exact ⟨(HMX.out.below HB.out).row.cell 0, (HXX.out.below HB.out).cell 0, (HXX.out.below HB.out).cell 1, (HXX.out.below HB.out).cell 2⟩
                clear hK K
                try simp only [Act.put, List.setIfInBounds_toArray, List.set_cons_zero, List.set_cons_succ]
                refine wpAnyZ_ready (rs := [18]) (by kernel_rfl) (by simp) ?_
                refine AllReadyZ.cons (o := { dst := some 80, op := Op.call { callee := Callee.builtin Builtin.append, args := #[Operand.tmp 73, Operand.tmp 79], argTypes := #[22, 22] }, type := 22, pos := "ref.go:24", after := #[{ on := 11, ground := Ground.data }, { on := 17, ground := Ground.data }, { on := 11, ground := Ground.chain }], guard := none }) rfl (by rfl) (fun K hK => ?_) (AllReadyZ.nil)
                refine step_append_cls15 (by rfl) _ _ 22 (by rfl) wX.heap.size i0 z0 Try.underlying22 hi0 hz0 hz1 hz2 hz3 (.slice a11 (k + 1) c11) (k + 1) (cls (L.take k ++ [c])) (by rfl) HO11.out (some ⟨g, off + k * 3, none⟩) (cap - k) (L.length - k) (L.drop k) (by rfl) HE1.out.symm (clsAt_drop15 (HMX.out.below HB.out).cls k) (by rw [HE1.out]; omega) HB.out.size ?_
                intro v18 w18 ho18 hg18 hat18
                replace ho18 : w18.ownsRow wX.heap.size 38 3 v18 (L.length + 1) (cls L') := by rw [HL1.out, cls_append]; have e := HE1.out; rw [e] at ho18; rw [show k + 1 + (L.length - k) = L.length + 1 from (by omega)] at ho18; exact ho18
                obtain ⟨a18, c18, rfl⟩ := ownP_shape ho18
                have HO18 := Lib.hid ho18
                replace HB := Lib.hid (HB.out.grown hg18 HB.out.size (fun k hk => (HO11.out.lt k hk).1))
                clear ho18 hg18 hat18 HO11
                refine hK.out _ _ ?_ (fun hHeld => ?_)
                · exact ⟨(HMX.out.below HB.out).row.cell 0, (HXX.out.below HB.out).cell 0, (HXX.out.below HB.out).cell 1, (HXX.out.below HB.out).cell 2⟩
                clear hK K
                try simp only [Act.put, List.setIfInBounds_toArray, List.set_cons_zero, List.set_cons_succ]
                refine wpAnyZ_takeY (i := 19) (oi := { dst := some 81, op := Op.nilCheck (Operand.tmp 62), type := 0, pos := "ref.go:24", after := #[{ on := 0, ground := Ground.data }, { on := 0, ground := Ground.phase }, { on := 1, ground := Ground.phase }, { on := 2, ground := Ground.phase }, { on := 3, ground := Ground.phase }, { on := 4, ground := Ground.phase }, { on := 5, ground := Ground.phase }, { on := 6, ground := Ground.phase }, { on := 7, ground := Ground.phase }, { on := 8, ground := Ground.phase }, { on := 9, ground := Ground.phase }, { on := 10, ground := Ground.phase }, { on := 11, ground := Ground.phase }, { on := 12, ground := Ground.phase }, { on := 13, ground := Ground.phase }, { on := 14, ground := Ground.phase }, { on := 15, ground := Ground.phase }, { on := 16, ground := Ground.phase }, { on := 17, ground := Ground.phase }, { on := 18, ground := Ground.phase }], guard := none }) (v := ?_) rfl (by kernel_rfl) (by kernel_rfl) (by kernel_rfl) (by rfl) (fun _ _ _ h => h) (Or.inl ⟨by rfl, ?_⟩) (by assumption) ?_
                rotate_left
                · (intro w; go_simp); (first | done | with_reducible rfl)
                try simp only [Act.put, List.setIfInBounds_toArray, List.set_cons_zero, List.set_cons_succ]
                refine wpAnyZ_takeY (i := 20) (oi := { dst := some 82, op := Op.fieldAddr 78 (Operand.tmp 81) 0, type := 0, pos := "ref.go:24", after := #[{ on := 19, ground := Ground.data }, { on := 0, ground := Ground.phase }, { on := 1, ground := Ground.phase }, { on := 2, ground := Ground.phase }, { on := 3, ground := Ground.phase }, { on := 4, ground := Ground.phase }, { on := 5, ground := Ground.phase }, { on := 6, ground := Ground.phase }, { on := 7, ground := Ground.phase }, { on := 8, ground := Ground.phase }, { on := 9, ground := Ground.phase }, { on := 10, ground := Ground.phase }, { on := 11, ground := Ground.phase }, { on := 12, ground := Ground.phase }, { on := 13, ground := Ground.phase }, { on := 14, ground := Ground.phase }, { on := 15, ground := Ground.phase }, { on := 16, ground := Ground.phase }, { on := 17, ground := Ground.phase }, { on := 18, ground := Ground.phase }], guard := none }) (v := ?_) rfl (by kernel_rfl) (by kernel_rfl) (by kernel_rfl) (by rfl) (fun _ _ _ h => h) (Or.inl ⟨by rfl, ?_⟩) (by assumption) ?_
                rotate_left
                · (intro w; go_simp); (first | done | with_reducible rfl)
                try simp only [Act.put, List.setIfInBounds_toArray, List.set_cons_zero, List.set_cons_succ]
                refine wpAnyZ_ready (rs := [21]) (by kernel_rfl) (by simp) ?_
                refine AllReadyZ.last (o := { dst := none, op := Op.store 22 (Operand.tmp 82) (Operand.tmp 80), type := 0, pos := "ref.go:24", after := #[{ on := 20, ground := Ground.data }, { on := 18, ground := Ground.data }, { on := 18, ground := Ground.chain }, { on := 0, ground := Ground.phase }, { on := 1, ground := Ground.phase }, { on := 2, ground := Ground.phase }, { on := 3, ground := Ground.phase }, { on := 4, ground := Ground.phase }, { on := 5, ground := Ground.phase }, { on := 6, ground := Ground.phase }, { on := 7, ground := Ground.phase }, { on := 8, ground := Ground.phase }, { on := 9, ground := Ground.phase }, { on := 10, ground := Ground.phase }, { on := 11, ground := Ground.phase }, { on := 12, ground := Ground.phase }, { on := 13, ground := Ground.phase }, { on := 14, ground := Ground.phase }, { on := 15, ground := Ground.phase }, { on := 16, ground := Ground.phase }, { on := 17, ground := Ground.phase }, { on := 18, ground := Ground.phase }], guard := none }) rfl (fun K hK => ?_) AllReadyZ.nil
                have f0 := (HMX.out.below HB.out).row.free 0
                have m0 := (HMX.out.below HB.out).row.cell 0
                go_simp
                refine hK.out _ _ ?_
                clear hK K
                refine wpAny_done (by kernel_rfl) ?_ _
                have HF := Lib.hid (refFin15 HMX.out HB0.out HB.out HO18.out HLL.out)
                clear HO18
                go_wp2_with fail
                go_ret
                exact ⟨rfl, a18, c18, HF.out.1, HF.out.2.1, HF.out.2.2⟩
            · go_simp
              have HY := Lib.hid (show RowIn (clA c) 38 (wr.alloc (.cells #[.string (S c.key), .int .i64 c.seq, .string (S c.val)] 38)) wr.heap.size from rowIn_new (clA c) 38 wr)
              replace HB := carryA (w := wr) (.cells #[.string (S c.key), .int .i64 c.seq, .string (S c.val)] 38) HB
              generalize hq10 : wr.heap.size = q10 at *
              generalize hw10 : wr.alloc (.cells #[.string (S c.key), .int .i64 c.seq, .string (S c.val)] 38) = w10 at *
              clear hq10 hw10
              have HYL := Lib.hid HY.out.lt
              refine hK.out _ _ ?_ (fun hHeld => ?_)
              · exact ⟨(HMX.out.below HB.out).row.cell 0, (HXX.out.below HB.out).cell 0, (HXX.out.below HB.out).cell 1, (HXX.out.below HB.out).cell 2⟩
              clear hK K
              try simp only [Act.put, List.setIfInBounds_toArray, List.set_cons_zero, List.set_cons_succ]
              refine wpAnyZ_ready (rs := [1]) (by kernel_rfl) (by simp) ?_
              refine AllReadyZ.cons (o := { dst := some 63, op := Op.buildSlice 22 0 #[], type := 22, pos := "ref.go:24", after := #[], guard := none }) rfl (by rfl) (fun K hK => ?_) (AllReadyZ.nil)
              go_simp
              have HOo := Lib.hid (World.ownsRow_made (base := wX.heap.size) (e := 38) (size := 3) w10 #[] 0 HB.out.size (Nat.zero_le _) rfl)
              replace HB := carryA (w := w10) (.cells #[] 38) HB
              replace HY := carryA (w := w10) (.cells #[] 38) HY
              have HNE := Lib.hid (show w10.heap.size ≠ q10 from fun e => by have := HYL.out; omega)
              generalize hq1 : w10.heap.size = q1 at *
              generalize hw1 : w10.alloc (.cells #[] 38) = w1 at *
              clear hq1 hw1
              refine hK.out _ _ ?_ (fun hHeld => ?_)
              · exact ⟨(HMX.out.below HB.out).row.cell 0, (HXX.out.below HB.out).cell 0, (HXX.out.below HB.out).cell 1, (HXX.out.below HB.out).cell 2⟩
              clear hK K
              try simp only [Act.put, List.setIfInBounds_toArray, List.set_cons_zero, List.set_cons_succ]
              refine wpAnyZ_ready (rs := [8]) (by kernel_rfl) (by simp) ?_
              refine AllReadyZ.cons (o := { dst := some 70, op := Op.call { callee := Callee.builtin Builtin.append, args := #[Operand.tmp 63, Operand.tmp 69], argTypes := #[22, 22] }, type := 22, pos := "ref.go:24", after := #[{ on := 1, ground := Ground.data }, { on := 7, ground := Ground.data }], guard := none }) rfl (by rfl) (fun K hK => ?_) (AllReadyZ.nil)
              refine step_append_cls15 (by rfl) _ _ 22 (by rfl) wX.heap.size i0 z0 Try.underlying22 hi0 hz0 hz1 hz2 hz3 (.slice (some ⟨q1, 0, none⟩) 0 0) 0 [] (by rfl) HOo.out (some ⟨g, off, none⟩) cap k (L.take k) (by rfl) HE0.out.symm (clsAt_take15 (HMX.out.below HB.out).cls k) (by rw [HE0.out]; omega) HB.out.size ?_
              intro v8 w8 ho8 hg8 hat8
              rw [Nat.zero_add, List.nil_append, HE0.out] at ho8
              obtain ⟨a8, c8, rfl⟩ := ownP_shape ho8
              have HO8 := Lib.hid ho8
              replace HB := Lib.hid (HB.out.grown hg8 HB.out.size (fun k hk => (HOo.out.lt k hk).1))
              have HYL := Lib.hid (show q10 < w1.heap.size from HY.out.lt)
              replace HY := Lib.hid (row_kept10 HY.out hg8 (fun e => HNE.out (by cases e; rfl)))
              replace HNE := Lib.hid (show ∀ q, (Value.slice a8 k c8).ownBlock = some q → q ≠ q10 from fun q hq e => by rcases hat8 with h | h; exact HNE.out (by rw [hq] at h; cases h; exact e); rw [hq] at h; cases h; have := HYL.out; omega)
              clear HYL
              clear ho8 hg8 hat8 HOo
              refine hK.out _ _ ?_ (fun hHeld => ?_)
              · exact ⟨(HMX.out.below HB.out).row.cell 0, (HXX.out.below HB.out).cell 0, (HXX.out.below HB.out).cell 1, (HXX.out.below HB.out).cell 2⟩
              clear hK K
              try simp only [Act.put, List.setIfInBounds_toArray, List.set_cons_zero, List.set_cons_succ]
              refine wpAnyZ_ready (rs := [11]) (by kernel_rfl) (by simp) ?_
              refine AllReadyZ.cons (o := { dst := some 73, op := Op.call { callee := Callee.builtin Builtin.append, args := #[Operand.tmp 70, Operand.tmp 72], argTypes := #[22, 22] }, type := 22, pos := "ref.go:24", after := #[{ on := 8, ground := Ground.data }, { on := 10, ground := Ground.data }, { on := 8, ground := Ground.chain }], guard := none }) rfl (by rfl) (fun K hK => ?_) (AllReadyZ.nil)
              refine step_append_cls15 (by rfl) _ _ 22 (by rfl) wX.heap.size i0 z0 Try.underlying22 hi0 hz0 hz1 hz2 hz3 (.slice a8 k c8) k (cls (L.take k)) (by rfl) HO8.out (some ⟨q10, 0, none⟩) 1 1 [c] (by rfl) rfl (clsAt_row HY.out rfl) (by show k + 1 ≤ 1000000; omega) HB.out.size ?_
              intro v11 w11 ho11 hg11 hat11
              replace ho11 : w11.ownsRow wX.heap.size 38 3 v11 (k + 1) (cls (L.take k ++ [c])) := by rw [cls_append]; exact ho11
              obtain ⟨a11, c11, rfl⟩ := ownP_shape ho11
              have HO11 := Lib.hid ho11
              replace HB := Lib.hid (HB.out.grown hg11 HB.out.size (fun k hk => (HO8.out.lt k hk).1))
              clear ho11 hg11 hat11 HO8 HY HNE
              refine hK.out _ _ ?_ (fun hHeld => ?_)
              · exact ⟨(HMX.out.below HB.out).row.cell 0, (HXX.out.below HB.out).cell 0, (HXX.out.below HB.out).cell 1, (HXX.out.below HB.out).cell 2⟩
              clear hK K
              try simp only [Act.put, List.setIfInBounds_toArray, List.set_cons_zero, List.set_cons_succ]
              refine wpAnyZ_ready (rs := [18]) (by kernel_rfl) (by simp) ?_
              refine AllReadyZ.cons (o := { dst := some 80, op := Op.call { callee := Callee.builtin Builtin.append, args := #[Operand.tmp 73, Operand.tmp 79], argTypes := #[22, 22] }, type := 22, pos := "ref.go:24", after := #[{ on := 11, ground := Ground.data }, { on := 17, ground := Ground.data }, { on := 11, ground := Ground.chain }], guard := none }) rfl (by rfl) (fun K hK => ?_) (AllReadyZ.nil)
              refine step_append_cls15 (by rfl) _ _ 22 (by rfl) wX.heap.size i0 z0 Try.underlying22 hi0 hz0 hz1 hz2 hz3 (.slice a11 (k + 1) c11) (k + 1) (cls (L.take k ++ [c])) (by rfl) HO11.out (some ⟨g, off + k * 3, none⟩) (cap - k) (L.length - k) (L.drop k) (by rfl) HE1.out.symm (clsAt_drop15 (HMX.out.below HB.out).cls k) (by rw [HE1.out]; omega) HB.out.size ?_
              intro v18 w18 ho18 hg18 hat18
              replace ho18 : w18.ownsRow wX.heap.size 38 3 v18 (L.length + 1) (cls L') := by rw [HL1.out, cls_append]; have e := HE1.out; rw [e] at ho18; rw [show k + 1 + (L.length - k) = L.length + 1 from (by omega)] at ho18; exact ho18
              obtain ⟨a18, c18, rfl⟩ := ownP_shape ho18
              have HO18 := Lib.hid ho18
              replace HB := Lib.hid (HB.out.grown hg18 HB.out.size (fun k hk => (HO11.out.lt k hk).1))
              clear ho18 hg18 hat18 HO11
              refine hK.out _ _ ?_ (fun hHeld => ?_)
              · exact ⟨(HMX.out.below HB.out).row.cell 0, (HXX.out.below HB.out).cell 0, (HXX.out.below HB.out).cell 1, (HXX.out.below HB.out).cell 2⟩
              clear hK K
              try simp only [Act.put, List.setIfInBounds_toArray, List.set_cons_zero, List.set_cons_succ]
              refine wpAnyZ_takeY (i := 19) (oi := { dst := some 81, op := Op.nilCheck (Operand.tmp 62), type := 0, pos := "ref.go:24", after := #[{ on := 0, ground := Ground.data }, { on := 0, ground := Ground.phase }, { on := 1, ground := Ground.phase }, { on := 2, ground := Ground.phase }, { on := 3, ground := Ground.phase }, { on := 4, ground := Ground.phase }, { on := 5, ground := Ground.phase }, { on := 6, ground := Ground.phase }, { on := 7, ground := Ground.phase }, { on := 8, ground := Ground.phase }, { on := 9, ground := Ground.phase }, { on := 10, ground := Ground.phase }, { on := 11, ground := Ground.phase }, { on := 12, ground := Ground.phase }, { on := 13, ground := Ground.phase }, { on := 14, ground := Ground.phase }, { on := 15, ground := Ground.phase }, { on := 16, ground := Ground.phase }, { on := 17, ground := Ground.phase }, { on := 18, ground := Ground.phase }], guard := none }) (v := ?_) rfl (by kernel_rfl) (by kernel_rfl) (by kernel_rfl) (by rfl) (fun _ _ _ h => h) (Or.inl ⟨by rfl, ?_⟩) (by assumption) ?_
              rotate_left
              · (intro w; go_simp); (first | done | with_reducible rfl)
              try simp only [Act.put, List.setIfInBounds_toArray, List.set_cons_zero, List.set_cons_succ]
              refine wpAnyZ_takeY (i := 20) (oi := { dst := some 82, op := Op.fieldAddr 78 (Operand.tmp 81) 0, type := 0, pos := "ref.go:24", after := #[{ on := 19, ground := Ground.data }, { on := 0, ground := Ground.phase }, { on := 1, ground := Ground.phase }, { on := 2, ground := Ground.phase }, { on := 3, ground := Ground.phase }, { on := 4, ground := Ground.phase }, { on := 5, ground := Ground.phase }, { on := 6, ground := Ground.phase }, { on := 7, ground := Ground.phase }, { on := 8, ground := Ground.phase }, { on := 9, ground := Ground.phase }, { on := 10, ground := Ground.phase }, { on := 11, ground := Ground.phase }, { on := 12, ground := Ground.phase }, { on := 13, ground := Ground.phase }, { on := 14, ground := Ground.phase }, { on := 15, ground := Ground.phase }, { on := 16, ground := Ground.phase }, { on := 17, ground := Ground.phase }, { on := 18, ground := Ground.phase }], guard := none }) (v := ?_) rfl (by kernel_rfl) (by kernel_rfl) (by kernel_rfl) (by rfl) (fun _ _ _ h => h) (Or.inl ⟨by rfl, ?_⟩) (by assumption) ?_
              rotate_left
              · (intro w; go_simp); (first | done | with_reducible rfl)
              try simp only [Act.put, List.setIfInBounds_toArray, List.set_cons_zero, List.set_cons_succ]
              refine wpAnyZ_ready (rs := [21]) (by kernel_rfl) (by simp) ?_
              refine AllReadyZ.last (o := { dst := none, op := Op.store 22 (Operand.tmp 82) (Operand.tmp 80), type := 0, pos := "ref.go:24", after := #[{ on := 20, ground := Ground.data }, { on := 18, ground := Ground.data }, { on := 18, ground := Ground.chain }, { on := 0, ground := Ground.phase }, { on := 1, ground := Ground.phase }, { on := 2, ground := Ground.phase }, { on := 3, ground := Ground.phase }, { on := 4, ground := Ground.phase }, { on := 5, ground := Ground.phase }, { on := 6, ground := Ground.phase }, { on := 7, ground := Ground.phase }, { on := 8, ground := Ground.phase }, { on := 9, ground := Ground.phase }, { on := 10, ground := Ground.phase }, { on := 11, ground := Ground.phase }, { on := 12, ground := Ground.phase }, { on := 13, ground := Ground.phase }, { on := 14, ground := Ground.phase }, { on := 15, ground := Ground.phase }, { on := 16, ground := Ground.phase }, { on := 17, ground := Ground.phase }, { on := 18, ground := Ground.phase }], guard := none }) rfl (fun K hK => ?_) AllReadyZ.nil
              have f0 := (HMX.out.below HB.out).row.free 0
              have m0 := (HMX.out.below HB.out).row.cell 0
              go_simp
              refine hK.out _ _ ?_
              clear hK K
              refine wpAny_done (by kernel_rfl) ?_ _
              have HF := Lib.hid (refFin15 HMX.out HB0.out HB.out HO18.out HLL.out)
              clear HO18
              go_wp2_with fail
              go_ret
              exact ⟨rfl, a18, c18, HF.out.1, HF.out.2.1, HF.out.2.2⟩
      · have HB := HB
        obtain rfl : k = L.length := by omega
        have d2 : decide ((L.length : Int) < (L.length : Int)) = false := by simp
        have d3 : decide (L.length < L.length) = false := by simp
        have HPL := Lib.hid (HP.out.trans ((M.insC_at HJ.out hk (fun h => absurd h (Nat.lt_irrefl _))).trans (if_neg (fun h => absurd h.1 (Nat.lt_irrefl _)))))
        clear HP HJ hlt m0
        go_upto_region 4 with (fail)
        go_cut [26] from 9 to 28 (fun v wx => v = .bool false ∧ Below wr.heap.size wr wx)
        case first =>
          have m0 := fun d os => cell_regrown (HRM.out.row.cell 0) d os
          refine wp_region_quiet_below (by kernel_rfl) (by kernel_rfl) ?_
          repeat (any_goals (first | go_big_quiet_step ((first | (go_at_call 93; with_reducible exact Calls.regrown_of (CA.out M.cl0 _)))) | quiet_step ((first | (go_at_call 93; with_reducible exact Calls.regrown_of (CA.out M.cl0 _))))))
          refine wpQuiet_nil ?_
          intro _ hw1
          obtain ⟨⟨dd, oo⟩, hw1⟩ := hw1
          subst hw1
          go_wp2_with fail
          go_meet
          case rel => exact ⟨rfl, below_regrown wr dd oo⟩
        case rest =>
        obtain ⟨rfl, hb4⟩ := hcut
        replace HB := carry hb4 HB
        clear hb4 HRX HRM
        have m0 := (HMX.out.below HB.out).row.cell 0
        have y0 := 0
        have y1 := 0
        have x0 := (HXX.out.below HB.out).cell 0
        have x1 := (HXX.out.below HB.out).cell 1
        have x2 := (HXX.out.below HB.out).cell 2
        go_wp2_with fail
        go_quiet (fail)
        have hbq : Below wc.heap.size wc (wc.drewN nq) := below_drewN (Below.refl _ _) nq
        obtain ⟨wq, hwq⟩ : ∃ x, x = wc.drewN nq := ⟨_, rfl⟩
        rw [← hwq] at hbq ⊢
        replace HB := carry hbq HB
        clear hwq hbq m0 y0 y1 x0 x1 x2
        by_cases hcL : cap = L.length
        · subst hcL
          have e0 : (L.take L.length).length = L.length := by rw [List.length_take]; omega
          have HE0 := Lib.hid e0
          have HL1 := Lib.hid (show L' = (L.take L.length ++ [c]) ++ [] from by rw [HPL.out]; simp)
          have HLL := Lib.hid (show L'.length = L.length + 1 from by rw [HL1.out]; simp)
          have bq0 : (0 : Int) ≤ (L.length : Int) := by omega
          clear HPL e0
          go_wp2_with fail
          refine wp_region_Z (S := fun V => V.cell? ⟨b, 0, none⟩ = some (.slice ao L.length L.length) ∧ V.cell? ⟨X, 0, none⟩ = some (.string (S c.key)) ∧ V.cell? ⟨X, 1, none⟩ = some (.int .i64 c.seq) ∧ V.cell? ⟨X, 2, none⟩ = some (.string (S c.val))) 21 (by kernel_rfl) ?_ (fun hHeld => ?_)
          · exact ⟨(HMX.out.below HB.out.drew).row.cell 0, (HXX.out.below HB.out.drew).cell 0, (HXX.out.below HB.out.drew).cell 1, (HXX.out.below HB.out.drew).cell 2⟩
          replace HB := Lib.hid HB.out.drew
          obtain ⟨wr, hwr⟩ : ∃ x, x = World.drew wq := ⟨_, rfl⟩
          rw [← hwr] at HB hHeld ⊢
          clear hwr
          refine wpAnyZ_takeY (i := 0) (oi := { dst := some 62, op := Op.move (Operand.tmp 0), type := 76, pos := "ref.go:24", after := #[], guard := none }) (v := ?_) rfl (by kernel_rfl) (by kernel_rfl) (by kernel_rfl) (by rfl) (fun _ _ _ h => h) (Or.inl ⟨by rfl, ?_⟩) (by assumption) ?_
          rotate_left
          · (intro w; go_simp); (first | done | with_reducible rfl)
          try simp only [Act.put, List.setIfInBounds_toArray, List.set_cons_zero, List.set_cons_succ]
          refine wpAnyZ_takeY (i := 2) (oi := { dst := some 64, op := Op.move (Operand.tmp 0), type := 76, pos := "ref.go:24", after := #[], guard := none }) (v := ?_) rfl (by kernel_rfl) (by kernel_rfl) (by kernel_rfl) (by rfl) (fun _ _ _ h => h) (Or.inl ⟨by rfl, ?_⟩) (by assumption) ?_
          rotate_left
          · (intro w; go_simp); (first | done | with_reducible rfl)
          try simp only [Act.put, List.setIfInBounds_toArray, List.set_cons_zero, List.set_cons_succ]
          refine wpAnyZ_takeY (i := 3) (oi := { dst := some 65, op := Op.nilCheck (Operand.tmp 64), type := 0, pos := "ref.go:24", after := #[{ on := 2, ground := Ground.data }], guard := none }) (v := ?_) rfl (by kernel_rfl) (by kernel_rfl) (by kernel_rfl) (by rfl) (fun _ _ _ h => h) (Or.inl ⟨by rfl, ?_⟩) (by assumption) ?_
          rotate_left
          · (intro w; go_simp); (first | done | with_reducible rfl)
          try simp only [Act.put, List.setIfInBounds_toArray, List.set_cons_zero, List.set_cons_succ]
          refine wpAnyZ_takeY (i := 4) (oi := { dst := some 66, op := Op.fieldAddr 78 (Operand.tmp 65) 0, type := 0, pos := "ref.go:24", after := #[{ on := 3, ground := Ground.data }], guard := none }) (v := ?_) rfl (by kernel_rfl) (by kernel_rfl) (by kernel_rfl) (by rfl) (fun _ _ _ h => h) (Or.inl ⟨by rfl, ?_⟩) (by assumption) ?_
          rotate_left
          · (intro w; go_simp); (first | done | with_reducible rfl)
          try simp only [Act.put, List.setIfInBounds_toArray, List.set_cons_zero, List.set_cons_succ]
          refine wpAnyZ_take (i := 5) (oi := { dst := some 67, op := Op.load 22 (Operand.tmp 66), type := 22, pos := "ref.go:24", after := #[{ on := 4, ground := Ground.data }], guard := none }) (v := ?_) [7, 8, 11, 18, 19, 20, 21] rfl (by kernel_rfl) (by kernel_rfl) (by kernel_rfl) (by kernel_rfl) (fun _ _ _ h => h) (Or.inl ⟨by rfl, ?_⟩) (by assumption) ?_
          rotate_left
          · (intro w hSw; (try dsimp only at hSw); go_simp); (first | done | with_reducible rfl)
          try simp only [Act.put, List.setIfInBounds_toArray, List.set_cons_zero, List.set_cons_succ]
          refine wpAnyZ_takeY (i := 6) (oi := { dst := some 68, op := Op.move (Operand.tmp 5), type := 3, pos := "ref.go:24", after := #[], guard := none }) (v := ?_) rfl (by kernel_rfl) (by kernel_rfl) (by kernel_rfl) (by rfl) (fun _ _ _ h => h) (Or.inl ⟨by rfl, ?_⟩) (by assumption) ?_
          rotate_left
          · (intro w; go_simp); (first | done | with_reducible rfl)
          try simp only [Act.put, List.setIfInBounds_toArray, List.set_cons_zero, List.set_cons_succ]
          refine wpAnyZ_takeY (i := 7) (oi := { dst := some 69, op := Op.slice 22 (Operand.tmp 67) none (some (Operand.tmp 68)) none, type := 22, pos := "ref.go:24", after := #[{ on := 5, ground := Ground.data }, { on := 6, ground := Ground.data }], guard := none }) (v := ?_) rfl (by kernel_rfl) (by kernel_rfl) (by kernel_rfl) (by rfl) (fun _ _ _ h => h) (Or.inl ⟨by rfl, ?_⟩) (by assumption) ?_
          rotate_left
          · (intro w; go_simp); (first | done | with_reducible rfl)
          try simp only [Act.put, List.setIfInBounds_toArray, List.set_cons_zero, List.set_cons_succ]
          refine wpAnyZ_take (i := 9) (oi := { dst := some 71, op := Op.load 38 (Operand.tmp 3), type := 38, pos := "ref.go:24", after := #[], guard := none }) (v := ?_) [10, 11, 18, 19, 20, 21] rfl (by kernel_rfl) (by kernel_rfl) (by kernel_rfl) (by kernel_rfl) (fun _ _ _ h => h) (Or.inl ⟨by rfl, ?_⟩) (by assumption) ?_
          rotate_left
          · (intro w hSw; (try dsimp only at hSw); go_simp); (first | done | with_reducible rfl)
          try simp only [Act.put, List.setIfInBounds_toArray, List.set_cons_zero, List.set_cons_succ]
          refine wpAnyZ_takeY (i := 12) (oi := { dst := some 74, op := Op.move (Operand.tmp 0), type := 76, pos := "ref.go:24", after := #[], guard := none }) (v := ?_) rfl (by kernel_rfl) (by kernel_rfl) (by kernel_rfl) (by rfl) (fun _ _ _ h => h) (Or.inl ⟨by rfl, ?_⟩) (by assumption) ?_
          rotate_left
          · (intro w; go_simp); (first | done | with_reducible rfl)
          try simp only [Act.put, List.setIfInBounds_toArray, List.set_cons_zero, List.set_cons_succ]
          refine wpAnyZ_takeY (i := 13) (oi := { dst := some 75, op := Op.nilCheck (Operand.tmp 74), type := 0, pos := "ref.go:24", after := #[{ on := 12, ground := Ground.data }], guard := none }) (v := ?_) rfl (by kernel_rfl) (by kernel_rfl) (by kernel_rfl) (by rfl) (fun _ _ _ h => h) (Or.inl ⟨by rfl, ?_⟩) (by assumption) ?_
          rotate_left
          · (intro w; go_simp); (first | done | with_reducible rfl)
          try simp only [Act.put, List.setIfInBounds_toArray, List.set_cons_zero, List.set_cons_succ]
          refine wpAnyZ_takeY (i := 14) (oi := { dst := some 76, op := Op.fieldAddr 78 (Operand.tmp 75) 0, type := 0, pos := "ref.go:24", after := #[{ on := 13, ground := Ground.data }], guard := none }) (v := ?_) rfl (by kernel_rfl) (by kernel_rfl) (by kernel_rfl) (by rfl) (fun _ _ _ h => h) (Or.inl ⟨by rfl, ?_⟩) (by assumption) ?_
          rotate_left
          · (intro w; go_simp); (first | done | with_reducible rfl)
          try simp only [Act.put, List.setIfInBounds_toArray, List.set_cons_zero, List.set_cons_succ]
          refine wpAnyZ_take (i := 15) (oi := { dst := some 77, op := Op.load 22 (Operand.tmp 76), type := 22, pos := "ref.go:24", after := #[{ on := 14, ground := Ground.data }], guard := none }) (v := ?_) [17, 18, 19, 20, 21] rfl (by kernel_rfl) (by kernel_rfl) (by kernel_rfl) (by kernel_rfl) (fun _ _ _ h => h) (Or.inl ⟨by rfl, ?_⟩) (by assumption) ?_
          rotate_left
          · (intro w hSw; (try dsimp only at hSw); go_simp); (first | done | with_reducible rfl)
          try simp only [Act.put, List.setIfInBounds_toArray, List.set_cons_zero, List.set_cons_succ]
          refine wpAnyZ_takeY (i := 16) (oi := { dst := some 78, op := Op.move (Operand.tmp 5), type := 3, pos := "ref.go:24", after := #[], guard := none }) (v := ?_) rfl (by kernel_rfl) (by kernel_rfl) (by kernel_rfl) (by rfl) (fun _ _ _ h => h) (Or.inl ⟨by rfl, ?_⟩) (by assumption) ?_
          rotate_left
          · (intro w; go_simp); (first | done | with_reducible rfl)
          try simp only [Act.put, List.setIfInBounds_toArray, List.set_cons_zero, List.set_cons_succ]
          refine wpAnyZ_takeY (i := 17) (oi := { dst := some 79, op := Op.slice 22 (Operand.tmp 77) (some (Operand.tmp 78)) none none, type := 22, pos := "ref.go:24", after := #[{ on := 15, ground := Ground.data }, { on := 16, ground := Ground.data }], guard := none }) (v := ?_) rfl (by kernel_rfl) (by kernel_rfl) (by kernel_rfl) (by rfl) (fun _ _ _ h => h) (Or.inl ⟨by rfl, ?_⟩) (by assumption) ?_
          rotate_left
          · (intro w; go_simp); (first | done | with_reducible rfl)
          try simp only [Act.put, List.setIfInBounds_toArray, List.set_cons_zero, List.set_cons_succ]
          refine wpAnyZ_ready (rs := [1, 10]) (by kernel_rfl) (by simp) ?_
          refine AllReadyZ.cons (o := { dst := some 63, op := Op.buildSlice 22 0 #[], type := 22, pos := "ref.go:24", after := #[], guard := none }) rfl (by rfl) (fun K hK => ?_) (AllReadyZ.cons (o := { dst := some 72, op := Op.buildSlice 22 1 #[(0, Operand.tmp 71)], type := 22, pos := "ref.go:24", after := #[{ on := 9, ground := Ground.data }], guard := none }) rfl (by rfl) (fun K hK => ?_) (AllReadyZ.nil))
          · go_simp
            have HOo := Lib.hid (World.ownsRow_made (base := wX.heap.size) (e := 38) (size := 3) wr #[] 0 HB.out.size (Nat.zero_le _) rfl)
            replace HB := carryA (w := wr) (.cells #[] 38) HB
            generalize hq1 : wr.heap.size = q1 at *
            generalize hw1 : wr.alloc (.cells #[] 38) = w1 at *
            clear hq1 hw1
            refine hK.out _ _ ?_ (fun hHeld => ?_)
            · exact ⟨(HMX.out.below HB.out).row.cell 0, (HXX.out.below HB.out).cell 0, (HXX.out.below HB.out).cell 1, (HXX.out.below HB.out).cell 2⟩
            clear hK K
            try simp only [Act.put, List.setIfInBounds_toArray, List.set_cons_zero, List.set_cons_succ]
            refine wpAnyZ_ready (rs := [8, 10]) (by kernel_rfl) (by simp) ?_
            refine AllReadyZ.cons (o := { dst := some 70, op := Op.call { callee := Callee.builtin Builtin.append, args := #[Operand.tmp 63, Operand.tmp 69], argTypes := #[22, 22] }, type := 22, pos := "ref.go:24", after := #[{ on := 1, ground := Ground.data }, { on := 7, ground := Ground.data }], guard := none }) rfl (by rfl) (fun K hK => ?_) (AllReadyZ.cons (o := { dst := some 72, op := Op.buildSlice 22 1 #[(0, Operand.tmp 71)], type := 22, pos := "ref.go:24", after := #[{ on := 9, ground := Ground.data }], guard := none }) rfl (by rfl) (fun K hK => ?_) (AllReadyZ.nil))
            · refine step_append_cls15 (by rfl) _ _ 22 (by rfl) wX.heap.size i0 z0 Try.underlying22 hi0 hz0 hz1 hz2 hz3 (.slice (some ⟨q1, 0, none⟩) 0 0) 0 [] (by rfl) HOo.out ao L.length L.length (L.take L.length) (by rfl) HE0.out.symm (clsAt_take15 (HMX.out.below HB.out).cls L.length) (by rw [HE0.out]; omega) HB.out.size ?_
              intro v8 w8 ho8 hg8 hat8
              rw [Nat.zero_add, List.nil_append, HE0.out] at ho8
              obtain ⟨a8, c8, rfl⟩ := ownP_shape ho8
              have HO8 := Lib.hid ho8
              replace HB := Lib.hid (HB.out.grown hg8 HB.out.size (fun k hk => (HOo.out.lt k hk).1))
              clear ho8 hg8 hat8 HOo
              refine hK.out _ _ ?_ (fun hHeld => ?_)
              · exact ⟨(HMX.out.below HB.out).row.cell 0, (HXX.out.below HB.out).cell 0, (HXX.out.below HB.out).cell 1, (HXX.out.below HB.out).cell 2⟩
              clear hK K
              try simp only [Act.put, List.setIfInBounds_toArray, List.set_cons_zero, List.set_cons_succ]
              refine wpAnyZ_ready (rs := [10]) (by kernel_rfl) (by simp) ?_
              refine AllReadyZ.cons (o := { dst := some 72, op := Op.buildSlice 22 1 #[(0, Operand.tmp 71)], type := 22, pos := "ref.go:24", after := #[{ on := 9, ground := Ground.data }], guard := none }) rfl (by rfl) (fun K hK => ?_) (AllReadyZ.nil)
              go_simp
              have HNE := Lib.hid (show ∀ q, (Value.slice a8 L.length c8).ownBlock = some q → q ≠ w8.heap.size from fun q hq e => by have := (HO8.out.lt q hq).2; omega)
              have HY := Lib.hid (show RowIn (clA c) 38 (w8.alloc (.cells #[.string (S c.key), .int .i64 c.seq, .string (S c.val)] 38)) w8.heap.size from rowIn_new (clA c) 38 w8)
              replace HB := carryA (w := w8) (.cells #[.string (S c.key), .int .i64 c.seq, .string (S c.val)] 38) HB
              replace HO8 := carryA (w := w8) (.cells #[.string (S c.key), .int .i64 c.seq, .string (S c.val)] 38) HO8
              generalize hq10 : w8.heap.size = q10 at *
              generalize hw10 : w8.alloc (.cells #[.string (S c.key), .int .i64 c.seq, .string (S c.val)] 38) = w10 at *
              clear hq10 hw10
              refine hK.out _ _ ?_ (fun hHeld => ?_)
              · exact ⟨(HMX.out.below HB.out).row.cell 0, (HXX.out.below HB.out).cell 0, (HXX.out.below HB.out).cell 1, (HXX.out.below HB.out).cell 2⟩
              clear hK K
              try simp only [Act.put, List.setIfInBounds_toArray, List.set_cons_zero, List.set_cons_succ]
              refine wpAnyZ_ready (rs := [11]) (by kernel_rfl) (by simp) ?_
              refine AllReadyZ.cons (o := { dst := some 73, op := Op.call { callee := Callee.builtin Builtin.append, args := #[Operand.tmp 70, Operand.tmp 72], argTypes := #[22, 22] }, type := 22, pos := "ref.go:24", after := #[{ on := 8, ground := Ground.data }, { on := 10, ground := Ground.data }, { on := 8, ground := Ground.chain }], guard := none }) rfl (by rfl) (fun K hK => ?_) (AllReadyZ.nil)
              refine step_append_cls15 (by rfl) _ _ 22 (by rfl) wX.heap.size i0 z0 Try.underlying22 hi0 hz0 hz1 hz2 hz3 (.slice a8 L.length c8) L.length (cls (L.take L.length)) (by rfl) HO8.out (some ⟨q10, 0, none⟩) 1 1 [c] (by rfl) rfl (clsAt_row HY.out rfl) (by show L.length + 1 ≤ 1000000; omega) HB.out.size ?_
              intro v11 w11 ho11 hg11 hat11
              replace ho11 : w11.ownsRow wX.heap.size 38 3 v11 (L.length + 1) (cls (L.take L.length ++ [c])) := by rw [cls_append]; exact ho11
              obtain ⟨a11, c11, rfl⟩ := ownP_shape ho11
              have HO11 := Lib.hid ho11
              replace HB := Lib.hid (HB.out.grown hg11 HB.out.size (fun k hk => (HO8.out.lt k hk).1))
              clear ho11 hg11 hat11 HO8 HY HNE
              refine hK.out _ _ ?_ (fun hHeld => ?_)
              · exact ⟨(HMX.out.below HB.out).row.cell 0, (HXX.out.below HB.out).cell 0, (HXX.out.below HB.out).cell 1, (HXX.out.below HB.out).cell 2⟩
              clear hK K
              try simp only [Act.put, List.setIfInBounds_toArray, List.set_cons_zero, List.set_cons_succ]
              refine wpAnyZ_ready (rs := [18]) (by kernel_rfl) (by simp) ?_
              refine AllReadyZ.cons (o := { dst := some 80, op := Op.call { callee := Callee.builtin Builtin.append, args := #[Operand.tmp 73, Operand.tmp 79], argTypes := #[22, 22] }, type := 22, pos := "ref.go:24", after := #[{ on := 11, ground := Ground.data }, { on := 17, ground := Ground.data }, { on := 11, ground := Ground.chain }], guard := none }) rfl (by rfl) (fun K hK => ?_) (AllReadyZ.nil)
              refine step_append_cls15 (by rfl) _ _ 22 (by rfl) wX.heap.size i0 z0 Try.underlying22 hi0 hz0 hz1 hz2 hz3 (.slice a11 (L.length + 1) c11) (L.length + 1) (cls (L.take L.length ++ [c])) (by rfl) HO11.out ao 0 0 [] (by rfl) rfl (clsAt_nil _ _) (by show L.length + 1 + 0 ≤ 1000000; omega) HB.out.size ?_
              intro v18 w18 ho18 hg18 hat18
              replace ho18 : w18.ownsRow wX.heap.size 38 3 v18 (L.length + 1) (cls L') := by rw [HL1.out, cls_append]; exact ho18
              obtain ⟨a18, c18, rfl⟩ := ownP_shape ho18
              have HO18 := Lib.hid ho18
              replace HB := Lib.hid (HB.out.grown hg18 HB.out.size (fun k hk => (HO11.out.lt k hk).1))
              clear ho18 hg18 hat18 HO11
              refine hK.out _ _ ?_ (fun hHeld => ?_)
              · exact ⟨(HMX.out.below HB.out).row.cell 0, (HXX.out.below HB.out).cell 0, (HXX.out.below HB.out).cell 1, (HXX.out.below HB.out).cell 2⟩
              clear hK K
              try simp only [Act.put, List.setIfInBounds_toArray, List.set_cons_zero, List.set_cons_succ]
              refine wpAnyZ_takeY (i := 19) (oi := { dst := some 81, op := Op.nilCheck (Operand.tmp 62), type := 0, pos := "ref.go:24", after := #[{ on := 0, ground := Ground.data }, { on := 0, ground := Ground.phase }, { on := 1, ground := Ground.phase }, { on := 2, ground := Ground.phase }, { on := 3, ground := Ground.phase }, { on := 4, ground := Ground.phase }, { on := 5, ground := Ground.phase }, { on := 6, ground := Ground.phase }, { on := 7, ground := Ground.phase }, { on := 8, ground := Ground.phase }, { on := 9, ground := Ground.phase }, { on := 10, ground := Ground.phase }, { on := 11, ground := Ground.phase }, { on := 12, ground := Ground.phase }, { on := 13, ground := Ground.phase }, { on := 14, ground := Ground.phase }, { on := 15, ground := Ground.phase }, { on := 16, ground := Ground.phase }, { on := 17, ground := Ground.phase }, { on := 18, ground := Ground.phase }], guard := none }) (v := ?_) rfl (by kernel_rfl) (by kernel_rfl) (by kernel_rfl) (by rfl) (fun _ _ _ h => h) (Or.inl ⟨by rfl, ?_⟩) (by assumption) ?_
              rotate_left
              · (intro w; go_simp); (first | done | with_reducible rfl)
              try simp only [Act.put, List.setIfInBounds_toArray, List.set_cons_zero, List.set_cons_succ]
              refine wpAnyZ_takeY (i := 20) (oi := { dst := some 82, op := Op.fieldAddr 78 (Operand.tmp 81) 0, type := 0, pos := "ref.go:24", after := #[{ on := 19, ground := Ground.data }, { on := 0, ground := Ground.phase }, { on := 1, ground := Ground.phase }, { on := 2, ground := Ground.phase }, { on := 3, ground := Ground.phase }, { on := 4, ground := Ground.phase }, { on := 5, ground := Ground.phase }, { on := 6, ground := Ground.phase }, { on := 7, ground := Ground.phase }, { on := 8, ground := Ground.phase }, { on := 9, ground := Ground.phase }, { on := 10, ground := Ground.phase }, { on := 11, ground := Ground.phase }, { on := 12, ground := Ground.phase }, { on := 13, ground := Ground.phase }, { on := 14, ground := Ground.phase }, { on := 15, ground := Ground.phase }, { on := 16, ground := Ground.phase }, { on := 17, ground := Ground.phase }, { on := 18, ground := Ground.phase }], guard := none }) (v := ?_) rfl (by kernel_rfl) (by kernel_rfl) (by kernel_rfl) (by rfl) (fun _ _ _ h => h) (Or.inl ⟨by rfl, ?_⟩) (by assumption) ?_
              rotate_left
              · (intro w; go_simp); (first | done | with_reducible rfl)
              try simp only [Act.put, List.setIfInBounds_toArray, List.set_cons_zero, List.set_cons_succ]
              refine wpAnyZ_ready (rs := [21]) (by kernel_rfl) (by simp) ?_
              refine AllReadyZ.last (o := { dst := none, op := Op.store 22 (Operand.tmp 82) (Operand.tmp 80), type := 0, pos := "ref.go:24", after := #[{ on := 20, ground := Ground.data }, { on := 18, ground := Ground.data }, { on := 18, ground := Ground.chain }, { on := 0, ground := Ground.phase }, { on := 1, ground := Ground.phase }, { on := 2, ground := Ground.phase }, { on := 3, ground := Ground.phase }, { on := 4, ground := Ground.phase }, { on := 5, ground := Ground.phase }, { on := 6, ground := Ground.phase }, { on := 7, ground := Ground.phase }, { on := 8, ground := Ground.phase }, { on := 9, ground := Ground.phase }, { on := 10, ground := Ground.phase }, { on := 11, ground := Ground.phase }, { on := 12, ground := Ground.phase }, { on := 13, ground := Ground.phase }, { on := 14, ground := Ground.phase }, { on := 15, ground := Ground.phase }, { on := 16, ground := Ground.phase }, { on := 17, ground := Ground.phase }, { on := 18, ground := Ground.phase }], guard := none }) rfl (fun K hK => ?_) AllReadyZ.nil
              have f0 := (HMX.out.below HB.out).row.free 0
              have m0 := (HMX.out.below HB.out).row.cell 0
              go_simp
              refine hK.out _ _ ?_
              clear hK K
              refine wpAny_done (by kernel_rfl) ?_ _
              have HF := Lib.hid (refFin15 HMX.out HB0.out HB.out HO18.out HLL.out)
              clear HO18
              go_wp2_with fail
              go_ret
              exact ⟨rfl, a18, c18, HF.out.1, HF.out.2.1, HF.out.2.2⟩
            · go_simp
              have HNE := Lib.hid (show q1 ≠ w1.heap.size from fun e => by have := (HOo.out.lt q1 rfl).2; omega)
              have HY := Lib.hid (show RowIn (clA c) 38 (w1.alloc (.cells #[.string (S c.key), .int .i64 c.seq, .string (S c.val)] 38)) w1.heap.size from rowIn_new (clA c) 38 w1)
              replace HB := carryA (w := w1) (.cells #[.string (S c.key), .int .i64 c.seq, .string (S c.val)] 38) HB
              replace HOo := carryA (w := w1) (.cells #[.string (S c.key), .int .i64 c.seq, .string (S c.val)] 38) HOo
              generalize hq10 : w1.heap.size = q10 at *
              generalize hw10 : w1.alloc (.cells #[.string (S c.key), .int .i64 c.seq, .string (S c.val)] 38) = w10 at *
              clear hq10 hw10
              refine hK.out _ _ ?_ (fun hHeld => ?_)
              · exact ⟨(HMX.out.below HB.out).row.cell 0, (HXX.out.below HB.out).cell 0, (HXX.out.below HB.out).cell 1, (HXX.out.below HB.out).cell 2⟩
              clear hK K
              try simp only [Act.put, List.setIfInBounds_toArray, List.set_cons_zero, List.set_cons_succ]
              refine wpAnyZ_ready (rs := [8]) (by kernel_rfl) (by simp) ?_
              refine AllReadyZ.cons (o := { dst := some 70, op := Op.call { callee := Callee.builtin Builtin.append, args := #[Operand.tmp 63, Operand.tmp 69], argTypes := #[22, 22] }, type := 22, pos := "ref.go:24", after := #[{ on := 1, ground := Ground.data }, { on := 7, ground := Ground.data }], guard := none }) rfl (by rfl) (fun K hK => ?_) (AllReadyZ.nil)
              refine step_append_cls15 (by rfl) _ _ 22 (by rfl) wX.heap.size i0 z0 Try.underlying22 hi0 hz0 hz1 hz2 hz3 (.slice (some ⟨q1, 0, none⟩) 0 0) 0 [] (by rfl) HOo.out ao L.length L.length (L.take L.length) (by rfl) HE0.out.symm (clsAt_take15 (HMX.out.below HB.out).cls L.length) (by rw [HE0.out]; omega) HB.out.size ?_
              intro v8 w8 ho8 hg8 hat8
              rw [Nat.zero_add, List.nil_append, HE0.out] at ho8
              obtain ⟨a8, c8, rfl⟩ := ownP_shape ho8
              have HO8 := Lib.hid ho8
              replace HB := Lib.hid (HB.out.grown hg8 HB.out.size (fun k hk => (HOo.out.lt k hk).1))
              have HYL := Lib.hid (show q10 < w10.heap.size from HY.out.lt)
              replace HY := Lib.hid (row_kept10 HY.out hg8 (fun e => HNE.out (by cases e; rfl)))
              replace HNE := Lib.hid (show ∀ q, (Value.slice a8 L.length c8).ownBlock = some q → q ≠ q10 from fun q hq e => by rcases hat8 with h | h; exact HNE.out (by rw [hq] at h; cases h; exact e); rw [hq] at h; cases h; have := HYL.out; omega)
              clear HYL
              clear ho8 hg8 hat8 HOo
              refine hK.out _ _ ?_ (fun hHeld => ?_)
              · exact ⟨(HMX.out.below HB.out).row.cell 0, (HXX.out.below HB.out).cell 0, (HXX.out.below HB.out).cell 1, (HXX.out.below HB.out).cell 2⟩
              clear hK K
              try simp only [Act.put, List.setIfInBounds_toArray, List.set_cons_zero, List.set_cons_succ]
              refine wpAnyZ_ready (rs := [11]) (by kernel_rfl) (by simp) ?_
              refine AllReadyZ.cons (o := { dst := some 73, op := Op.call { callee := Callee.builtin Builtin.append, args := #[Operand.tmp 70, Operand.tmp 72], argTypes := #[22, 22] }, type := 22, pos := "ref.go:24", after := #[{ on := 8, ground := Ground.data }, { on := 10, ground := Ground.data }, { on := 8, ground := Ground.chain }], guard := none }) rfl (by rfl) (fun K hK => ?_) (AllReadyZ.nil)
              refine step_append_cls15 (by rfl) _ _ 22 (by rfl) wX.heap.size i0 z0 Try.underlying22 hi0 hz0 hz1 hz2 hz3 (.slice a8 L.length c8) L.length (cls (L.take L.length)) (by rfl) HO8.out (some ⟨q10, 0, none⟩) 1 1 [c] (by rfl) rfl (clsAt_row HY.out rfl) (by show L.length + 1 ≤ 1000000; omega) HB.out.size ?_
              intro v11 w11 ho11 hg11 hat11
              replace ho11 : w11.ownsRow wX.heap.size 38 3 v11 (L.length + 1) (cls (L.take L.length ++ [c])) := by rw [cls_append]; exact ho11
              obtain ⟨a11, c11, rfl⟩ := ownP_shape ho11
              have HO11 := Lib.hid ho11
              replace HB := Lib.hid (HB.out.grown hg11 HB.out.size (fun k hk => (HO8.out.lt k hk).1))
              clear ho11 hg11 hat11 HO8 HY HNE
              refine hK.out _ _ ?_ (fun hHeld => ?_)
              · exact ⟨(HMX.out.below HB.out).row.cell 0, (HXX.out.below HB.out).cell 0, (HXX.out.below HB.out).cell 1, (HXX.out.below HB.out).cell 2⟩
              clear hK K
              try simp only [Act.put, List.setIfInBounds_toArray, List.set_cons_zero, List.set_cons_succ]
              refine wpAnyZ_ready (rs := [18]) (by kernel_rfl) (by simp) ?_
              refine AllReadyZ.cons (o := { dst := some 80, op := Op.call { callee := Callee.builtin Builtin.append, args := #[Operand.tmp 73, Operand.tmp 79], argTypes := #[22, 22] }, type := 22, pos := "ref.go:24", after := #[{ on := 11, ground := Ground.data }, { on := 17, ground := Ground.data }, { on := 11, ground := Ground.chain }], guard := none }) rfl (by rfl) (fun K hK => ?_) (AllReadyZ.nil)
              refine step_append_cls15 (by rfl) _ _ 22 (by rfl) wX.heap.size i0 z0 Try.underlying22 hi0 hz0 hz1 hz2 hz3 (.slice a11 (L.length + 1) c11) (L.length + 1) (cls (L.take L.length ++ [c])) (by rfl) HO11.out ao 0 0 [] (by rfl) rfl (clsAt_nil _ _) (by show L.length + 1 + 0 ≤ 1000000; omega) HB.out.size ?_
              intro v18 w18 ho18 hg18 hat18
              replace ho18 : w18.ownsRow wX.heap.size 38 3 v18 (L.length + 1) (cls L') := by rw [HL1.out, cls_append]; exact ho18
              obtain ⟨a18, c18, rfl⟩ := ownP_shape ho18
              have HO18 := Lib.hid ho18
              replace HB := Lib.hid (HB.out.grown hg18 HB.out.size (fun k hk => (HO11.out.lt k hk).1))
              clear ho18 hg18 hat18 HO11
              refine hK.out _ _ ?_ (fun hHeld => ?_)
              · exact ⟨(HMX.out.below HB.out).row.cell 0, (HXX.out.below HB.out).cell 0, (HXX.out.below HB.out).cell 1, (HXX.out.below HB.out).cell 2⟩
              clear hK K
              try simp only [Act.put, List.setIfInBounds_toArray, List.set_cons_zero, List.set_cons_succ]
              refine wpAnyZ_takeY (i := 19) (oi := { dst := some 81, op := Op.nilCheck (Operand.tmp 62), type := 0, pos := "ref.go:24", after := #[{ on := 0, ground := Ground.data }, { on := 0, ground := Ground.phase }, { on := 1, ground := Ground.phase }, { on := 2, ground := Ground.phase }, { on := 3, ground := Ground.phase }, { on := 4, ground := Ground.phase }, { on := 5, ground := Ground.phase }, { on := 6, ground := Ground.phase }, { on := 7, ground := Ground.phase }, { on := 8, ground := Ground.phase }, { on := 9, ground := Ground.phase }, { on := 10, ground := Ground.phase }, { on := 11, ground := Ground.phase }, { on := 12, ground := Ground.phase }, { on := 13, ground := Ground.phase }, { on := 14, ground := Ground.phase }, { on := 15, ground := Ground.phase }, { on := 16, ground := Ground.phase }, { on := 17, ground := Ground.phase }, { on := 18, ground := Ground.phase }], guard := none }) (v := ?_) rfl (by kernel_rfl) (by kernel_rfl) (by kernel_rfl) (by rfl) (fun _ _ _ h => h) (Or.inl ⟨by rfl, ?_⟩) (by assumption) ?_
              rotate_left
              · (intro w; go_simp); (first | done | with_reducible rfl)
              try simp only [Act.put, List.setIfInBounds_toArray, List.set_cons_zero, List.set_cons_succ]
              refine wpAnyZ_takeY (i := 20) (oi := { dst := some 82, op := Op.fieldAddr 78 (Operand.tmp 81) 0, type := 0, pos := "ref.go:24", after := #[{ on := 19, ground := Ground.data }, { on := 0, ground := Ground.phase }, { on := 1, ground := Ground.phase }, { on := 2, ground := Ground.phase }, { on := 3, ground := Ground.phase }, { on := 4, ground := Ground.phase }, { on := 5, ground := Ground.phase }, { on := 6, ground := Ground.phase }, { on := 7, ground := Ground.phase }, { on := 8, ground := Ground.phase }, { on := 9, ground := Ground.phase }, { on := 10, ground := Ground.phase }, { on := 11, ground := Ground.phase }, { on := 12, ground := Ground.phase }, { on := 13, ground := Ground.phase }, { on := 14, ground := Ground.phase }, { on := 15, ground := Ground.phase }, { on := 16, ground := Ground.phase }, { on := 17, ground := Ground.phase }, { on := 18, ground := Ground.phase }], guard := none }) (v := ?_) rfl (by kernel_rfl) (by kernel_rfl) (by kernel_rfl) (by rfl) (fun _ _ _ h => h) (Or.inl ⟨by rfl, ?_⟩) (by assumption) ?_
              rotate_left
              · (intro w; go_simp); (first | done | with_reducible rfl)
              try simp only [Act.put, List.setIfInBounds_toArray, List.set_cons_zero, List.set_cons_succ]
              refine wpAnyZ_ready (rs := [21]) (by kernel_rfl) (by simp) ?_
              refine AllReadyZ.last (o := { dst := none, op := Op.store 22 (Operand.tmp 82) (Operand.tmp 80), type := 0, pos := "ref.go:24", after := #[{ on := 20, ground := Ground.data }, { on := 18, ground := Ground.data }, { on := 18, ground := Ground.chain }, { on := 0, ground := Ground.phase }, { on := 1, ground := Ground.phase }, { on := 2, ground := Ground.phase }, { on := 3, ground := Ground.phase }, { on := 4, ground := Ground.phase }, { on := 5, ground := Ground.phase }, { on := 6, ground := Ground.phase }, { on := 7, ground := Ground.phase }, { on := 8, ground := Ground.phase }, { on := 9, ground := Ground.phase }, { on := 10, ground := Ground.phase }, { on := 11, ground := Ground.phase }, { on := 12, ground := Ground.phase }, { on := 13, ground := Ground.phase }, { on := 14, ground := Ground.phase }, { on := 15, ground := Ground.phase }, { on := 16, ground := Ground.phase }, { on := 17, ground := Ground.phase }, { on := 18, ground := Ground.phase }], guard := none }) rfl (fun K hK => ?_) AllReadyZ.nil
              have f0 := (HMX.out.below HB.out).row.free 0
              have m0 := (HMX.out.below HB.out).row.cell 0
              go_simp
              refine hK.out _ _ ?_
              clear hK K
              refine wpAny_done (by kernel_rfl) ?_ _
              have HF := Lib.hid (refFin15 HMX.out HB0.out HB.out HO18.out HLL.out)
              clear HO18
              go_wp2_with fail
              go_ret
              exact ⟨rfl, a18, c18, HF.out.1, HF.out.2.1, HF.out.2.2⟩
          · go_simp
            have HY := Lib.hid (show RowIn (clA c) 38 (wr.alloc (.cells #[.string (S c.key), .int .i64 c.seq, .string (S c.val)] 38)) wr.heap.size from rowIn_new (clA c) 38 wr)
            replace HB := carryA (w := wr) (.cells #[.string (S c.key), .int .i64 c.seq, .string (S c.val)] 38) HB
            generalize hq10 : wr.heap.size = q10 at *
            generalize hw10 : wr.alloc (.cells #[.string (S c.key), .int .i64 c.seq, .string (S c.val)] 38) = w10 at *
            clear hq10 hw10
            have HYL := Lib.hid HY.out.lt
            refine hK.out _ _ ?_ (fun hHeld => ?_)
            · exact ⟨(HMX.out.below HB.out).row.cell 0, (HXX.out.below HB.out).cell 0, (HXX.out.below HB.out).cell 1, (HXX.out.below HB.out).cell 2⟩
            clear hK K
            try simp only [Act.put, List.setIfInBounds_toArray, List.set_cons_zero, List.set_cons_succ]
            refine wpAnyZ_ready (rs := [1]) (by kernel_rfl) (by simp) ?_
            refine AllReadyZ.cons (o := { dst := some 63, op := Op.buildSlice 22 0 #[], type := 22, pos := "ref.go:24", after := #[], guard := none }) rfl (by rfl) (fun K hK => ?_) (AllReadyZ.nil)
            go_simp
            have HOo := Lib.hid (World.ownsRow_made (base := wX.heap.size) (e := 38) (size := 3) w10 #[] 0 HB.out.size (Nat.zero_le _) rfl)
            replace HB := carryA (w := w10) (.cells #[] 38) HB
            replace HY := carryA (w := w10) (.cells #[] 38) HY
            have HNE := Lib.hid (show w10.heap.size ≠ q10 from fun e => by have := HYL.out; omega)
            generalize hq1 : w10.heap.size = q1 at *
            generalize hw1 : w10.alloc (.cells #[] 38) = w1 at *
            clear hq1 hw1
            refine hK.out _ _ ?_ (fun hHeld => ?_)
            · exact ⟨(HMX.out.below HB.out).row.cell 0, (HXX.out.below HB.out).cell 0, (HXX.out.below HB.out).cell 1, (HXX.out.below HB.out).cell 2⟩
            clear hK K
            try simp only [Act.put, List.setIfInBounds_toArray, List.set_cons_zero, List.set_cons_succ]
            refine wpAnyZ_ready (rs := [8]) (by kernel_rfl) (by simp) ?_
            refine AllReadyZ.cons (o := { dst := some 70, op := Op.call { callee := Callee.builtin Builtin.append, args := #[Operand.tmp 63, Operand.tmp 69], argTypes := #[22, 22] }, type := 22, pos := "ref.go:24", after := #[{ on := 1, ground := Ground.data }, { on := 7, ground := Ground.data }], guard := none }) rfl (by rfl) (fun K hK => ?_) (AllReadyZ.nil)
            refine step_append_cls15 (by rfl) _ _ 22 (by rfl) wX.heap.size i0 z0 Try.underlying22 hi0 hz0 hz1 hz2 hz3 (.slice (some ⟨q1, 0, none⟩) 0 0) 0 [] (by rfl) HOo.out ao L.length L.length (L.take L.length) (by rfl) HE0.out.symm (clsAt_take15 (HMX.out.below HB.out).cls L.length) (by rw [HE0.out]; omega) HB.out.size ?_
            intro v8 w8 ho8 hg8 hat8
            rw [Nat.zero_add, List.nil_append, HE0.out] at ho8
            obtain ⟨a8, c8, rfl⟩ := ownP_shape ho8
            have HO8 := Lib.hid ho8
            replace HB := Lib.hid (HB.out.grown hg8 HB.out.size (fun k hk => (HOo.out.lt k hk).1))
            have HYL := Lib.hid (show q10 < w1.heap.size from HY.out.lt)
            replace HY := Lib.hid (row_kept10 HY.out hg8 (fun e => HNE.out (by cases e; rfl)))
            replace HNE := Lib.hid (show ∀ q, (Value.slice a8 L.length c8).ownBlock = some q → q ≠ q10 from fun q hq e => by rcases hat8 with h | h; exact HNE.out (by rw [hq] at h; cases h; exact e); rw [hq] at h; cases h; have := HYL.out; omega)
            clear HYL
            clear ho8 hg8 hat8 HOo
            refine hK.out _ _ ?_ (fun hHeld => ?_)
            · exact ⟨(HMX.out.below HB.out).row.cell 0, (HXX.out.below HB.out).cell 0, (HXX.out.below HB.out).cell 1, (HXX.out.below HB.out).cell 2⟩
            clear hK K
            try simp only [Act.put, List.setIfInBounds_toArray, List.set_cons_zero, List.set_cons_succ]
            refine wpAnyZ_ready (rs := [11]) (by kernel_rfl) (by simp) ?_
            refine AllReadyZ.cons (o := { dst := some 73, op := Op.call { callee := Callee.builtin Builtin.append, args := #[Operand.tmp 70, Operand.tmp 72], argTypes := #[22, 22] }, type := 22, pos := "ref.go:24", after := #[{ on := 8, ground := Ground.data }, { on := 10, ground := Ground.data }, { on := 8, ground := Ground.chain }], guard := none }) rfl (by rfl) (fun K hK => ?_) (AllReadyZ.nil)
            refine step_append_cls15 (by rfl) _ _ 22 (by rfl) wX.heap.size i0 z0 Try.underlying22 hi0 hz0 hz1 hz2 hz3 (.slice a8 L.length c8) L.length (cls (L.take L.length)) (by rfl) HO8.out (some ⟨q10, 0, none⟩) 1 1 [c] (by rfl) rfl (clsAt_row HY.out rfl) (by show L.length + 1 ≤ 1000000; omega) HB.out.size ?_
            intro v11 w11 ho11 hg11 hat11
            replace ho11 : w11.ownsRow wX.heap.size 38 3 v11 (L.length + 1) (cls (L.take L.length ++ [c])) := by rw [cls_append]; exact ho11
            obtain ⟨a11, c11, rfl⟩ := ownP_shape ho11
            have HO11 := Lib.hid ho11
            replace HB := Lib.hid (HB.out.grown hg11 HB.out.size (fun k hk => (HO8.out.lt k hk).1))
            clear ho11 hg11 hat11 HO8 HY HNE
            refine hK.out _ _ ?_ (fun hHeld => ?_)
            · exact ⟨(HMX.out.below HB.out).row.cell 0, (HXX.out.below HB.out).cell 0, (HXX.out.below HB.out).cell 1, (HXX.out.below HB.out).cell 2⟩
            clear hK K
            try simp only [Act.put, List.setIfInBounds_toArray, List.set_cons_zero, List.set_cons_succ]
            refine wpAnyZ_ready (rs := [18]) (by kernel_rfl) (by simp) ?_
            refine AllReadyZ.cons (o := { dst := some 80, op := Op.call { callee := Callee.builtin Builtin.append, args := #[Operand.tmp 73, Operand.tmp 79], argTypes := #[22, 22] }, type := 22, pos := "ref.go:24", after := #[{ on := 11, ground := Ground.data }, { on := 17, ground := Ground.data }, { on := 11, ground := Ground.chain }], guard := none }) rfl (by rfl) (fun K hK => ?_) (AllReadyZ.nil)
            refine step_append_cls15 (by rfl) _ _ 22 (by rfl) wX.heap.size i0 z0 Try.underlying22 hi0 hz0 hz1 hz2 hz3 (.slice a11 (L.length + 1) c11) (L.length + 1) (cls (L.take L.length ++ [c])) (by rfl) HO11.out ao 0 0 [] (by rfl) rfl (clsAt_nil _ _) (by show L.length + 1 + 0 ≤ 1000000; omega) HB.out.size ?_
            intro v18 w18 ho18 hg18 hat18
            replace ho18 : w18.ownsRow wX.heap.size 38 3 v18 (L.length + 1) (cls L') := by rw [HL1.out, cls_append]; exact ho18
            obtain ⟨a18, c18, rfl⟩ := ownP_shape ho18
            have HO18 := Lib.hid ho18
            replace HB := Lib.hid (HB.out.grown hg18 HB.out.size (fun k hk => (HO11.out.lt k hk).1))
            clear ho18 hg18 hat18 HO11
            refine hK.out _ _ ?_ (fun hHeld => ?_)
            · exact ⟨(HMX.out.below HB.out).row.cell 0, (HXX.out.below HB.out).cell 0, (HXX.out.below HB.out).cell 1, (HXX.out.below HB.out).cell 2⟩
            clear hK K
            try simp only [Act.put, List.setIfInBounds_toArray, List.set_cons_zero, List.set_cons_succ]
            refine wpAnyZ_takeY (i := 19) (oi := { dst := some 81, op := Op.nilCheck (Operand.tmp 62), type := 0, pos := "ref.go:24", after := #[{ on := 0, ground := Ground.data }, { on := 0, ground := Ground.phase }, { on := 1, ground := Ground.phase }, { on := 2, ground := Ground.phase }, { on := 3, ground := Ground.phase }, { on := 4, ground := Ground.phase }, { on := 5, ground := Ground.phase }, { on := 6, ground := Ground.phase }, { on := 7, ground := Ground.phase }, { on := 8, ground := Ground.phase }, { on := 9, ground := Ground.phase }, { on := 10, ground := Ground.phase }, { on := 11, ground := Ground.phase }, { on := 12, ground := Ground.phase }, { on := 13, ground := Ground.phase }, { on := 14, ground := Ground.phase }, { on := 15, ground := Ground.phase }, { on := 16, ground := Ground.phase }, { on := 17, ground := Ground.phase }, { on := 18, ground := Ground.phase }], guard := none }) (v := ?_) rfl (by kernel_rfl) (by kernel_rfl) (by kernel_rfl) (by rfl) (fun _ _ _ h => h) (Or.inl ⟨by rfl, ?_⟩) (by assumption) ?_
            rotate_left
            · (intro w; go_simp); (first | done | with_reducible rfl)
            try simp only [Act.put, List.setIfInBounds_toArray, List.set_cons_zero, List.set_cons_succ]
            refine wpAnyZ_takeY (i := 20) (oi := { dst := some 82, op := Op.fieldAddr 78 (Operand.tmp 81) 0, type := 0, pos := "ref.go:24", after := #[{ on := 19, ground := Ground.data }, { on := 0, ground := Ground.phase }, { on := 1, ground := Ground.phase }, { on := 2, ground := Ground.phase }, { on := 3, ground := Ground.phase }, { on := 4, ground := Ground.phase }, { on := 5, ground := Ground.phase }, { on := 6, ground := Ground.phase }, { on := 7, ground := Ground.phase }, { on := 8, ground := Ground.phase }, { on := 9, ground := Ground.phase }, { on := 10, ground := Ground.phase }, { on := 11, ground := Ground.phase }, { on := 12, ground := Ground.phase }, { on := 13, ground := Ground.phase }, { on := 14, ground := Ground.phase }, { on := 15, ground := Ground.phase }, { on := 16, ground := Ground.phase }, { on := 17, ground := Ground.phase }, { on := 18, ground := Ground.phase }], guard := none }) (v := ?_) rfl (by kernel_rfl) (by kernel_rfl) (by kernel_rfl) (by rfl) (fun _ _ _ h => h) (Or.inl ⟨by rfl, ?_⟩) (by assumption) ?_
            rotate_left
            · (intro w; go_simp); (first | done | with_reducible rfl)
            try simp only [Act.put, List.setIfInBounds_toArray, List.set_cons_zero, List.set_cons_succ]
            refine wpAnyZ_ready (rs := [21]) (by kernel_rfl) (by simp) ?_
            refine AllReadyZ.last (o := { dst := none, op := Op.store 22 (Operand.tmp 82) (Operand.tmp 80), type := 0, pos := "ref.go:24", after := #[{ on := 20, ground := Ground.data }, { on := 18, ground := Ground.data }, { on := 18, ground := Ground.chain }, { on := 0, ground := Ground.phase }, { on := 1, ground := Ground.phase }, { on := 2, ground := Ground.phase }, { on := 3, ground := Ground.phase }, { on := 4, ground := Ground.phase }, { on := 5, ground := Ground.phase }, { on := 6, ground := Ground.phase }, { on := 7, ground := Ground.phase }, { on := 8, ground := Ground.phase }, { on := 9, ground := Ground.phase }, { on := 10, ground := Ground.phase }, { on := 11, ground := Ground.phase }, { on := 12, ground := Ground.phase }, { on := 13, ground := Ground.phase }, { on := 14, ground := Ground.phase }, { on := 15, ground := Ground.phase }, { on := 16, ground := Ground.phase }, { on := 17, ground := Ground.phase }, { on := 18, ground := Ground.phase }], guard := none }) rfl (fun K hK => ?_) AllReadyZ.nil
            have f0 := (HMX.out.below HB.out).row.free 0
            have m0 := (HMX.out.below HB.out).row.cell 0
            go_simp
            refine hK.out _ _ ?_
            clear hK K
            refine wpAny_done (by kernel_rfl) ?_ _
            have HF := Lib.hid (refFin15 HMX.out HB0.out HB.out HO18.out HLL.out)
            clear HO18
            go_wp2_with fail
            go_ret
            exact ⟨rfl, a18, c18, HF.out.1, HF.out.2.1, HF.out.2.2⟩
        · obtain ⟨g, off, rfl⟩ := HEM.out hcL
          have e0 : (L.take L.length).length = L.length := by rw [List.length_take]; omega
          have HE0 := Lib.hid e0
          have HL1 := Lib.hid (show L' = (L.take L.length ++ [c]) ++ [] from by rw [HPL.out]; simp)
          have HLL := Lib.hid (show L'.length = L.length + 1 from by rw [HL1.out]; simp)
          have bq0 : (0 : Int) ≤ (L.length : Int) := by omega
          clear HPL e0
          have hcq : ¬ cap = L.length := hcL
          have bq1 : (L.length : Int) ≤ (L.length : Int) := by omega
          have bq2 : (L.length : Int) ≤ (cap : Int) := by omega
          go_wp2_with fail
          refine wp_region_Z (S := fun V => V.cell? ⟨b, 0, none⟩ = some (.slice (some ⟨g, off, none⟩) L.length cap) ∧ V.cell? ⟨X, 0, none⟩ = some (.string (S c.key)) ∧ V.cell? ⟨X, 1, none⟩ = some (.int .i64 c.seq) ∧ V.cell? ⟨X, 2, none⟩ = some (.string (S c.val))) 21 (by kernel_rfl) ?_ (fun hHeld => ?_)
          · exact ⟨(HMX.out.below HB.out.drew).row.cell 0, (HXX.out.below HB.out.drew).cell 0, (HXX.out.below HB.out.drew).cell 1, (HXX.out.below HB.out.drew).cell 2⟩
          replace HB := Lib.hid HB.out.drew
          obtain ⟨wr, hwr⟩ : ∃ x, x = World.drew wq := ⟨_, rfl⟩
          rw [← hwr] at HB hHeld ⊢
          clear hwr
          refine wpAnyZ_takeY (i := 0) (oi := { dst := some 62, op := Op.move (Operand.tmp 0), type := 76, pos := "ref.go:24", after := #[], guard := none }) (v := ?_) rfl (by kernel_rfl) (by kernel_rfl) (by kernel_rfl) (by rfl) (fun _ _ _ h => h) (Or.inl ⟨by rfl, ?_⟩) (by assumption) ?_
          rotate_left
          · (intro w; go_simp); (first | done | with_reducible rfl)
          try simp only [Act.put, List.setIfInBounds_toArray, List.set_cons_zero, List.set_cons_succ]
          refine wpAnyZ_takeY (i := 2) (oi := { dst := some 64, op := Op.move (Operand.tmp 0), type := 76, pos := "ref.go:24", after := #[], guard := none }) (v := ?_) rfl (by kernel_rfl) (by kernel_rfl) (by kernel_rfl) (by rfl) (fun _ _ _ h => h) (Or.inl ⟨by rfl, ?_⟩) (by assumption) ?_
          rotate_left
          · (intro w; go_simp); (first | done | with_reducible rfl)
          try simp only [Act.put, List.setIfInBounds_toArray, List.set_cons_zero, List.set_cons_succ]
          refine wpAnyZ_takeY (i := 3) (oi := { dst := some 65, op := Op.nilCheck (Operand.tmp 64), type := 0, pos := "ref.go:24", after := #[{ on := 2, ground := Ground.data }], guard := none }) (v := ?_) rfl (by kernel_rfl) (by kernel_rfl) (by kernel_rfl) (by rfl) (fun _ _ _ h => h) (Or.inl ⟨by rfl, ?_⟩) (by assumption) ?_
          rotate_left
          · (intro w; go_simp); (first | done | with_reducible rfl)
          try simp only [Act.put, List.setIfInBounds_toArray, List.set_cons_zero, List.set_cons_succ]
          refine wpAnyZ_takeY (i := 4) (oi := { dst := some 66, op := Op.fieldAddr 78 (Operand.tmp 65) 0, type := 0, pos := "ref.go:24", after := #[{ on := 3, ground := Ground.data }], guard := none }) (v := ?_) rfl (by kernel_rfl) (by kernel_rfl) (by kernel_rfl) (by rfl) (fun _ _ _ h => h) (Or.inl ⟨by rfl, ?_⟩) (by assumption) ?_
          rotate_left
          · (intro w; go_simp); (first | done | with_reducible rfl)
          try simp only [Act.put, List.setIfInBounds_toArray, List.set_cons_zero, List.set_cons_succ]
          refine wpAnyZ_take (i := 5) (oi := { dst := some 67, op := Op.load 22 (Operand.tmp 66), type := 22, pos := "ref.go:24", after := #[{ on := 4, ground := Ground.data }], guard := none }) (v := ?_) [7, 8, 11, 18, 19, 20, 21] rfl (by kernel_rfl) (by kernel_rfl) (by kernel_rfl) (by kernel_rfl) (fun _ _ _ h => h) (Or.inl ⟨by rfl, ?_⟩) (by assumption) ?_
          rotate_left
          · (intro w hSw; (try dsimp only at hSw); go_simp); (first | done | with_reducible rfl)
          try simp only [Act.put, List.setIfInBounds_toArray, List.set_cons_zero, List.set_cons_succ]
          refine wpAnyZ_takeY (i := 6) (oi := { dst := some 68, op := Op.move (Operand.tmp 5), type := 3, pos := "ref.go:24", after := #[], guard := none }) (v := ?_) rfl (by kernel_rfl) (by kernel_rfl) (by kernel_rfl) (by rfl) (fun _ _ _ h => h) (Or.inl ⟨by rfl, ?_⟩) (by assumption) ?_
          rotate_left
          · (intro w; go_simp); (first | done | with_reducible rfl)
          try simp only [Act.put, List.setIfInBounds_toArray, List.set_cons_zero, List.set_cons_succ]
          refine wpAnyZ_takeY (i := 7) (oi := { dst := some 69, op := Op.slice 22 (Operand.tmp 67) none (some (Operand.tmp 68)) none, type := 22, pos := "ref.go:24", after := #[{ on := 5, ground := Ground.data }, { on := 6, ground := Ground.data }], guard := none }) (v := ?_) rfl (by kernel_rfl) (by kernel_rfl) (by kernel_rfl) (by rfl) (fun _ _ _ h => h) (Or.inl ⟨by rfl, ?_⟩) (by assumption) ?_
          rotate_left
          · (intro w; go_simp); (first | done | with_reducible rfl)
          try simp only [Act.put, List.setIfInBounds_toArray, List.set_cons_zero, List.set_cons_succ]
          refine wpAnyZ_take (i := 9) (oi := { dst := some 71, op := Op.load 38 (Operand.tmp 3), type := 38, pos := "ref.go:24", after := #[], guard := none }) (v := ?_) [10, 11, 18, 19, 20, 21] rfl (by kernel_rfl) (by kernel_rfl) (by kernel_rfl) (by kernel_rfl) (fun _ _ _ h => h) (Or.inl ⟨by rfl, ?_⟩) (by assumption) ?_
          rotate_left
          · (intro w hSw; (try dsimp only at hSw); go_simp); (first | done | with_reducible rfl)
          try simp only [Act.put, List.setIfInBounds_toArray, List.set_cons_zero, List.set_cons_succ]
          refine wpAnyZ_takeY (i := 12) (oi := { dst := some 74, op := Op.move (Operand.tmp 0), type := 76, pos := "ref.go:24", after := #[], guard := none }) (v := ?_) rfl (by kernel_rfl) (by kernel_rfl) (by kernel_rfl) (by rfl) (fun _ _ _ h => h) (Or.inl ⟨by rfl, ?_⟩) (by assumption) ?_
          rotate_left
          · (intro w; go_simp); (first | done | with_reducible rfl)
          try simp only [Act.put, List.setIfInBounds_toArray, List.set_cons_zero, List.set_cons_succ]
          refine wpAnyZ_takeY (i := 13) (oi := { dst := some 75, op := Op.nilCheck (Operand.tmp 74), type := 0, pos := "ref.go:24", after := #[{ on := 12, ground := Ground.data }], guard := none }) (v := ?_) rfl (by kernel_rfl) (by kernel_rfl) (by kernel_rfl) (by rfl) (fun _ _ _ h => h) (Or.inl ⟨by rfl, ?_⟩) (by assumption) ?_
          rotate_left
          · (intro w; go_simp); (first | done | with_reducible rfl)
          try simp only [Act.put, List.setIfInBounds_toArray, List.set_cons_zero, List.set_cons_succ]
          refine wpAnyZ_takeY (i := 14) (oi := { dst := some 76, op := Op.fieldAddr 78 (Operand.tmp 75) 0, type := 0, pos := "ref.go:24", after := #[{ on := 13, ground := Ground.data }], guard := none }) (v := ?_) rfl (by kernel_rfl) (by kernel_rfl) (by kernel_rfl) (by rfl) (fun _ _ _ h => h) (Or.inl ⟨by rfl, ?_⟩) (by assumption) ?_
          rotate_left
          · (intro w; go_simp); (first | done | with_reducible rfl)
          try simp only [Act.put, List.setIfInBounds_toArray, List.set_cons_zero, List.set_cons_succ]
          refine wpAnyZ_take (i := 15) (oi := { dst := some 77, op := Op.load 22 (Operand.tmp 76), type := 22, pos := "ref.go:24", after := #[{ on := 14, ground := Ground.data }], guard := none }) (v := ?_) [17, 18, 19, 20, 21] rfl (by kernel_rfl) (by kernel_rfl) (by kernel_rfl) (by kernel_rfl) (fun _ _ _ h => h) (Or.inl ⟨by rfl, ?_⟩) (by assumption) ?_
          rotate_left
          · (intro w hSw; (try dsimp only at hSw); go_simp); (first | done | with_reducible rfl)
          try simp only [Act.put, List.setIfInBounds_toArray, List.set_cons_zero, List.set_cons_succ]
          refine wpAnyZ_takeY (i := 16) (oi := { dst := some 78, op := Op.move (Operand.tmp 5), type := 3, pos := "ref.go:24", after := #[], guard := none }) (v := ?_) rfl (by kernel_rfl) (by kernel_rfl) (by kernel_rfl) (by rfl) (fun _ _ _ h => h) (Or.inl ⟨by rfl, ?_⟩) (by assumption) ?_
          rotate_left
          · (intro w; go_simp); (first | done | with_reducible rfl)
          try simp only [Act.put, List.setIfInBounds_toArray, List.set_cons_zero, List.set_cons_succ]
          refine wpAnyZ_takeY (i := 17) (oi := { dst := some 79, op := Op.slice 22 (Operand.tmp 77) (some (Operand.tmp 78)) none none, type := 22, pos := "ref.go:24", after := #[{ on := 15, ground := Ground.data }, { on := 16, ground := Ground.data }], guard := none }) (v := ?_) rfl (by kernel_rfl) (by kernel_rfl) (by kernel_rfl) (by rfl) (fun _ _ _ h => h) (Or.inl ⟨by rfl, ?_⟩) (by assumption) ?_
          rotate_left
          · (intro w; go_simp); (first | done | with_reducible rfl)
          try simp only [Act.put, List.setIfInBounds_toArray, List.set_cons_zero, List.set_cons_succ]
          refine wpAnyZ_ready (rs := [1, 10]) (by kernel_rfl) (by simp) ?_
          refine AllReadyZ.cons (o := { dst := some 63, op := Op.buildSlice 22 0 #[], type := 22, pos := "ref.go:24", after := #[], guard := none }) rfl (by rfl) (fun K hK => ?_) (AllReadyZ.cons (o := { dst := some 72, op := Op.buildSlice 22 1 #[(0, Operand.tmp 71)], type := 22, pos := "ref.go:24", after := #[{ on := 9, ground := Ground.data }], guard := none }) rfl (by rfl) (fun K hK => ?_) (AllReadyZ.nil))
          · go_simp
            have HOo := Lib.hid (World.ownsRow_made (base := wX.heap.size) (e := 38) (size := 3) wr #[] 0 HB.out.size (Nat.zero_le _) rfl)
            replace HB := carryA (w := wr) (.cells #[] 38) HB
            generalize hq1 : wr.heap.size = q1 at *
            generalize hw1 : wr.alloc (.cells #[] 38) = w1 at *
            clear hq1 hw1
            refine hK.out _ _ ?_ (fun hHeld => ?_)
            · exact ⟨(HMX.out.below HB.out).row.cell 0, (HXX.out.below HB.out).cell 0, (HXX.out.below HB.out).cell 1, (HXX.out.below HB.out).cell 2⟩
            clear hK K
            try simp only [Act.put, List.setIfInBounds_toArray, List.set_cons_zero, List.set_cons_succ]
            refine wpAnyZ_ready (rs := [8, 10]) (by kernel_rfl) (by simp) ?_
            refine AllReadyZ.cons (o := { dst := some 70, op := Op.call { callee := Callee.builtin Builtin.append, args := #[Operand.tmp 63, Operand.tmp 69], argTypes := #[22, 22] }, type := 22, pos := "ref.go:24", after := #[{ on := 1, ground := Ground.data }, { on := 7, ground := Ground.data }], guard := none }) rfl (by rfl) (fun K hK => ?_) (AllReadyZ.cons (o := { dst := some 72, op := Op.buildSlice 22 1 #[(0, Operand.tmp 71)], type := 22, pos := "ref.go:24", after := #[{ on := 9, ground := Ground.data }], guard := none }) rfl (by rfl) (fun K hK => ?_) (AllReadyZ.nil))
            · refine step_append_cls15 (by rfl) _ _ 22 (by rfl) wX.heap.size i0 z0 Try.underlying22 hi0 hz0 hz1 hz2 hz3 (.slice (some ⟨q1, 0, none⟩) 0 0) 0 [] (by rfl) HOo.out (some ⟨g, off, none⟩) cap L.length (L.take L.length) (by rfl) HE0.out.symm (clsAt_take15 (HMX.out.below HB.out).cls L.length) (by rw [HE0.out]; omega) HB.out.size ?_
              intro v8 w8 ho8 hg8 hat8
              rw [Nat.zero_add, List.nil_append, HE0.out] at ho8
              obtain ⟨a8, c8, rfl⟩ := ownP_shape ho8
              have HO8 := Lib.hid ho8
              replace HB := Lib.hid (HB.out.grown hg8 HB.out.size (fun k hk => (HOo.out.lt k hk).1))
              clear ho8 hg8 hat8 HOo
              refine hK.out _ _ ?_ (fun hHeld => ?_)
              · exact ⟨(HMX.out.below HB.out).row.cell 0, (HXX.out.below HB.out).cell 0, (HXX.out.below HB.out).cell 1, (HXX.out.below HB.out).cell 2⟩
              clear hK K
              try simp only [Act.put, List.setIfInBounds_toArray, List.set_cons_zero, List.set_cons_succ]
              refine wpAnyZ_ready (rs := [10]) (by kernel_rfl) (by simp) ?_
              refine AllReadyZ.cons (o := { dst := some 72, op := Op.buildSlice 22 1 #[(0, Operand.tmp 71)], type := 22, pos := "ref.go:24", after := #[{ on := 9, ground := Ground.data }], guard := none }) rfl (by rfl) (fun K hK => ?_) (AllReadyZ.nil)
              go_simp
              have HNE := Lib.hid (show ∀ q, (Value.slice a8 L.length c8).ownBlock = some q → q ≠ w8.heap.size from fun q hq e => by have := (HO8.out.lt q hq).2; omega)
              have HY := Lib.hid (show RowIn (clA c) 38 (w8.alloc (.cells #[.string (S c.key), .int .i64 c.seq, .string (S c.val)] 38)) w8.heap.size from rowIn_new (clA c) 38 w8)
              replace HB := carryA (w := w8) (.cells #[.string (S c.key), .int .i64 c.seq, .string (S c.val)] 38) HB
              replace HO8 := carryA (w := w8) (.cells #[.string (S c.key), .int .i64 c.seq, .string (S c.val)] 38) HO8
              generalize hq10 : w8.heap.size = q10 at *
              generalize hw10 : w8.alloc (.cells #[.string (S c.key), .int .i64 c.seq, .string (S c.val)] 38) = w10 at *
              clear hq10 hw10
              refine hK.out _ _ ?_ (fun hHeld => ?_)
              · exact ⟨(HMX.out.below HB.out).row.cell 0, (HXX.out.below HB.out).cell 0, (HXX.out.below HB.out).cell 1, (HXX.out.below HB.out).cell 2⟩
              clear hK K
              try simp only [Act.put, List.setIfInBounds_toArray, List.set_cons_zero, List.set_cons_succ]
              refine wpAnyZ_ready (rs := [11]) (by kernel_rfl) (by simp) ?_
              refine AllReadyZ.cons (o := { dst := some 73, op := Op.call { callee := Callee.builtin Builtin.append, args := #[Operand.tmp 70, Operand.tmp 72], argTypes := #[22, 22] }, type := 22, pos := "ref.go:24", after := #[{ on := 8, ground := Ground.data }, { on := 10, ground := Ground.data }, { on := 8, ground := Ground.chain }], guard := none }) rfl (by rfl) (fun K hK => ?_) (AllReadyZ.nil)
              refine step_append_cls15 (by rfl) _ _ 22 (by rfl) wX.heap.size i0 z0 Try.underlying22 hi0 hz0 hz1 hz2 hz3 (.slice a8 L.length c8) L.length (cls (L.take L.length)) (by rfl) HO8.out (some ⟨q10, 0, none⟩) 1 1 [c] (by rfl) rfl (clsAt_row HY.out rfl) (by show L.length + 1 ≤ 1000000; omega) HB.out.size ?_
              intro v11 w11 ho11 hg11 hat11
              replace ho11 : w11.ownsRow wX.heap.size 38 3 v11 (L.length + 1) (cls (L.take L.length ++ [c])) := by rw [cls_append]; exact ho11
              obtain ⟨a11, c11, rfl⟩ := ownP_shape ho11
              have HO11 := Lib.hid ho11
              replace HB := Lib.hid (HB.out.grown hg11 HB.out.size (fun k hk => (HO8.out.lt k hk).1))
              clear ho11 hg11 hat11 HO8 HY HNE
              refine hK.out _ _ ?_ (fun hHeld => ?_)
              · exact ⟨(HMX.out.below HB.out).row.cell 0, (HXX.out.below HB.out).cell 0, (HXX.out.below HB.out).cell 1, (HXX.out.below HB.out).cell 2⟩
              clear hK K
              try simp only [Act.put, List.setIfInBounds_toArray, List.set_cons_zero, List.set_cons_succ]
              refine wpAnyZ_ready (rs := [18]) (by kernel_rfl) (by simp) ?_
              refine AllReadyZ.cons (o := { dst := some 80, op := Op.call { callee := Callee.builtin Builtin.append, args := #[Operand.tmp 73, Operand.tmp 79], argTypes := #[22, 22] }, type := 22, pos := "ref.go:24", after := #[{ on := 11, ground := Ground.data }, { on := 17, ground := Ground.data }, { on := 11, ground := Ground.chain }], guard := none }) rfl (by rfl) (fun K hK => ?_) (AllReadyZ.nil)
              refine step_append_cls15 (by rfl) _ _ 22 (by rfl) wX.heap.size i0 z0 Try.underlying22 hi0 hz0 hz1 hz2 hz3 (.slice a11 (L.length + 1) c11) (L.length + 1) (cls (L.take L.length ++ [c])) (by rfl) HO11.out (some ⟨g, off + L.length * 3, none⟩) (cap - L.length) 0 [] (by rfl) rfl (clsAt_nil _ _) (by show L.length + 1 + 0 ≤ 1000000; omega) HB.out.size ?_
              intro v18 w18 ho18 hg18 hat18
              replace ho18 : w18.ownsRow wX.heap.size 38 3 v18 (L.length + 1) (cls L') := by rw [HL1.out, cls_append]; exact ho18
              obtain ⟨a18, c18, rfl⟩ := ownP_shape ho18
              have HO18 := Lib.hid ho18
              replace HB := Lib.hid (HB.out.grown hg18 HB.out.size (fun k hk => (HO11.out.lt k hk).1))
              clear ho18 hg18 hat18 HO11
              refine hK.out _ _ ?_ (fun hHeld => ?_)
              · exact ⟨(HMX.out.below HB.out).row.cell 0, (HXX.out.below HB.out).cell 0, (HXX.out.below HB.out).cell 1, (HXX.out.below HB.out).cell 2⟩
              clear hK K
              try simp only [Act.put, List.setIfInBounds_toArray, List.set_cons_zero, List.set_cons_succ]
              refine wpAnyZ_takeY (i := 19) (oi := { dst := some 81, op := Op.nilCheck (Operand.tmp 62), type := 0, pos := "ref.go:24", after := #[{ on := 0, ground := Ground.data }, { on := 0, ground := Ground.phase }, { on := 1, ground := Ground.phase }, { on := 2, ground := Ground.phase }, { on := 3, ground := Ground.phase }, { on := 4, ground := Ground.phase }, { on := 5, ground := Ground.phase }, { on := 6, ground := Ground.phase }, { on := 7, ground := Ground.phase }, { on := 8, ground := Ground.phase }, { on := 9, ground := Ground.phase }, { on := 10, ground := Ground.phase }, { on := 11, ground := Ground.phase }, { on := 12, ground := Ground.phase }, { on := 13, ground := Ground.phase }, { on := 14, ground := Ground.phase }, { on := 15, ground := Ground.phase }, { on := 16, ground := Ground.phase }, { on := 17, ground := Ground.phase }, { on := 18, ground := Ground.phase }], guard := none }) (v := ?_) rfl (by kernel_rfl) (by kernel_rfl) (by kernel_rfl) (by rfl) (fun _ _ _ h => h) (Or.inl ⟨by rfl, ?_⟩) (by assumption) ?_
              rotate_left
              · (intro w; go_simp); (first | done | with_reducible rfl)
              try simp only [Act.put, List.setIfInBounds_toArray, List.set_cons_zero, List.set_cons_succ]
              refine wpAnyZ_takeY (i := 20) (oi := { dst := some 82, op := Op.fieldAddr 78 (Operand.tmp 81) 0, type := 0, pos := "ref.go:24", after := #[{ on := 19, ground := Ground.data }, { on := 0, ground := Ground.phase }, { on := 1, ground := Ground.phase }, { on := 2, ground := Ground.phase }, { on := 3, ground := Ground.phase }, { on := 4, ground := Ground.phase }, { on := 5, ground := Ground.phase }, { on := 6, ground := Ground.phase }, { on := 7, ground := Ground.phase }, { on := 8, ground := Ground.phase }, { on := 9, ground := Ground.phase }, { on := 10, ground := Ground.phase }, { on := 11, ground := Ground.phase }, { on := 12, ground := Ground.phase }, { on := 13, ground := Ground.phase }, { on := 14, ground := Ground.phase }, { on := 15, ground := Ground.phase }, { on := 16, ground := Ground.phase }, { on := 17, ground := Ground.phase }, { on := 18, ground := Ground.phase }], guard := none }) (v := ?_) rfl (by kernel_rfl) (by kernel_rfl) (by kernel_rfl) (by rfl) (fun _ _ _ h => h) (Or.inl ⟨by rfl, ?_⟩) (by assumption) ?_
              rotate_left
              · (intro w; go_simp); (first | done | with_reducible rfl)
              try simp only [Act.put, List.setIfInBounds_toArray, List.set_cons_zero, List.set_cons_succ]
              refine wpAnyZ_ready (rs := [21]) (by kernel_rfl) (by simp) ?_
              refine AllReadyZ.last (o := { dst := none, op := Op.store 22 (Operand.tmp 82) (Operand.tmp 80), type := 0, pos := "ref.go:24", after := #[{ on := 20, ground := Ground.data }, { on := 18, ground := Ground.data }, { on := 18, ground := Ground.chain }, { on := 0, ground := Ground.phase }, { on := 1, ground := Ground.phase }, { on := 2, ground := Ground.phase }, { on := 3, ground := Ground.phase }, { on := 4, ground := Ground.phase }, { on := 5, ground := Ground.phase }, { on := 6, ground := Ground.phase }, { on := 7, ground := Ground.phase }, { on := 8, ground := Ground.phase }, { on := 9, ground := Ground.phase }, { on := 10, ground := Ground.phase }, { on := 11, ground := Ground.phase }, { on := 12, ground := Ground.phase }, { on := 13, ground := Ground.phase }, { on := 14, ground := Ground.phase }, { on := 15, ground := Ground.phase }, { on := 16, ground := Ground.phase }, { on := 17, ground := Ground.phase }, { on := 18, ground := Ground.phase }], guard := none }) rfl (fun K hK => ?_) AllReadyZ.nil
              have f0 := (HMX.out.below HB.out).row.free 0
              have m0 := (HMX.out.below HB.out).row.cell 0
              go_simp
              refine hK.out _ _ ?_
              clear hK K
              refine wpAny_done (by kernel_rfl) ?_ _
              have HF := Lib.hid (refFin15 HMX.out HB0.out HB.out HO18.out HLL.out)
              clear HO18
              go_wp2_with fail
              go_ret
              exact ⟨rfl, a18, c18, HF.out.1, HF.out.2.1, HF.out.2.2⟩
            · go_simp
              have HNE := Lib.hid (show q1 ≠ w1.heap.size from fun e => by have := (HOo.out.lt q1 rfl).2; omega)
              have HY := Lib.hid (show RowIn (clA c) 38 (w1.alloc (.cells #[.string (S c.key), .int .i64 c.seq, .string (S c.val)] 38)) w1.heap.size from rowIn_new (clA c) 38 w1)
              replace HB := carryA (w := w1) (.cells #[.string (S c.key), .int .i64 c.seq, .string (S c.val)] 38) HB
              replace HOo := carryA (w := w1) (.cells #[.string (S c.key), .int .i64 c.seq, .string (S c.val)] 38) HOo
              generalize hq10 : w1.heap.size = q10 at *
              generalize hw10 : w1.alloc (.cells #[.string (S c.key), .int .i64 c.seq, .string (S c.val)] 38) = w10 at *
              clear hq10 hw10
              refine hK.out _ _ ?_ (fun hHeld => ?_)
              · exact ⟨(HMX.out.below HB.out).row.cell 0, (HXX.out.below HB.out).cell 0, (HXX.out.below HB.out).cell 1, (HXX.out.below HB.out).cell 2⟩
              clear hK K
              try simp only [Act.put, List.setIfInBounds_toArray, List.set_cons_zero, List.set_cons_succ]
              refine wpAnyZ_ready (rs := [8]) (by kernel_rfl) (by simp) ?_
              refine AllReadyZ.cons (o := { dst := some 70, op := Op.call { callee := Callee.builtin Builtin.append, args := #[Operand.tmp 63, Operand.tmp 69], argTypes := #[22, 22] }, type := 22, pos := "ref.go:24", after := #[{ on := 1, ground := Ground.data }, { on := 7, ground := Ground.data }], guard := none }) rfl (by rfl) (fun K hK => ?_) (AllReadyZ.nil)
              refine step_append_cls15 (by rfl) _ _ 22 (by rfl) wX.heap.size i0 z0 Try.underlying22 hi0 hz0 hz1 hz2 hz3 (.slice (some ⟨q1, 0, none⟩) 0 0) 0 [] (by rfl) HOo.out (some ⟨g, off, none⟩) cap L.length (L.take L.length) (by rfl) HE0.out.symm (clsAt_take15 (HMX.out.below HB.out).cls L.length) (by rw [HE0.out]; omega) HB.out.size ?_
              intro v8 w8 ho8 hg8 hat8
              rw [Nat.zero_add, List.nil_append, HE0.out] at ho8
              obtain ⟨a8, c8, rfl⟩ := ownP_shape ho8
              have HO8 := Lib.hid ho8
              replace HB := Lib.hid (HB.out.grown hg8 HB.out.size (fun k hk => (HOo.out.lt k hk).1))
              have HYL := Lib.hid (show q10 < w10.heap.size from HY.out.lt)
              replace HY := Lib.hid (row_kept10 HY.out hg8 (fun e => HNE.out (by cases e; rfl)))
              replace HNE := Lib.hid (show ∀ q, (Value.slice a8 L.length c8).ownBlock = some q → q ≠ q10 from fun q hq e => by rcases hat8 with h | h; exact HNE.out (by rw [hq] at h; cases h; exact e); rw [hq] at h; cases h; have := HYL.out; omega)
              clear HYL
              clear ho8 hg8 hat8 HOo
              refine hK.out _ _ ?_ (fun hHeld => ?_)
              · exact ⟨(HMX.out.below HB.out).row.cell 0, (HXX.out.below HB.out).cell 0, (HXX.out.below HB.out).cell 1, (HXX.out.below HB.out).cell 2⟩
              clear hK K
              try simp only [Act.put, List.setIfInBounds_toArray, List.set_cons_zero, List.set_cons_succ]
              refine wpAnyZ_ready (rs := [11]) (by kernel_rfl) (by simp) ?_
              refine AllReadyZ.cons (o := { dst := some 73, op := Op.call { callee := Callee.builtin Builtin.append, args := #[Operand.tmp 70, Operand.tmp 72], argTypes := #[22, 22] }, type := 22, pos := "ref.go:24", after := #[{ on := 8, ground := Ground.data }, { on := 10, ground := Ground.data }, { on := 8, ground := Ground.chain }], guard := none }) rfl (by rfl) (fun K hK => ?_) (AllReadyZ.nil)
              refine step_append_cls15 (by rfl) _ _ 22 (by rfl) wX.heap.size i0 z0 Try.underlying22 hi0 hz0 hz1 hz2 hz3 (.slice a8 L.length c8) L.length (cls (L.take L.length)) (by rfl) HO8.out (some ⟨q10, 0, none⟩) 1 1 [c] (by rfl) rfl (clsAt_row HY.out rfl) (by show L.length + 1 ≤ 1000000; omega) HB.out.size ?_
              intro v11 w11 ho11 hg11 hat11
              replace ho11 : w11.ownsRow wX.heap.size 38 3 v11 (L.length + 1) (cls (L.take L.length ++ [c])) := by rw [cls_append]; exact ho11
              obtain ⟨a11, c11, rfl⟩ := ownP_shape ho11
              have HO11 := Lib.hid ho11
              replace HB := Lib.hid (HB.out.grown hg11 HB.out.size (fun k hk => (HO8.out.lt k hk).1))
              clear ho11 hg11 hat11 HO8 HY HNE
              refine hK.out _ _ ?_ (fun hHeld => ?_)
              · exact ⟨(HMX.out.below HB.out).row.cell 0, (HXX.out.below HB.out).cell 0, (HXX.out.below HB.out).cell 1, (HXX.out.below HB.out).cell 2⟩
              clear hK K
              try simp only [Act.put, List.setIfInBounds_toArray, List.set_cons_zero, List.set_cons_succ]
              refine wpAnyZ_ready (rs := [18]) (by kernel_rfl) (by simp) ?_
              refine AllReadyZ.cons (o := { dst := some 80, op := Op.call { callee := Callee.builtin Builtin.append, args := #[Operand.tmp 73, Operand.tmp 79], argTypes := #[22, 22] }, type := 22, pos := "ref.go:24", after := #[{ on := 11, ground := Ground.data }, { on := 17, ground := Ground.data }, { on := 11, ground := Ground.chain }], guard := none }) rfl (by rfl) (fun K hK => ?_) (AllReadyZ.nil)
              refine step_append_cls15 (by rfl) _ _ 22 (by rfl) wX.heap.size i0 z0 Try.underlying22 hi0 hz0 hz1 hz2 hz3 (.slice a11 (L.length + 1) c11) (L.length + 1) (cls (L.take L.length ++ [c])) (by rfl) HO11.out (some ⟨g, off + L.length * 3, none⟩) (cap - L.length) 0 [] (by rfl) rfl (clsAt_nil _ _) (by show L.length + 1 + 0 ≤ 1000000; omega) HB.out.size ?_
              intro v18 w18 ho18 hg18 hat18
              replace ho18 : w18.ownsRow wX.heap.size 38 3 v18 (L.length + 1) (cls L') := by rw [HL1.out, cls_append]; exact ho18
              obtain ⟨a18, c18, rfl⟩ := ownP_shape ho18
              have HO18 := Lib.hid ho18
              replace HB := Lib.hid (HB.out.grown hg18 HB.out.size (fun k hk => (HO11.out.lt k hk).1))
              clear ho18 hg18 hat18 HO11
              refine hK.out _ _ ?_ (fun hHeld => ?_)
              · exact ⟨(HMX.out.below HB.out).row.cell 0, (HXX.out.below HB.out).cell 0, (HXX.out.below HB.out).cell 1, (HXX.out.below HB.out).cell 2⟩
              clear hK K
              try simp only [Act.put, List.setIfInBounds_toArray, List.set_cons_zero, List.set_cons_succ]
              refine wpAnyZ_takeY (i := 19) (oi := { dst := some 81, op := Op.nilCheck (Operand.tmp 62), type := 0, pos := "ref.go:24", after := #[{ on := 0, ground := Ground.data }, { on := 0, ground := Ground.phase }, { on := 1, ground := Ground.phase }, { on := 2, ground := Ground.phase }, { on := 3, ground := Ground.phase }, { on := 4, ground := Ground.phase }, { on := 5, ground := Ground.phase }, { on := 6, ground := Ground.phase }, { on := 7, ground := Ground.phase }, { on := 8, ground := Ground.phase }, { on := 9, ground := Ground.phase }, { on := 10, ground := Ground.phase }, { on := 11, ground := Ground.phase }, { on := 12, ground := Ground.phase }, { on := 13, ground := Ground.phase }, { on := 14, ground := Ground.phase }, { on := 15, ground := Ground.phase }, { on := 16, ground := Ground.phase }, { on := 17, ground := Ground.phase }, { on := 18, ground := Ground.phase }], guard := none }) (v := ?_) rfl (by kernel_rfl) (by kernel_rfl) (by kernel_rfl) (by rfl) (fun _ _ _ h => h) (Or.inl ⟨by rfl, ?_⟩) (by assumption) ?_
              rotate_left
              · (intro w; go_simp); (first | done | with_reducible rfl)
              try simp only [Act.put, List.setIfInBounds_toArray, List.set_cons_zero, List.set_cons_succ]
              refine wpAnyZ_takeY (i := 20) (oi := { dst := some 82, op := Op.fieldAddr 78 (Operand.tmp 81) 0, type := 0, pos := "ref.go:24", after := #[{ on := 19, ground := Ground.data }, { on := 0, ground := Ground.phase }, { on := 1, ground := Ground.phase }, { on := 2, ground := Ground.phase }, { on := 3, ground := Ground.phase }, { on := 4, ground := Ground.phase }, { on := 5, ground := Ground.phase }, { on := 6, ground := Ground.phase }, { on := 7, ground := Ground.phase }, { on := 8, ground := Ground.phase }, { on := 9, ground := Ground.phase }, { on := 10, ground := Ground.phase }, { on := 11, ground := Ground.phase }, { on := 12, ground := Ground.phase }, { on := 13, ground := Ground.phase }, { on := 14, ground := Ground.phase }, { on := 15, ground := Ground.phase }, { on := 16, ground := Ground.phase }, { on := 17, ground := Ground.phase }, { on := 18, ground := Ground.phase }], guard := none }) (v := ?_) rfl (by kernel_rfl) (by kernel_rfl) (by kernel_rfl) (by rfl) (fun _ _ _ h => h) (Or.inl ⟨by rfl, ?_⟩) (by assumption) ?_
              rotate_left
              · (intro w; go_simp); (first | done | with_reducible rfl)
              try simp only [Act.put, List.setIfInBounds_toArray, List.set_cons_zero, List.set_cons_succ]
              refine wpAnyZ_ready (rs := [21]) (by kernel_rfl) (by simp) ?_
              refine AllReadyZ.last (o := { dst := none, op := Op.store 22 (Operand.tmp 82) (Operand.tmp 80), type := 0, pos := "ref.go:24", after := #[{ on := 20, ground := Ground.data }, { on := 18, ground := Ground.data }, { on := 18, ground := Ground.chain }, { on := 0, ground := Ground.phase }, { on := 1, ground := Ground.phase }, { on := 2, ground := Ground.phase }, { on := 3, ground := Ground.phase }, { on := 4, ground := Ground.phase }, { on := 5, ground := Ground.phase }, { on := 6, ground := Ground.phase }, { on := 7, ground := Ground.phase }, { on := 8, ground := Ground.phase }, { on := 9, ground := Ground.phase }, { on := 10, ground := Ground.phase }, { on := 11, ground := Ground.phase }, { on := 12, ground := Ground.phase }, { on := 13, ground := Ground.phase }, { on := 14, ground := Ground.phase }, { on := 15, ground := Ground.phase }, { on := 16, ground := Ground.phase }, { on := 17, ground := Ground.phase }, { on := 18, ground := Ground.phase }], guard := none }) rfl (fun K hK => ?_) AllReadyZ.nil
              have f0 := (HMX.out.below HB.out).row.free 0
              have m0 := (HMX.out.below HB.out).row.cell 0
              go_simp
              refine hK.out _ _ ?_
              clear hK K
              refine wpAny_done (by kernel_rfl) ?_ _
              have HF := Lib.hid (refFin15 HMX.out HB0.out HB.out HO18.out HLL.out)
              clear HO18
              go_wp2_with fail
              go_ret
              exact ⟨rfl, a18, c18, HF.out.1, HF.out.2.1, HF.out.2.2⟩
          · go_simp
            have HY := Lib.hid (show RowIn (clA c) 38 (wr.alloc (.cells #[.string (S c.key), .int .i64 c.seq, .string (S c.val)] 38)) wr.heap.size from rowIn_new (clA c) 38 wr)
            replace HB := carryA (w := wr) (.cells #[.string (S c.key), .int .i64 c.seq, .string (S c.val)] 38) HB
            generalize hq10 : wr.heap.size = q10 at *
            generalize hw10 : wr.alloc (.cells #[.string (S c.key), .int .i64 c.seq, .string (S c.val)] 38) = w10 at *
            clear hq10 hw10
            have HYL := Lib.hid HY.out.lt
            refine hK.out _ _ ?_ (fun hHeld => ?_)
            · exact ⟨(HMX.out.below HB.out).row.cell 0, (HXX.out.below HB.out).cell 0, (HXX.out.below HB.out).cell 1, (HXX.out.below HB.out).cell 2⟩
            clear hK K
            try simp only [Act.put, List.setIfInBounds_toArray, List.set_cons_zero, List.set_cons_succ]
            refine wpAnyZ_ready (rs := [1]) (by kernel_rfl) (by simp) ?_
            refine AllReadyZ.cons (o := { dst := some 63, op := Op.buildSlice 22 0 #[], type := 22, pos := "ref.go:24", after := #[], guard := none }) rfl (by rfl) (fun K hK => ?_) (AllReadyZ.nil)
            go_simp
            have HOo := Lib.hid (World.ownsRow_made (base := wX.heap.size) (e := 38) (size := 3) w10 #[] 0 HB.out.size (Nat.zero_le _) rfl)
            replace HB := carryA (w := w10) (.cells #[] 38) HB
            replace HY := carryA (w := w10) (.cells #[] 38) HY
            have HNE := Lib.hid (show w10.heap.size ≠ q10 from fun e => by have := HYL.out; omega)
            generalize hq1 : w10.heap.size = q1 at *
            generalize hw1 : w10.alloc (.cells #[] 38) = w1 at *
            clear hq1 hw1
            refine hK.out _ _ ?_ (fun hHeld => ?_)
            · exact ⟨(HMX.out.below HB.out).row.cell 0, (HXX.out.below HB.out).cell 0, (HXX.out.below HB.out).cell 1, (HXX.out.below HB.out).cell 2⟩
            clear hK K
            try simp only [Act.put, List.setIfInBounds_toArray, List.set_cons_zero, List.set_cons_succ]
            refine wpAnyZ_ready (rs := [8]) (by kernel_rfl) (by simp) ?_
            refine AllReadyZ.cons (o := { dst := some 70, op := Op.call { callee := Callee.builtin Builtin.append, args := #[Operand.tmp 63, Operand.tmp 69], argTypes := #[22, 22] }, type := 22, pos := "ref.go:24", after := #[{ on := 1, ground := Ground.data }, { on := 7, ground := Ground.data }], guard := none }) rfl (by rfl) (fun K hK => ?_) (AllReadyZ.nil)
            refine step_append_cls15 (by rfl) _ _ 22 (by rfl) wX.heap.size i0 z0 Try.underlying22 hi0 hz0 hz1 hz2 hz3 (.slice (some ⟨q1, 0, none⟩) 0 0) 0 [] (by rfl) HOo.out (some ⟨g, off, none⟩) cap L.length (L.take L.length) (by rfl) HE0.out.symm (clsAt_take15 (HMX.out.below HB.out).cls L.length) (by rw [HE0.out]; omega) HB.out.size ?_
            intro v8 w8 ho8 hg8 hat8
            rw [Nat.zero_add, List.nil_append, HE0.out] at ho8
            obtain ⟨a8, c8, rfl⟩ := ownP_shape ho8
            have HO8 := Lib.hid ho8
            replace HB := Lib.hid (HB.out.grown hg8 HB.out.size (fun k hk => (HOo.out.lt k hk).1))
            have HYL := Lib.hid (show q10 < w1.heap.size from HY.out.lt)
            replace HY := Lib.hid (row_kept10 HY.out hg8 (fun e => HNE.out (by cases e; rfl)))
            replace HNE := Lib.hid (show ∀ q, (Value.slice a8 L.length c8).ownBlock = some q → q ≠ q10 from fun q hq e => by rcases hat8 with h | h; exact HNE.out (by rw [hq] at h; cases h; exact e); rw [hq] at h; cases h; have := HYL.out; omega)
            clear HYL
            clear ho8 hg8 hat8 HOo
            refine hK.out _ _ ?_ (fun hHeld => ?_)
            · exact ⟨(HMX.out.below HB.out).row.cell 0, (HXX.out.below HB.out).cell 0, (HXX.out.below HB.out).cell 1, (HXX.out.below HB.out).cell 2⟩
            clear hK K
            try simp only [Act.put, List.setIfInBounds_toArray, List.set_cons_zero, List.set_cons_succ]
            refine wpAnyZ_ready (rs := [11]) (by kernel_rfl) (by simp) ?_
            refine AllReadyZ.cons (o := { dst := some 73, op := Op.call { callee := Callee.builtin Builtin.append, args := #[Operand.tmp 70, Operand.tmp 72], argTypes := #[22, 22] }, type := 22, pos := "ref.go:24", after := #[{ on := 8, ground := Ground.data }, { on := 10, ground := Ground.data }, { on := 8, ground := Ground.chain }], guard := none }) rfl (by rfl) (fun K hK => ?_) (AllReadyZ.nil)
            refine step_append_cls15 (by rfl) _ _ 22 (by rfl) wX.heap.size i0 z0 Try.underlying22 hi0 hz0 hz1 hz2 hz3 (.slice a8 L.length c8) L.length (cls (L.take L.length)) (by rfl) HO8.out (some ⟨q10, 0, none⟩) 1 1 [c] (by rfl) rfl (clsAt_row HY.out rfl) (by show L.length + 1 ≤ 1000000; omega) HB.out.size ?_
            intro v11 w11 ho11 hg11 hat11
            replace ho11 : w11.ownsRow wX.heap.size 38 3 v11 (L.length + 1) (cls (L.take L.length ++ [c])) := by rw [cls_append]; exact ho11
            obtain ⟨a11, c11, rfl⟩ := ownP_shape ho11
            have HO11 := Lib.hid ho11
            replace HB := Lib.hid (HB.out.grown hg11 HB.out.size (fun k hk => (HO8.out.lt k hk).1))
            clear ho11 hg11 hat11 HO8 HY HNE
            refine hK.out _ _ ?_ (fun hHeld => ?_)
            · exact ⟨(HMX.out.below HB.out).row.cell 0, (HXX.out.below HB.out).cell 0, (HXX.out.below HB.out).cell 1, (HXX.out.below HB.out).cell 2⟩
            clear hK K
            try simp only [Act.put, List.setIfInBounds_toArray, List.set_cons_zero, List.set_cons_succ]
            refine wpAnyZ_ready (rs := [18]) (by kernel_rfl) (by simp) ?_
            refine AllReadyZ.cons (o := { dst := some 80, op := Op.call { callee := Callee.builtin Builtin.append, args := #[Operand.tmp 73, Operand.tmp 79], argTypes := #[22, 22] }, type := 22, pos := "ref.go:24", after := #[{ on := 11, ground := Ground.data }, { on := 17, ground := Ground.data }, { on := 11, ground := Ground.chain }], guard := none }) rfl (by rfl) (fun K hK => ?_) (AllReadyZ.nil)
            refine step_append_cls15 (by rfl) _ _ 22 (by rfl) wX.heap.size i0 z0 Try.underlying22 hi0 hz0 hz1 hz2 hz3 (.slice a11 (L.length + 1) c11) (L.length + 1) (cls (L.take L.length ++ [c])) (by rfl) HO11.out (some ⟨g, off + L.length * 3, none⟩) (cap - L.length) 0 [] (by rfl) rfl (clsAt_nil _ _) (by show L.length + 1 + 0 ≤ 1000000; omega) HB.out.size ?_
            intro v18 w18 ho18 hg18 hat18
            replace ho18 : w18.ownsRow wX.heap.size 38 3 v18 (L.length + 1) (cls L') := by rw [HL1.out, cls_append]; exact ho18
            obtain ⟨a18, c18, rfl⟩ := ownP_shape ho18
            have HO18 := Lib.hid ho18
            replace HB := Lib.hid (HB.out.grown hg18 HB.out.size (fun k hk => (HO11.out.lt k hk).1))
            clear ho18 hg18 hat18 HO11
            refine hK.out _ _ ?_ (fun hHeld => ?_)
            · exact ⟨(HMX.out.below HB.out).row.cell 0, (HXX.out.below HB.out).cell 0, (HXX.out.below HB.out).cell 1, (HXX.out.below HB.out).cell 2⟩
            clear hK K
            try simp only [Act.put, List.setIfInBounds_toArray, List.set_cons_zero, List.set_cons_succ]
            refine wpAnyZ_takeY (i := 19) (oi := { dst := some 81, op := Op.nilCheck (Operand.tmp 62), type := 0, pos := "ref.go:24", after := #[{ on := 0, ground := Ground.data }, { on := 0, ground := Ground.phase }, { on := 1, ground := Ground.phase }, { on := 2, ground := Ground.phase }, { on := 3, ground := Ground.phase }, { on := 4, ground := Ground.phase }, { on := 5, ground := Ground.phase }, { on := 6, ground := Ground.phase }, { on := 7, ground := Ground.phase }, { on := 8, ground := Ground.phase }, { on := 9, ground := Ground.phase }, { on := 10, ground := Ground.phase }, { on := 11, ground := Ground.phase }, { on := 12, ground := Ground.phase }, { on := 13, ground := Ground.phase }, { on := 14, ground := Ground.phase }, { on := 15, ground := Ground.phase }, { on := 16, ground := Ground.phase }, { on := 17, ground := Ground.phase }, { on := 18, ground := Ground.phase }], guard := none }) (v := ?_) rfl (by kernel_rfl) (by kernel_rfl) (by kernel_rfl) (by rfl) (fun _ _ _ h => h) (Or.inl ⟨by rfl, ?_⟩) (by assumption) ?_
            rotate_left
            · (intro w; go_simp); (first | done | with_reducible rfl)
            try simp only [Act.put, List.setIfInBounds_toArray, List.set_cons_zero, List.set_cons_succ]
            refine wpAnyZ_takeY (i := 20) (oi := { dst := some 82, op := Op.fieldAddr 78 (Operand.tmp 81) 0, type := 0, pos := "ref.go:24", after := #[{ on := 19, ground := Ground.data }, { on := 0, ground := Ground.phase }, { on := 1, ground := Ground.phase }, { on := 2, ground := Ground.phase }, { on := 3, ground := Ground.phase }, { on := 4, ground := Ground.phase }, { on := 5, ground := Ground.phase }, { on := 6, ground := Ground.phase }, { on := 7, ground := Ground.phase }, { on := 8, ground := Ground.phase }, { on := 9, ground := Ground.phase }, { on := 10, ground := Ground.phase }, { on := 11, ground := Ground.phase }, { on := 12, ground := Ground.phase }, { on := 13, ground := Ground.phase }, { on := 14, ground := Ground.phase }, { on := 15, ground := Ground.phase }, { on := 16, ground := Ground.phase }, { on := 17, ground := Ground.phase }, { on := 18, ground := Ground.phase }], guard := none }) (v := ?_) rfl (by kernel_rfl) (by kernel_rfl) (by kernel_rfl) (by rfl) (fun _ _ _ h => h) (Or.inl ⟨by rfl, ?_⟩) (by assumption) ?_
            rotate_left
            · (intro w; go_simp); (first | done | with_reducible rfl)
            try simp only [Act.put, List.setIfInBounds_toArray, List.set_cons_zero, List.set_cons_succ]
            refine wpAnyZ_ready (rs := [21]) (by kernel_rfl) (by simp) ?_
            refine AllReadyZ.last (o := { dst := none, op := Op.store 22 (Operand.tmp 82) (Operand.tmp 80), type := 0, pos := "ref.go:24", after := #[{ on := 20, ground := Ground.data }, { on := 18, ground := Ground.data }, { on := 18, ground := Ground.chain }, { on := 0, ground := Ground.phase }, { on := 1, ground := Ground.phase }, { on := 2, ground := Ground.phase }, { on := 3, ground := Ground.phase }, { on := 4, ground := Ground.phase }, { on := 5, ground := Ground.phase }, { on := 6, ground := Ground.phase }, { on := 7, ground := Ground.phase }, { on := 8, ground := Ground.phase }, { on := 9, ground := Ground.phase }, { on := 10, ground := Ground.phase }, { on := 11, ground := Ground.phase }, { on := 12, ground := Ground.phase }, { on := 13, ground := Ground.phase }, { on := 14, ground := Ground.phase }, { on := 15, ground := Ground.phase }, { on := 16, ground := Ground.phase }, { on := 17, ground := Ground.phase }, { on := 18, ground := Ground.phase }], guard := none }) rfl (fun K hK => ?_) AllReadyZ.nil
            have f0 := (HMX.out.below HB.out).row.free 0
            have m0 := (HMX.out.below HB.out).row.cell 0
            go_simp
            refine hK.out _ _ ?_
            clear hK K
            refine wpAny_done (by kernel_rfl) ?_ _
            have HF := Lib.hid (refFin15 HMX.out HB0.out HB.out HO18.out HLL.out)
            clear HO18
            go_wp2_with fail
            go_ret
            exact ⟨rfl, a18, c18, HF.out.1, HF.out.2.1, HF.out.2.2⟩

end Go.Proofs.Ythidmgnfdikppaa
