/- Layer 10: some of the chapter's examples, walked. -/
import Derived.Test.YthidmgnfdikppaaTablesS
import Derived.Test.YthidmgnfdikppaaTablesT
import Derived.Test.YthidmgnfdikppaaTablesG
import Derived.Deep.RegionHeld3
namespace Go.Proofs.Ythidmgnfdikppaa
set_option linter.unusedVariables false
open Go Go.RowKit
attribute [local go_sem ↓] run_index_S
attribute [local go_sem] S_append S_extract

def n10 : List UInt8 := [0, 0, 1, 0, 1, 0, 0, 0, 0, 0, 0, 0, 0, 0, 0, 0, 0, 0, 0, 0, 0, 115, 112, 111, 111, 114]
theorem n10_is : M.tableT [] = n10 := by decide +kernel
def d10L : List M.Cl := [⟨[97], 2, []⟩, ⟨[97], 1, []⟩, ⟨[98], 5, []⟩]
abbrev d10A : Array Value := #[.string ⟨#[97]⟩, .int .i64 2, .string ⟨#[]⟩, .string ⟨#[97]⟩, .int .i64 1, .string ⟨#[]⟩, .string ⟨#[98]⟩, .int .i64 5, .string ⟨#[]⟩]
theorem d10_srt : M.srt none d10L = true := by decide
theorem d10_ok : ∀ c ∈ d10L, ClOk c := by
  intro c hc
  simp only [d10L, List.mem_cons, List.not_mem_nil, or_false] at hc
  rcases hc with rfl | rfl | rfl <;> exact ⟨by decide, by decide, ⟨by decide, by decide⟩⟩
theorem d10_is : M.IsT (M.tableT d10L) d10L := ⟨d10_srt, by decide, fun c hc => (d10_ok c hc).2.2.h2, rfl⟩
theorem d10_len : (M.tableT d10L).length ≤ 900000 := by
  have h1 := M.body_len d10_srt (M.many d10L)
  have h2 := M.idx_len d10_srt (M.many d10L)
  have h3 := (M.putN_length (M.many d10L)).2
  have h4 : M.many d10L = 1 := by decide
  rw [M.tab_len]
  unfold M.bodyT M.idxT
  rw [List.length_append]
  rw [h4] at h1 h2 h3 ⊢
  omega
theorem tab_long {t : List UInt8} {L : List M.Cl} (h : M.IsT t L) : 26 ≤ t.length := by
  rw [← h.t, M.tab_len]
  have := (M.putN_length (M.many L)).1
  simp only [M.idxT, List.length_append]
  omega
theorem n10_cut : M.openT (n10.take 25) = none := M.openT_none (fun L h => by have := tab_long h; simp [n10] at this)
theorem d10_get : M.findL [97] d10L = some ⟨[97], 2, []⟩ := by decide
def d10K1 : List M.Cl := [⟨[97], 2, []⟩, ⟨[97], 1, []⟩]
def d10K2 : List M.Cl := [⟨[98], 5, []⟩]
theorem d10_r1 : M.rangeL [97] [98] d10L = d10K1 := by decide
theorem d10_r2 : M.rangeL [98] [] d10L = d10K2 := by decide
theorem d10_k1 {w : World} {g : Nat} (h : RowIn d10A 38 w g) : ClsAt w (some ⟨g, 0, none⟩) d10K1 := clsAt_mk (fun j u hu => by
  rw [Nat.zero_add, h.cell j]
  match j, hu with
  | 0, hu | 1, hu | 2, hu | 3, hu | 4, hu | 5, hu => simpa [d10K1, cls, clL] using hu
  | j + 6, hu => simp [d10K1, cls, clL] at hu)
theorem d10_k2 {w : World} {g : Nat} (h : RowIn d10A 38 w g) : ClsAt w (some ⟨g, 6, none⟩) d10K2 := clsAt_mk (fun j u hu => by
  rw [h.cell (6 + j)]
  match j, hu with
  | 0, hu | 1, hu | 2, hu => simpa [d10K2, cls, clL] using hu
  | j + 3, hu => simp [d10K2, cls, clL] at hu)
theorem TabAt.same10 {L : List M.Cl} {p : Nat} {w w' : World} (h : TabAt L p w) (he : w'.heap = w.heap) : TabAt L p w' := by
  obtain ⟨B, vB, vF, h⟩ := h
  refine ⟨B, vB, vF, ?_, ?_, ?_, h.ne⟩
  · have := h.row; unfold RowIn at *; rw [he]; exact this
  · have := h.b; unfold World.ownsRow at *; rw [he]; exact this
  · have := h.f; unfold World.ownsRow at *; rw [he]; exact this
theorem d10_r3 : M.rangeL [98] [97] d10L = [] := by decide

set_option maxHeartbeats 8000000 in
set_option maxRecDepth 100000 in
theorem does10 (w : World) : Calls Try.prog 27 #[] w fun e w' => e = .returned (.bool true) ∧ Below w.heap.size w w' := by
  have CB0 : Hid (∀ W, Calls Try.prog 24 #[.slice none 0 0] W fun e w' => e = .returned (.tuple #[.string ⟨#[0, 0, 1, 0, 1, 0, 0, 0, 0, 0, 0, 0, 0, 0, 0, 0, 0, 0, 0, 0, 0, 115, 112, 111, 111, 114]⟩, .int .i64 0]) ∧ Below W.heap.size W w') := Lib.hid (fun W => by
    have := build10_any [] (by simp) none 0 (by simp) W (clsAt_nil _ _) (by simp)
    unfold BuildR at this
    rw [bE_ok (by decide) (by simp), n10_is] at this
    exact this)
  have CB1 : Hid (∀ W g, ClsAt W (some ⟨g, 0, none⟩) d10L → Calls Try.prog 24 #[.slice (some ⟨g, 0, none⟩) 3 3] W fun e w' => e = .returned (.tuple #[.string (S (M.tableT d10L)), .int .i64 0]) ∧ Below W.heap.size W w') := Lib.hid (fun W g h => by
    have := build10_any d10L (by decide) (some ⟨g, 0, none⟩) 3 (by decide) W h d10_ok
    unfold BuildR at this
    rw [bE_ok d10_srt (by decide)] at this
    exact this)
  have CO1 : Hid (∀ W, Calls Try.prog 28 #[.string (S (M.tableT d10L))] W fun e w' => ∃ p, e = .returned (.tuple #[.pointer (some ⟨p, 0, none⟩), .int .i64 0]) ∧ TabAt d10L p w' ∧ Below W.heap.size W w') := Lib.hid (fun W => by
    have := open10_any (M.tableT d10L) d10_len W
    unfold OpenR10 at this
    rw [M.openT_some d10_is] at this
    exact this.mono fun e w' ⟨⟨p, h1, h2⟩, h3⟩ => ⟨p, h1, h2, h3⟩)
  have CO0 : Hid (∀ W, Calls Try.prog 28 #[.string ⟨#[0, 0, 1, 0, 1, 0, 0, 0, 0, 0, 0, 0, 0, 0, 0, 0, 0, 0, 0, 0, 0, 115, 112, 111, 111]⟩] W fun e w' => e = .returned (.tuple #[.pointer none, .int .i64 30]) ∧ Below W.heap.size W w') := Lib.hid (fun W => by
    have := open10_any (n10.take 25) (by decide) W
    unfold OpenR10 at this
    rw [n10_cut] at this
    exact this)
  have CG : Hid (∀ W p, TabAt d10L p W → Calls Try.prog 30 #[.pointer (some ⟨p, 0, none⟩), .string ⟨#[97]⟩] W fun e w' => e = .returned (.tuple #[.agg #[.string ⟨#[97]⟩, .int .i64 2, .string ⟨#[]⟩], .bool true]) ∧ Below W.heap.size W w') := Lib.hid (fun W p h => by
    have := get10_any d10L p [97] W h d10_srt (by decide) (fun c hc => (d10_ok c hc).2.2.h2) (by decide)
    rw [d10_get] at this
    exact this)
  have CL : Hid (∀ W p, TabAt d10L p W → Calls Try.prog 34 #[.pointer (some ⟨p, 0, none⟩)] W fun e w' => e = .returned (.int .i64 3) ∧ W = w') := Lib.hid (fun W p h => len10_any d10L p W h (by decide))
  have CR1 : Hid (∀ W p, TabAt d10L p W → Calls Try.prog 32 #[.pointer (some ⟨p, 0, none⟩), .string ⟨#[97]⟩, .string ⟨#[98]⟩] W fun e w' => ∃ ao cap, e = .returned (.slice ao 2 cap) ∧ ClsAt w' ao d10K1 ∧ Below W.heap.size W w') := Lib.hid (fun W p h => by
    have := range10_any d10L p [97] [98] W h d10_srt (by decide) (fun c hc => (d10_ok c hc).2.2.h2) (by decide) (by decide)
    rw [d10_r1] at this
    exact this.mono fun e w' ⟨ao, cap, h1, h2, h3⟩ => ⟨ao, cap, h1, clsAt_own h2 rfl, h3⟩)
  have CR2 : Hid (∀ W p, TabAt d10L p W → Calls Try.prog 32 #[.pointer (some ⟨p, 0, none⟩), .string ⟨#[98]⟩, .string ⟨#[]⟩] W fun e w' => ∃ ao cap, e = .returned (.slice ao 1 cap) ∧ ClsAt w' ao d10K2 ∧ Below W.heap.size W w') := Lib.hid (fun W p h => by
    have := range10_any d10L p [98] [] W h d10_srt (by decide) (fun c hc => (d10_ok c hc).2.2.h2) (by decide) (by decide)
    rw [d10_r2] at this
    exact this.mono fun e w' ⟨ao, cap, h1, h2, h3⟩ => ⟨ao, cap, h1, clsAt_own h2 rfl, h3⟩)
  have CR3 : Hid (∀ W p, TabAt d10L p W → Calls Try.prog 32 #[.pointer (some ⟨p, 0, none⟩), .string ⟨#[98]⟩, .string ⟨#[97]⟩] W fun e w' => ∃ ao cap, e = .returned (.slice ao 0 cap) ∧ Below W.heap.size W w') := Lib.hid (fun W p h => by
    have := range10_any d10L p [98] [97] W h d10_srt (by decide) (fun c hc => (d10_ok c hc).2.2.h2) (by decide) (by decide)
    rw [d10_r3] at this
    exact this.mono fun e w' ⟨ao, cap, h1, h2, h3⟩ => ⟨ao, cap, h1, h3⟩)
  have CM1 : Hid (∀ W (a : Option Addr) g c c', ClsAt W a d10K1 → RowIn d10A 38 W g → Calls Try.prog 35 #[.slice a 2 c, .slice (some ⟨g, 0, none⟩) 2 c'] W fun e w' => e = .returned (.bool true) ∧ Below W.heap.size W w') := Lib.hid (fun W a g c c' h1 h2 => sameCells9_yes d10K1 2 rfl a (some ⟨g, 0, none⟩) c c' (by decide) h1 (d10_k1 h2))
  have CM2 : Hid (∀ W (a : Option Addr) g c c', ClsAt W a d10K2 → RowIn d10A 38 W g → Calls Try.prog 35 #[.slice a 1 c, .slice (some ⟨g, 6, none⟩) 1 c'] W fun e w' => e = .returned (.bool true) ∧ Below W.heap.size W w') := Lib.hid (fun W a g c c' h1 h2 => sameCells9_yes d10K2 1 rfl a (some ⟨g, 6, none⟩) c c' (by decide) h1 (d10_k2 h2))
  have hmk : ∀ W : World, (Instr.makeSlice 92 (.int .i64 16) (.int .i64 16)).run Try.prog W = .ok (.slice (some ⟨W.heap.size, 0, none⟩) 16 16) (W.alloc (.cells #[.int .u8 0, .int .u8 0, .int .u8 0, .int .u8 0, .int .u8 0, .int .u8 0, .int .u8 0, .int .u8 0, .int .u8 0, .int .u8 0, .int .u8 0, .int .u8 0, .int .u8 0, .int .u8 0, .int .u8 0, .int .u8 0] 5)) := fun _ => by kernel_rfl
  have hcv : ∀ W : World, (convert 92 9 (.slice (some ⟨W.heap.size, 0, none⟩) 16 16)).run Try.prog (W.alloc (.cells #[.int .u8 0, .int .u8 0, .int .u8 0, .int .u8 0, .int .u8 0, .int .u8 0, .int .u8 0, .int .u8 0, .int .u8 0, .int .u8 0, .int .u8 0, .int .u8 0, .int .u8 0, .int .u8 0, .int .u8 0, .int .u8 0] 5)) = .ok (.string ⟨#[0, 0, 0, 0, 0, 0, 0, 0, 0, 0, 0, 0, 0, 0, 0, 0]⟩) (W.alloc (.cells #[.int .u8 0, .int .u8 0, .int .u8 0, .int .u8 0, .int .u8 0, .int .u8 0, .int .u8 0, .int .u8 0, .int .u8 0, .int .u8 0, .int .u8 0, .int .u8 0, .int .u8 0, .int .u8 0, .int .u8 0, .int .u8 0] 5)) := fun W => by
    refine run_convert_bytes_back (P := Try.prog) _ 92 9 5 ⟨W.heap.size, 0, none⟩ 16 (List.replicate 16 0) Try.underlying92 Try.underlying5 Try.underlying9 (fun j hj => ?_)
    rw [Addr.add_lit, Nat.zero_add, cell_new]
    simp at hj
    have : ∀ j, j < 16 → (#[.int .u8 0, .int .u8 0, .int .u8 0, .int .u8 0, .int .u8 0, .int .u8 0, .int .u8 0, .int .u8 0, .int .u8 0, .int .u8 0, .int .u8 0, .int .u8 0, .int .u8 0, .int .u8 0, .int .u8 0, .int .u8 0] : Array Value)[j]? = some (.int .u8 0) := by
      intro j hj
      match j, hj with
      | 0, _ | 1, _ | 2, _ | 3, _ | 4, _ | 5, _ | 6, _ | 7, _ | 8, _ | 9, _ | 10, _ | 11, _ | 12, _ | 13, _ | 14, _ | 15, _ => rfl
      | k + 16, h => omega
    rw [this j hj, List.getElem_replicate]
    rfl
  have HB := Lib.hid (Below.refl w.heap.size w)
  go_enter Try.func27, Try.ntmps27
  go_wp2_with fail
  with_reducible refine (CB0.out _).mono ?_
  rintro e w1 ⟨rfl, hbq⟩
  replace HB := carry hbq HB
  clear hbq CB0
  have HC := Lib.hid (show ClsAt (w1.alloc (.cells d10A 38)) (some ⟨w1.heap.size, 0, none⟩) d10L from clsAt_row (rowIn_new _ _ _) rfl)
  have HL := Lib.hid (rowIn_new d10A 38 w1)
  replace HB := carryA (w := w1) (.cells d10A 38) HB
  go_wp2_with fail
  with_reducible refine (CB1.out _ _ HC.out).mono ?_
  rintro e w2 ⟨rfl, hbq⟩
  replace HB := carry hbq HB
  replace HC := carry hbq HC
  replace HL := carry hbq HL
  clear hbq CB1
  go_wp2_with fail
  with_reducible refine (CO1.out _).mono ?_
  rintro e w3 ⟨p, rfl, ht, hbq⟩
  have HT := Lib.hid ht
  replace HB := carry hbq HB
  replace HC := carry hbq HC
  replace HL := carry hbq HL
  clear hbq ht CO1
  have HW3 : Hid (∀ o : Obj, Below w.heap.size w (w3.alloc o)) := Lib.hid (fun o => HB.out.alloc HB.out.size o)
  have HT4 : Hid (∀ o : Obj, TabAt d10L p (w3.alloc o)) := Lib.hid (fun o => HT.out.below ((Below.refl _ _).alloc (Nat.le_refl _) o))
  have HL4 : Hid (∀ o : Obj, RowIn d10A 38 (w3.alloc o) w1.heap.size) := Lib.hid (fun o => HL.out.below ((Below.refl _ _).alloc (Nat.le_refl _) o))
  clear HB HT HL HC
  go_wp2_with fail
  with_reducible refine (CG.out _ p (HT4.out _)).mono ?_
  rintro e w4 ⟨rfl, hbq⟩
  have HB := Lib.hid (below_step (HW3.out _) hbq)
  have HT := Lib.hid ((HT4.out _).below hbq)
  have HL := Lib.hid ((HL4.out _).below hbq)
  clear hbq HW3 HT4 HL4 CG
  have HX := Lib.hid (rowIn_new #[.string ⟨#[97]⟩, .int .i64 2, .string ⟨#[]⟩] 38 w4)
  replace HB := carryA (w := w4) (.cells #[.string ⟨#[97]⟩, .int .i64 2, .string ⟨#[]⟩] 38) HB
  replace HT := carryA (w := w4) (.cells #[.string ⟨#[97]⟩, .int .i64 2, .string ⟨#[]⟩] 38) HT
  replace HL := carryA (w := w4) (.cells #[.string ⟨#[97]⟩, .int .i64 2, .string ⟨#[]⟩] 38) HL
  have k1 := run_piece_to (P := Try.prog) 9 Try.underlying9 [0, 0, 1, 0, 1, 0, 0, 0, 0, 0, 0, 0, 0, 0, 0, 0, 0, 0, 0, 0, 0, 115, 112, 111, 111, 114] 25 25 rfl (by decide)
  simp only [List.take_succ_cons, List.take_zero] at k1
  go_wp2_with fail
  with_reducible refine (CO0.out _).mono ?_
  rintro e w5 ⟨rfl, hbq⟩
  replace HB := carry hbq HB
  replace HT := carry hbq HT
  replace HL := carry hbq HL
  replace HX := carry hbq HX
  clear hbq CO0 k1 hmk hcv
  go_wp2_with fail
  replace HB := Lib.hid HB.out.drew
  replace HT := Lib.hid (show TabAt d10L p (World.drew w5) from HT.out.same10 rfl)
  replace HL := Lib.hid (show RowIn d10A 38 (World.drew w5) w1.heap.size from HL.out)
  replace HX := Lib.hid (show RowIn #[.string ⟨#[97]⟩, .int .i64 2, .string ⟨#[]⟩] 38 (World.drew w5) w4.heap.size from HX.out)
  refine wp_region_held_drew (S := fun W => W.cell? ⟨w4.heap.size, 0, none⟩ = some (.string ⟨#[97]⟩) ∧ W.cell? ⟨w4.heap.size, 1, none⟩ = some (.int .i64 2) ∧ W.cell? ⟨w4.heap.size, 2, none⟩ = some (.string ⟨#[]⟩) ∧ W.cell? ⟨w1.heap.size, 0, none⟩ = some (.string ⟨#[97]⟩) ∧ W.cell? ⟨w1.heap.size, 1, none⟩ = some (.int .i64 2) ∧ W.cell? ⟨w1.heap.size, 2, none⟩ = some (.string ⟨#[]⟩)) (by kernel_rfl) ?_ (fun hHeld => ?_)
  · exact ⟨HX.out.cell 0, HX.out.cell 1, HX.out.cell 2, HL.out.cell 0, HL.out.cell 1, HL.out.cell 2⟩
  refine wpAnyH_take (i := 0) (oi := { dst := some 66, op := Op.move (Operand.tmp 9), type := 4, pos := "law.go:22", after := #[], guard := none }) (v := ?_) rfl (by kernel_rfl) (by kernel_rfl) (by kernel_rfl) (fun _ _ _ h => h) (Or.inl ⟨by rfl, ?_⟩) (by assumption) ?_
  rotate_left
  · (intro w hSw; (try dsimp only at hSw); go_simp); (first | done | with_reducible rfl)
  try simp only [Act.put, List.setIfInBounds_toArray, List.set_cons_zero, List.set_cons_succ]
  refine wpAnyH_take (i := 1) (oi := { dst := some 67, op := Op.move (Operand.tmp 66), type := 4, pos := "law.go:22", after := #[{ on := 0, ground := Ground.data }], guard := none }) (v := ?_) rfl (by kernel_rfl) (by kernel_rfl) (by kernel_rfl) (fun _ _ _ h => h) (Or.inl ⟨by rfl, ?_⟩) (by assumption) ?_
  rotate_left
  · (intro w hSw; (try dsimp only at hSw); go_simp); (first | done | with_reducible rfl)
  try simp only [Act.put, List.setIfInBounds_toArray, List.set_cons_zero, List.set_cons_succ]
  refine wpAnyH_take (i := 2) (oi := { dst := some 68, op := Op.load 38 (Operand.tmp 8), type := 38, pos := "law.go:22", after := #[{ on := 1, ground := Ground.guard }], guard := some (1, true) }) (v := ?_) rfl (by kernel_rfl) (by kernel_rfl) (by kernel_rfl) (fun _ _ _ h => h) (Or.inl ⟨by rfl, ?_⟩) (by assumption) ?_
  rotate_left
  · (intro w hSw; (try dsimp only at hSw); go_simp); (first | done | with_reducible rfl)
  try simp only [Act.put, List.setIfInBounds_toArray, List.set_cons_zero, List.set_cons_succ]
  refine wpAnyH_take (i := 3) (oi := { dst := some 69, op := Op.move (Operand.tmp 3), type := 22, pos := "law.go:22", after := #[{ on := 1, ground := Ground.guard }], guard := some (1, true) }) (v := ?_) rfl (by kernel_rfl) (by kernel_rfl) (by kernel_rfl) (fun _ _ _ h => h) (Or.inl ⟨by rfl, ?_⟩) (by assumption) ?_
  rotate_left
  · (intro w hSw; (try dsimp only at hSw); go_simp); (first | done | with_reducible rfl)
  try simp only [Act.put, List.setIfInBounds_toArray, List.set_cons_zero, List.set_cons_succ]
  refine wpAnyH_take (i := 4) (oi := { dst := some 70, op := Op.indexAddr 22 (Operand.tmp 69) (Operand.const (Value.int IntKind.i64 0)), type := 0, pos := "law.go:22", after := #[{ on := 3, ground := Ground.data }, { on := 1, ground := Ground.guard }], guard := some (1, true) }) (v := ?_) rfl (by kernel_rfl) (by kernel_rfl) (by kernel_rfl) (fun _ _ _ h => h) (Or.inl ⟨by rfl, ?_⟩) (by assumption) ?_
  rotate_left
  · (intro w hSw; (try dsimp only at hSw); go_simp); (first | done | with_reducible rfl)
  try simp only [Act.put, List.setIfInBounds_toArray, List.set_cons_zero, List.set_cons_succ]
  refine wpAnyH_take (i := 5) (oi := { dst := some 71, op := Op.load 38 (Operand.tmp 70), type := 38, pos := "law.go:22", after := #[{ on := 4, ground := Ground.data }, { on := 1, ground := Ground.guard }], guard := some (1, true) }) (v := ?_) rfl (by kernel_rfl) (by kernel_rfl) (by kernel_rfl) (fun _ _ _ h => h) (Or.inl ⟨by rfl, ?_⟩) (by assumption) ?_
  rotate_left
  · (intro w hSw; (try dsimp only at hSw); go_simp); (first | done | with_reducible rfl)
  try simp only [Act.put, List.setIfInBounds_toArray, List.set_cons_zero, List.set_cons_succ]
  refine wpAnyH_take (i := 6) (oi := { dst := some 72, op := Op.binOp BinOp.eql 38 (Operand.tmp 68) (Operand.tmp 71) 38, type := 4, pos := "law.go:22", after := #[{ on := 2, ground := Ground.data }, { on := 5, ground := Ground.data }, { on := 1, ground := Ground.guard }], guard := some (1, true) }) (v := ?_) rfl (by kernel_rfl) (by kernel_rfl) (by kernel_rfl) (fun _ _ _ h => h) (Or.inl ⟨by rfl, ?_⟩) (by assumption) ?_
  rotate_left
  · (intro w hSw; (try dsimp only at hSw); go_simp); (first | done | with_reducible rfl)
  try simp only [Act.put, List.setIfInBounds_toArray, List.set_cons_zero, List.set_cons_succ]
  refine wpAnyH_take (i := 7) (oi := { dst := some 73, op := Op.pick (Operand.tmp 67) (Operand.tmp 72) (Operand.const (Value.bool false)), type := 4, pos := "law.go:22", after := #[{ on := 1, ground := Ground.data }, { on := 6, ground := Ground.data }], guard := none }) (v := ?_) rfl (by kernel_rfl) (by kernel_rfl) (by kernel_rfl) (fun _ _ _ h => h) (Or.inl ⟨by rfl, ?_⟩) (by assumption) ?_
  rotate_left
  · (intro w hSw; (try dsimp only at hSw); go_simp); (first | done | with_reducible rfl)
  try simp only [Act.put, List.setIfInBounds_toArray, List.set_cons_zero, List.set_cons_succ]
  refine wpAnyH_take (i := 8) (oi := { dst := some 74, op := Op.move (Operand.tmp 73), type := 4, pos := "law.go:22", after := #[{ on := 7, ground := Ground.data }, { on := 1, ground := Ground.chain }], guard := none }) (v := ?_) rfl (by kernel_rfl) (by kernel_rfl) (by kernel_rfl) (fun _ _ _ h => h) (Or.inl ⟨by rfl, ?_⟩) (by assumption) ?_
  rotate_left
  · (intro w hSw; (try dsimp only at hSw); go_simp); (first | done | with_reducible rfl)
  try simp only [Act.put, List.setIfInBounds_toArray, List.set_cons_zero, List.set_cons_succ]
  refine wpAnyH_take (i := 9) (oi := { dst := some 75, op := Op.move (Operand.tmp 6), type := 32, pos := "law.go:22", after := #[{ on := 8, ground := Ground.guard }], guard := some (8, true) }) (v := ?_) rfl (by kernel_rfl) (by kernel_rfl) (by kernel_rfl) (fun _ _ _ h => h) (Or.inl ⟨by rfl, ?_⟩) (by assumption) ?_
  rotate_left
  · (intro w hSw; (try dsimp only at hSw); go_simp); (first | done | with_reducible rfl)
  try simp only [Act.put, List.setIfInBounds_toArray, List.set_cons_zero, List.set_cons_succ]
  refine wpAnyH_ready (rs := [10]) (by kernel_rfl) (by simp) ?_
  refine AllReadyH.cons (o := { dst := some 76, op := Op.call { callee := Callee.value (Operand.func 34), args := #[Operand.tmp 75], argTypes := #[32] }, type := 3, pos := "law.go:22", after := #[{ on := 9, ground := Ground.data }, { on := 8, ground := Ground.chain }, { on := 8, ground := Ground.guard }], guard := some (8, true) }) rfl (fun K hK => ?_) AllReadyH.nil
  go_simp
  go_at_call 34
  with_reducible refine (CL.out _ p HT.out).mono ?_
  rintro e wL ⟨rfl, rfl⟩
  go_wp2_with fail
  refine hK.out _ _ ?_ (fun hHeld => ?_)
  · exact ⟨HX.out.cell 0, HX.out.cell 1, HX.out.cell 2, HL.out.cell 0, HL.out.cell 1, HL.out.cell 2⟩
  clear hK K
  try simp only [Act.put, List.setIfInBounds_toArray, List.set_cons_zero, List.set_cons_succ]
  refine wpAnyH_take (i := 11) (oi := { dst := some 77, op := Op.binOp BinOp.eql 3 (Operand.tmp 76) (Operand.const (Value.int IntKind.i64 3)) 3, type := 4, pos := "law.go:22", after := #[{ on := 10, ground := Ground.data }, { on := 8, ground := Ground.guard }], guard := some (8, true) }) (v := ?_) rfl (by kernel_rfl) (by kernel_rfl) (by kernel_rfl) (fun _ _ _ h => h) (Or.inl ⟨by rfl, ?_⟩) (by assumption) ?_
  rotate_left
  · (intro w hSw; (try dsimp only at hSw); go_simp); (first | done | with_reducible rfl)
  try simp only [Act.put, List.setIfInBounds_toArray, List.set_cons_zero, List.set_cons_succ]
  refine wpAnyH_take (i := 12) (oi := { dst := some 78, op := Op.pick (Operand.tmp 74) (Operand.tmp 77) (Operand.const (Value.bool false)), type := 4, pos := "law.go:22", after := #[{ on := 8, ground := Ground.data }, { on := 11, ground := Ground.data }], guard := none }) (v := ?_) rfl (by kernel_rfl) (by kernel_rfl) (by kernel_rfl) (fun _ _ _ h => h) (Or.inl ⟨by rfl, ?_⟩) (by assumption) ?_
  rotate_left
  · (intro w hSw; (try dsimp only at hSw); go_simp); (first | done | with_reducible rfl)
  try simp only [Act.put, List.setIfInBounds_toArray, List.set_cons_zero, List.set_cons_succ]
  refine wpAnyH_take (i := 13) (oi := { dst := some 79, op := Op.move (Operand.tmp 78), type := 4, pos := "law.go:22", after := #[{ on := 12, ground := Ground.data }, { on := 10, ground := Ground.chain }], guard := none }) (v := ?_) rfl (by kernel_rfl) (by kernel_rfl) (by kernel_rfl) (fun _ _ _ h => h) (Or.inl ⟨by rfl, ?_⟩) (by assumption) ?_
  rotate_left
  · (intro w hSw; (try dsimp only at hSw); go_simp); (first | done | with_reducible rfl)
  try simp only [Act.put, List.setIfInBounds_toArray, List.set_cons_zero, List.set_cons_succ]
  refine wpAnyH_take (i := 14) (oi := { dst := some 80, op := Op.move (Operand.tmp 6), type := 32, pos := "law.go:22", after := #[{ on := 13, ground := Ground.guard }], guard := some (13, true) }) (v := ?_) rfl (by kernel_rfl) (by kernel_rfl) (by kernel_rfl) (fun _ _ _ h => h) (Or.inl ⟨by rfl, ?_⟩) (by assumption) ?_
  rotate_left
  · (intro w hSw; (try dsimp only at hSw); go_simp); (first | done | with_reducible rfl)
  try simp only [Act.put, List.setIfInBounds_toArray, List.set_cons_zero, List.set_cons_succ]
  refine wpAnyH_take (i := 16) (oi := { dst := some 82, op := Op.move (Operand.tmp 3), type := 22, pos := "law.go:22", after := #[{ on := 13, ground := Ground.guard }], guard := some (13, true) }) (v := ?_) rfl (by kernel_rfl) (by kernel_rfl) (by kernel_rfl) (fun _ _ _ h => h) (Or.inl ⟨by rfl, ?_⟩) (by assumption) ?_
  rotate_left
  · (intro w hSw; (try dsimp only at hSw); go_simp); (first | done | with_reducible rfl)
  try simp only [Act.put, List.setIfInBounds_toArray, List.set_cons_zero, List.set_cons_succ]
  refine wpAnyH_take (i := 17) (oi := { dst := some 83, op := Op.slice 22 (Operand.tmp 82) none (some (Operand.const (Value.int IntKind.i64 2))) none, type := 22, pos := "law.go:22", after := #[{ on := 16, ground := Ground.data }, { on := 13, ground := Ground.guard }], guard := some (13, true) }) (v := ?_) rfl (by kernel_rfl) (by kernel_rfl) (by kernel_rfl) (fun _ _ _ h => h) (Or.inl ⟨by rfl, ?_⟩) (by assumption) ?_
  rotate_left
  · (intro w hSw; (try dsimp only at hSw); go_simp); (first | done | with_reducible rfl)
  try simp only [Act.put, List.setIfInBounds_toArray, List.set_cons_zero, List.set_cons_succ]
  refine wpAnyH_ready (rs := [15]) (by kernel_rfl) (by simp) ?_
  refine AllReadyH.cons (o := { dst := some 81, op := Op.call { callee := Callee.value (Operand.func 32), args := #[Operand.tmp 80, Operand.const (Value.string { data := #[97] }), Operand.const (Value.string { data := #[98] })], argTypes := #[32, 9, 9] }, type := 22, pos := "law.go:22", after := #[{ on := 14, ground := Ground.data }, { on := 13, ground := Ground.chain }, { on := 13, ground := Ground.guard }], guard := some (13, true) }) rfl (fun K hK => ?_) AllReadyH.nil
  go_simp
  go_at_call 32
  with_reducible refine (CR1.out _ p HT.out).mono ?_
  rintro e w6 ⟨aw6, cw6, rfl, hw6, hbq⟩
  replace HB := carry hbq HB
  replace HT := carry hbq HT
  replace HL := carry hbq HL
  replace HX := carry hbq HX
  have HK := Lib.hid hw6
  clear hbq hw6
  go_wp2_with fail
  refine hK.out _ _ ?_ (fun hHeld => ?_)
  · exact ⟨HX.out.cell 0, HX.out.cell 1, HX.out.cell 2, HL.out.cell 0, HL.out.cell 1, HL.out.cell 2⟩
  clear hK K
  try simp only [Act.put, List.setIfInBounds_toArray, List.set_cons_zero, List.set_cons_succ]
  refine wpAnyH_ready (rs := [18]) (by kernel_rfl) (by simp) ?_
  refine AllReadyH.cons (o := { dst := some 84, op := Op.call { callee := Callee.value (Operand.func 35), args := #[Operand.tmp 81, Operand.tmp 83], argTypes := #[22, 22] }, type := 4, pos := "law.go:22", after := #[{ on := 15, ground := Ground.data }, { on := 17, ground := Ground.data }, { on := 15, ground := Ground.chain }, { on := 13, ground := Ground.guard }], guard := some (13, true) }) rfl (fun K hK => ?_) AllReadyH.nil
  go_simp
  go_at_call 35
  with_reducible refine (CM1.out _ _ _ _ _ HK.out HL.out).mono ?_
  rintro e w7 ⟨rfl, hbq⟩
  replace HB := carry hbq HB
  replace HT := carry hbq HT
  replace HL := carry hbq HL
  replace HX := carry hbq HX
  clear hbq HK
  go_wp2_with fail
  refine hK.out _ _ ?_ (fun hHeld => ?_)
  · exact ⟨HX.out.cell 0, HX.out.cell 1, HX.out.cell 2, HL.out.cell 0, HL.out.cell 1, HL.out.cell 2⟩
  clear hK K
  try simp only [Act.put, List.setIfInBounds_toArray, List.set_cons_zero, List.set_cons_succ]
  refine wpAnyH_take (i := 19) (oi := { dst := some 85, op := Op.pick (Operand.tmp 79) (Operand.tmp 84) (Operand.const (Value.bool false)), type := 4, pos := "law.go:22", after := #[{ on := 13, ground := Ground.data }, { on := 18, ground := Ground.data }], guard := none }) (v := ?_) rfl (by kernel_rfl) (by kernel_rfl) (by kernel_rfl) (fun _ _ _ h => h) (Or.inl ⟨by rfl, ?_⟩) (by assumption) ?_
  rotate_left
  · (intro w hSw; (try dsimp only at hSw); go_simp); (first | done | with_reducible rfl)
  try simp only [Act.put, List.setIfInBounds_toArray, List.set_cons_zero, List.set_cons_succ]
  refine wpAnyH_take (i := 20) (oi := { dst := some 86, op := Op.move (Operand.tmp 85), type := 4, pos := "law.go:22", after := #[{ on := 19, ground := Ground.data }, { on := 18, ground := Ground.chain }], guard := none }) (v := ?_) rfl (by kernel_rfl) (by kernel_rfl) (by kernel_rfl) (fun _ _ _ h => h) (Or.inl ⟨by rfl, ?_⟩) (by assumption) ?_
  rotate_left
  · (intro w hSw; (try dsimp only at hSw); go_simp); (first | done | with_reducible rfl)
  try simp only [Act.put, List.setIfInBounds_toArray, List.set_cons_zero, List.set_cons_succ]
  refine wpAnyH_take (i := 21) (oi := { dst := some 87, op := Op.move (Operand.tmp 6), type := 32, pos := "law.go:22", after := #[{ on := 20, ground := Ground.guard }], guard := some (20, true) }) (v := ?_) rfl (by kernel_rfl) (by kernel_rfl) (by kernel_rfl) (fun _ _ _ h => h) (Or.inl ⟨by rfl, ?_⟩) (by assumption) ?_
  rotate_left
  · (intro w hSw; (try dsimp only at hSw); go_simp); (first | done | with_reducible rfl)
  try simp only [Act.put, List.setIfInBounds_toArray, List.set_cons_zero, List.set_cons_succ]
  refine wpAnyH_take (i := 23) (oi := { dst := some 89, op := Op.move (Operand.tmp 3), type := 22, pos := "law.go:22", after := #[{ on := 20, ground := Ground.guard }], guard := some (20, true) }) (v := ?_) rfl (by kernel_rfl) (by kernel_rfl) (by kernel_rfl) (fun _ _ _ h => h) (Or.inl ⟨by rfl, ?_⟩) (by assumption) ?_
  rotate_left
  · (intro w hSw; (try dsimp only at hSw); go_simp); (first | done | with_reducible rfl)
  try simp only [Act.put, List.setIfInBounds_toArray, List.set_cons_zero, List.set_cons_succ]
  refine wpAnyH_take (i := 24) (oi := { dst := some 90, op := Op.slice 22 (Operand.tmp 89) (some (Operand.const (Value.int IntKind.i64 2))) none none, type := 22, pos := "law.go:22", after := #[{ on := 23, ground := Ground.data }, { on := 20, ground := Ground.guard }], guard := some (20, true) }) (v := ?_) rfl (by kernel_rfl) (by kernel_rfl) (by kernel_rfl) (fun _ _ _ h => h) (Or.inl ⟨by rfl, ?_⟩) (by assumption) ?_
  rotate_left
  · (intro w hSw; (try dsimp only at hSw); go_simp); (first | done | with_reducible rfl)
  try simp only [Act.put, List.setIfInBounds_toArray, List.set_cons_zero, List.set_cons_succ]
  refine wpAnyH_ready (rs := [22]) (by kernel_rfl) (by simp) ?_
  refine AllReadyH.cons (o := { dst := some 88, op := Op.call { callee := Callee.value (Operand.func 32), args := #[Operand.tmp 87, Operand.const (Value.string { data := #[98] }), Operand.const (Value.string { data := #[] })], argTypes := #[32, 9, 9] }, type := 22, pos := "law.go:22", after := #[{ on := 21, ground := Ground.data }, { on := 20, ground := Ground.chain }, { on := 20, ground := Ground.guard }], guard := some (20, true) }) rfl (fun K hK => ?_) AllReadyH.nil
  go_simp
  go_at_call 32
  with_reducible refine (CR2.out _ p HT.out).mono ?_
  rintro e w8 ⟨aw8, cw8, rfl, hw8, hbq⟩
  replace HB := carry hbq HB
  replace HT := carry hbq HT
  replace HL := carry hbq HL
  replace HX := carry hbq HX
  have HK := Lib.hid hw8
  clear hbq hw8
  go_wp2_with fail
  refine hK.out _ _ ?_ (fun hHeld => ?_)
  · exact ⟨HX.out.cell 0, HX.out.cell 1, HX.out.cell 2, HL.out.cell 0, HL.out.cell 1, HL.out.cell 2⟩
  clear hK K
  try simp only [Act.put, List.setIfInBounds_toArray, List.set_cons_zero, List.set_cons_succ]
  refine wpAnyH_ready (rs := [25]) (by kernel_rfl) (by simp) ?_
  refine AllReadyH.cons (o := { dst := some 91, op := Op.call { callee := Callee.value (Operand.func 35), args := #[Operand.tmp 88, Operand.tmp 90], argTypes := #[22, 22] }, type := 4, pos := "law.go:22", after := #[{ on := 22, ground := Ground.data }, { on := 24, ground := Ground.data }, { on := 22, ground := Ground.chain }, { on := 20, ground := Ground.guard }], guard := some (20, true) }) rfl (fun K hK => ?_) AllReadyH.nil
  go_simp
  go_at_call 35
  with_reducible refine (CM2.out _ _ _ _ _ HK.out HL.out).mono ?_
  rintro e w9 ⟨rfl, hbq⟩
  replace HB := carry hbq HB
  replace HT := carry hbq HT
  replace HL := carry hbq HL
  replace HX := carry hbq HX
  clear hbq HK
  go_wp2_with fail
  refine hK.out _ _ ?_ (fun hHeld => ?_)
  · exact ⟨HX.out.cell 0, HX.out.cell 1, HX.out.cell 2, HL.out.cell 0, HL.out.cell 1, HL.out.cell 2⟩
  clear hK K
  try simp only [Act.put, List.setIfInBounds_toArray, List.set_cons_zero, List.set_cons_succ]
  refine wpAnyH_take (i := 26) (oi := { dst := some 92, op := Op.pick (Operand.tmp 86) (Operand.tmp 91) (Operand.const (Value.bool false)), type := 4, pos := "law.go:22", after := #[{ on := 20, ground := Ground.data }, { on := 25, ground := Ground.data }], guard := none }) (v := ?_) rfl (by kernel_rfl) (by kernel_rfl) (by kernel_rfl) (fun _ _ _ h => h) (Or.inl ⟨by rfl, ?_⟩) (by assumption) ?_
  rotate_left
  · (intro w hSw; (try dsimp only at hSw); go_simp); (first | done | with_reducible rfl)
  try simp only [Act.put, List.setIfInBounds_toArray, List.set_cons_zero, List.set_cons_succ]
  refine wpAnyH_take (i := 27) (oi := { dst := some 93, op := Op.move (Operand.tmp 92), type := 4, pos := "law.go:22", after := #[{ on := 26, ground := Ground.data }, { on := 25, ground := Ground.chain }], guard := none }) (v := ?_) rfl (by kernel_rfl) (by kernel_rfl) (by kernel_rfl) (fun _ _ _ h => h) (Or.inl ⟨by rfl, ?_⟩) (by assumption) ?_
  rotate_left
  · (intro w hSw; (try dsimp only at hSw); go_simp); (first | done | with_reducible rfl)
  try simp only [Act.put, List.setIfInBounds_toArray, List.set_cons_zero, List.set_cons_succ]
  refine wpAnyH_take (i := 28) (oi := { dst := some 94, op := Op.move (Operand.tmp 6), type := 32, pos := "law.go:22", after := #[{ on := 27, ground := Ground.guard }], guard := some (27, true) }) (v := ?_) rfl (by kernel_rfl) (by kernel_rfl) (by kernel_rfl) (fun _ _ _ h => h) (Or.inl ⟨by rfl, ?_⟩) (by assumption) ?_
  rotate_left
  · (intro w hSw; (try dsimp only at hSw); go_simp); (first | done | with_reducible rfl)
  try simp only [Act.put, List.setIfInBounds_toArray, List.set_cons_zero, List.set_cons_succ]
  refine wpAnyH_ready (rs := [29]) (by kernel_rfl) (by simp) ?_
  refine AllReadyH.cons (o := { dst := some 95, op := Op.call { callee := Callee.value (Operand.func 32), args := #[Operand.tmp 94, Operand.const (Value.string { data := #[98] }), Operand.const (Value.string { data := #[97] })], argTypes := #[32, 9, 9] }, type := 22, pos := "law.go:22", after := #[{ on := 28, ground := Ground.data }, { on := 27, ground := Ground.chain }, { on := 27, ground := Ground.guard }], guard := some (27, true) }) rfl (fun K hK => ?_) AllReadyH.nil
  go_simp
  go_at_call 32
  with_reducible refine (CR3.out _ p HT.out).mono ?_
  rintro e wA ⟨aA, cA, rfl, hbq⟩
  replace HB := carry hbq HB
  replace HT := carry hbq HT
  replace HL := carry hbq HL
  replace HX := carry hbq HX
  clear hbq
  go_wp2_with fail
  refine hK.out _ _ ?_ (fun hHeld => ?_)
  · exact ⟨HX.out.cell 0, HX.out.cell 1, HX.out.cell 2, HL.out.cell 0, HL.out.cell 1, HL.out.cell 2⟩
  clear hK K
  try simp only [Act.put, List.setIfInBounds_toArray, List.set_cons_zero, List.set_cons_succ]
  refine wpAnyH_take (i := 30) (oi := { dst := some 96, op := Op.call { callee := Callee.builtin Builtin.len, args := #[Operand.tmp 95], argTypes := #[22] }, type := 3, pos := "law.go:22", after := #[{ on := 29, ground := Ground.data }, { on := 27, ground := Ground.guard }], guard := some (27, true) }) (v := ?_) rfl (by kernel_rfl) (by kernel_rfl) (by kernel_rfl) (fun _ _ _ h => h) (Or.inl ⟨by rfl, ?_⟩) (by assumption) ?_
  rotate_left
  · (intro w hSw; (try dsimp only at hSw); go_simp); (first | done | with_reducible rfl)
  try simp only [Act.put, List.setIfInBounds_toArray, List.set_cons_zero, List.set_cons_succ]
  refine wpAnyH_take (i := 31) (oi := { dst := some 97, op := Op.binOp BinOp.eql 3 (Operand.tmp 96) (Operand.const (Value.int IntKind.i64 0)) 3, type := 4, pos := "law.go:22", after := #[{ on := 30, ground := Ground.data }, { on := 27, ground := Ground.guard }], guard := some (27, true) }) (v := ?_) rfl (by kernel_rfl) (by kernel_rfl) (by kernel_rfl) (fun _ _ _ h => h) (Or.inl ⟨by rfl, ?_⟩) (by assumption) ?_
  rotate_left
  · (intro w hSw; (try dsimp only at hSw); go_simp); (first | done | with_reducible rfl)
  try simp only [Act.put, List.setIfInBounds_toArray, List.set_cons_zero, List.set_cons_succ]
  refine wpAnyH_take (i := 32) (oi := { dst := some 98, op := Op.pick (Operand.tmp 93) (Operand.tmp 97) (Operand.const (Value.bool false)), type := 4, pos := "law.go:22", after := #[{ on := 27, ground := Ground.data }, { on := 31, ground := Ground.data }], guard := none }) (v := ?_) rfl (by kernel_rfl) (by kernel_rfl) (by kernel_rfl) (fun _ _ _ h => h) (Or.inl ⟨by rfl, ?_⟩) (by assumption) ?_
  rotate_left
  · (intro w hSw; (try dsimp only at hSw); go_simp); (first | done | with_reducible rfl)
  try simp only [Act.put, List.setIfInBounds_toArray, List.set_cons_zero, List.set_cons_succ]
  refine wpAnyH_take (i := 33) (oi := { dst := some 99, op := Op.move (Operand.tmp 98), type := 4, pos := "law.go:22", after := #[{ on := 32, ground := Ground.data }, { on := 29, ground := Ground.chain }], guard := none }) (v := ?_) rfl (by kernel_rfl) (by kernel_rfl) (by kernel_rfl) (fun _ _ _ h => h) (Or.inl ⟨by rfl, ?_⟩) (by assumption) ?_
  rotate_left
  · (intro w hSw; (try dsimp only at hSw); go_simp); (first | done | with_reducible rfl)
  try simp only [Act.put, List.setIfInBounds_toArray, List.set_cons_zero, List.set_cons_succ]
  refine wpAnyH_take (i := 34) (oi := { dst := some 100, op := Op.move (Operand.tmp 11), type := 25, pos := "law.go:22", after := #[{ on := 33, ground := Ground.guard }], guard := some (33, true) }) (v := ?_) rfl (by kernel_rfl) (by kernel_rfl) (by kernel_rfl) (fun _ _ _ h => h) (Or.inl ⟨by rfl, ?_⟩) (by assumption) ?_
  rotate_left
  · (intro w hSw; (try dsimp only at hSw); go_simp); (first | done | with_reducible rfl)
  try simp only [Act.put, List.setIfInBounds_toArray, List.set_cons_zero, List.set_cons_succ]
  refine wpAnyH_take (i := 35) (oi := { dst := some 101, op := Op.binOp BinOp.eql 25 (Operand.tmp 100) (Operand.const (Value.int IntKind.i64 30)) 25, type := 4, pos := "law.go:22", after := #[{ on := 34, ground := Ground.data }, { on := 33, ground := Ground.guard }], guard := some (33, true) }) (v := ?_) rfl (by kernel_rfl) (by kernel_rfl) (by kernel_rfl) (fun _ _ _ h => h) (Or.inl ⟨by rfl, ?_⟩) (by assumption) ?_
  rotate_left
  · (intro w hSw; (try dsimp only at hSw); go_simp); (first | done | with_reducible rfl)
  try simp only [Act.put, List.setIfInBounds_toArray, List.set_cons_zero, List.set_cons_succ]
  refine wpAnyH_take (i := 36) (oi := { dst := some 102, op := Op.pick (Operand.tmp 99) (Operand.tmp 101) (Operand.const (Value.bool false)), type := 4, pos := "law.go:22", after := #[{ on := 33, ground := Ground.data }, { on := 35, ground := Ground.data }], guard := none }) (v := ?_) rfl (by kernel_rfl) (by kernel_rfl) (by kernel_rfl) (fun _ _ _ h => h) (Or.inl ⟨by rfl, ?_⟩) (by assumption) ?_
  rotate_left
  · (intro w hSw; (try dsimp only at hSw); go_simp); (first | done | with_reducible rfl)
  try simp only [Act.put, List.setIfInBounds_toArray, List.set_cons_zero, List.set_cons_succ]
  refine wpAnyH_take (i := 37) (oi := { dst := some 0, op := Op.assign (Operand.tmp 102), type := 4, pos := "law.go:22", after := #[{ on := 36, ground := Ground.data }, { on := 33, ground := Ground.chain }, { on := 0, ground := Ground.phase }, { on := 1, ground := Ground.phase }, { on := 2, ground := Ground.phase }, { on := 3, ground := Ground.phase }, { on := 4, ground := Ground.phase }, { on := 5, ground := Ground.phase }, { on := 6, ground := Ground.phase }, { on := 7, ground := Ground.phase }, { on := 8, ground := Ground.phase }, { on := 9, ground := Ground.phase }, { on := 10, ground := Ground.phase }, { on := 11, ground := Ground.phase }, { on := 12, ground := Ground.phase }, { on := 13, ground := Ground.phase }, { on := 14, ground := Ground.phase }, { on := 15, ground := Ground.phase }, { on := 16, ground := Ground.phase }, { on := 17, ground := Ground.phase }, { on := 18, ground := Ground.phase }, { on := 19, ground := Ground.phase }, { on := 20, ground := Ground.phase }, { on := 21, ground := Ground.phase }, { on := 22, ground := Ground.phase }, { on := 23, ground := Ground.phase }, { on := 24, ground := Ground.phase }, { on := 25, ground := Ground.phase }, { on := 26, ground := Ground.phase }, { on := 27, ground := Ground.phase }, { on := 28, ground := Ground.phase }, { on := 29, ground := Ground.phase }, { on := 30, ground := Ground.phase }, { on := 31, ground := Ground.phase }, { on := 32, ground := Ground.phase }, { on := 33, ground := Ground.phase }, { on := 34, ground := Ground.phase }, { on := 35, ground := Ground.phase }, { on := 36, ground := Ground.phase }], guard := none }) (v := ?_) rfl (by kernel_rfl) (by kernel_rfl) (by kernel_rfl) (fun _ _ _ h => h) (Or.inl ⟨by rfl, ?_⟩) (by assumption) ?_
  rotate_left
  · (intro w hSw; (try dsimp only at hSw); go_simp); (first | done | with_reducible rfl)
  refine wpAnyH_done (by kernel_rfl) ?_ _
  go_wp2_with fail
  go_ret
  exact ⟨rfl, HB.out⟩

end Go.Proofs.Ythidmgnfdikppaa
