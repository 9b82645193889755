/- Layer 10: a list of one key, as long as a table takes. Mathematics. -/
import Derived.Test.YthidmgnfdikppaaTablesP
namespace Go.Proofs.Ythidmgnfdikppaa
set_option linter.unusedVariables false
open Go Go.RowKit
attribute [local go_sem ↓] run_index_S
attribute [local go_sem] S_append S_extract

/-- Cells of the key "k", the newest first. -/
def kD : Nat → List M.Cl
  | 0 => []
  | m + 1 => ⟨[107], ((m + 1 : Nat) : Int), []⟩ :: kD m
theorem kD_len : ∀ n, (kD n).length = n
  | 0 => rfl
  | n + 1 => by rw [kD, List.length_cons, kD_len n]
theorem kD_get : ∀ n i, i < n → (kD n).getD i M.cl0 = ⟨[107], ((n - i : Nat) : Int), []⟩
  | 0, i, h => by omega
  | n + 1, 0, _ => rfl
  | n + 1, i + 1, h => by
    have := kD_get n i (by omega)
    rw [kD, List.getD_cons_succ, this, show n + 1 - (i + 1) = n - i from by omega]
theorem kD_mem : ∀ n, ∀ c ∈ kD n, c.key = [107] ∧ c.val = [] ∧ 0 ≤ c.seq ∧ c.seq ≤ (n : Int)
  | 0, c, h => by cases h
  | n + 1, c, h => by
    rw [kD, List.mem_cons] at h
    rcases h with rfl | h
    · exact ⟨rfl, rfl, show (0 : Int) ≤ ((n + 1 : Nat) : Int) by omega, Int.le_refl _⟩
    · obtain ⟨h1, h2, h3, h4⟩ := kD_mem n c h
      exact ⟨h1, h2, h3, by omega⟩
theorem kD_srt : ∀ (n : Nat) (s : Int), (n : Int) < s → M.srt (some ⟨[107], s, []⟩) (kD n) = true
  | 0, s, h => rfl
  | n + 1, s, h => by
    rw [kD, M.srt, Bool.and_eq_true]
    refine ⟨?_, kD_srt n _ (show (n : Int) < ((n + 1 : Nat) : Int) by omega)⟩
    unfold M.nextB
    rw [Bool.and_eq_true]
    refine ⟨M.mayC_true.2 ⟨by simp, by simp, show (0 : Int) ≤ ((n + 1 : Nat) : Int) by omega, by simp⟩, ?_⟩
    exact M.ahead_iff.2 (.inr ⟨rfl, h⟩)
theorem kD_srt0 : ∀ n, M.srt none (kD n) = true
  | 0 => rfl
  | n + 1 => by
    rw [kD, M.srt, Bool.and_eq_true]
    refine ⟨?_, kD_srt n _ (show (n : Int) < ((n + 1 : Nat) : Int) by omega)⟩
    unfold M.nextB
    rw [Bool.and_eq_true]
    exact ⟨M.mayC_true.2 ⟨by simp, by simp, show (0 : Int) ≤ ((n + 1 : Nat) : Int) by omega, by simp⟩, rfl⟩
theorem kD_ints (n : Nat) (hn : n ≤ 10000) : ∀ c ∈ kD n, c.ints := fun c hc => by
  obtain ⟨_, _, h3, h4⟩ := kD_mem n c hc
  exact ⟨by omega, by omega⟩
theorem kD_oks (n : Nat) (hn : n ≤ 10000) : ∀ c ∈ kD n, ClOk c := fun c hc => by
  obtain ⟨h1, h2, h3, h4⟩ := kD_mem n c hc
  exact ⟨by rw [h1]; simp, by rw [h2]; simp, ⟨by omega, by omega⟩⟩
/-- The bytes of short cells are few. -/
theorem M.encL_few (k : List UInt8) (L : List M.Cl) (h : ∀ c ∈ L, c.key.length ≤ 1 ∧ c.val = []) : (M.encL k L).length ≤ 50 * L.length := by
  induction L generalizing k with
  | nil => simp [M.encL]
  | cons c L ih =>
    have h1 := h c (List.mem_cons_self ..)
    have h2 := ih c.key (fun x hx => h x (List.mem_cons_of_mem _ hx))
    have p1 := (M.putN_length (M.com k c.key)).2
    have p2 := (M.putN_length (c.key.drop (M.com k c.key)).length).2
    have p3 := (M.putN_length c.seq.toNat).2
    have p4 := (M.putN_length c.val.length).2
    simp only [M.encL, M.encOne, M.putT, List.length_append, List.length_cons, List.length_drop, h1.2, List.length_nil] at *
    omega
theorem M.body_few {L : List M.Cl} (h : ∀ c ∈ L, c.key.length ≤ 1 ∧ c.val = []) (k : Nat) : (M.bodyS k L).length ≤ 300 * k := by
  induction k with
  | zero => simp [M.bodyS]
  | succ k ih =>
    have h1 := M.encL_few [] (M.blk L k) (fun c hc => h c (M.blk_mem hc))
    have h2 := M.blk_len4 L k
    have h3 := (M.putN_length (M.blk L k).length).2
    rw [M.bodyS_snoc, List.length_append, M.wsum_len]
    simp only [M.encCs, List.length_append]
    omega
theorem kD_tab (n : Nat) (hn : n ≤ 4096) : (M.tableT (kD n)).length ≤ 800000 := by
  have h1 := M.body_few (L := kD n) (fun c hc => by
    obtain ⟨h1, h2, _, _⟩ := kD_mem n c hc
    exact ⟨by rw [h1]; simp, h2⟩) (M.many (kD n))
  have h2 := M.idx_len (kD_srt0 n) (M.many (kD n))
  have h3 := (M.putN_length (M.many (kD n))).2
  have h4 : M.many (kD n) ≤ 1024 := by unfold M.many; rw [kD_len]; omega
  rw [M.tab_len]
  unfold M.bodyT M.idxT
  rw [List.length_append]
  omega
/-- A row that is made full. -/
theorem make_full (t : TypeId) (ht : Try.prog.underlying t = some (.slice 38)) (n : Nat) (hn : n ≤ 1000000) (kl kc : IntKind) :
    ∃ C : Array Value, C.size = n * 3 ∧ ∀ w : World, (Instr.makeSlice t (.int kl (n : Int)) (.int kc (n : Int))).run Try.prog w = .ok (.slice (some ⟨w.heap.size, 0, none⟩) n n) (w.alloc (.cells C 38)) := by
  obtain ⟨i0, z0, hi, hz0, hz1, hz2, hz3⟩ := infoCl_parts
  refine ⟨madeCells z0.cells (n * 3), by simp [size_madeCells], fun w => ?_⟩
  have hr := run_make (P := Try.prog) w t _ i0 z0 ht hi hz0 kl kc n n (by omega) (by omega) (by rw [hz2]; omega) (by omega)
  rw [hz1] at hr
  exact hr
/-- The table that is no table's: an empty one. -/
theorem tabAt_empty (w : World) (p : Nat) (h : RowIn #[.slice none 0 0, .slice none 0 0, .int .i64 0] 57 w p) : TabAt [] p w :=
  ⟨0, .slice none 0 0, .slice none 0 0, h, World.ownsRow_nil _ _ _ _, World.ownsRow_nil _ _ _ _, fun q hq => by cases hq⟩

end Go.Proofs.Ythidmgnfdikppaa
