/- Layer 7: New, by a contract. -/
import Derived.Test.YtggflkjdpibioaaNetsT
namespace Go.Proofs.Ytggflkjdpibioaa
set_option linter.unusedVariables false
open Go Go.RowKit

def isI (v : Option Value) (n : Int) : Bool := match v with
  | some (.int .i64 m) => decide (m = n)
  | _ => false
def isE (v : Option Value) : Bool := match v with
  | some (.string b) => b.data.toList.isEmpty
  | _ => false
def isT (v : Option Value) : Bool := match v with
  | some (.bool b) => b
  | _ => false
theorem of_isI {v : Option Value} {n : Int} (h : isI v n = true) : v = some (.int .i64 n) := by
  unfold isI at h
  split at h
  · rw [of_decide_eq_true h]
  · cases h
theorem of_isE {v : Option Value} (h : isE v = true) : v = some (.string (S [])) := by
  unfold isE at h
  split at h
  · rename_i b
    have : b.data.toList = [] := by simpa using h
    have : b = S [] := by
      cases b with
      | mk d => cases d with
        | mk l => simp at this; subst this; rfl
    rw [this]
  · cases h
def isF (v : Option Value) : Bool := match v with
  | some (.bool b) => !b
  | _ => false
theorem of_isF {v : Option Value} (h : isF v = true) : v = some (.bool false) := by
  unfold isF at h
  split at h
  · rename_i b
    cases b
    · rfl
    · cases h
  · cases h
theorem of_isT {v : Option Value} (h : isT v = true) : v = some (.bool true) := by
  unfold isT at h
  split at h
  · rw [h]
  · cases h
def zOk (o : Option Value) : Bool := match o with
  | some (.agg C) => decide (C.size = 260) && (List.range 64).all (fun j => isI C[j * 4]? 0 && isI C[j * 4 + 1]? 0 && isE C[j * 4 + 2]? && isI C[j * 4 + 3]? 0) && isI C[256]? 0 && isI C[257]? 0 && isI C[258]? 0 && isF C[259]?
  | _ => false
theorem zOk_true : zOk ((Try.prog.info? 45).bind (·.zero)) = true := by kernel_rfl
/-- A net's cells ahead of all. -/
structure Bare (C : Array Value) : Prop where
  size : C.size = 260
  src : ∀ j, j < 64 → C[j * 4]? = some (.int .i64 0)
  dst : ∀ j, j < 64 → C[j * 4 + 1]? = some (.int .i64 0)
  dat : ∀ j, j < 64 → C[j * 4 + 2]? = some (.string (S []))
  nxt : ∀ j, j < 64 → C[j * 4 + 3]? = some (.int .i64 0)
  fst : C[256]? = some (.int .i64 0)
  fre : C[257]? = some (.int .i64 0)
  cnt : C[258]? = some (.int .i64 0)
  mad : C[259]? = some (.bool false)
theorem zero_net : ∃ C, (∀ W, (zeroValue 45).run Try.prog W = .ok (.agg C) W) ∧ Bare C := by
  have h := zOk_true
  cases hi : Try.prog.info? 45 with
  | none => rw [hi] at h; cases h
  | some it =>
    rw [hi, Option.bind_some] at h
    cases hz : it.zero with
    | none => rw [hz] at h; cases h
    | some z =>
      rw [hz] at h
      cases z <;> try (cases h; done)
      rename_i C
      simp only [zOk, Bool.and_eq_true, List.all_eq_true, List.mem_range, decide_eq_true_eq] at h
      obtain ⟨⟨⟨⟨⟨h0, h1⟩, h2⟩, h3⟩, h4⟩, h5⟩ := h
      refine ⟨C, fun W => by simp [zeroValue, typeInfo, hi, hz], h0, fun j hj => of_isI (h1 j hj).1.1.1, fun j hj => of_isI (h1 j hj).1.1.2, fun j hj => of_isE (h1 j hj).1.2, fun j hj => of_isI (h1 j hj).2, of_isI h2, of_isI h3, of_isI h4, of_isF h5⟩
def nx0 : Nat → Int := fun j => if j = 64 then -1 else 0
theorem Bare.shape {C : Array Value} (h : Bare C) : Shape ((C.setIfInBounds 256 (.int .i64 (-1))).setIfInBounds 259 (.bool true)) nx0 (fun _ => ml0) 0 := by
  have g : ∀ m u, C[m]? = some u → ((C.setIfInBounds 256 (.int .i64 (-1))).setIfInBounds 259 (.bool true))[m]? = if 259 = m then some (.bool true) else if 256 = m then some (.int .i64 (-1)) else some u := fun m u hm => by
    have h1 := get_set C 256 m (.int .i64 (-1)) u hm
    by_cases e : 256 = m
    · rw [if_pos e] at h1
      rw [get_set _ 259 m _ _ h1, if_pos e]
    · rw [if_neg e] at h1
      rw [get_set _ 259 m _ _ h1, if_neg e]
  refine ⟨fun j hj => ?_, fun j hj => ?_, fun j hj => ?_, fun j hj => ?_, ?_, ?_, ?_, ?_⟩
  · rw [g _ _ (h.src j hj), if_neg (by omega), if_neg (by omega)]; rfl
  · rw [g _ _ (h.dst j hj), if_neg (by omega), if_neg (by omega)]; rfl
  · rw [g _ _ (h.dat j hj), if_neg (by omega), if_neg (by omega)]; rfl
  · rw [g _ _ (h.nxt j hj), if_neg (by omega), if_neg (by omega)]; simp [nx0, show j ≠ 64 from by omega]
  · rw [g _ _ h.fst]; rfl
  · rw [g _ _ h.fre]; rfl
  · rw [g _ _ h.cnt]; rfl
  · rw [g _ _ h.mad]; rfl

def nxk (k : Nat) : Nat → Int := fun j => if j = 64 then -1 else if j < k then (j : Int) + 1 else 0
theorem nxk_zero : nx0 = nxk 0 := by funext j; simp [nx0, nxk]
theorem nxk_step (k : Nat) (hk : k < 64) : upd (nxk k) k ((k + 1 : Nat) : Int) = nxk (k + 1) := by
  funext j
  unfold upd nxk
  by_cases h : j = k
  · subst h; simp [show j ≠ 64 from by omega]
  · by_cases h2 : j < k
    · simp [h, h2, show j < k + 1 from by omega]
    · simp [h, h2, show ¬ j < k + 1 from by omega]
theorem slots_new64 : Slots (upd (nxk 64) 63 (-1)) [] (List.range' 0 64) := by
  refine slots_new (fun j hj => ?_) (upd_self _ _ _) ?_ ?_
  · rw [upd_ne _ _ (by omega)]; simp [nxk, show j ≠ 64 from by omega, show j < 64 from by omega]
  · rw [upd_ne _ _ (by omega)]; simp [nxk]
  · rw [upd_ne _ _ (by omega)]; simp [nxk]

set_option maxRecDepth 100000 in
theorem netNew_any (w : World) :
    Calls Try.prog 10 #[] w fun e w' => e = .returned (.pointer (some ⟨w.heap.size, 0, none⟩)) ∧ NetIn w' w.heap.size [] ∧ Below w.heap.size w w' := by
  obtain ⟨C, hz, hB⟩ := zero_net
  have h1 : ¬ C.size < 257 := by have := hB.size; omega
  have h2 : ¬ C.size < 260 := by have := hB.size; omega
  have hS := hB.shape
  clear hB
  go_enter Try.func10, Try.ntmps10
  go_wp2_with fail
  have hN0 : NetS (w.alloc (.cells ((C.setIfInBounds 256 (.int .i64 (-1))).setIfInBounds 259 (.bool true)) 45)) w.heap.size (nxk 0) (fun _ => ml0) 0 := ⟨_, _, heap_alloc_new w _, nxk_zero ▸ hS⟩
  have hB0 := (Below.refl w.heap.size w).alloc (Nat.le_refl _) (.cells ((C.setIfInBounds 256 (.int .i64 (-1))).setIfInBounds 259 (.bool true)) 45)
  generalize w.alloc (.cells ((C.setIfInBounds 256 (.int .i64 (-1))).setIfInBounds 259 (.bool true)) 45) = W0 at *
  generalize ((C.setIfInBounds 256 (.int .i64 (-1))).setIfInBounds 259 (.bool true)) = C0 at *
  clear hz h1 h2 hS
  go_loopw [5] (fun i wr => ∃ k : Nat, k ≤ 64 ∧ i = .int .i64 k ∧ NetS wr w.heap.size (nxk k) (fun _ => ml0) 0 ∧ Below w.heap.size w wr) (fun i _ => 64 - (intOf i).toNat)
  case atStart => exact ⟨0, by omega, rfl, hN0, hB0⟩
  case round =>
    obtain ⟨k, hk, rfl, hN, hB⟩ := hrel
    by_cases hlt : k < 64
    · have d1 : decide ((k : Int) < 64) = true := by simp; omega
      have hf := fun j => hN.free j
      have c1 := hN.nxt (p := k) (by omega)
      have cv : cel k = k * 4 + 3 := by unfold cel; exact if_pos hlt
      have HN := Lib.hid (hN.setNext (p := k) (by omega) ((k + 1 : Nat) : Int))
      have HB := Lib.hid hB
      rw [cv] at c1
      have CV := Lib.hid cv
      have NS := Lib.hid (nxk_step k hlt)
      have g1 : (0 : Int) ≤ (k : Int) := by omega
      have g2 : (k : Int) < 64 := by omega
      clear hN hB cv hN0 hB0
      go_wp2_with fail
      go_roundw
      case rel =>
        have h := HN.out
        rw [CV.out, NS.out] at h
        exact ⟨k + 1, by omega, by go_num, h, HB.out.setCell (Nat.le_refl _) _⟩
      case measure => simp [intOf]; omega
    · obtain rfl : k = 64 := by omega
      have d1 : decide (((64 : Nat) : Int) < 64) = false := by simp
      have hf := fun j => hN.free j
      have c1 := hN.nxt (p := 63) (by omega)
      rw [show cel 63 = 255 from rfl] at c1
      have HN := Lib.hid (hN.setNext (p := 63) (by omega) (-1))
      have HB := Lib.hid hB
      clear hN hB hN0 hB0
      go_wp2_with fail
      go_ret
      exact ⟨rfl, ⟨_, fun _ => ml0, [], List.range' 0 64, HN.out, slots_new64, rfl⟩, HB.out.setCell (Nat.le_refl _) _⟩

end Go.Proofs.Ytggflkjdpibioaa
