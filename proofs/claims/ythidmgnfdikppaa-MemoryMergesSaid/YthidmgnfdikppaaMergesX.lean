/- Layer 11: the laws' example: its rows. -/
import Derived.Test.YthidmgnfdikppaaMergesW
import Derived.Test.YthidmgnfdikppaaMergeN
namespace Go.Proofs.Ythidmgnfdikppaa
set_option linter.unusedVariables false
open Go Go.RowKit
attribute [local go_sem ↓] run_index_S
attribute [local go_sem] S_append S_extract

def M.ca5 : M.Cl := ⟨[97], 5, []⟩
def M.cb2 : M.Cl := ⟨[98], 2, []⟩
def M.ca7 : M.Cl := ⟨[97], 7, []⟩
def M.ca5x : M.Cl := ⟨[97], 5, [120]⟩
def M.cc1 : M.Cl := ⟨[99], 1, []⟩
/-- A row whose cells lie one behind the other from the beginning of a block. -/
structure RowBlk (w : World) (a : Nat) (L : List M.Cl) : Prop where
  r : RowIn (cls L).toArray 38 w a
theorem RowBlk.clsAt {w : World} {a : Nat} {L : List M.Cl} (h : RowBlk w a L) : ClsAt w (some ⟨a, 0, none⟩) L := clsAt_row h.r (by simp)
theorem RowBlk.below {w w' : World} {a : Nat} {L : List M.Cl} (h : RowBlk w a L) (hb : Below w.heap.size w w') : RowBlk w' a L := ⟨h.r.below hb⟩
/-- Two rows. -/
structure Rws2 (w : World) (r a b : Nat) (L K : List M.Cl) : Prop where
  rr : RowIn #[.slice (some ⟨a, 0, none⟩) L.length L.length, .slice (some ⟨b, 0, none⟩) K.length K.length] 22 w r
  ra : RowBlk w a L
  rb : RowBlk w b K
theorem Rws2.below {w w' : World} {r a b : Nat} {L K : List M.Cl} (h : Rws2 w r a b L K) (hb : Below w.heap.size w w') : Rws2 w' r a b L K := ⟨h.rr.below hb, h.ra.below hb, h.rb.below hb⟩
def rws2L (a b : Nat) (L K : List M.Cl) : List M.Rw := [⟨L, some ⟨a, 0, none⟩, L.length⟩, ⟨K, some ⟨b, 0, none⟩, K.length⟩]
theorem Rws2.at_ {w : World} {r a b : Nat} {L K : List M.Cl} (h : Rws2 w r a b L K) : RwsAt w (some ⟨r, 0, none⟩) (rws2L a b L K) := fun _ =>
  ⟨r, 0, rfl, fun j hj => by
    match j, hj with
    | 0, _ => exact ⟨h.rr.cell 0, h.ra.clsAt⟩
    | 1, _ => exact ⟨h.rr.cell 1, h.rb.clsAt⟩
    | j + 2, hj => simp [rws2L] at hj; omega⟩
def M.someL : List M.Cl := [M.ca5, M.cb2]
def M.someK : List M.Cl := [M.ca7, M.ca5x, M.cc1]
set_option maxHeartbeats 4000000 in
set_option maxRecDepth 100000 in
theorem some11_any (w : World) : Calls Try.prog 94 #[] w fun e w' => e = .returned (.slice (some ⟨w.heap.size + 2, 0, none⟩) 2 2) ∧ Rws2 w' (w.heap.size + 2) w.heap.size (w.heap.size + 1) M.someL M.someK ∧ Below w.heap.size w w' := by
  go_enter Try.func94, Try.ntmps94
  go_wp2_with fail
  go_ret
  refine ⟨rfl, ⟨?_, ⟨?_⟩, ⟨?_⟩⟩, ((((Below.refl _ _).alloc (Nat.le_refl _) _).alloc (by simp) _).alloc (by simp; omega) _)⟩
  · exact rowIn_at _ _ _ _ (by simp)
  · exact ((rowIn_new _ _ _).more _).more _
  · exact (rowIn_at _ _ _ _ (by simp)).more _
theorem clOk_small (c : M.Cl) (h1 : c.key.length ≤ 1000) (h2 : c.val.length ≤ 1000) (h3 : c.ints) : ClOk c := ⟨by omega, by omega, h3⟩
theorem rsOk2 {a b : Nat} {L K : List M.Cl} (h1 : L.length ≤ 1000) (h2 : K.length ≤ 1000) (h3 : ∀ c, c ∈ L → ClOk c) (h4 : ∀ c, c ∈ K → ClOk c) : RsOk (rws2L a b L K) := by
  refine ⟨by simp [rws2L], fun r hr => ?_, fun r hr => ?_, ?_⟩
  · simp only [rws2L, List.mem_cons, List.not_mem_nil, or_false] at hr
    rcases hr with rfl | rfl
    · show L.length ≤ _; omega
    · show K.length ≤ _; omega
  · simp only [rws2L, List.mem_cons, List.not_mem_nil, or_false] at hr
    rcases hr with rfl | rfl
    · exact h3
    · exact h4
  · simp [rws2L]; omega
def M.allS : List M.Cl := [M.ca7, M.ca5, M.ca5x, M.cb2, M.cc1]
def M.newS : List M.Cl := [M.ca7, M.cb2, M.cc1]
theorem M.mrg_some : M.mrg [M.someL, M.someK] = M.allS := by
  rw [M.mrgC_eq (k := 5) (by decide)]
  rfl
theorem M.nw_some : M.nw M.allS = M.newS := by decide
theorem M.may_some (a b : Nat) : M.mayR (rws2L a b M.someL M.someK) = true := by
  show (M.srt none M.someL && (M.srt none M.someK && true)) = true
  decide
theorem M.ok_some : (∀ c, c ∈ M.someL → ClOk c) ∧ (∀ c, c ∈ M.someK → ClOk c) := by
  refine ⟨fun c hc => ?_, fun c hc => ?_⟩
  · simp only [M.someL, List.mem_cons, List.not_mem_nil, or_false] at hc
    rcases hc with rfl | rfl <;> exact ⟨by decide, by decide, ⟨by decide, by decide⟩⟩
  · simp only [M.someK, List.mem_cons, List.not_mem_nil, or_false] at hc
    rcases hc with rfl | rfl | rfl <;> exact ⟨by decide, by decide, ⟨by decide, by decide⟩⟩
theorem all11_some {w : World} {r a b : Nat} (h : Rws2 w r a b M.someL M.someK) : Calls Try.prog 41 #[.slice (some ⟨r, 0, none⟩) 2 2] w fun e w' => ∃ ao cap, e = .returned (.tuple #[.slice ao 5 cap, .int .i64 0]) ∧ ClsAt w' ao M.allS ∧ Below w.heap.size w w' := by
  refine (all11_any (rws2L a b M.someL M.someK) (rsOk2 (by decide) (by decide) M.ok_some.1 M.ok_some.2) (some ⟨r, 0, none⟩) 2 w h.at_).mono ?_
  rintro e w' ⟨ao, cap, e1, h1, h2⟩
  rw [if_pos (M.may_some a b), show M.rls (rws2L a b M.someL M.someK) = [M.someL, M.someK] from rfl, M.mrg_some] at e1 h1
  rw [if_pos (M.may_some a b)] at e1
  exact ⟨ao, cap, e1, clsAt_own h1 rfl, h2⟩
theorem newest11_some {w : World} {r a b : Nat} (h : Rws2 w r a b M.someL M.someK) : Calls Try.prog 43 #[.slice (some ⟨r, 0, none⟩) 2 2] w fun e w' => ∃ ao cap, e = .returned (.tuple #[.slice ao 3 cap, .int .i64 0]) ∧ ClsAt w' ao M.newS ∧ Below w.heap.size w w' := by
  refine (newest11_any (rws2L a b M.someL M.someK) (rsOk2 (by decide) (by decide) M.ok_some.1 M.ok_some.2) (some ⟨r, 0, none⟩) 2 w h.at_).mono ?_
  rintro e w' ⟨ao, cap, e1, h1, h2⟩
  rw [if_pos (M.may_some a b), show M.rls (rws2L a b M.someL M.someK) = [M.someL, M.someK] from rfl, M.mrg_some, M.nw_some] at e1 h1
  rw [if_pos (M.may_some a b)] at e1
  exact ⟨ao, cap, e1, clsAt_own h1 rfl, h2⟩
theorem all11_bad {w : World} {r a : Nat} (h : RowIn #[.slice (some ⟨a, 0, none⟩) 2 2] 22 w r) (ha : RowBlk w a [M.cb2, M.ca5]) : Calls Try.prog 41 #[.slice (some ⟨r, 0, none⟩) 1 1] w fun e w' => ∃ ao cap, e = .returned (.tuple #[.slice ao 0 cap, .int .i64 2]) ∧ Below w.heap.size w w' := by
  refine (all11_any [⟨[M.cb2, M.ca5], some ⟨a, 0, none⟩, 2⟩] ⟨by simp, fun r hr => ?_, fun r hr => ?_, by simp⟩ (some ⟨r, 0, none⟩) 1 w (fun _ => ⟨r, 0, rfl, fun j hj => ?_⟩)).mono ?_
  · simp only [List.mem_cons, List.not_mem_nil, or_false] at hr
    subst hr; show 2 ≤ 100000; decide
  · simp only [List.mem_cons, List.not_mem_nil, or_false] at hr
    subst hr
    intro c hc
    simp only [List.mem_cons, List.not_mem_nil, or_false] at hc
    rcases hc with rfl | rfl <;> exact ⟨by decide, by decide, ⟨by decide, by decide⟩⟩
  · have : j = 0 := by simp at hj; omega
    subst this
    exact ⟨h.cell 0, ha.clsAt⟩
  · rintro e w' ⟨ao, cap, e1, h1, h2⟩
    have hm : ¬ M.mayR [⟨[M.cb2, M.ca5], some ⟨a, 0, none⟩, 2⟩] = true := by
      show ¬ (M.srt none [M.cb2, M.ca5] && true) = true
      decide
    rw [if_neg hm, if_neg hm] at e1
    exact ⟨ao, cap, e1, h2⟩

end Go.Proofs.Ythidmgnfdikppaa
