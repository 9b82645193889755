/- Layer 9: what tells that cells are out of order: a closure that keeps the last one; whether cells are sorted. -/
import Derived.Test.YtppkecilbkgbdaaBlocksC
import Derived.RangeFuncBox
import Derived.Maps.RangeWalk
namespace Go.Proofs.Ytppkecilbkgbdaa
set_option linter.unusedVariables false
open Go Go.RowKit
attribute [local go_sem ↓] run_index_S
attribute [local go_sem] S_append S_extract

theorem grown_of_below {w w' : World} (h : Below w.heap.size w w') (row : Option Nat) : w.grownBy w' row := ⟨h.os, h.tape, h.output, h.size, fun i hi _ => h.block i hi⟩
/-- The closure's variable: the last cell that it saw. -/
def DisAt (w : World) (d : Nat) : Option M.Cl → Prop
  | none => RowIn #[.pointer none] 74 w d
  | some q => ∃ g, g ≠ d ∧ RowIn #[.pointer (some ⟨g, 0, none⟩)] 74 w d ∧ RowIn (clA q) 62 w g
theorem DisAt.below {w w' : World} {d : Nat} {p : Option M.Cl} (h : DisAt w d p) (hb : Below w.heap.size w w') : DisAt w' d p := by
  cases p with
  | none => exact RowIn.below h hb
  | some q => obtain ⟨g, h0, h1, h2⟩ := h; exact ⟨g, h0, h1.below hb, h2.below hb⟩
instance car_dis {w w' : World} {d : Nat} {p : Option M.Cl} : Car w w' (DisAt w d p) (DisAt w' d p) := ⟨fun hb h => h.below hb⟩
set_option maxHeartbeats 1000000 in
theorem disorder_any (w : World) :
    Calls Try.prog 34 #[] w fun e w' => e = .returned (.func (.func 48) #[] #[.pointer (some ⟨w.heap.size, 0, none⟩)]) ∧ w' = w.alloc (.cells #[.pointer none] 74) := by
  have hmf : ∀ (fn : Fn) (first cap : Array Value) (w : World), (Instr.makeFunc fn first cap).run Try.prog w = .ok (.func fn first cap) w := fun _ _ _ _ => rfl
  go_enter Try.func34, Try.ntmps34
  go_wp2_with fail
  go_ret
  exact ⟨rfl, rfl⟩

/-- What the closure's call comes to. -/
def Dis1R (b : Bool) (c : M.Cl) (d : Nat) (w : World) (e : Ending) (w' : World) : Prop := e = .returned (.bool (!b)) ∧ (b = true → DisAt w' d (some c)) ∧ w.grownBy w' (some d)

set_option maxHeartbeats 4000000 in
set_option maxRecDepth 100000 in
theorem dis1_none (c : M.Cl) (hc : ClOk c) (d : Nat) (w : World) (h : DisAt w d none) :
    Calls Try.prog 48 #[.agg (clA c), .pointer (some ⟨d, 0, none⟩)] w fun e w' => Dis1R (M.nextB none c) c d w e w' := by
  have HD := Lib.hid (show RowIn #[.pointer none] 74 w d from h)
  have HLT := Lib.hid (show d < w.heap.size from RowIn.lt h)
  clear h
  have CI := Lib.hid (fun W => is9_any c hc W)
  have HB := Lib.hid (Below.refl w.heap.size w)
  clear hc
  have hn : M.nextB none c = M.mayC c := by simp [M.nextB]
  rw [hn]
  clear hn
  generalize M.mayC c = mb at *
  replace HB := carryA (w := w) (.cells (clA c) 32) HB
  replace HD := carryA (w := w) (.cells (clA c) 32) HD
  have HX := Lib.hid ((rowIn_new (clA c) 32 w).more (.cells (clA c) 62))
  have HN := Lib.hid (rowIn_at (clA c) 62 (w.alloc (.cells (clA c) 32)) (w.heap.size + 1) (by rw [szA]))
  replace HB := carryA (w := w.alloc (.cells (clA c) 32)) (.cells (clA c) 62) HB
  replace HD := carryA (w := w.alloc (.cells (clA c) 32)) (.cells (clA c) 62) HD
  go_enter Try.func48, Try.ntmps48
  go_wp2_with fail
  change Code.wp _ _ _ _ ((w.alloc (.cells (clA c) 32)).alloc (.cells (clA c) 62))
  generalize ((w.alloc (.cells (clA c) 32)).alloc (.cells (clA c) 62)) = W2 at *
  cases mb with
  | false =>
    have x0 := HX.out.gcell 0 rfl
    have x1 := HX.out.gcell 1 rfl
    have x2 := HX.out.gcell 2 rfl
    have n0 := HN.out.gcell 0 rfl
    have n1 := HN.out.gcell 1 rfl
    have n2 := HN.out.gcell 2 rfl
    have d0 := HD.out.gcell 0 rfl
    refine wp_region_quiet_below (by kernel_rfl) (by kernel_rfl) ?_
    repeat (any_goals (first | go_big_quiet_step ((first | (go_at_call 37; with_reducible exact Calls.regrown_of (CI.out _)))) | quiet_step ((first | (go_at_call 37; with_reducible exact Calls.regrown_of (CI.out _))))))
    refine wpQuiet_nil ?_
    intro _ hw1
    obtain ⟨⟨d1, d1o⟩, hw1⟩ := hw1
    subst hw1
    clear x0 x1 x2 n0 n1 n2 d0
    replace HB := carry (below_regrown W2 d1 d1o) HB
    replace HD := carry (below_regrown W2 d1 d1o) HD
    replace HN := carry (below_regrown W2 d1 d1o) HN
    go_wp2_with fail
    go_ret
    exact ⟨rfl, fun h => by simp at h, grown_of_below HB.out _⟩
  | true =>
    have x0 := HX.out.gcell 0 rfl
    have x1 := HX.out.gcell 1 rfl
    have x2 := HX.out.gcell 2 rfl
    have n0 := HN.out.gcell 0 rfl
    have n1 := HN.out.gcell 1 rfl
    have n2 := HN.out.gcell 2 rfl
    have d0 := HD.out.gcell 0 rfl
    refine wp_region_quiet_below (by kernel_rfl) (by kernel_rfl) ?_
    repeat (any_goals (first | go_big_quiet_step ((first | (go_at_call 37; with_reducible exact Calls.regrown_of (CI.out _)))) | quiet_step ((first | (go_at_call 37; with_reducible exact Calls.regrown_of (CI.out _))))))
    refine wpQuiet_nil ?_
    intro _ hw1
    obtain ⟨⟨d1, d1o⟩, hw1⟩ := hw1
    subst hw1
    clear x0 x1 x2 n0 n1 n2 d0
    replace HB := carry (below_regrown W2 d1 d1o) HB
    replace HD := carry (below_regrown W2 d1 d1o) HD
    replace HN := carry (below_regrown W2 d1 d1o) HN
    generalize Sort.grow (redrawn W2 d1) d1o = W3 at *
    have f0 := HD.out.free 0
    have c0 : W3.cell? ⟨d, 0, none⟩ = some _ := HD.out.cell 0
    go_wp2_with fail
    go_ret
    have hne : w.heap.size + 1 ≠ d := by have := HLT.out; omega
    exact ⟨rfl, fun _ => ⟨w.heap.size + 1, hne, HD.out.set 0 _, HN.out.other hne 0 _⟩, (grown_of_below HB.out _).trans (grownBy_setCell' _ _ _)⟩

set_option maxHeartbeats 4000000 in
set_option maxRecDepth 100000 in
theorem dis1_some (c : M.Cl) (hc : ClOk c) (q : M.Cl) (d : Nat) (w : World) (h : DisAt w d (some q)) :
    Calls Try.prog 48 #[.agg (clA c), .pointer (some ⟨d, 0, none⟩)] w fun e w' => Dis1R (M.nextB (some q) c) c d w e w' := by
  obtain ⟨g, hgd, hd0, hq0⟩ := h
  have HD := Lib.hid hd0
  have HQ := Lib.hid hq0
  have HLT := Lib.hid (show d < w.heap.size from RowIn.lt hd0)
  have CA := Lib.hid (fun W => ahead9_any q c W)
  clear hd0 hq0 hgd
  have CI := Lib.hid (fun W => is9_any c hc W)
  have HB := Lib.hid (Below.refl w.heap.size w)
  clear hc
  have hn : M.nextB (some q) c = (M.mayC c && M.aheadC q c) := rfl
  rw [hn]
  clear hn
  generalize M.aheadC q c = ah at *
  generalize M.mayC c = mb at *
  replace HB := carryA (w := w) (.cells (clA c) 32) HB
  replace HD := carryA (w := w) (.cells (clA c) 32) HD
  replace HQ := carryA (w := w) (.cells (clA c) 32) HQ
  have HX := Lib.hid ((rowIn_new (clA c) 32 w).more (.cells (clA c) 62))
  have HN := Lib.hid (rowIn_at (clA c) 62 (w.alloc (.cells (clA c) 32)) (w.heap.size + 1) (by rw [szA]))
  replace HB := carryA (w := w.alloc (.cells (clA c) 32)) (.cells (clA c) 62) HB
  replace HD := carryA (w := w.alloc (.cells (clA c) 32)) (.cells (clA c) 62) HD
  replace HQ := carryA (w := w.alloc (.cells (clA c) 32)) (.cells (clA c) 62) HQ
  go_enter Try.func48, Try.ntmps48
  go_wp2_with fail
  change Code.wp _ _ _ _ ((w.alloc (.cells (clA c) 32)).alloc (.cells (clA c) 62))
  generalize ((w.alloc (.cells (clA c) 32)).alloc (.cells (clA c) 62)) = W2 at *
  cases mb with
  | false =>
    have x0 := HX.out.gcell 0 rfl
    have x1 := HX.out.gcell 1 rfl
    have x2 := HX.out.gcell 2 rfl
    have n0 := HN.out.gcell 0 rfl
    have n1 := HN.out.gcell 1 rfl
    have n2 := HN.out.gcell 2 rfl
    have d0 := HD.out.gcell 0 rfl
    have q0 := HQ.out.gcell 0 rfl
    have q1 := HQ.out.gcell 1 rfl
    have q2 := HQ.out.gcell 2 rfl
    refine wp_region_quiet_below (by kernel_rfl) (by kernel_rfl) ?_
    repeat (any_goals (first | go_big_quiet_step ((first | (go_at_call 37; with_reducible exact Calls.regrown_of (CI.out _)) | (go_at_call 49; with_reducible exact Calls.regrown_of (CA.out _)))) | quiet_step ((first | (go_at_call 37; with_reducible exact Calls.regrown_of (CI.out _)) | (go_at_call 49; with_reducible exact Calls.regrown_of (CA.out _))))))
    refine wpQuiet_nil ?_
    intro _ hw1
    obtain ⟨⟨d1, d1o⟩, hw1⟩ := hw1
    subst hw1
    clear x0 x1 x2 n0 n1 n2 d0 q0 q1 q2
    replace HB := carry (below_regrown W2 d1 d1o) HB
    replace HD := carry (below_regrown W2 d1 d1o) HD
    replace HN := carry (below_regrown W2 d1 d1o) HN
    go_wp2_with fail
    go_ret
    exact ⟨rfl, fun h => by simp at h, grown_of_below HB.out _⟩
  | true =>
    cases ah with
    | false =>
      have x0 := HX.out.gcell 0 rfl
      have x1 := HX.out.gcell 1 rfl
      have x2 := HX.out.gcell 2 rfl
      have n0 := HN.out.gcell 0 rfl
      have n1 := HN.out.gcell 1 rfl
      have n2 := HN.out.gcell 2 rfl
      have d0 := HD.out.gcell 0 rfl
      have q0 := HQ.out.gcell 0 rfl
      have q1 := HQ.out.gcell 1 rfl
      have q2 := HQ.out.gcell 2 rfl
      refine wp_region_quiet_below (by kernel_rfl) (by kernel_rfl) ?_
      repeat (any_goals (first | go_big_quiet_step ((first | (go_at_call 37; with_reducible exact Calls.regrown_of (CI.out _)) | (go_at_call 49; with_reducible exact Calls.regrown_of (CA.out _)))) | quiet_step ((first | (go_at_call 37; with_reducible exact Calls.regrown_of (CI.out _)) | (go_at_call 49; with_reducible exact Calls.regrown_of (CA.out _))))))
      refine wpQuiet_nil ?_
      intro _ hw1
      obtain ⟨⟨d1, d1o⟩, hw1⟩ := hw1
      subst hw1
      clear x0 x1 x2 n0 n1 n2 d0 q0 q1 q2
      replace HB := carry (below_regrown W2 d1 d1o) HB
      replace HD := carry (below_regrown W2 d1 d1o) HD
      replace HN := carry (below_regrown W2 d1 d1o) HN
      go_wp2_with fail
      go_ret
      exact ⟨rfl, fun h => by simp at h, grown_of_below HB.out _⟩
    | true =>
      have x0 := HX.out.gcell 0 rfl
      have x1 := HX.out.gcell 1 rfl
      have x2 := HX.out.gcell 2 rfl
      have n0 := HN.out.gcell 0 rfl
      have n1 := HN.out.gcell 1 rfl
      have n2 := HN.out.gcell 2 rfl
      have d0 := HD.out.gcell 0 rfl
      have q0 := HQ.out.gcell 0 rfl
      have q1 := HQ.out.gcell 1 rfl
      have q2 := HQ.out.gcell 2 rfl
      refine wp_region_quiet_below (by kernel_rfl) (by kernel_rfl) ?_
      repeat (any_goals (first | go_big_quiet_step ((first | (go_at_call 37; with_reducible exact Calls.regrown_of (CI.out _)) | (go_at_call 49; with_reducible exact Calls.regrown_of (CA.out _)))) | quiet_step ((first | (go_at_call 37; with_reducible exact Calls.regrown_of (CI.out _)) | (go_at_call 49; with_reducible exact Calls.regrown_of (CA.out _))))))
      refine wpQuiet_nil ?_
      intro _ hw1
      obtain ⟨⟨d1, d1o⟩, hw1⟩ := hw1
      subst hw1
      clear x0 x1 x2 n0 n1 n2 d0 q0 q1 q2
      replace HB := carry (below_regrown W2 d1 d1o) HB
      replace HD := carry (below_regrown W2 d1 d1o) HD
      replace HN := carry (below_regrown W2 d1 d1o) HN
      generalize Sort.grow (redrawn W2 d1) d1o = W3 at *
      have f0 := HD.out.free 0
      have c0 : W3.cell? ⟨d, 0, none⟩ = some _ := HD.out.cell 0
      go_wp2_with fail
      go_ret
      have hne : w.heap.size + 1 ≠ d := by have := HLT.out; omega
      exact ⟨rfl, fun _ => ⟨w.heap.size + 1, hne, HD.out.set 0 _, HN.out.other hne 0 _⟩, (grown_of_below HB.out _).trans (grownBy_setCell' _ _ _)⟩

theorem dis1_any (c : M.Cl) (hc : ClOk c) (p : Option M.Cl) (d : Nat) (w : World) (h : DisAt w d p) :
    Calls Try.prog 48 #[.agg (clA c), .pointer (some ⟨d, 0, none⟩)] w fun e w' => Dis1R (M.nextB p c) c d w e w' := by
  cases p with
  | none => exact dis1_none c hc d w h
  | some q => exact dis1_some c hc q d w h

end Go.Proofs.Ytppkecilbkgbdaa
