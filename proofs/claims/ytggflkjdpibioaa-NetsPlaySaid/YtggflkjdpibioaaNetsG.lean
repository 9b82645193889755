/- Layer 7: great; a net that is none. -/
import Derived.Test.YtggflkjdpibioaaNetsP
import Derived.Lib.QuietBelow
import Derived.BigQuiet
namespace Go.Proofs.Ytggflkjdpibioaa
set_option linter.unusedVariables false
open Go Go.RowKit

def Bd7 (A : List Ac) : Prop := A.length ≤ 400 ∧ ∀ j, j < A.length → (A.getD j ac0).m.dat.length ≤ 1000
theorem great7_any {w : World} {v : Value} {A : List Ac} (h : AcRow w v A) :
    Calls Try.prog 9 #[v] w fun e w' => (e = .returned (.bool true) ∨ e = .returned (.bool false) ∧ Bd7 A) ∧ w = w' := by
  obtain ⟨ao, cap, rfl, hm, _, ha⟩ := h
  unfold maxLen at hm
  have HA := Lib.hid ha
  clear ha
  go_enter Try.func9, Try.ntmps9
  go_wp2_with fail
  go_loopw [3] (fun i wr => ∃ k : Nat, k ≤ A.length ∧ i = .int .i64 k ∧ (∀ j, j < k → (A.getD j ac0).m.dat.length ≤ 1000) ∧ wr = w) (fun i _ => A.length - (intOf i).toNat)
  case atStart => exact ⟨0, by omega, rfl, fun j hj => by omega, rfl⟩
  case round =>
    obtain ⟨k, hk, rfl, hj, rfl⟩ := hrel
    have HJ := Lib.hid hj
    clear hj
    by_cases hlt : k < A.length
    · have d1 : decide ((k : Int) < (A.length : Int)) = true := by simp; omega
      have hne : A ≠ [] := fun h => by rw [h] at hlt; simp at hlt
      obtain ⟨g, off, rfl, hc⟩ := HA.out hne
      obtain ⟨x0, x1, x2, x3, x4⟩ := hc k hlt
      have HK := Lib.hid (show (A.getD k ac0).m.dat.length ≤ 1000 ↔ (A.getD k ac0).m.dat.length ≤ 1000 from Iff.rfl)
      clear hc x0 x1 x2 x4
      generalize hx : A.getD k ac0 = x at *
      have HX := Lib.hid hx
      clear hx
      by_cases hbig : 1000 < x.m.dat.length
      · have d2 : decide ((x.m.dat.length : Int) > 1000) = true := by simp; omega
        go_wp2_with fail
        go_ret
        exact ⟨.inl rfl, rfl⟩
      · have d2 : decide ((x.m.dat.length : Int) > 1000) = false := by simp; omega
        go_wp2_with fail
        go_roundw
        case rel =>
          refine ⟨k + 1, by omega, by go_num, fun j hj => ?_, trivial⟩
          by_cases e : j = k
          · subst e; rw [HX.out]; omega
          · exact HJ.out j (by omega)
        case measure => simp [intOf]; omega
    · obtain rfl : k = A.length := by omega
      have d1 : decide ((A.length : Int) < (A.length : Int)) = false := by simp
      by_cases h4 : 400 < A.length
      · have d2 : decide ((A.length : Int) > 400) = true := by simp; omega
        go_wp2_with fail
        go_ret
        exact ⟨.inl rfl, rfl⟩
      · have d2 : decide ((A.length : Int) > 400) = false := by simp; omega
        go_wp2_with fail
        go_ret
        exact ⟨.inr ⟨rfl, by omega, HJ.out⟩, rfl⟩

/-- A net that is none. -/
def NoneIn (w : World) (p : Option Addr) : Prop := ∀ a, p = some a → ∃ b, a = ⟨b, 0, none⟩ ∧ w.cell? ⟨b, 259, none⟩ = some (.bool false)
theorem NoneIn.below {w w' : World} {p : Option Addr} (h : NoneIn w p) (hb : Below w.heap.size w w') : NoneIn w' p := fun a ha => by
  obtain ⟨b, e, hc⟩ := h a ha
  exact ⟨b, e, (hb.cell (block_lt_of_cell hc)).trans hc⟩
theorem NoneIn.more {w : World} {p : Option Addr} (h : NoneIn w p) (o : Obj) : NoneIn (w.alloc o) p := h.below ((Below.refl _ _).alloc (Nat.le_refl _) _)
theorem none_no {w : World} {p : Option Addr} (h : NoneIn w p) :
    Calls Try.prog 27 #[.pointer p] w fun e w' => e = .returned (.bool true) ∧ w = w' := by
  cases p with
  | none =>
    go_enter Try.func27, Try.ntmps27
    go_wp2_with fail
    go_ret
    exact ⟨rfl, rfl⟩
  | some a =>
    obtain ⟨b, rfl, c1⟩ := h a rfl
    clear h
    go_enter Try.func27, Try.ntmps27
    go_wp2_with fail
    go_ret
    exact ⟨rfl, rfl⟩
theorem has_no {w : World} {p : Option Addr} (h : NoneIn w p) (i : Int) :
    Calls Try.prog 28 #[.pointer p, .int .i64 i] w fun e w' => e = .returned (.bool false) ∧ w = w' := by
  have C1 := Lib.hid (none_no h)
  clear h
  go_enter Try.func28, Try.ntmps28
  go_wp2_with fail
  with_reducible refine (C1.out).mono ?_
  rintro e w1 ⟨rfl, rfl⟩
  go_wp2_with fail
  go_ret
  exact ⟨rfl, rfl⟩
theorem len_no {w : World} {p : Option Addr} (h : NoneIn w p) :
    Calls Try.prog 13 #[.pointer p] w fun e w' => e = .returned (.int .i64 0) ∧ w = w' := by
  have C1 := Lib.hid (none_no h)
  clear h
  go_enter Try.func13, Try.ntmps13
  go_wp2_with fail
  with_reducible refine (C1.out).mono ?_
  rintro e w1 ⟨rfl, rfl⟩
  go_wp2_with fail
  go_ret
  exact ⟨rfl, rfl⟩
theorem all_no {w : World} {p : Option Addr} (h : NoneIn w p) :
    Calls Try.prog 14 #[.pointer p] w fun e w' => e = .returned (.slice none 0 0) ∧ w = w' := by
  have C1 := Lib.hid (none_no h)
  clear h
  go_enter Try.func14, Try.ntmps14
  go_wp2_with fail
  with_reducible refine (C1.out).mono ?_
  rintro e w1 ⟨rfl, rfl⟩
  go_wp2_with fail
  go_ret
  exact ⟨rfl, rfl⟩
theorem look_no {w : World} {p : Option Addr} (h : NoneIn w p) (i : Int) :
    Calls Try.prog 17 #[.pointer p, .int .i64 i] w fun e w' => e = .returned (.tuple #[mlV ml0, .bool false]) ∧ Below w.heap.size w w' := by
  have CH := Lib.hid (has_no (h.more (.cells #[.int .i64 0, .int .i64 0, .string ⟨#[]⟩] 31)) i)
  clear h
  go_enter Try.func17, Try.ntmps17
  go_wp2_with fail
  with_reducible refine (CH.out).mono ?_
  rintro e w2 ⟨rfl, rfl⟩
  have hX1 : BlkIn #[.int .i64 ml0.src, .int .i64 ml0.dst, .string (S ml0.dat)] 31 (w.alloc (.cells #[.int .i64 0, .int .i64 0, .string ⟨#[]⟩] 31)) w.heap.size := heap_alloc_new w _
  have hb1 := (Below.refl w.heap.size w).alloc (Nat.le_refl _) (.cells #[.int .i64 0, .int .i64 0, .string ⟨#[]⟩] 31)
  generalize (w.alloc (.cells #[.int .i64 0, .int .i64 0, .string ⟨#[]⟩] 31)) = W1 at *
  have hf : ∀ j, W1.frozen? ⟨w.heap.size, j, none⟩ = false := fun j => hX1.free j
  have x0 : W1.cell? ⟨w.heap.size, 0, none⟩ = some (.int .i64 0) := hX1.cell 0
  have x1 : W1.cell? ⟨w.heap.size, 1, none⟩ = some (.int .i64 0) := hX1.cell 1
  have x2 : W1.cell? ⟨w.heap.size, 2, none⟩ = some (.string ⟨#[]⟩) := hX1.cell 2
  have HX1 := Lib.hid hX1
  have HB1 := Lib.hid hb1
  clear hX1 hb1 CH
  go_wp2_with fail
  refine bodyPost_ret (ret_ml2 rfl _ _ w.heap.size ml0 rfl (blk_row3 ml0 HX1.out)) rfl ⟨rfl, ((HB1.out.setCell (Nat.le_refl _) _).setCell (Nat.le_refl _) _).setCell (Nat.le_refl _) _⟩
theorem take_no {w : World} {p : Option Addr} (h : NoneIn w p) (i : Int) :
    Calls Try.prog 20 #[.pointer p, .int .i64 i] w fun e w' => e = .returned (.tuple #[mlV ml0, .bool false]) ∧ Below w.heap.size w w' := by
  have CH := Lib.hid (has_no (h.more (.cells #[.int .i64 0, .int .i64 0, .string ⟨#[]⟩] 31)) i)
  clear h
  go_enter Try.func20, Try.ntmps20
  go_wp2_with fail
  with_reducible refine (CH.out).mono ?_
  rintro e w2 ⟨rfl, rfl⟩
  have hX1 : BlkIn #[.int .i64 ml0.src, .int .i64 ml0.dst, .string (S ml0.dat)] 31 (w.alloc (.cells #[.int .i64 0, .int .i64 0, .string ⟨#[]⟩] 31)) w.heap.size := heap_alloc_new w _
  have hb1 := (Below.refl w.heap.size w).alloc (Nat.le_refl _) (.cells #[.int .i64 0, .int .i64 0, .string ⟨#[]⟩] 31)
  generalize (w.alloc (.cells #[.int .i64 0, .int .i64 0, .string ⟨#[]⟩] 31)) = W1 at *
  have hf : ∀ j, W1.frozen? ⟨w.heap.size, j, none⟩ = false := fun j => hX1.free j
  have x0 : W1.cell? ⟨w.heap.size, 0, none⟩ = some (.int .i64 0) := hX1.cell 0
  have x1 : W1.cell? ⟨w.heap.size, 1, none⟩ = some (.int .i64 0) := hX1.cell 1
  have x2 : W1.cell? ⟨w.heap.size, 2, none⟩ = some (.string ⟨#[]⟩) := hX1.cell 2
  have HX1 := Lib.hid hX1
  have HB1 := Lib.hid hb1
  clear hX1 hb1 CH
  go_wp2_with fail
  refine bodyPost_ret (ret_ml2 rfl _ _ w.heap.size ml0 rfl (blk_row3 ml0 HX1.out)) rfl ⟨rfl, ((HB1.out.setCell (Nat.le_refl _) _).setCell (Nat.le_refl _) _).setCell (Nat.le_refl _) _⟩
theorem lose_no {w : World} {p : Option Addr} (h : NoneIn w p) (i : Int) :
    Calls Try.prog 19 #[.pointer p, .int .i64 i] w fun e w' => e = .returned (.bool false) ∧ Below w.heap.size w w' := by
  have C1 := Lib.hid (take_no h i)
  clear h
  go_enter Try.func19, Try.ntmps19
  go_wp2_with fail
  with_reducible refine (C1.out).mono ?_
  rintro e w1 ⟨rfl, hb1⟩
  go_wp2_with fail
  go_ret
  exact ⟨rfl, hb1.alloc hb1.size _⟩
theorem double_no {w : World} {p : Option Addr} (h : NoneIn w p) (i : Int) :
    Calls Try.prog 18 #[.pointer p, .int .i64 i] w fun e w' => e = .returned (.bool false) ∧ Below w.heap.size w w' := by
  have C1 := Lib.hid (look_no h i)
  clear h
  go_enter Try.func18, Try.ntmps18
  go_wp2_with fail
  with_reducible refine (C1.out).mono ?_
  rintro e w1 ⟨rfl, hb1⟩
  go_wp2_with fail
  go_region
  go_wp2_with fail
  go_ret
  exact ⟨rfl, (hb1.alloc hb1.size _).drew⟩
theorem send_no {w : World} {p : Option Addr} (h : NoneIn w p) (m : Ml) :
    Calls Try.prog 21 #[.pointer p, mlV m] w fun e w' => e = .returned (.bool false) ∧ Below w.heap.size w w' := by
  have CN := Lib.hid (fun W (hW : NoneIn W p) => none_no hW)
  have HN := Lib.hid h
  clear h
  go_enter Try.func21, Try.ntmps21
  go_wp2_with fail
  have HN1 := Lib.hid (HN.out.more (.cells #[.int .i64 m.src, .int .i64 m.dst, .string (S m.dat)] 31))
  have HB1 := Lib.hid ((Below.refl w.heap.size w).alloc (Nat.le_refl _) (.cells #[.int .i64 m.src, .int .i64 m.dst, .string (S m.dat)] 31))
  generalize (w.alloc (.cells #[.int .i64 m.src, .int .i64 m.dst, .string (S m.dat)] 31)) = W1 at *
  have CQ := Lib.hid (fun d os => (none_no (HN1.out.below (below_regrown W1 d os))).mono fun e w' (h : e = Ending.returned (.bool true) ∧ Go.Sort.grow (redrawn W1 d) os = w') => (⟨h.1, h.2 ▸ Below.refl _ _⟩ : e = Ending.returned (.bool true) ∧ Below (Go.Sort.grow (redrawn W1 d) os).heap.size (Go.Sort.grow (redrawn W1 d) os) w'))
  refine wp_region_quiet_below (by kernel_rfl) (by kernel_rfl) ?_
  repeat (any_goals (first | go_big_quiet_step ((go_at_call 27; exact Calls.regrown_of (CQ.out _ _))) | quiet_step ((go_at_call 27; exact Calls.regrown_of (CQ.out _ _)))))
  refine wpQuiet_nil ?_
  intro _ hw1
  obtain ⟨⟨d1, o1⟩, hw1⟩ := hw1
  subst hw1
  go_wp2_with fail
  go_ret
  exact ⟨rfl, below_step HB1.out (below_regrown _ d1 o1)⟩

end Go.Proofs.Ytggflkjdpibioaa
