/- Layer 6: a log that is none. -/
import Derived.Test.YtmammmjmipgmoaaGreatDoorHlAf
import Derived.Test.YtmammmjmipgmoaaGreatDoorZW
namespace Go.Proofs.YtmammmjmipgmoaaGreatDoor
set_option linter.unusedVariables false
open Go Go.RowKit Go.Maps

def noCells6 : Array Value := #[.pointer none, .int .i64 0, .bool false, .slice none 0 0]
/-- A pointer to no log, or to one that has nothing. -/
def NoLg (w : World) (p : Option Addr) : Prop := p = none ∨ ∃ b, p = some ⟨b, 0, none⟩ ∧ Bk noCells6 48 w b
theorem NoLg.below {w w' : World} {p : Option Addr} (h : NoLg w p) (hb : Below w.heap.size w w') : NoLg w' p := by
  rcases h with h | ⟨b, h, k⟩
  · exact .inl h
  · exact .inr ⟨b, h, k.below hb⟩
section
variable {w : World} {p : Option Addr}
set_option maxRecDepth 100000 in
theorem stateN6 (h : NoLg w p) : Calls Tryz.prog 55 #[.pointer p] w fun e w' => e = .returned (.int .i64 1) ∧ w = w' := by
  rcases h with rfl | ⟨b, rfl, k⟩
  · go_enter Tryz.func55, Tryz.ntmps55
    go_wp2_with fail
    go_ret
    exact ⟨rfl, rfl⟩
  · have c0 : w.cell? ⟨b, 0, none⟩ = some (.pointer none) := k.cell 0
    have CH := Lib.hid (show Calls Tryz.prog 110 #[.pointer (some ⟨b, 0, none⟩)] w fun e w' => e = .returned (.int .i64 1) ∧ w = w' from by
      clear k
      go_enter Tryz.func110, Tryz.ntmps110
      go_wp2_with fail
      go_ret
      exact ⟨rfl, rfl⟩)
    clear k c0
    go_enter Tryz.func55, Tryz.ntmps55
    go_wp2_with fail
    with_reducible refine CH.out.mono ?_
    rintro e w1 ⟨rfl, rfl⟩
    go_wp2_with fail
    go_ret
    exact ⟨rfl, rfl⟩
set_option maxRecDepth 100000 in
theorem syncN6 (h : NoLg w p) : Calls Tryz.prog 20 #[.pointer p] w fun e w' => e = .returned (.int .i64 1) ∧ Below w.heap.size w w' := by
  have C := Lib.hid (fun W (k : Below w.heap.size w W) => stateN6 (h.below k))
  clear h
  go_enter Tryz.func20, Tryz.ntmps20
  go_wp2_with fail
  with_reducible refine (C.out _ (Below.refl _ _)).mono ?_
  rintro e w1 ⟨rfl, rfl⟩
  go_wp2_with fail
  go_ret
  exact ⟨rfl, Below.refl _ _⟩
set_option maxRecDepth 100000 in
theorem rotateN6 (h : NoLg w p) : Calls Tryz.prog 21 #[.pointer p] w fun e w' => e = .returned (.int .i64 1) ∧ Below w.heap.size w w' := by
  have C := Lib.hid (fun W (k : Below w.heap.size w W) => stateN6 (h.below k))
  clear h
  go_enter Tryz.func21, Tryz.ntmps21
  go_wp2_with fail
  with_reducible refine (C.out _ (Below.refl _ _)).mono ?_
  rintro e w1 ⟨rfl, rfl⟩
  go_wp2_with fail
  go_ret
  exact ⟨rfl, Below.refl _ _⟩
set_option maxRecDepth 100000 in
theorem retainN6 (h : NoLg w p) (n : Int) : Calls Tryz.prog 22 #[.pointer p, .int .i64 n] w fun e w' => e = .returned (.int .i64 1) ∧ Below w.heap.size w w' := by
  have C := Lib.hid (fun W (k : Below w.heap.size w W) => stateN6 (h.below k))
  clear h
  go_enter Tryz.func22, Tryz.ntmps22
  go_wp2_with fail
  with_reducible refine (C.out _ ((Below.refl w.heap.size w).alloc (Nat.le_refl _) _)).mono ?_
  rintro e w1 ⟨rfl, rfl⟩
  go_wp2_with fail
  go_ret
  exact ⟨rfl, (Below.refl w.heap.size w).alloc (Nat.le_refl _) _⟩
set_option maxRecDepth 100000 in
theorem appendN6 (h : NoLg w p) (x : M.Sp) : Calls Tryz.prog 19 #[.pointer p, spA6 x] w fun e w' => e = .returned (.int .i64 1) ∧ Below w.heap.size w w' := by
  have C := Lib.hid (fun W (k : Below w.heap.size w W) => stateN6 (h.below k))
  clear h
  go_enter Tryz.func19, Tryz.ntmps19
  go_wp2_with fail
  with_reducible refine (C.out _ ((Below.refl w.heap.size w).alloc (Nat.le_refl _) _)).mono ?_
  rintro e w1 ⟨rfl, rfl⟩
  go_wp2_with fail
  go_ret
  exact ⟨rfl, (Below.refl w.heap.size w).alloc (Nat.le_refl _) _⟩
set_option maxRecDepth 100000 in
theorem readN6 (h : NoLg w p) (n m : Int) : Calls Tryz.prog 17 #[.pointer p, .int .i64 n, .int .i64 m] w fun e w' => e = .returned (.tuple #[.slice none 0 0, .int .i64 0, .int .i64 1]) ∧ Below w.heap.size w w' := by
  have C := Lib.hid (fun W (k : Below w.heap.size w W) => stateN6 (h.below k))
  clear h
  go_enter Tryz.func17, Tryz.ntmps17
  go_wp2_with fail
  with_reducible refine (C.out _ (Below.refl _ _)).mono ?_
  rintro e w1 ⟨rfl, rfl⟩
  go_wp2_with fail
  go_ret3
  exact ⟨rfl, Below.refl _ _⟩
set_option maxRecDepth 100000 in
theorem firstN6 (h : NoLg w p) : Calls Tryz.prog 23 #[.pointer p] w fun e w' => e = .returned (.int .i64 0) ∧ Below w.heap.size w w' := by
  have C := Lib.hid (fun W (k : Below w.heap.size w W) => stateN6 (h.below k))
  clear h
  go_enter Tryz.func23, Tryz.ntmps23
  go_wp2_with fail
  with_reducible refine (C.out _ (Below.refl _ _)).mono ?_
  rintro e w1 ⟨rfl, rfl⟩
  go_wp2_with fail
  go_ret
  exact ⟨rfl, Below.refl _ _⟩
set_option maxRecDepth 100000 in
theorem sureN6 (h : NoLg w p) : Calls Tryz.prog 24 #[.pointer p] w fun e w' => e = .returned (.int .i64 0) ∧ Below w.heap.size w w' := by
  have C := Lib.hid (fun W (k : Below w.heap.size w W) => stateN6 (h.below k))
  clear h
  go_enter Tryz.func24, Tryz.ntmps24
  go_wp2_with fail
  with_reducible refine (C.out _ (Below.refl _ _)).mono ?_
  rintro e w1 ⟨rfl, rfl⟩
  go_wp2_with fail
  go_ret
  exact ⟨rfl, Below.refl _ _⟩
set_option maxRecDepth 100000 in
theorem endN6 (h : NoLg w p) : Calls Tryz.prog 25 #[.pointer p] w fun e w' => e = .returned (.int .i64 0) ∧ Below w.heap.size w w' := by
  have C := Lib.hid (fun W (k : Below w.heap.size w W) => stateN6 (h.below k))
  clear h
  go_enter Tryz.func25, Tryz.ntmps25
  go_wp2_with fail
  with_reducible refine (C.out _ (Below.refl _ _)).mono ?_
  rintro e w1 ⟨rfl, rfl⟩
  go_wp2_with fail
  go_ret
  exact ⟨rfl, Below.refl _ _⟩
set_option maxRecDepth 100000 in
theorem segmentsN6 (h : NoLg w p) : Calls Tryz.prog 26 #[.pointer p] w fun e w' => e = .returned (.int .i64 0) ∧ Below w.heap.size w w' := by
  have C := Lib.hid (fun W (k : Below w.heap.size w W) => stateN6 (h.below k))
  clear h
  go_enter Tryz.func26, Tryz.ntmps26
  go_wp2_with fail
  with_reducible refine (C.out _ (Below.refl _ _)).mono ?_
  rintro e w1 ⟨rfl, rfl⟩
  go_wp2_with fail
  go_ret
  exact ⟨rfl, Below.refl _ _⟩
set_option maxRecDepth 100000 in
theorem readNk (h : NoDk w p) (nm : List UInt8) : Calls Tryz.prog 107 #[.pointer p, .string (S nm)] w (RetN (.tuple #[.string (S []), .int .i64 1]) w) := by
  have C := Lib.hid (findN h nm)
  clear h
  go_enter Tryz.func107, Tryz.ntmps107
  go_wp2_with fail
  with_reducible refine C.out.mono ?_
  rintro e w' ⟨rfl, hb⟩
  have hc := fun o => row_string5 [] (World.ownsRow_nil (w'.alloc o) 0 5 1) 116 9 Tryz.underlying116 Tryz.underlying5 Tryz.underlying9
  have HB := Lib.hid (hb.alloc hb.size (.cells #[.slice none 0 0, .int .i64 0] 118))
  clear hb
  go_wp2_with fail
  go_ret2
  exact ⟨rfl, HB.out⟩
set_option maxRecDepth 100000 in
theorem filesStateN6 (h : NoDk w p) : Calls Tryz.prog 58 #[.pointer p] w fun e w' => e = .returned (.int .i64 1) ∧ Below w.heap.size w w' := by
  have CR := Lib.hid (show Calls Tryz.prog 107 #[.pointer p, .string { data := #[] }] w (RetN (.tuple #[.string (S []), .int .i64 1]) w) from readNk h [])
  unfold RetN at CR
  clear h
  go_enter Tryz.func58, Tryz.ntmps58
  go_wp2_with fail
  with_reducible refine CR.out.mono ?_
  rintro e w1 ⟨rfl, hb⟩
  have HB := Lib.hid hb
  clear hb CR
  go_wp2_with fail
  go_ret
  exact ⟨rfl, HB.out⟩
set_option maxRecDepth 100000 in
theorem openN6 (h : NoDk w p) : Calls Tryz.prog 18 #[.pointer p] w fun e w' => e = .returned (.tuple #[.pointer none, .int .i64 1]) ∧ Below w.heap.size w w' := by
  have C := Lib.hid (fun W (k : Below w.heap.size w W) => filesStateN6 (h.below k))
  have HB0 := Lib.hid ((Below.refl w.heap.size w).alloc (Nat.le_refl _) (.cells #[.pointer p] 24))
  clear h
  go_enter Tryz.func18, Tryz.ntmps18
  go_wp2_with fail
  with_reducible refine (C.out _ HB0.out).mono ?_
  rintro e w1 ⟨rfl, hb⟩
  have HB := Lib.hid (below_step HB0.out hb)
  clear hb C
  go_wp2_with fail
  go_ret2
  exact ⟨rfl, HB.out⟩
end

end Go.Proofs.YtmammmjmipgmoaaGreatDoor
