/- Layer 5: a disk that is none. -/
import Derived.Test.YtekmnpmeienhhaaDiskY
namespace Go.Proofs.Ytekmnpmeienhhaa
set_option linter.unusedVariables false
open Go Go.RowKit Go.Maps

def noCells5 : Array Value := #[.int .i64 0, .int .i64 0, .map none, .bool false, .int .i64 0, .nilFunc]
/-- A pointer to no disk, or to one that has nothing. -/
def NoDk (w : World) (p : Option Addr) : Prop := p = none ∨ ∃ b, p = some ⟨b, 0, none⟩ ∧ Bk noCells5 43 w b
theorem NoDk.below {w w' : World} {p : Option Addr} (h : NoDk w p) (hb : Below w.heap.size w w') : NoDk w' p := by
  rcases h with h | ⟨b, h, k⟩
  · exact .inl h
  · exact .inr ⟨b, h, k.below hb⟩
theorem eqIn_mm5 {P : Program} (w : World) (d : Nat) (t : TypeId) {k e : TypeId} (h : P.underlying t = some (.map k e)) :
    (Op.equalIn (d + 1) t (.map none) (.map none)).run P w = .ok true w := by simp [Op.equalIn, run_underlying h]
theorem run_eql_map_nil5 {P : Program} (w : World) (t : TypeId) {k e : TypeId} (h : P.underlying t = some (.map k e)) :
    (binOp .eql t (.map none) (.map none)).run P w = .ok (.bool true) w := by
  simp only [binOp]
  simp [Op.equal, Op.maxDepth, eqIn_mm5 w 9999 t h]
set_option maxRecDepth 100000 in
theorem noneN {w : World} {p : Option Addr} (h : NoDk w p) : Calls Try.prog 61 #[.pointer p] w fun e w' => e = .returned (.bool true) ∧ w = w' := by
  rcases h with rfl | ⟨b, rfl, k⟩
  · go_enter Try.func61, Try.ntmps61
    go_wp2_with fail
    go_ret
    exact ⟨rfl, rfl⟩
  · have hmn := fun W => run_eql_map_nil5 (P := Try.prog) W _ Try.underlying41
    have c2 : w.cell? ⟨b, 2, none⟩ = some (.map none) := k.cell 2
    go_enter Try.func61, Try.ntmps61
    go_wp2_with fail
    go_ret
    exact ⟨rfl, rfl⟩
/-- What a call answers, that makes nothing but new memory. -/
def RetN (v : Value) (w : World) (e : Ending) (w' : World) : Prop := e = .returned v ∧ Below w.heap.size w w'
section
variable {w : World} {p : Option Addr}
set_option maxRecDepth 100000 in
theorem stateN (h : NoDk w p) : Calls Try.prog 70 #[.pointer p] w fun e w' => e = .returned (.int .i64 1) ∧ w = w' := by
  have C := Lib.hid (noneN h)
  clear h
  go_enter Try.func70, Try.ntmps70
  go_wp2_with fail
  with_reducible refine C.out.mono ?_
  rintro e w' ⟨rfl, rfl⟩
  go_wp2_with fail
  go_ret
  exact ⟨rfl, rfl⟩
set_option maxRecDepth 100000 in
theorem findN (h : NoDk w p) (nm : List UInt8) : Calls Try.prog 67 #[.pointer p, .string (S nm)] w (RetN (.tuple #[.agg #[.slice none 0 0, .int .i64 0], .int .i64 1]) w) := by
  have C := Lib.hid (fun o => stateN (h.below ((Below.refl _ _).alloc (Nat.le_refl _) o)))
  have HB1 := Lib.hid ((Below.refl w.heap.size w).alloc (Nat.le_refl _) (.cells #[.slice none 0 0, .int .i64 0] 93))
  have hi93 : (Try.prog.info? 93).map (·.size) = some 2 := by kernel_rfl
  have HI := Lib.hid hi93
  clear h hi93
  go_enter Try.func67, Try.ntmps67
  go_wp2_with fail
  with_reducible refine (C.out _).mono ?_
  rintro e w' ⟨rfl, rfl⟩
  go_wp2_with fail
  exact bodyPost_ret (v := .tuple #[.agg #[.slice none 0 0, .int .i64 0], .int .i64 1]) (ret_cell2 (p := 4) (q := 5) (C := #[.slice none 0 0, .int .i64 0]) Try.underlying93 HI.out rfl _ _ w.heap.size rfl (bk_new _ _ _)) rfl ⟨rfl, HB1.out⟩
set_option maxRecDepth 100000 in
theorem appendN (h : NoDk w p) (nm s : List UInt8) : Calls Try.prog 32 #[.pointer p, .string (S nm), .string (S s)] w (RetN (.int .i64 1) w) := by
  have C := Lib.hid (stateN h)
  clear h
  go_enter Try.func32, Try.ntmps32
  go_wp2_with fail
  with_reducible refine C.out.mono ?_
  rintro e w' ⟨rfl, rfl⟩
  go_wp2_with fail
  go_ret
  exact ⟨rfl, Below.refl _ _⟩
set_option maxRecDepth 100000 in
theorem crashN (h : NoDk w p) (v : Value) : Calls Try.prog 37 #[.pointer p, v] w (RetN (.int .i64 1) w) := by
  have C := Lib.hid (stateN h)
  clear h
  go_enter Try.func37, Try.ntmps37
  go_wp2_with fail
  with_reducible refine C.out.mono ?_
  rintro e w' ⟨rfl, rfl⟩
  go_wp2_with fail
  go_ret
  exact ⟨rfl, Below.refl _ _⟩
set_option maxRecDepth 100000 in
theorem startN (h : NoDk w p) : Calls Try.prog 35 #[.pointer p] w (RetN (.int .i64 1) w) := by
  have C := Lib.hid (noneN h)
  clear h
  go_enter Try.func35, Try.ntmps35
  go_wp2_with fail
  with_reducible refine C.out.mono ?_
  rintro e w' ⟨rfl, rfl⟩
  go_wp2_with fail
  go_ret
  exact ⟨rfl, Below.refl _ _⟩
set_option maxRecDepth 100000 in
theorem syncN (h : NoDk w p) (nm : List UInt8) : Calls Try.prog 41 #[.pointer p, .string (S nm)] w (RetN (.int .i64 1) w) := by
  have C := Lib.hid (findN h nm)
  clear h
  go_enter Try.func41, Try.ntmps41
  go_wp2_with fail
  with_reducible refine C.out.mono ?_
  rintro e w' ⟨rfl, hb⟩
  have HB := Lib.hid (hb.alloc hb.size (.cells #[.slice none 0 0, .int .i64 0] 93))
  clear hb
  go_wp2_with fail
  go_ret
  exact ⟨rfl, HB.out⟩
set_option maxRecDepth 100000 in
theorem removeN (h : NoDk w p) (nm : List UInt8) : Calls Try.prog 43 #[.pointer p, .string (S nm)] w (RetN (.int .i64 1) w) := by
  have C := Lib.hid (findN h nm)
  clear h
  go_enter Try.func43, Try.ntmps43
  go_wp2_with fail
  with_reducible refine C.out.mono ?_
  rintro e w' ⟨rfl, hb⟩
  have HB := Lib.hid (hb.alloc hb.size (.cells #[.slice none 0 0, .int .i64 0] 93))
  clear hb
  go_wp2_with fail
  go_ret
  exact ⟨rfl, HB.out⟩
set_option maxRecDepth 100000 in
theorem renameN (h : NoDk w p) (nm to_ : List UInt8) : Calls Try.prog 42 #[.pointer p, .string (S nm), .string (S to_)] w (RetN (.int .i64 1) w) := by
  have C := Lib.hid (findN h nm)
  clear h
  go_enter Try.func42, Try.ntmps42
  go_wp2_with fail
  with_reducible refine C.out.mono ?_
  rintro e w' ⟨rfl, hb⟩
  have HB := Lib.hid (hb.alloc hb.size (.cells #[.slice none 0 0, .int .i64 0] 93))
  clear hb
  go_wp2_with fail
  go_ret
  exact ⟨rfl, HB.out⟩
set_option maxRecDepth 100000 in
theorem readN (h : NoDk w p) (nm : List UInt8) : Calls Try.prog 26 #[.pointer p, .string (S nm)] w (RetN (.tuple #[.string (S []), .int .i64 1]) w) := by
  have C := Lib.hid (findN h nm)
  clear h
  go_enter Try.func26, Try.ntmps26
  go_wp2_with fail
  with_reducible refine C.out.mono ?_
  rintro e w' ⟨rfl, hb⟩
  have hc := fun o => row_string5 [] (World.ownsRow_nil (w'.alloc o) 0 5 1) 68 9 Try.underlying68 Try.underlying5 Try.underlying9
  have HB := Lib.hid (hb.alloc hb.size (.cells #[.slice none 0 0, .int .i64 0] 93))
  clear hb
  go_wp2_with fail
  go_ret2
  exact ⟨rfl, HB.out⟩
set_option maxRecDepth 100000 in
theorem syncedN (h : NoDk w p) (nm : List UInt8) : Calls Try.prog 23 #[.pointer p, .string (S nm)] w (RetN (.int .i64 0) w) := by
  have C := Lib.hid (noneN h)
  clear h
  go_enter Try.func23, Try.ntmps23
  go_wp2_with fail
  with_reducible refine C.out.mono ?_
  rintro e w' ⟨rfl, rfl⟩
  go_wp2_with fail
  go_ret
  exact ⟨rfl, Below.refl _ _⟩
set_option maxRecDepth 100000 in
theorem namesN (h : NoDk w p) : Calls Try.prog 27 #[.pointer p] w (RetN (.slice none 0 0) w) := by
  have C := Lib.hid (noneN h)
  clear h
  go_enter Try.func27, Try.ntmps27
  go_wp2_with fail
  with_reducible refine C.out.mono ?_
  rintro e w' ⟨rfl, rfl⟩
  go_wp2_with fail
  go_ret
  exact ⟨rfl, Below.refl _ _⟩
set_option maxRecDepth 100000 in
theorem sizeN (h : NoDk w p) : Calls Try.prog 29 #[.pointer p] w (RetN (.int .i64 0) w) := by
  have C := Lib.hid (noneN h)
  clear h
  go_enter Try.func29, Try.ntmps29
  go_wp2_with fail
  with_reducible refine C.out.mono ?_
  rintro e w' ⟨rfl, rfl⟩
  go_wp2_with fail
  go_ret
  exact ⟨rfl, Below.refl _ _⟩
set_option maxRecDepth 100000 in
theorem startsN (h : NoDk w p) : Calls Try.prog 31 #[.pointer p] w (RetN (.int .i64 0) w) := by
  have C := Lib.hid (noneN h)
  clear h
  go_enter Try.func31, Try.ntmps31
  go_wp2_with fail
  with_reducible refine C.out.mono ?_
  rintro e w' ⟨rfl, rfl⟩
  go_wp2_with fail
  go_ret
  exact ⟨rfl, Below.refl _ _⟩
set_option maxRecDepth 100000 in
theorem upN (h : NoDk w p) : Calls Try.prog 30 #[.pointer p] w (RetN (.bool false) w) := by
  have C := Lib.hid (noneN h)
  clear h
  go_enter Try.func30, Try.ntmps30
  go_wp2_with fail
  with_reducible refine C.out.mono ?_
  rintro e w' ⟨rfl, rfl⟩
  go_wp2_with fail
  go_ret
  exact ⟨rfl, Below.refl _ _⟩
set_option maxRecDepth 100000 in
theorem unsyncedN (h : NoDk w p) : Calls Try.prog 28 #[.pointer p] w (RetN (.slice none 0 0) w) := by
  have C := Lib.hid (namesN h)
  clear h
  go_enter Try.func28, Try.ntmps28
  go_wp2_with fail
  with_reducible refine C.out.mono ?_
  rintro e w' ⟨rfl, hb⟩
  have HB := Lib.hid hb
  clear hb
  go_wp2_with fail
  refine wp_loop_rounds 1 ?_
  rw [rounds_succ]
  go_wp2_with fail
  go_ret
  exact ⟨rfl, HB.out⟩
set_option maxRecDepth 100000 in
theorem failN (h : NoDk w p) (n : Int) (v : Value) : Calls Try.prog 39 #[.pointer p, .int .i64 n, v] w (RetN (.int .i64 1) w) := by
  have C := Lib.hid (fun o o' => stateN ((h.below ((Below.refl _ _).alloc (Nat.le_refl _) o)).below ((Below.refl _ _).alloc (Nat.le_refl _) o')))
  have HB := Lib.hid (fun o o' => ((Below.refl w.heap.size w).alloc (Nat.le_refl _) o).alloc (by simp) o')
  have h0 : (w.alloc (.cells #[.pointer p] 24)).cell? ⟨w.heap.size, 0, none⟩ = some (.pointer p) := cell_new 0
  clear h
  go_enter Try.func39, Try.ntmps39
  go_wp2_with fail
  with_reducible refine (C.out _ _).mono ?_
  rintro e w' ⟨rfl, rfl⟩
  go_wp2_with fail
  go_ret
  exact ⟨rfl, HB.out _ _⟩
end
end Go.Proofs.Ytekmnpmeienhhaa
