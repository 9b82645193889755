/- Layer 8: keys.Parse, by a contract. -/
import Derived.Test.YtjlddackpckmfaaKeysC2
import Derived.Test.YtjlddackpckmfaaZC
import Derived.Test.YtjlddackpckmfaaShelf
import Derived.Lib.IndexLaws
namespace Go.Proofs.Ytjlddackpckmfaa
set_option linter.unusedVariables false
open Go Go.RowKit Go.Sort
attribute [local go_sem ↓] run_index_S
attribute [local go_sem] S_append S_extract

theorem ret_row2 {fn : Func} {p q : Tmp} {T : TypeId} {fs : Array Field} {C : Array Value} (hu : Try.prog.underlying T = some (.struct fs)) (hi : (Try.prog.info? T).map (·.size) = some C.size)
    (hr : fn.results = #[.cell p T, .tmp q]) (tmps : Array Value) (w : World) (g : Nat) (hp : tmps.getD p undef = .pointer (some ⟨g, 0, none⟩)) (hg : RowIn C T w g) :
    (results fn tmps).run Try.prog w = .ok (.tuple #[.agg C, tmps.getD q undef]) w := by
  have hp' : tmps[p]?.getD undef = .pointer (some ⟨g, 0, none⟩) := by simpa using hp
  have hl : (loadVar T ⟨g, 0, none⟩).run Try.prog w = .ok (.agg C) w := run_loadVar_row w g _ _ C (0, 0) _ hg hu rfl hi
  simp [results, hr, hp', asAddr, hl]
theorem RowIn.row {C D : Array Value} {T : TypeId} {w : World} {b : Nat} (h : RowIn C T w b) : RowIn D T (w.setRow b D) b := setRow_heap w b _ _ _ _ h
theorem RowIn.rowAbove {C D : Array Value} {T : TypeId} {w : World} {b c : Nat} (h : RowIn C T w b) (hlt : b < c) : RowIn C T (w.setRow c D) b := by
  have := below_setRow (Below.refl c w) (Nat.le_refl _) D
  unfold RowIn at *
  rw [← h]
  exact this.block b hlt
theorem results_tmp4 {fn : Func} {t u v x : Tmp} (h : fn.results = #[.tmp t, .tmp u, .tmp v, .tmp x]) (tmps : Array Value) (P : Program) (w : World) :
    (results fn tmps).run P w = .ok (.tuple #[tmps.getD t undef, tmps.getD u undef, tmps.getD v undef, tmps.getD x undef]) w := by
  simp [results, h]

theorem cut0_index {l : List UInt8} {o : Nat} (h : Lib.indexByte l 0 = o) : M.cut0 l = (l.take o, l.drop (o + 1)) ∧ o < l.length := by
  obtain ⟨h1, h2⟩ := Lib.indexByte_some h
  have hlt : o < l.length := (List.getElem?_eq_some_iff.1 h1).1
  have e : l = l.take o ++ 0 :: l.drop (o + 1) := by
    conv => lhs; rw [← List.take_append_drop o l, List.drop_eq_getElem_cons hlt]
    rw [List.getElem?_eq_getElem hlt] at h1
    rw [Option.some.inj h1]
  have hn : 0 ∉ l.take o := fun hm => by
    obtain ⟨k, hk, hk2⟩ := List.getElem_of_mem hm
    have hk' : k < o := by simp at hk; omega
    refine h2 k hk' ?_
    rw [List.getElem?_eq_getElem (by omega), ← hk2]
    simp
  refine ⟨?_, hlt⟩
  conv => lhs; rw [e]
  rw [M.cut0_some _ _ hn]

theorem liteCut_any (l : List UInt8) (hl : l.length ≤ 140737488351232) (w : World) :
    Calls Try.prog 71 #[.string (S l), .string ⟨#[0]⟩] w fun e w' => (∃ b, e = .returned (.tuple #[.string (S (M.cut0 l).1), .string (S (M.cut0 l).2), .bool b])) ∧ Below w.heap.size w w' := by
  have ci : ∀ W, Calls Try.prog 72 #[.string (S l), .string ⟨#[0]⟩] W fun e w' => e = .returned (.int .i64 (Lib.indexByte l 0)) ∧ W = w' := fun W =>
    (Try.stringslite_Index_one (S l) 0 W).mono fun e w' ⟨he, hw⟩ => ⟨he, hw.symm⟩
  have hge := Lib.indexByte_ge l 0
  by_cases hneg : Lib.indexByte l 0 = -1
  · have hno : 0 ∉ l := fun hm => by
      obtain ⟨k, hk, hk2⟩ := List.getElem_of_mem hm
      exact Lib.indexByte_none hneg k (by rw [List.getElem?_eq_getElem hk, hk2])
    rw [M.cut0_none l hno]
    rw [hneg] at ci
    have CI := Lib.hid ci
    clear ci
    go_enter Try.func71, Try.ntmps71
    go_wp2_with fail
    with_reducible refine (CI.out _).mono ?_
    rintro e w1 ⟨rfl, rfl⟩
    go_wp2_with fail
    go_ret3
    exact ⟨⟨_, rfl⟩, Below.refl _ _⟩
  · obtain ⟨o, ho⟩ := Int.eq_ofNat_of_zero_le (show 0 ≤ Lib.indexByte l 0 by omega)
    obtain ⟨hc, hlt⟩ := cut0_index ho
    rw [hc]
    rw [ho] at ci
    have CI := Lib.hid ci
    have d1 : decide (0 ≤ (o : Int)) = true := by simp
    have s1 := fun W k => run_piece_to (P := Try.prog) 9 Try.underlying9 l (o : Int) o rfl (by omega) W k
    have s2 := fun W k => run_piece_from (P := Try.prog) 9 Try.underlying9 l ((o : Int) + 1) (o + 1) (by omega) (by omega) W k
    have e1 : IntKind.i64.wrap ((o : Int) + 1) = (o : Int) + 1 := IntWalk.i64_in _ (by omega)
    clear ci hc
    go_enter Try.func71, Try.ntmps71
    go_wp2_with fail
    with_reducible refine (CI.out _).mono ?_
    rintro e w1 ⟨rfl, rfl⟩
    go_wp2_with fail
    go_quiet (fail)
    go_wp2_with fail
    go_ret3
    exact ⟨⟨_, rfl⟩, below_drewN (Below.refl _ _) _⟩
theorem cut_any (l : List UInt8) (hl : l.length ≤ 140737488351232) (w : World) :
    Calls Try.prog 67 #[.string (S l), .string ⟨#[0]⟩] w fun e w' => (∃ b, e = .returned (.tuple #[.string (S (M.cut0 l).1), .string (S (M.cut0 l).2), .bool b])) ∧ Below w.heap.size w w' := by
  have c := Lib.hid (fun W => liteCut_any l hl W)
  go_enter Try.func67, Try.ntmps67
  go_wp2_with fail
  with_reducible refine (c.out _).mono ?_
  rintro e w1 ⟨⟨b, rfl⟩, hb⟩
  go_wp2_with fail
  go_ret3
  exact ⟨⟨_, rfl⟩, hb⟩
theorem cutPrefix_yes (c : UInt8) (rest : List UInt8) (w : World) : Calls Try.prog 56 #[.string (S (c :: rest)), .string ⟨#[c]⟩] w fun e w' => e = .returned (.tuple #[.string (S rest), .bool true]) ∧ w = w' :=
  (Try.strings_CutPrefix (S (c :: rest)) ⟨#[c]⟩ w).mono fun e w' ⟨he, hw⟩ => ⟨by rw [he]; simp [Lib.trimPrefix, Lib.hasPrefix, List.isPrefixOf], hw.symm⟩
theorem cutPrefix_no (c : UInt8) (l : List UInt8) (h : l.head? ≠ some c) (w : World) : Calls Try.prog 56 #[.string (S l), .string ⟨#[c]⟩] w fun e w' => e = .returned (.tuple #[.string (S l), .bool false]) ∧ w = w' :=
  (Try.strings_CutPrefix (S l) ⟨#[c]⟩ w).mono fun e w' ⟨he, hw⟩ => ⟨by
    have hp : Lib.hasPrefix l [c] = false := by
      cases l with
      | nil => rfl
      | cons x r =>
        have : ¬ c = x := fun e => h (by rw [e]; rfl)
        simp [Lib.hasPrefix, List.isPrefixOf, this]
    rw [he]
    simp [Lib.trimPrefix, hp], hw.symm⟩

def namB (key : List UInt8) : Bool := match key with
  | [] => false
  | k :: rest => decide (k = 120) && (M.nameB (M.cut0 rest).1 && M.nameB (M.cut0 (M.cut0 rest).2).1)
theorem names_yes (rest : List UInt8) (hl : rest.length ≤ 140737488351232) (w : World) :
    Calls Try.prog 57 #[.string (S (120 :: rest))] w fun e w' => e = .returned (.tuple #[.string (S (M.cut0 rest).1), .string (S (M.cut0 (M.cut0 rest).2).1), .string (S (M.cut0 (M.cut0 rest).2).2), .bool (M.nameB (M.cut0 rest).1 && M.nameB (M.cut0 (M.cut0 rest).2).1)]) ∧ Below w.heap.size w w' := by
  have cp := Lib.hid (fun W => cutPrefix_yes 120 rest W)
  have l1 := M.cut0_length rest
  have c1 := fun W => cut_any rest hl W
  generalize (M.cut0 rest).1 = a at *
  generalize (M.cut0 rest).2 = r1 at *
  have c2 := fun W => cut_any r1 (by omega) W
  have l2 := M.cut0_length r1
  generalize (M.cut0 r1).1 = b at *
  generalize (M.cut0 r1).2 = r2 at *
  have n1 := fun W => name_any a (by omega) W
  have n2 := fun W => name_any b (by omega) W
  have C1 := Lib.hid c1
  have C2 := Lib.hid c2
  clear c1 c2
  cases ha : M.nameB a with
  | false =>
    rw [ha] at n1
    have N1 := Lib.hid n1
    clear n1 n2
    go_enter Try.func57, Try.ntmps57
    go_wp2_with fail
    with_reducible refine (cp.out _).mono ?_
    rintro e w1 ⟨rfl, rfl⟩
    go_wp2_with fail
    with_reducible refine (C1.out _).mono ?_
    rintro e w1 ⟨⟨t1, rfl⟩, hb1⟩
    go_wp2_with fail
    with_reducible refine (C2.out _).mono ?_
    rintro e w2 ⟨⟨t2, rfl⟩, hb2⟩
    go_wp2_with fail
    with_reducible refine (N1.out _).mono ?_
    rintro e w3 ⟨rfl, rfl⟩
    go_wp2_with fail
    try simp only [Exit.inBlock, Exit.then]
    refine bodyPost_ret (results_tmp4 rfl _ _ _) rfl ?_
    exact ⟨rfl, below_step hb1 hb2⟩
  | true =>
    rw [ha] at n1
    have N1 := Lib.hid n1
    have N2 := Lib.hid n2
    clear n1 n2
    generalize M.nameB b = nb at *
    go_enter Try.func57, Try.ntmps57
    go_wp2_with fail
    with_reducible refine (cp.out _).mono ?_
    rintro e w1 ⟨rfl, rfl⟩
    go_wp2_with fail
    with_reducible refine (C1.out _).mono ?_
    rintro e w1 ⟨⟨t1, rfl⟩, hb1⟩
    go_wp2_with fail
    with_reducible refine (C2.out _).mono ?_
    rintro e w2 ⟨⟨t2, rfl⟩, hb2⟩
    go_wp2_with fail
    with_reducible refine (N1.out _).mono ?_
    rintro e w3 ⟨rfl, rfl⟩
    go_wp2_with fail
    with_reducible refine (N2.out _).mono ?_
    rintro e w3 ⟨rfl, rfl⟩
    go_wp2_with fail
    try simp only [Exit.inBlock, Exit.then]
    refine bodyPost_ret (results_tmp4 rfl _ _ _) rfl ?_
    exact ⟨by simp, below_step hb1 hb2⟩
theorem names_no (l : List UInt8) (h : l.head? ≠ some 120) (w : World) :
    Calls Try.prog 57 #[.string (S l)] w fun e w' => e = .returned (.tuple #[.string (S []), .string (S []), .string (S []), .bool false]) ∧ Below w.heap.size w w' := by
  have cp := Lib.hid (fun W => cutPrefix_no 120 l h W)
  go_enter Try.func57, Try.ntmps57
  go_wp2_with fail
  with_reducible refine (cp.out _).mono ?_
  rintro e w1 ⟨rfl, rfl⟩
  go_wp2_with fail
  try simp only [Exit.inBlock, Exit.then]
  refine bodyPost_ret (results_tmp4 rfl _ _ _) rfl ?_
  exact ⟨rfl, Below.refl _ _⟩

end Go.Proofs.Ytjlddackpckmfaa
