/- Texts of lower layers, as one. -/
import Derived.Test.YtnhljlmelbiljaaGreatZF
import Derived.Test.YtnhljlmelbiljaaGreatZC
import Derived.Test.YtnhljlmelbiljaaGreatZA
import Derived.Deep.QuietTactic
import Derived.BigQuiet
import Derived.Lib.QuietBelow
import Derived.Test.YtnhljlmelbiljaaGreatShelf
import Derived.Lib.IndexLaws
import Derived.StillTailTactics
/- Layer 8: keys, the program's and the document's, by contracts. -/
namespace Go.Proofs.YtnhljlmelbiljaaGreat
set_option linter.unusedVariables false
open Go Go.RowKit
attribute [local go_sem ↓] run_index_S
attribute [local go_sem] S_append S_extract

theorem isID_any (n : Int) (w : World) :
    Calls Tryz.prog 91 #[.int .i64 n] w fun e w' => e = .returned (.bool (M.idB n)) ∧ w = w' := by
  by_cases h1 : 1 ≤ n
  · by_cases h2 : n ≤ 2147483647
    · go_enter Tryz.func91, Tryz.ntmps91
      go_wp2_with fail
      go_ret
      exact ⟨ret_bool (M.idB_true.2 ⟨h1, h2⟩).symm, rfl⟩
    · go_enter Tryz.func91, Tryz.ntmps91
      go_wp2_with fail
      go_ret
      exact ⟨ret_bool (M.win_false.2 (by omega)).symm, rfl⟩
  · go_enter Tryz.func91, Tryz.ntmps91
    go_wp2_with fail
    go_ret
    exact ⟨ret_bool (M.win_false.2 (by omega)).symm, rfl⟩

theorem refIsID_any (n : Int) (w : World) :
    Calls Tryz.prog 93 #[.int .i64 n] w fun e w' => e = .returned (.bool (M.idB n)) ∧ w = w' := by
  by_cases h1 : 1 ≤ n
  · by_cases h2 : n ≤ 2147483647
    · go_enter Tryz.func93, Tryz.ntmps93
      go_wp2_with fail
      go_ret
      exact ⟨ret_bool (M.idB_true.2 ⟨h1, h2⟩).symm, rfl⟩
    · go_enter Tryz.func93, Tryz.ntmps93
      go_wp2_with fail
      go_ret
      exact ⟨ret_bool (M.win_false.2 (by omega)).symm, rfl⟩
  · go_enter Tryz.func93, Tryz.ntmps93
    go_wp2_with fail
    go_ret
    exact ⟨ret_bool (M.win_false.2 (by omega)).symm, rfl⟩

end Go.Proofs.YtnhljlmelbiljaaGreat

/- Layer 8: keys, the program's and the document's, by contracts: Index, Stretch. -/
namespace Go.Proofs.YtnhljlmelbiljaaGreat
set_option linter.unusedVariables false
open Go Go.RowKit Go.Sort
attribute [local go_sem ↓] run_index_S
attribute [local go_sem] S_append S_extract

end Go.Proofs.YtnhljlmelbiljaaGreat

/- Layer 8: keys.Parse, by a contract. -/
namespace Go.Proofs.YtnhljlmelbiljaaGreat
set_option linter.unusedVariables false
open Go Go.RowKit Go.Sort
attribute [local go_sem ↓] run_index_S
attribute [local go_sem] S_append S_extract

theorem ret_row2 {fn : Func} {p q : Tmp} {T : TypeId} {fs : Array Field} {C : Array Value} (hu : Tryz.prog.underlying T = some (.struct fs)) (hi : (Tryz.prog.info? T).map (·.size) = some C.size)
    (hr : fn.results = #[.cell p T, .tmp q]) (tmps : Array Value) (w : World) (g : Nat) (hp : tmps.getD p undef = .pointer (some ⟨g, 0, none⟩)) (hg : RowIn C T w g) :
    (results fn tmps).run Tryz.prog w = .ok (.tuple #[.agg C, tmps.getD q undef]) w := by
  have hp' : tmps[p]?.getD undef = .pointer (some ⟨g, 0, none⟩) := by simpa using hp
  have hl : (loadVar T ⟨g, 0, none⟩).run Tryz.prog w = .ok (.agg C) w := run_loadVar_row w g _ _ C (0, 0) _ hg hu rfl hi
  simp [results, hr, hp', asAddr, hl]
theorem RowIn.row {C D : Array Value} {T : TypeId} {w : World} {b : Nat} (h : RowIn C T w b) : RowIn D T (w.setRow b D) b := setRow_heap w b _ _ _ _ h
theorem RowIn.rowAbove {C D : Array Value} {T : TypeId} {w : World} {b c : Nat} (h : RowIn C T w b) (hlt : b < c) : RowIn C T (w.setRow c D) b := by
  have := below_setRow (Below.refl c w) (Nat.le_refl _) D
  unfold RowIn at *
  rw [← h]
  exact this.block b hlt
theorem results_tmp4 {fn : Func} {t u v x : Tmp} (h : fn.results = #[.tmp t, .tmp u, .tmp v, .tmp x]) (tmps : Array Value) (P : Program) (w : World) :
    (results fn tmps).run P w = .ok (.tuple #[tmps.getD t undef, tmps.getD u undef, tmps.getD v undef, tmps.getD x undef]) w := by
  simp [results, h]

theorem cut0_index {l : List UInt8} {o : Nat} (h : Lib.indexByte l 0 = o) : M.cut0 l = (l.take o, l.drop (o + 1)) ∧ o < l.length := by
  obtain ⟨h1, h2⟩ := Lib.indexByte_some h
  have hlt : o < l.length := (List.getElem?_eq_some_iff.1 h1).1
  have e : l = l.take o ++ 0 :: l.drop (o + 1) := by
    conv => lhs; rw [← List.take_append_drop o l, List.drop_eq_getElem_cons hlt]
    rw [List.getElem?_eq_getElem hlt] at h1
    rw [Option.some.inj h1]
  have hn : 0 ∉ l.take o := fun hm => by
    obtain ⟨k, hk, hk2⟩ := List.getElem_of_mem hm
    have hk' : k < o := by simp at hk; omega
    refine h2 k hk' ?_
    rw [List.getElem?_eq_getElem (by omega), ← hk2]
    simp
  refine ⟨?_, hlt⟩
  conv => lhs; rw [e]
  rw [M.cut0_some _ _ hn]

theorem liteCut_any (l : List UInt8) (hl : l.length ≤ 140737488351232) (w : World) :
    Calls Tryz.prog 131 #[.string (S l), .string ⟨#[0]⟩] w fun e w' => (∃ b, e = .returned (.tuple #[.string (S (M.cut0 l).1), .string (S (M.cut0 l).2), .bool b])) ∧ Below w.heap.size w w' := by
  have ci : ∀ W, Calls Tryz.prog 136 #[.string (S l), .string ⟨#[0]⟩] W fun e w' => e = .returned (.int .i64 (Lib.indexByte l 0)) ∧ W = w' := fun W =>
    (Tryz.stringslite_Index_one (S l) 0 W).mono fun e w' ⟨he, hw⟩ => ⟨he, hw.symm⟩
  have hge := Lib.indexByte_ge l 0
  by_cases hneg : Lib.indexByte l 0 = -1
  · have hno : 0 ∉ l := fun hm => by
      obtain ⟨k, hk, hk2⟩ := List.getElem_of_mem hm
      exact Lib.indexByte_none hneg k (by rw [List.getElem?_eq_getElem hk, hk2])
    rw [M.cut0_none l hno]
    rw [hneg] at ci
    have CI := Lib.hid ci
    clear ci
    go_enter Tryz.func131, Tryz.ntmps131
    go_wp2_with fail
    with_reducible refine (CI.out _).mono ?_
    rintro e w1 ⟨rfl, rfl⟩
    go_wp2_with fail
    go_ret3
    exact ⟨⟨_, rfl⟩, Below.refl _ _⟩
  · obtain ⟨o, ho⟩ := Int.eq_ofNat_of_zero_le (show 0 ≤ Lib.indexByte l 0 by omega)
    obtain ⟨hc, hlt⟩ := cut0_index ho
    rw [hc]
    rw [ho] at ci
    have CI := Lib.hid ci
    have d1 : decide (0 ≤ (o : Int)) = true := by simp
    have s1 := fun W k => run_piece_to (P := Tryz.prog) 9 Tryz.underlying9 l (o : Int) o rfl (by omega) W k
    have s2 := fun W k => run_piece_from (P := Tryz.prog) 9 Tryz.underlying9 l ((o : Int) + 1) (o + 1) (by omega) (by omega) W k
    have e1 : IntKind.i64.wrap ((o : Int) + 1) = (o : Int) + 1 := IntWalk.i64_in _ (by omega)
    clear ci hc
    go_enter Tryz.func131, Tryz.ntmps131
    go_wp2_with fail
    with_reducible refine (CI.out _).mono ?_
    rintro e w1 ⟨rfl, rfl⟩
    go_wp2_with fail
    go_quiet (fail)
    go_wp2_with fail
    go_ret3
    exact ⟨⟨_, rfl⟩, below_drewN (Below.refl _ _) _⟩
theorem cut_any (l : List UInt8) (hl : l.length ≤ 140737488351232) (w : World) :
    Calls Tryz.prog 115 #[.string (S l), .string ⟨#[0]⟩] w fun e w' => (∃ b, e = .returned (.tuple #[.string (S (M.cut0 l).1), .string (S (M.cut0 l).2), .bool b])) ∧ Below w.heap.size w w' := by
  have c := Lib.hid (fun W => liteCut_any l hl W)
  go_enter Tryz.func115, Tryz.ntmps115
  go_wp2_with fail
  with_reducible refine (c.out _).mono ?_
  rintro e w1 ⟨⟨b, rfl⟩, hb⟩
  go_wp2_with fail
  go_ret3
  exact ⟨⟨_, rfl⟩, hb⟩
theorem cutPrefix_yes (c : UInt8) (rest : List UInt8) (w : World) : Calls Tryz.prog 89 #[.string (S (c :: rest)), .string ⟨#[c]⟩] w fun e w' => e = .returned (.tuple #[.string (S rest), .bool true]) ∧ w = w' :=
  (Tryz.strings_CutPrefix (S (c :: rest)) ⟨#[c]⟩ w).mono fun e w' ⟨he, hw⟩ => ⟨by rw [he]; simp [Lib.trimPrefix, Lib.hasPrefix, List.isPrefixOf], hw.symm⟩
theorem cutPrefix_no (c : UInt8) (l : List UInt8) (h : l.head? ≠ some c) (w : World) : Calls Tryz.prog 89 #[.string (S l), .string ⟨#[c]⟩] w fun e w' => e = .returned (.tuple #[.string (S l), .bool false]) ∧ w = w' :=
  (Tryz.strings_CutPrefix (S l) ⟨#[c]⟩ w).mono fun e w' ⟨he, hw⟩ => ⟨by
    have hp : Lib.hasPrefix l [c] = false := by
      cases l with
      | nil => rfl
      | cons x r =>
        have : ¬ c = x := fun e => h (by rw [e]; rfl)
        simp [Lib.hasPrefix, List.isPrefixOf, this]
    rw [he]
    simp [Lib.trimPrefix, hp], hw.symm⟩

theorem names_yes (rest : List UInt8) (hl : rest.length ≤ 140737488351232) (w : World) :
    Calls Tryz.prog 90 #[.string (S (120 :: rest))] w fun e w' => e = .returned (.tuple #[.string (S (M.cut0 rest).1), .string (S (M.cut0 (M.cut0 rest).2).1), .string (S (M.cut0 (M.cut0 rest).2).2), .bool (M.nameB (M.cut0 rest).1 && M.nameB (M.cut0 (M.cut0 rest).2).1)]) ∧ Below w.heap.size w w' := by
  have cp := Lib.hid (fun W => cutPrefix_yes 120 rest W)
  have l1 := M.cut0_length rest
  have c1 := fun W => cut_any rest hl W
  generalize (M.cut0 rest).1 = a at *
  generalize (M.cut0 rest).2 = r1 at *
  have c2 := fun W => cut_any r1 (by omega) W
  have l2 := M.cut0_length r1
  generalize (M.cut0 r1).1 = b at *
  generalize (M.cut0 r1).2 = r2 at *
  have n1 := fun W => name_any a (by omega) W
  have n2 := fun W => name_any b (by omega) W
  have C1 := Lib.hid c1
  have C2 := Lib.hid c2
  clear c1 c2
  cases ha : M.nameB a with
  | false =>
    rw [ha] at n1
    have N1 := Lib.hid n1
    clear n1 n2
    go_enter Tryz.func90, Tryz.ntmps90
    go_wp2_with fail
    with_reducible refine (cp.out _).mono ?_
    rintro e w1 ⟨rfl, rfl⟩
    go_wp2_with fail
    with_reducible refine (C1.out _).mono ?_
    rintro e w1 ⟨⟨t1, rfl⟩, hb1⟩
    go_wp2_with fail
    with_reducible refine (C2.out _).mono ?_
    rintro e w2 ⟨⟨t2, rfl⟩, hb2⟩
    go_wp2_with fail
    with_reducible refine (N1.out _).mono ?_
    rintro e w3 ⟨rfl, rfl⟩
    go_wp2_with fail
    try simp only [Exit.inBlock, Exit.then]
    refine bodyPost_ret (results_tmp4 rfl _ _ _) rfl ?_
    exact ⟨rfl, below_step hb1 hb2⟩
  | true =>
    rw [ha] at n1
    have N1 := Lib.hid n1
    have N2 := Lib.hid n2
    clear n1 n2
    generalize M.nameB b = nb at *
    go_enter Tryz.func90, Tryz.ntmps90
    go_wp2_with fail
    with_reducible refine (cp.out _).mono ?_
    rintro e w1 ⟨rfl, rfl⟩
    go_wp2_with fail
    with_reducible refine (C1.out _).mono ?_
    rintro e w1 ⟨⟨t1, rfl⟩, hb1⟩
    go_wp2_with fail
    with_reducible refine (C2.out _).mono ?_
    rintro e w2 ⟨⟨t2, rfl⟩, hb2⟩
    go_wp2_with fail
    with_reducible refine (N1.out _).mono ?_
    rintro e w3 ⟨rfl, rfl⟩
    go_wp2_with fail
    with_reducible refine (N2.out _).mono ?_
    rintro e w3 ⟨rfl, rfl⟩
    go_wp2_with fail
    try simp only [Exit.inBlock, Exit.then]
    refine bodyPost_ret (results_tmp4 rfl _ _ _) rfl ?_
    exact ⟨by simp, below_step hb1 hb2⟩
theorem names_no (l : List UInt8) (h : l.head? ≠ some 120) (w : World) :
    Calls Tryz.prog 90 #[.string (S l)] w fun e w' => e = .returned (.tuple #[.string (S []), .string (S []), .string (S []), .bool false]) ∧ Below w.heap.size w w' := by
  have cp := Lib.hid (fun W => cutPrefix_no 120 l h W)
  go_enter Tryz.func90, Tryz.ntmps90
  go_wp2_with fail
  with_reducible refine (cp.out _).mono ?_
  rintro e w1 ⟨rfl, rfl⟩
  go_wp2_with fail
  try simp only [Exit.inBlock, Exit.then]
  refine bodyPost_ret (results_tmp4 rfl _ _ _) rfl ?_
  exact ⟨rfl, Below.refl _ _⟩

end Go.Proofs.YtnhljlmelbiljaaGreat

/- Layer 8: keys.Parse, by a contract. -/
namespace Go.Proofs.YtnhljlmelbiljaaGreat
set_option linter.unusedVariables false
open Go Go.RowKit Go.Sort
attribute [local go_sem ↓] run_index_S
attribute [local go_sem] S_append S_extract

def ptC (p : M.Pt) : Array Value := #[.int .u8 (p.kind : Nat), .int .i64 (p.trace : Nat), .int .i64 (p.id : Nat), .int .i64 (p.start : Nat), .string (S p.svc), .string (S p.host)]
abbrev pt0 : Array Value := #[.int .u8 0, .int .i64 0, .int .i64 0, .int .i64 0, .string ⟨#[]⟩, .string ⟨#[]⟩]
def ptR (r : Option M.Pt) : Value := .tuple #[.agg (ptC (r.getD ⟨0, 0, 0, 0, [], []⟩)), .bool r.isSome]
theorem ptR_none : ptR none = .tuple #[.agg pt0, .bool false] := rfl
theorem numsP_none {kind : Nat} {r a b : List UInt8} {st : Nat} (h : M.ofBigs r 0 = none ∨ M.ofBigs r 8 = none) : M.numsP kind r a b st = none := by
  unfold M.numsP
  rcases h with h | h
  · rw [h]
  · rw [h]; cases M.ofBigs r 0 <;> rfl
theorem numsP_if {kind : Nat} {r a b : List UInt8} {st t i : Nat} (h : M.ofBigs r 0 = some t) (k : M.ofBigs r 8 = some i) : M.numsP kind r a b st = if r.length = 16 ∧ M.idB t = true ∧ M.idB i = true then some ⟨kind, t, i, st, a, b⟩ else none := by
  unfold M.numsP
  rw [h, k]

set_option maxHeartbeats 2000000 in
set_option maxRecDepth 100000 in
theorem parse_a (rest : List UInt8) (hl : rest.length ≤ 140737488351232) (w : World) :
    Calls Tryz.prog 64 #[.string (S (115 :: rest))] w fun e w' => e = .returned (ptR (M.parse (115 :: rest))) ∧ Below w.heap.size w w' := by
  have hpar : M.parse (115 :: rest) = M.numsP 115 rest [] [] 0 := by rw [M.parse, if_pos rfl]
  rw [hpar]
  clear hpar
  have b115 : B [115] 0 = 115 := rfl
  have CP := Lib.hid (fun W => cutPrefix_yes 115 rest W)
  have HP0 := Lib.hid (rowIn_at pt0 119 (w.alloc (.cells pt0 119)) (w.heap.size + 1) (by simp))
  have HR1 := Lib.hid (((rowIn_new pt0 119 w).more (.cells pt0 119)).rowAbove (c := w.heap.size + 1) (D := #[.int .u8 115, .int .i64 0, .int .i64 0, .int .i64 0, .string ⟨#[]⟩, .string ⟨#[]⟩]) (by omega))
  have HP1 := Lib.hid (HP0.out.row (D := #[.int .u8 115, .int .i64 0, .int .i64 0, .int .i64 0, .string ⟨#[]⟩, .string ⟨#[]⟩]))
  have HB1 := Lib.hid (below_setRow (g := w.heap.size + 1) (((Below.refl w.heap.size w).alloc (Nat.le_refl _) (.cells pt0 119)).alloc (by simp) (.cells pt0 119)) (by omega) #[.int .u8 115, .int .i64 0, .int .i64 0, .int .i64 0, .string ⟨#[]⟩, .string ⟨#[]⟩])
  have co1 := fun W => ofBig_any rest 0 W (by omega)
  have co2 := fun W => ofBig_any rest 8 W (by omega)
  cases ho1 : M.ofBigs rest 0 with
  | none =>
    rw [ho1] at co1
    rw [numsP_none (.inl ho1), ptR_none]
    cases ho2 : M.ofBigs rest 8 with
    | none =>
      rw [ho2] at co2
      simp only [duo] at co1 co2
      have CO1 := Lib.hid co1
      have CO2 := Lib.hid co2
      clear co1 co2
      go_enter Tryz.func64, Tryz.ntmps64
      go_wp2_with (refine wpList_store_row rfl 119 _ _ rfl (w.heap.size + 1) _ rfl rfl 119 pt0 HP0.out ?_ rfl ?_ ?_; kernel_rfl; simp [Value.oneCell'])
      generalize ((w.alloc (.cells pt0 119)).alloc (.cells pt0 119)).setRow (w.heap.size + 1) #[.int .u8 115, .int .i64 0, .int .i64 0, .int .i64 0, .string ⟨#[]⟩, .string ⟨#[]⟩] = W1 at *
      with_reducible refine (CP.out _).mono ?_
      rintro e w1 ⟨rfl, rfl⟩
      go_wp2_with (refine wpList_store_row rfl 119 _ _ rfl w.heap.size _ rfl rfl 119 pt0 HR1.out ?_ rfl ?_ ?_; kernel_rfl; simp [Value.oneCell'])
      repeat (first | ((with_reducible refine (CO1.out _).mono ?_); rintro e w1 ⟨rfl, rfl⟩; go_wp2_with (refine wpList_store_row rfl 119 _ _ rfl w.heap.size _ rfl rfl 119 pt0 HR1.out ?_ rfl ?_ ?_; kernel_rfl; simp [Value.oneCell'])) | ((with_reducible refine (CO2.out _).mono ?_); rintro e w1 ⟨rfl, rfl⟩; go_wp2_with (refine wpList_store_row rfl 119 _ _ rfl w.heap.size _ rfl rfl 119 pt0 HR1.out ?_ rfl ?_ ?_; kernel_rfl; simp [Value.oneCell'])))
      try simp only [Exit.inBlock, Exit.then]
      exact bodyPost_ret (ret_row2 Tryz.underlying119 (by kernel_rfl) rfl _ _ w.heap.size rfl HR1.out.row) rfl ⟨rfl, below_setRow HB1.out (Nat.le_refl _) _⟩
    | some i =>
      rw [ho2] at co2
      simp only [duo] at co1 co2
      have CO1 := Lib.hid co1
      have CO2 := Lib.hid co2
      clear co1 co2
      go_enter Tryz.func64, Tryz.ntmps64
      go_wp2_with (refine wpList_store_row rfl 119 _ _ rfl (w.heap.size + 1) _ rfl rfl 119 pt0 HP0.out ?_ rfl ?_ ?_; kernel_rfl; simp [Value.oneCell'])
      generalize ((w.alloc (.cells pt0 119)).alloc (.cells pt0 119)).setRow (w.heap.size + 1) #[.int .u8 115, .int .i64 0, .int .i64 0, .int .i64 0, .string ⟨#[]⟩, .string ⟨#[]⟩] = W1 at *
      with_reducible refine (CP.out _).mono ?_
      rintro e w1 ⟨rfl, rfl⟩
      go_wp2_with (refine wpList_store_row rfl 119 _ _ rfl w.heap.size _ rfl rfl 119 pt0 HR1.out ?_ rfl ?_ ?_; kernel_rfl; simp [Value.oneCell'])
      repeat (first | ((with_reducible refine (CO1.out _).mono ?_); rintro e w1 ⟨rfl, rfl⟩; go_wp2_with (refine wpList_store_row rfl 119 _ _ rfl w.heap.size _ rfl rfl 119 pt0 HR1.out ?_ rfl ?_ ?_; kernel_rfl; simp [Value.oneCell'])) | ((with_reducible refine (CO2.out _).mono ?_); rintro e w1 ⟨rfl, rfl⟩; go_wp2_with (refine wpList_store_row rfl 119 _ _ rfl w.heap.size _ rfl rfl 119 pt0 HR1.out ?_ rfl ?_ ?_; kernel_rfl; simp [Value.oneCell'])))
      try simp only [Exit.inBlock, Exit.then]
      exact bodyPost_ret (ret_row2 Tryz.underlying119 (by kernel_rfl) rfl _ _ w.heap.size rfl HR1.out.row) rfl ⟨rfl, below_setRow HB1.out (Nat.le_refl _) _⟩
  | some t =>
    rw [ho1] at co1
    cases ho2 : M.ofBigs rest 8 with
    | none =>
      rw [numsP_none (.inr ho2), ptR_none]
      rw [ho2] at co2
      simp only [duo] at co1 co2
      have CO1 := Lib.hid co1
      have CO2 := Lib.hid co2
      clear co1 co2
      go_enter Tryz.func64, Tryz.ntmps64
      go_wp2_with (refine wpList_store_row rfl 119 _ _ rfl (w.heap.size + 1) _ rfl rfl 119 pt0 HP0.out ?_ rfl ?_ ?_; kernel_rfl; simp [Value.oneCell'])
      generalize ((w.alloc (.cells pt0 119)).alloc (.cells pt0 119)).setRow (w.heap.size + 1) #[.int .u8 115, .int .i64 0, .int .i64 0, .int .i64 0, .string ⟨#[]⟩, .string ⟨#[]⟩] = W1 at *
      with_reducible refine (CP.out _).mono ?_
      rintro e w1 ⟨rfl, rfl⟩
      go_wp2_with (refine wpList_store_row rfl 119 _ _ rfl w.heap.size _ rfl rfl 119 pt0 HR1.out ?_ rfl ?_ ?_; kernel_rfl; simp [Value.oneCell'])
      repeat (first | ((with_reducible refine (CO1.out _).mono ?_); rintro e w1 ⟨rfl, rfl⟩; go_wp2_with (refine wpList_store_row rfl 119 _ _ rfl w.heap.size _ rfl rfl 119 pt0 HR1.out ?_ rfl ?_ ?_; kernel_rfl; simp [Value.oneCell'])) | ((with_reducible refine (CO2.out _).mono ?_); rintro e w1 ⟨rfl, rfl⟩; go_wp2_with (refine wpList_store_row rfl 119 _ _ rfl w.heap.size _ rfl rfl 119 pt0 HR1.out ?_ rfl ?_ ?_; kernel_rfl; simp [Value.oneCell'])))
      try simp only [Exit.inBlock, Exit.then]
      exact bodyPost_ret (ret_row2 Tryz.underlying119 (by kernel_rfl) rfl _ _ w.heap.size rfl HR1.out.row) rfl ⟨rfl, below_setRow HB1.out (Nat.le_refl _) _⟩
    | some i =>
      rw [ho2] at co2
      rw [numsP_if ho1 ho2]
      by_cases hlen : rest.length = 16
      · have ci1 := fun W => isID_any (t : Int) W
        have ci2 := fun W => isID_any (i : Int) W
        have q1 : ((rest.length : Int) != 16) = false := by rw [hlen]; rfl
        cases hi1 : M.idB t with
        | false =>
          rw [if_neg (by simp), ptR_none]
          rw [hi1] at ci1
          have CI1 := Lib.hid ci1
          clear ci1 ci2
          simp only [duo] at co1 co2
          have CO1 := Lib.hid co1
          have CO2 := Lib.hid co2
          clear co1 co2
          go_enter Tryz.func64, Tryz.ntmps64
          go_wp2_with (refine wpList_store_row rfl 119 _ _ rfl (w.heap.size + 1) _ rfl rfl 119 pt0 HP0.out ?_ rfl ?_ ?_; kernel_rfl; simp [Value.oneCell'])
          generalize ((w.alloc (.cells pt0 119)).alloc (.cells pt0 119)).setRow (w.heap.size + 1) #[.int .u8 115, .int .i64 0, .int .i64 0, .int .i64 0, .string ⟨#[]⟩, .string ⟨#[]⟩] = W1 at *
          with_reducible refine (CP.out _).mono ?_
          rintro e w1 ⟨rfl, rfl⟩
          go_wp2_with (refine wpList_store_row rfl 119 _ _ rfl w.heap.size _ rfl rfl 119 pt0 HR1.out ?_ rfl ?_ ?_; kernel_rfl; simp [Value.oneCell'])
          repeat (first | ((with_reducible refine (CO1.out _).mono ?_); rintro e w1 ⟨rfl, rfl⟩; go_wp2_with (refine wpList_store_row rfl 119 _ _ rfl w.heap.size _ rfl rfl 119 pt0 HR1.out ?_ rfl ?_ ?_; kernel_rfl; simp [Value.oneCell'])) | ((with_reducible refine (CO2.out _).mono ?_); rintro e w1 ⟨rfl, rfl⟩; go_wp2_with (refine wpList_store_row rfl 119 _ _ rfl w.heap.size _ rfl rfl 119 pt0 HR1.out ?_ rfl ?_ ?_; kernel_rfl; simp [Value.oneCell'])) | ((with_reducible refine (CI1.out _).mono ?_); rintro e w1 ⟨rfl, rfl⟩; go_wp2_with (refine wpList_store_row rfl 119 _ _ rfl w.heap.size _ rfl rfl 119 pt0 HR1.out ?_ rfl ?_ ?_; kernel_rfl; simp [Value.oneCell'])))
          try simp only [Exit.inBlock, Exit.then]
          exact bodyPost_ret (ret_row2 Tryz.underlying119 (by kernel_rfl) rfl _ _ w.heap.size rfl HR1.out.row) rfl ⟨rfl, below_setRow HB1.out (Nat.le_refl _) _⟩
        | true =>
          rw [hi1] at ci1
          have CI1 := Lib.hid ci1
          cases hi2 : M.idB i with
          | false =>
            rw [if_neg (by simp), ptR_none]
            rw [hi2] at ci2
            have CI2 := Lib.hid ci2
            clear ci1 ci2
            simp only [duo] at co1 co2
            have CO1 := Lib.hid co1
            have CO2 := Lib.hid co2
            clear co1 co2
            go_enter Tryz.func64, Tryz.ntmps64
            go_wp2_with (refine wpList_store_row rfl 119 _ _ rfl (w.heap.size + 1) _ rfl rfl 119 pt0 HP0.out ?_ rfl ?_ ?_; kernel_rfl; simp [Value.oneCell'])
            generalize ((w.alloc (.cells pt0 119)).alloc (.cells pt0 119)).setRow (w.heap.size + 1) #[.int .u8 115, .int .i64 0, .int .i64 0, .int .i64 0, .string ⟨#[]⟩, .string ⟨#[]⟩] = W1 at *
            with_reducible refine (CP.out _).mono ?_
            rintro e w1 ⟨rfl, rfl⟩
            go_wp2_with (refine wpList_store_row rfl 119 _ _ rfl w.heap.size _ rfl rfl 119 pt0 HR1.out ?_ rfl ?_ ?_; kernel_rfl; simp [Value.oneCell'])
            repeat (first | ((with_reducible refine (CO1.out _).mono ?_); rintro e w1 ⟨rfl, rfl⟩; go_wp2_with (refine wpList_store_row rfl 119 _ _ rfl w.heap.size _ rfl rfl 119 pt0 HR1.out ?_ rfl ?_ ?_; kernel_rfl; simp [Value.oneCell'])) | ((with_reducible refine (CO2.out _).mono ?_); rintro e w1 ⟨rfl, rfl⟩; go_wp2_with (refine wpList_store_row rfl 119 _ _ rfl w.heap.size _ rfl rfl 119 pt0 HR1.out ?_ rfl ?_ ?_; kernel_rfl; simp [Value.oneCell'])) | ((with_reducible refine (CI1.out _).mono ?_); rintro e w1 ⟨rfl, rfl⟩; go_wp2_with (refine wpList_store_row rfl 119 _ _ rfl w.heap.size _ rfl rfl 119 pt0 HR1.out ?_ rfl ?_ ?_; kernel_rfl; simp [Value.oneCell'])) | ((with_reducible refine (CI2.out _).mono ?_); rintro e w1 ⟨rfl, rfl⟩; go_wp2_with (refine wpList_store_row rfl 119 _ _ rfl w.heap.size _ rfl rfl 119 pt0 HR1.out ?_ rfl ?_ ?_; kernel_rfl; simp [Value.oneCell'])))
            try simp only [Exit.inBlock, Exit.then]
            exact bodyPost_ret (ret_row2 Tryz.underlying119 (by kernel_rfl) rfl _ _ w.heap.size rfl HR1.out.row) rfl ⟨rfl, below_setRow HB1.out (Nat.le_refl _) _⟩
          | true =>
            rw [if_pos ⟨hlen, rfl, rfl⟩]
            rw [hi2] at ci2
            have CI2 := Lib.hid ci2
            clear ci1 ci2
            have HP2 := HP1.out.set 1 (.int .i64 (t : Int))
            have HP3 := Lib.hid (show RowIn #[.int .u8 115, .int .i64 (t : Int), .int .i64 (i : Int), .int .i64 0, .string ⟨#[]⟩, .string ⟨#[]⟩] 119 _ (w.heap.size + 1) from HP2.set 2 (.int .i64 (i : Int)))
            have HR3 := Lib.hid ((HR1.out.other (show w.heap.size ≠ w.heap.size + 1 by omega) 1 (.int .i64 (t : Int))).other (show w.heap.size ≠ w.heap.size + 1 by omega) 2 (.int .i64 (i : Int)))
            have HB3 := Lib.hid ((HB1.out.setCell (p := ⟨w.heap.size + 1, 1, none⟩) (by simp) (.int .i64 (t : Int))).setCell (p := ⟨w.heap.size + 1, 2, none⟩) (by simp) (.int .i64 (i : Int)))
            have k1 := HP1.out.cell 1
            have k2 := HP2.cell 2
            have f1 := HP1.out.free 1
            have f2 := HP2.free 2
            simp at k1 k2
            clear HP2
            simp only [duo] at co1 co2
            have CO1 := Lib.hid co1
            have CO2 := Lib.hid co2
            clear co1 co2
            go_enter Tryz.func64, Tryz.ntmps64
            go_wp2_with (refine wpList_store_row rfl 119 _ _ rfl (w.heap.size + 1) _ rfl rfl 119 pt0 HP0.out ?_ rfl ?_ ?_; kernel_rfl; simp [Value.oneCell'])
            generalize ((w.alloc (.cells pt0 119)).alloc (.cells pt0 119)).setRow (w.heap.size + 1) #[.int .u8 115, .int .i64 0, .int .i64 0, .int .i64 0, .string ⟨#[]⟩, .string ⟨#[]⟩] = W1 at *
            with_reducible refine (CP.out _).mono ?_
            rintro e w1 ⟨rfl, rfl⟩
            go_wp2_with (first | (refine wpList_load_row rfl 119 _ rfl (w.heap.size + 1) rfl 119 _ (0, 0) _ HP3.out Tryz.underlying119 rfl ?_ ?_; kernel_rfl) | (refine wpList_store_row rfl 119 _ _ rfl w.heap.size _ rfl rfl 119 pt0 HR3.out ?_ rfl ?_ ?_; kernel_rfl; simp [Value.oneCell']))
            repeat (first | ((with_reducible refine (CO1.out _).mono ?_); rintro e w1 ⟨rfl, rfl⟩; go_wp2_with (first | (refine wpList_load_row rfl 119 _ rfl (w.heap.size + 1) rfl 119 _ (0, 0) _ HP3.out Tryz.underlying119 rfl ?_ ?_; kernel_rfl) | (refine wpList_store_row rfl 119 _ _ rfl w.heap.size _ rfl rfl 119 pt0 HR3.out ?_ rfl ?_ ?_; kernel_rfl; simp [Value.oneCell']))) | ((with_reducible refine (CO2.out _).mono ?_); rintro e w1 ⟨rfl, rfl⟩; go_wp2_with (first | (refine wpList_load_row rfl 119 _ rfl (w.heap.size + 1) rfl 119 _ (0, 0) _ HP3.out Tryz.underlying119 rfl ?_ ?_; kernel_rfl) | (refine wpList_store_row rfl 119 _ _ rfl w.heap.size _ rfl rfl 119 pt0 HR3.out ?_ rfl ?_ ?_; kernel_rfl; simp [Value.oneCell']))) | ((with_reducible refine (CI1.out _).mono ?_); rintro e w1 ⟨rfl, rfl⟩; go_wp2_with (first | (refine wpList_load_row rfl 119 _ rfl (w.heap.size + 1) rfl 119 _ (0, 0) _ HP3.out Tryz.underlying119 rfl ?_ ?_; kernel_rfl) | (refine wpList_store_row rfl 119 _ _ rfl w.heap.size _ rfl rfl 119 pt0 HR3.out ?_ rfl ?_ ?_; kernel_rfl; simp [Value.oneCell']))) | ((with_reducible refine (CI2.out _).mono ?_); rintro e w1 ⟨rfl, rfl⟩; go_wp2_with (first | (refine wpList_load_row rfl 119 _ rfl (w.heap.size + 1) rfl 119 _ (0, 0) _ HP3.out Tryz.underlying119 rfl ?_ ?_; kernel_rfl) | (refine wpList_store_row rfl 119 _ _ rfl w.heap.size _ rfl rfl 119 pt0 HR3.out ?_ rfl ?_ ?_; kernel_rfl; simp [Value.oneCell']))))
            try simp only [Exit.inBlock, Exit.then]
            exact bodyPost_ret (ret_row2 Tryz.underlying119 (by kernel_rfl) rfl _ _ w.heap.size rfl (HR3.out.row (D := #[.int .u8 115, .int .i64 (t : Int), .int .i64 (i : Int), .int .i64 0, .string ⟨#[]⟩, .string ⟨#[]⟩]))) rfl ⟨rfl, below_setRow HB3.out (Nat.le_refl _) _⟩
      · rw [if_neg (fun h => hlen h.1), ptR_none]
        have q1 : ((rest.length : Int) != 16) = true := by rw [bne, show ((rest.length : Int) == 16) = false by rw [beq_eq_false_iff_ne]; omega]; rfl
        simp only [duo] at co1 co2
        have CO1 := Lib.hid co1
        have CO2 := Lib.hid co2
        clear co1 co2
        go_enter Tryz.func64, Tryz.ntmps64
        go_wp2_with (refine wpList_store_row rfl 119 _ _ rfl (w.heap.size + 1) _ rfl rfl 119 pt0 HP0.out ?_ rfl ?_ ?_; kernel_rfl; simp [Value.oneCell'])
        generalize ((w.alloc (.cells pt0 119)).alloc (.cells pt0 119)).setRow (w.heap.size + 1) #[.int .u8 115, .int .i64 0, .int .i64 0, .int .i64 0, .string ⟨#[]⟩, .string ⟨#[]⟩] = W1 at *
        with_reducible refine (CP.out _).mono ?_
        rintro e w1 ⟨rfl, rfl⟩
        go_wp2_with (refine wpList_store_row rfl 119 _ _ rfl w.heap.size _ rfl rfl 119 pt0 HR1.out ?_ rfl ?_ ?_; kernel_rfl; simp [Value.oneCell'])
        repeat (first | ((with_reducible refine (CO1.out _).mono ?_); rintro e w1 ⟨rfl, rfl⟩; go_wp2_with (refine wpList_store_row rfl 119 _ _ rfl w.heap.size _ rfl rfl 119 pt0 HR1.out ?_ rfl ?_ ?_; kernel_rfl; simp [Value.oneCell'])) | ((with_reducible refine (CO2.out _).mono ?_); rintro e w1 ⟨rfl, rfl⟩; go_wp2_with (refine wpList_store_row rfl 119 _ _ rfl w.heap.size _ rfl rfl 119 pt0 HR1.out ?_ rfl ?_ ?_; kernel_rfl; simp [Value.oneCell'])))
        try simp only [Exit.inBlock, Exit.then]
        exact bodyPost_ret (ret_row2 Tryz.underlying119 (by kernel_rfl) rfl _ _ w.heap.size rfl HR1.out.row) rfl ⟨rfl, below_setRow HB1.out (Nat.le_refl _) _⟩

end Go.Proofs.YtnhljlmelbiljaaGreat

/- Layer 8: keys.Parse, by a contract: an index cell's key; whatever else. -/
namespace Go.Proofs.YtnhljlmelbiljaaGreat
set_option linter.unusedVariables false
open Go Go.RowKit Go.Sort
attribute [local go_sem ↓] run_index_S
attribute [local go_sem] S_append S_extract

set_option maxHeartbeats 2000000 in
set_option maxRecDepth 100000 in
theorem parse_c (l : List UInt8) (h1 : l.head? ≠ some 115) (h2 : l.head? ≠ some 120) (w : World) :
    Calls Tryz.prog 64 #[.string (S l)] w fun e w' => e = .returned (ptR (M.parse l)) ∧ Below w.heap.size w w' := by
  have hpar : M.parse l = none := by
    cases l with
    | nil => rfl
    | cons k rest => rw [M.parse, if_neg (fun e => h1 (by rw [e]; rfl)), if_neg (fun e => h2 (by rw [e]; rfl))]
  rw [hpar, ptR_none]
  clear hpar
  have CP := Lib.hid (fun W => cutPrefix_no 115 l h1 W)
  have CN := Lib.hid (fun W => names_no l h2 W)
  have b115 : B [115] 0 = 115 := rfl
  have b120 : B [120] 0 = 120 := rfl
  have HP0 := Lib.hid (rowIn_at pt0 119 (w.alloc (.cells pt0 119)) (w.heap.size + 1) (by simp))
  have HR1 := Lib.hid (((rowIn_new pt0 119 w).more (.cells pt0 119)).rowAbove (c := w.heap.size + 1) (D := #[.int .u8 115, .int .i64 0, .int .i64 0, .int .i64 0, .string ⟨#[]⟩, .string ⟨#[]⟩]) (by omega))
  have HP1 := Lib.hid (HP0.out.row (D := #[.int .u8 115, .int .i64 0, .int .i64 0, .int .i64 0, .string ⟨#[]⟩, .string ⟨#[]⟩]))
  have HB1 := Lib.hid (below_setRow (g := w.heap.size + 1) (((Below.refl w.heap.size w).alloc (Nat.le_refl _) (.cells pt0 119)).alloc (by simp) (.cells pt0 119)) (by omega) #[.int .u8 115, .int .i64 0, .int .i64 0, .int .i64 0, .string ⟨#[]⟩, .string ⟨#[]⟩])
  go_enter Tryz.func64, Tryz.ntmps64
  go_wp2_with ((with_reducible show wpList _ _ _ _ _ _); refine wpList_store_row rfl 119 _ _ rfl (w.heap.size + 1) _ rfl rfl 119 pt0 HP0.out ?_ rfl ?_ ?_; kernel_rfl; simp [Value.oneCell'])
  generalize ((w.alloc (.cells pt0 119)).alloc (.cells pt0 119)).setRow (w.heap.size + 1) #[.int .u8 115, .int .i64 0, .int .i64 0, .int .i64 0, .string ⟨#[]⟩, .string ⟨#[]⟩] = W1 at *
  with_reducible refine (CP.out _).mono ?_
  rintro e w1 ⟨rfl, rfl⟩
  have k0 := HP1.out.cell 0
  have f0 := HP1.out.free 0
  simp at k0
  have HPx := Lib.hid (show RowIn #[.int .u8 120, .int .i64 0, .int .i64 0, .int .i64 0, .string ⟨#[]⟩, .string ⟨#[]⟩] 119 _ (w.heap.size + 1) from HP1.out.set 0 (.int .u8 120))
  have HRx := Lib.hid (HR1.out.other (show w.heap.size ≠ w.heap.size + 1 by omega) 0 (.int .u8 120))
  have HBx := Lib.hid (HB1.out.setCell (p := ⟨w.heap.size + 1, 0, none⟩) (by simp) (.int .u8 120))
  go_wp2_with fail
  with_reducible refine (CN.out _).mono ?_
  rintro e w2 ⟨rfl, hb2⟩
  clear k0 f0
  have HP2 := Lib.hid (HPx.out.below hb2)
  have HR2 := Lib.hid (HRx.out.below hb2)
  have HB2 := Lib.hid (below_step HBx.out hb2)
  clear hb2
  have k4 := HP2.out.cell 4
  have f4 := HP2.out.free 4
  have hp3 := HP2.out.set 4 (.string ⟨#[]⟩)
  have k5 := hp3.cell 5
  have f5 := hp3.free 5
  simp at k4 k5
  have HP3 := Lib.hid (show RowIn #[.int .u8 120, .int .i64 0, .int .i64 0, .int .i64 0, .string ⟨#[]⟩, .string ⟨#[]⟩] 119 ((w2.setCell ⟨w.heap.size + 1, 4, none⟩ (.string ⟨#[]⟩)).setCell ⟨w.heap.size + 1, 5, none⟩ (.string ⟨#[]⟩)) (w.heap.size + 1) from hp3.set 5 (.string ⟨#[]⟩))
  have HR3 := Lib.hid ((HR2.out.other (show w.heap.size ≠ w.heap.size + 1 by omega) 4 (.string ⟨#[]⟩)).other (show w.heap.size ≠ w.heap.size + 1 by omega) 5 (.string ⟨#[]⟩))
  have HB3 := Lib.hid ((HB2.out.setCell (p := ⟨w.heap.size + 1, 4, none⟩) (by simp) (.string ⟨#[]⟩)).setCell (p := ⟨w.heap.size + 1, 5, none⟩) (by simp) (.string ⟨#[]⟩))
  clear hp3
  go_wp2_with ((with_reducible show wpList _ _ _ _ _ _); refine wpList_store_row rfl 119 _ _ rfl w.heap.size _ rfl rfl 119 pt0 HR3.out ?_ rfl ?_ ?_; kernel_rfl; simp [Value.oneCell'])
  try simp only [Exit.inBlock, Exit.then]
  exact bodyPost_ret (ret_row2 Tryz.underlying119 (by kernel_rfl) rfl _ _ w.heap.size rfl HR3.out.row) rfl ⟨rfl, below_setRow HB3.out (Nat.le_refl _) _⟩

set_option maxHeartbeats 4000000 in
set_option maxRecDepth 100000 in
theorem b_f1 (rest0 a b r2 rest : List UInt8) (hl : r2.length ≤ 140737488351232) (st : Nat) (hst : st ≤ 1073741824) (hr : rest = r2.drop 8) (h8 : 8 ≤ r2.length) (co0 : M.ofBigs r2 0 = some st) (h1 : M.ofBigs rest 0 = none)
    (cn : ∀ W, Calls Tryz.prog 90 #[.string (S (120 :: rest0))] W fun e w' => e = .returned (.tuple #[.string (S a), .string (S b), .string (S r2), .bool true]) ∧ Below W.heap.size W w') (w : World) :
    Calls Tryz.prog 64 #[.string (S (120 :: rest0))] w fun e w' => e = .returned (.tuple #[.agg pt0, .bool false]) ∧ Below w.heap.size w w' := by
  have CP := Lib.hid (fun W => cutPrefix_no 115 (120 :: rest0) (by simp) W)
  have CN := Lib.hid cn
  clear cn
  have c0 := fun W => ofBig_any r2 0 W (by omega)
  rw [co0] at c0
  simp only [duo] at c0
  have CO0 := Lib.hid c0
  clear c0 co0
  have d3 : decide (1073741824 < (st : Int)) = false := by simp; omega
  have sl := fun W k => run_piece_from (P := Tryz.prog) 9 Tryz.underlying9 r2 8 8 rfl h8 W k
  rw [← hr] at sl
  have hl3 : rest.length ≤ 140737488351232 := by rw [hr, List.length_drop]; omega
  clear hr
  have b115 : B [115] 0 = 115 := rfl
  have b120 : B [120] 0 = 120 := rfl
  have HP0 := Lib.hid (rowIn_at pt0 119 (w.alloc (.cells pt0 119)) (w.heap.size + 1) (by simp))
  have HR1 := Lib.hid (((rowIn_new pt0 119 w).more (.cells pt0 119)).rowAbove (c := w.heap.size + 1) (D := #[.int .u8 115, .int .i64 0, .int .i64 0, .int .i64 0, .string ⟨#[]⟩, .string ⟨#[]⟩]) (by omega))
  have HP1 := Lib.hid (HP0.out.row (D := #[.int .u8 115, .int .i64 0, .int .i64 0, .int .i64 0, .string ⟨#[]⟩, .string ⟨#[]⟩]))
  have HB1 := Lib.hid (below_setRow (g := w.heap.size + 1) (((Below.refl w.heap.size w).alloc (Nat.le_refl _) (.cells pt0 119)).alloc (by simp) (.cells pt0 119)) (by omega) #[.int .u8 115, .int .i64 0, .int .i64 0, .int .i64 0, .string ⟨#[]⟩, .string ⟨#[]⟩])
  have co1 := fun W => ofBig_any rest 0 W (by omega)
  have co2 := fun W => ofBig_any rest 8 W (by omega)
  rw [h1] at co1
  obtain ⟨n2, b2, e2⟩ : ∃ n b, duo (M.ofBigs rest 8) = .tuple #[.int .i64 n, .bool b] := by cases M.ofBigs rest 8 <;> exact ⟨_, _, rfl⟩
  rw [e2] at co2
  simp only [duo] at co1
  clear h1 e2
  have CO1 := Lib.hid co1
  have CO2 := Lib.hid co2
  clear co1 co2
  go_enter Tryz.func64, Tryz.ntmps64
  go_wp2_with ((with_reducible show wpList _ _ _ _ _ _); refine wpList_store_row rfl 119 _ _ rfl (w.heap.size + 1) _ rfl rfl 119 pt0 HP0.out ?_ rfl ?_ ?_; kernel_rfl; simp [Value.oneCell'])
  generalize ((w.alloc (.cells pt0 119)).alloc (.cells pt0 119)).setRow (w.heap.size + 1) #[.int .u8 115, .int .i64 0, .int .i64 0, .int .i64 0, .string ⟨#[]⟩, .string ⟨#[]⟩] = W1 at *
  with_reducible refine (CP.out _).mono ?_
  rintro e w1 ⟨rfl, rfl⟩
  have k0 := HP1.out.cell 0
  have f0 := HP1.out.free 0
  simp at k0
  have HPx := Lib.hid (show RowIn #[.int .u8 120, .int .i64 0, .int .i64 0, .int .i64 0, .string ⟨#[]⟩, .string ⟨#[]⟩] 119 _ (w.heap.size + 1) from HP1.out.set 0 (.int .u8 120))
  have HRx := Lib.hid (HR1.out.other (show w.heap.size ≠ w.heap.size + 1 by omega) 0 (.int .u8 120))
  have HBx := Lib.hid (HB1.out.setCell (p := ⟨w.heap.size + 1, 0, none⟩) (by simp) (.int .u8 120))
  go_wp2_with fail
  with_reducible refine (CN.out _).mono ?_
  rintro e w2 ⟨rfl, hb2⟩
  clear k0 f0
  have HP2 := Lib.hid (HPx.out.below hb2)
  have HR2 := Lib.hid (HRx.out.below hb2)
  have HB2 := Lib.hid (below_step HBx.out hb2)
  clear hb2
  have k4 := HP2.out.cell 4
  have f4 := HP2.out.free 4
  have hp3 := HP2.out.set 4 (.string (S a))
  have k5 := hp3.cell 5
  have f5 := hp3.free 5
  simp at k4 k5
  have HP3 := Lib.hid (show RowIn #[.int .u8 120, .int .i64 0, .int .i64 0, .int .i64 0, .string (S a), .string (S b)] 119 ((w2.setCell ⟨w.heap.size + 1, 4, none⟩ (.string (S a))).setCell ⟨w.heap.size + 1, 5, none⟩ (.string (S b))) (w.heap.size + 1) from hp3.set 5 (.string (S b)))
  have HR3 := Lib.hid ((HR2.out.other (show w.heap.size ≠ w.heap.size + 1 by omega) 4 (.string (S a))).other (show w.heap.size ≠ w.heap.size + 1 by omega) 5 (.string (S b)))
  have HB3 := Lib.hid ((HB2.out.setCell (p := ⟨w.heap.size + 1, 4, none⟩) (by simp) (.string (S a))).setCell (p := ⟨w.heap.size + 1, 5, none⟩) (by simp) (.string (S b)))
  clear hp3
  go_wp2_with fail
  with_reducible refine (CO0.out _).mono ?_
  rintro e w3 ⟨rfl, rfl⟩
  clear k4 f4 k5 f5 CP CN HP2 HR2 HB2 HPx HRx HBx HP1 HR1 HB1 HP0
  generalize ((w2.setCell ⟨w.heap.size + 1, 4, none⟩ (.string (S a))).setCell ⟨w.heap.size + 1, 5, none⟩ (.string (S b))) = W3 at *
  have k3 := HP3.out.cell 3
  have f3 := HP3.out.free 3
  simp at k3
  have HP4 := Lib.hid (show RowIn #[.int .u8 120, .int .i64 0, .int .i64 0, .int .i64 (st : Int), .string (S a), .string (S b)] 119 (W3.setCell ⟨w.heap.size + 1, 3, none⟩ (.int .i64 (st : Int))) (w.heap.size + 1) from HP3.out.set 3 (.int .i64 (st : Int)))
  have HR4 := Lib.hid (HR3.out.other (show w.heap.size ≠ w.heap.size + 1 by omega) 3 (.int .i64 (st : Int)))
  have HB4 := Lib.hid (HB3.out.setCell (p := ⟨w.heap.size + 1, 3, none⟩) (by simp) (.int .i64 (st : Int)))
  have k3b := HP4.out.cell 3
  simp at k3b
  go_wp2_with fail
  with_reducible refine (CO1.out _).mono ?_
  rintro e w4 ⟨rfl, rfl⟩
  clear k3 f3 k3b HP3 HR3 HB3 CO0 CO1
  generalize (W3.setCell ⟨w.heap.size + 1, 3, none⟩ (.int .i64 (st : Int))) = W4 at *
  go_wp2_with ((with_reducible show wpList _ _ _ _ _ _); refine wpList_store_row rfl 119 _ _ rfl w.heap.size _ rfl rfl 119 pt0 HR4.out ?_ rfl ?_ ?_; kernel_rfl; simp [Value.oneCell'])
  repeat (first | ((with_reducible refine (CO2.out _).mono ?_); rintro e w1 ⟨rfl, rfl⟩; go_wp2_with ((with_reducible show wpList _ _ _ _ _ _); refine wpList_store_row rfl 119 _ _ rfl w.heap.size _ rfl rfl 119 pt0 HR4.out ?_ rfl ?_ ?_; kernel_rfl; simp [Value.oneCell'])))
  try simp only [Exit.inBlock, Exit.then]
  exact bodyPost_ret (ret_row2 Tryz.underlying119 (by kernel_rfl) rfl _ _ w.heap.size rfl HR4.out.row) rfl ⟨rfl, below_setRow HB4.out (Nat.le_refl _) _⟩

set_option maxHeartbeats 4000000 in
set_option maxRecDepth 100000 in
theorem b_f2 (rest0 a b r2 rest : List UInt8) (hl : r2.length ≤ 140737488351232) (st : Nat) (hst : st ≤ 1073741824) (hr : rest = r2.drop 8) (h8 : 8 ≤ r2.length) (co0 : M.ofBigs r2 0 = some st) (t : Nat) (h1 : M.ofBigs rest 0 = some t) (h2 : M.ofBigs rest 8 = none)
    (cn : ∀ W, Calls Tryz.prog 90 #[.string (S (120 :: rest0))] W fun e w' => e = .returned (.tuple #[.string (S a), .string (S b), .string (S r2), .bool true]) ∧ Below W.heap.size W w') (w : World) :
    Calls Tryz.prog 64 #[.string (S (120 :: rest0))] w fun e w' => e = .returned (.tuple #[.agg pt0, .bool false]) ∧ Below w.heap.size w w' := by
  have CP := Lib.hid (fun W => cutPrefix_no 115 (120 :: rest0) (by simp) W)
  have CN := Lib.hid cn
  clear cn
  have c0 := fun W => ofBig_any r2 0 W (by omega)
  rw [co0] at c0
  simp only [duo] at c0
  have CO0 := Lib.hid c0
  clear c0 co0
  have d3 : decide (1073741824 < (st : Int)) = false := by simp; omega
  have sl := fun W k => run_piece_from (P := Tryz.prog) 9 Tryz.underlying9 r2 8 8 rfl h8 W k
  rw [← hr] at sl
  have hl3 : rest.length ≤ 140737488351232 := by rw [hr, List.length_drop]; omega
  clear hr
  have b115 : B [115] 0 = 115 := rfl
  have b120 : B [120] 0 = 120 := rfl
  have HP0 := Lib.hid (rowIn_at pt0 119 (w.alloc (.cells pt0 119)) (w.heap.size + 1) (by simp))
  have HR1 := Lib.hid (((rowIn_new pt0 119 w).more (.cells pt0 119)).rowAbove (c := w.heap.size + 1) (D := #[.int .u8 115, .int .i64 0, .int .i64 0, .int .i64 0, .string ⟨#[]⟩, .string ⟨#[]⟩]) (by omega))
  have HP1 := Lib.hid (HP0.out.row (D := #[.int .u8 115, .int .i64 0, .int .i64 0, .int .i64 0, .string ⟨#[]⟩, .string ⟨#[]⟩]))
  have HB1 := Lib.hid (below_setRow (g := w.heap.size + 1) (((Below.refl w.heap.size w).alloc (Nat.le_refl _) (.cells pt0 119)).alloc (by simp) (.cells pt0 119)) (by omega) #[.int .u8 115, .int .i64 0, .int .i64 0, .int .i64 0, .string ⟨#[]⟩, .string ⟨#[]⟩])
  have co1 := fun W => ofBig_any rest 0 W (by omega)
  have co2 := fun W => ofBig_any rest 8 W (by omega)
  rw [h1] at co1
  rw [h2] at co2
  simp only [duo] at co1 co2
  clear h1 h2
  have CO1 := Lib.hid co1
  have CO2 := Lib.hid co2
  clear co1 co2
  go_enter Tryz.func64, Tryz.ntmps64
  go_wp2_with ((with_reducible show wpList _ _ _ _ _ _); refine wpList_store_row rfl 119 _ _ rfl (w.heap.size + 1) _ rfl rfl 119 pt0 HP0.out ?_ rfl ?_ ?_; kernel_rfl; simp [Value.oneCell'])
  generalize ((w.alloc (.cells pt0 119)).alloc (.cells pt0 119)).setRow (w.heap.size + 1) #[.int .u8 115, .int .i64 0, .int .i64 0, .int .i64 0, .string ⟨#[]⟩, .string ⟨#[]⟩] = W1 at *
  with_reducible refine (CP.out _).mono ?_
  rintro e w1 ⟨rfl, rfl⟩
  have k0 := HP1.out.cell 0
  have f0 := HP1.out.free 0
  simp at k0
  have HPx := Lib.hid (show RowIn #[.int .u8 120, .int .i64 0, .int .i64 0, .int .i64 0, .string ⟨#[]⟩, .string ⟨#[]⟩] 119 _ (w.heap.size + 1) from HP1.out.set 0 (.int .u8 120))
  have HRx := Lib.hid (HR1.out.other (show w.heap.size ≠ w.heap.size + 1 by omega) 0 (.int .u8 120))
  have HBx := Lib.hid (HB1.out.setCell (p := ⟨w.heap.size + 1, 0, none⟩) (by simp) (.int .u8 120))
  go_wp2_with fail
  with_reducible refine (CN.out _).mono ?_
  rintro e w2 ⟨rfl, hb2⟩
  clear k0 f0
  have HP2 := Lib.hid (HPx.out.below hb2)
  have HR2 := Lib.hid (HRx.out.below hb2)
  have HB2 := Lib.hid (below_step HBx.out hb2)
  clear hb2
  have k4 := HP2.out.cell 4
  have f4 := HP2.out.free 4
  have hp3 := HP2.out.set 4 (.string (S a))
  have k5 := hp3.cell 5
  have f5 := hp3.free 5
  simp at k4 k5
  have HP3 := Lib.hid (show RowIn #[.int .u8 120, .int .i64 0, .int .i64 0, .int .i64 0, .string (S a), .string (S b)] 119 ((w2.setCell ⟨w.heap.size + 1, 4, none⟩ (.string (S a))).setCell ⟨w.heap.size + 1, 5, none⟩ (.string (S b))) (w.heap.size + 1) from hp3.set 5 (.string (S b)))
  have HR3 := Lib.hid ((HR2.out.other (show w.heap.size ≠ w.heap.size + 1 by omega) 4 (.string (S a))).other (show w.heap.size ≠ w.heap.size + 1 by omega) 5 (.string (S b)))
  have HB3 := Lib.hid ((HB2.out.setCell (p := ⟨w.heap.size + 1, 4, none⟩) (by simp) (.string (S a))).setCell (p := ⟨w.heap.size + 1, 5, none⟩) (by simp) (.string (S b)))
  clear hp3
  go_wp2_with fail
  with_reducible refine (CO0.out _).mono ?_
  rintro e w3 ⟨rfl, rfl⟩
  clear k4 f4 k5 f5 CP CN HP2 HR2 HB2 HPx HRx HBx HP1 HR1 HB1 HP0
  generalize ((w2.setCell ⟨w.heap.size + 1, 4, none⟩ (.string (S a))).setCell ⟨w.heap.size + 1, 5, none⟩ (.string (S b))) = W3 at *
  have k3 := HP3.out.cell 3
  have f3 := HP3.out.free 3
  simp at k3
  have HP4 := Lib.hid (show RowIn #[.int .u8 120, .int .i64 0, .int .i64 0, .int .i64 (st : Int), .string (S a), .string (S b)] 119 (W3.setCell ⟨w.heap.size + 1, 3, none⟩ (.int .i64 (st : Int))) (w.heap.size + 1) from HP3.out.set 3 (.int .i64 (st : Int)))
  have HR4 := Lib.hid (HR3.out.other (show w.heap.size ≠ w.heap.size + 1 by omega) 3 (.int .i64 (st : Int)))
  have HB4 := Lib.hid (HB3.out.setCell (p := ⟨w.heap.size + 1, 3, none⟩) (by simp) (.int .i64 (st : Int)))
  have k3b := HP4.out.cell 3
  simp at k3b
  go_wp2_with fail
  with_reducible refine (CO1.out _).mono ?_
  rintro e w4 ⟨rfl, rfl⟩
  clear k3 f3 k3b HP3 HR3 HB3 CO0 CO1
  generalize (W3.setCell ⟨w.heap.size + 1, 3, none⟩ (.int .i64 (st : Int))) = W4 at *
  go_wp2_with ((with_reducible show wpList _ _ _ _ _ _); refine wpList_store_row rfl 119 _ _ rfl w.heap.size _ rfl rfl 119 pt0 HR4.out ?_ rfl ?_ ?_; kernel_rfl; simp [Value.oneCell'])
  repeat (first | ((with_reducible refine (CO2.out _).mono ?_); rintro e w1 ⟨rfl, rfl⟩; go_wp2_with ((with_reducible show wpList _ _ _ _ _ _); refine wpList_store_row rfl 119 _ _ rfl w.heap.size _ rfl rfl 119 pt0 HR4.out ?_ rfl ?_ ?_; kernel_rfl; simp [Value.oneCell'])))
  try simp only [Exit.inBlock, Exit.then]
  exact bodyPost_ret (ret_row2 Tryz.underlying119 (by kernel_rfl) rfl _ _ w.heap.size rfl HR4.out.row) rfl ⟨rfl, below_setRow HB4.out (Nat.le_refl _) _⟩

set_option maxHeartbeats 4000000 in
set_option maxRecDepth 100000 in
theorem b_f3 (rest0 a b r2 rest : List UInt8) (hl : r2.length ≤ 140737488351232) (st : Nat) (hst : st ≤ 1073741824) (hr : rest = r2.drop 8) (h8 : 8 ≤ r2.length) (co0 : M.ofBigs r2 0 = some st) (t i : Nat) (h1 : M.ofBigs rest 0 = some t) (h2 : M.ofBigs rest 8 = some i) (hlen : ¬ rest.length = 16)
    (cn : ∀ W, Calls Tryz.prog 90 #[.string (S (120 :: rest0))] W fun e w' => e = .returned (.tuple #[.string (S a), .string (S b), .string (S r2), .bool true]) ∧ Below W.heap.size W w') (w : World) :
    Calls Tryz.prog 64 #[.string (S (120 :: rest0))] w fun e w' => e = .returned (.tuple #[.agg pt0, .bool false]) ∧ Below w.heap.size w w' := by
  have CP := Lib.hid (fun W => cutPrefix_no 115 (120 :: rest0) (by simp) W)
  have CN := Lib.hid cn
  clear cn
  have c0 := fun W => ofBig_any r2 0 W (by omega)
  rw [co0] at c0
  simp only [duo] at c0
  have CO0 := Lib.hid c0
  clear c0 co0
  have d3 : decide (1073741824 < (st : Int)) = false := by simp; omega
  have sl := fun W k => run_piece_from (P := Tryz.prog) 9 Tryz.underlying9 r2 8 8 rfl h8 W k
  rw [← hr] at sl
  have hl3 : rest.length ≤ 140737488351232 := by rw [hr, List.length_drop]; omega
  clear hr
  have b115 : B [115] 0 = 115 := rfl
  have b120 : B [120] 0 = 120 := rfl
  have HP0 := Lib.hid (rowIn_at pt0 119 (w.alloc (.cells pt0 119)) (w.heap.size + 1) (by simp))
  have HR1 := Lib.hid (((rowIn_new pt0 119 w).more (.cells pt0 119)).rowAbove (c := w.heap.size + 1) (D := #[.int .u8 115, .int .i64 0, .int .i64 0, .int .i64 0, .string ⟨#[]⟩, .string ⟨#[]⟩]) (by omega))
  have HP1 := Lib.hid (HP0.out.row (D := #[.int .u8 115, .int .i64 0, .int .i64 0, .int .i64 0, .string ⟨#[]⟩, .string ⟨#[]⟩]))
  have HB1 := Lib.hid (below_setRow (g := w.heap.size + 1) (((Below.refl w.heap.size w).alloc (Nat.le_refl _) (.cells pt0 119)).alloc (by simp) (.cells pt0 119)) (by omega) #[.int .u8 115, .int .i64 0, .int .i64 0, .int .i64 0, .string ⟨#[]⟩, .string ⟨#[]⟩])
  have co1 := fun W => ofBig_any rest 0 W (by omega)
  have co2 := fun W => ofBig_any rest 8 W (by omega)
  rw [h1] at co1
  rw [h2] at co2
  simp only [duo] at co1 co2
  have q1 : ((rest.length : Int) != 16) = true := by rw [bne, show ((rest.length : Int) == 16) = false by rw [beq_eq_false_iff_ne]; omega]; rfl
  clear h1 h2 hlen
  have CO1 := Lib.hid co1
  have CO2 := Lib.hid co2
  clear co1 co2
  go_enter Tryz.func64, Tryz.ntmps64
  go_wp2_with ((with_reducible show wpList _ _ _ _ _ _); refine wpList_store_row rfl 119 _ _ rfl (w.heap.size + 1) _ rfl rfl 119 pt0 HP0.out ?_ rfl ?_ ?_; kernel_rfl; simp [Value.oneCell'])
  generalize ((w.alloc (.cells pt0 119)).alloc (.cells pt0 119)).setRow (w.heap.size + 1) #[.int .u8 115, .int .i64 0, .int .i64 0, .int .i64 0, .string ⟨#[]⟩, .string ⟨#[]⟩] = W1 at *
  with_reducible refine (CP.out _).mono ?_
  rintro e w1 ⟨rfl, rfl⟩
  have k0 := HP1.out.cell 0
  have f0 := HP1.out.free 0
  simp at k0
  have HPx := Lib.hid (show RowIn #[.int .u8 120, .int .i64 0, .int .i64 0, .int .i64 0, .string ⟨#[]⟩, .string ⟨#[]⟩] 119 _ (w.heap.size + 1) from HP1.out.set 0 (.int .u8 120))
  have HRx := Lib.hid (HR1.out.other (show w.heap.size ≠ w.heap.size + 1 by omega) 0 (.int .u8 120))
  have HBx := Lib.hid (HB1.out.setCell (p := ⟨w.heap.size + 1, 0, none⟩) (by simp) (.int .u8 120))
  go_wp2_with fail
  with_reducible refine (CN.out _).mono ?_
  rintro e w2 ⟨rfl, hb2⟩
  clear k0 f0
  have HP2 := Lib.hid (HPx.out.below hb2)
  have HR2 := Lib.hid (HRx.out.below hb2)
  have HB2 := Lib.hid (below_step HBx.out hb2)
  clear hb2
  have k4 := HP2.out.cell 4
  have f4 := HP2.out.free 4
  have hp3 := HP2.out.set 4 (.string (S a))
  have k5 := hp3.cell 5
  have f5 := hp3.free 5
  simp at k4 k5
  have HP3 := Lib.hid (show RowIn #[.int .u8 120, .int .i64 0, .int .i64 0, .int .i64 0, .string (S a), .string (S b)] 119 ((w2.setCell ⟨w.heap.size + 1, 4, none⟩ (.string (S a))).setCell ⟨w.heap.size + 1, 5, none⟩ (.string (S b))) (w.heap.size + 1) from hp3.set 5 (.string (S b)))
  have HR3 := Lib.hid ((HR2.out.other (show w.heap.size ≠ w.heap.size + 1 by omega) 4 (.string (S a))).other (show w.heap.size ≠ w.heap.size + 1 by omega) 5 (.string (S b)))
  have HB3 := Lib.hid ((HB2.out.setCell (p := ⟨w.heap.size + 1, 4, none⟩) (by simp) (.string (S a))).setCell (p := ⟨w.heap.size + 1, 5, none⟩) (by simp) (.string (S b)))
  clear hp3
  go_wp2_with fail
  with_reducible refine (CO0.out _).mono ?_
  rintro e w3 ⟨rfl, rfl⟩
  clear k4 f4 k5 f5 CP CN HP2 HR2 HB2 HPx HRx HBx HP1 HR1 HB1 HP0
  generalize ((w2.setCell ⟨w.heap.size + 1, 4, none⟩ (.string (S a))).setCell ⟨w.heap.size + 1, 5, none⟩ (.string (S b))) = W3 at *
  have k3 := HP3.out.cell 3
  have f3 := HP3.out.free 3
  simp at k3
  have HP4 := Lib.hid (show RowIn #[.int .u8 120, .int .i64 0, .int .i64 0, .int .i64 (st : Int), .string (S a), .string (S b)] 119 (W3.setCell ⟨w.heap.size + 1, 3, none⟩ (.int .i64 (st : Int))) (w.heap.size + 1) from HP3.out.set 3 (.int .i64 (st : Int)))
  have HR4 := Lib.hid (HR3.out.other (show w.heap.size ≠ w.heap.size + 1 by omega) 3 (.int .i64 (st : Int)))
  have HB4 := Lib.hid (HB3.out.setCell (p := ⟨w.heap.size + 1, 3, none⟩) (by simp) (.int .i64 (st : Int)))
  have k3b := HP4.out.cell 3
  simp at k3b
  go_wp2_with fail
  with_reducible refine (CO1.out _).mono ?_
  rintro e w4 ⟨rfl, rfl⟩
  clear k3 f3 k3b HP3 HR3 HB3 CO0 CO1
  generalize (W3.setCell ⟨w.heap.size + 1, 3, none⟩ (.int .i64 (st : Int))) = W4 at *
  go_wp2_with ((with_reducible show wpList _ _ _ _ _ _); refine wpList_store_row rfl 119 _ _ rfl w.heap.size _ rfl rfl 119 pt0 HR4.out ?_ rfl ?_ ?_; kernel_rfl; simp [Value.oneCell'])
  repeat (first | ((with_reducible refine (CO2.out _).mono ?_); rintro e w1 ⟨rfl, rfl⟩; go_wp2_with ((with_reducible show wpList _ _ _ _ _ _); refine wpList_store_row rfl 119 _ _ rfl w.heap.size _ rfl rfl 119 pt0 HR4.out ?_ rfl ?_ ?_; kernel_rfl; simp [Value.oneCell'])))
  try simp only [Exit.inBlock, Exit.then]
  exact bodyPost_ret (ret_row2 Tryz.underlying119 (by kernel_rfl) rfl _ _ w.heap.size rfl HR4.out.row) rfl ⟨rfl, below_setRow HB4.out (Nat.le_refl _) _⟩

set_option maxHeartbeats 4000000 in
set_option maxRecDepth 100000 in
theorem b_f4 (rest0 a b r2 rest : List UInt8) (hl : r2.length ≤ 140737488351232) (st : Nat) (hst : st ≤ 1073741824) (hr : rest = r2.drop 8) (h8 : 8 ≤ r2.length) (co0 : M.ofBigs r2 0 = some st) (t i : Nat) (h1 : M.ofBigs rest 0 = some t) (h2 : M.ofBigs rest 8 = some i) (hlen : rest.length = 16) (hi1 : M.idB t = false)
    (cn : ∀ W, Calls Tryz.prog 90 #[.string (S (120 :: rest0))] W fun e w' => e = .returned (.tuple #[.string (S a), .string (S b), .string (S r2), .bool true]) ∧ Below W.heap.size W w') (w : World) :
    Calls Tryz.prog 64 #[.string (S (120 :: rest0))] w fun e w' => e = .returned (.tuple #[.agg pt0, .bool false]) ∧ Below w.heap.size w w' := by
  have CP := Lib.hid (fun W => cutPrefix_no 115 (120 :: rest0) (by simp) W)
  have CN := Lib.hid cn
  clear cn
  have c0 := fun W => ofBig_any r2 0 W (by omega)
  rw [co0] at c0
  simp only [duo] at c0
  have CO0 := Lib.hid c0
  clear c0 co0
  have d3 : decide (1073741824 < (st : Int)) = false := by simp; omega
  have sl := fun W k => run_piece_from (P := Tryz.prog) 9 Tryz.underlying9 r2 8 8 rfl h8 W k
  rw [← hr] at sl
  have hl3 : rest.length ≤ 140737488351232 := by rw [hr, List.length_drop]; omega
  clear hr
  have b115 : B [115] 0 = 115 := rfl
  have b120 : B [120] 0 = 120 := rfl
  have HP0 := Lib.hid (rowIn_at pt0 119 (w.alloc (.cells pt0 119)) (w.heap.size + 1) (by simp))
  have HR1 := Lib.hid (((rowIn_new pt0 119 w).more (.cells pt0 119)).rowAbove (c := w.heap.size + 1) (D := #[.int .u8 115, .int .i64 0, .int .i64 0, .int .i64 0, .string ⟨#[]⟩, .string ⟨#[]⟩]) (by omega))
  have HP1 := Lib.hid (HP0.out.row (D := #[.int .u8 115, .int .i64 0, .int .i64 0, .int .i64 0, .string ⟨#[]⟩, .string ⟨#[]⟩]))
  have HB1 := Lib.hid (below_setRow (g := w.heap.size + 1) (((Below.refl w.heap.size w).alloc (Nat.le_refl _) (.cells pt0 119)).alloc (by simp) (.cells pt0 119)) (by omega) #[.int .u8 115, .int .i64 0, .int .i64 0, .int .i64 0, .string ⟨#[]⟩, .string ⟨#[]⟩])
  have co1 := fun W => ofBig_any rest 0 W (by omega)
  have co2 := fun W => ofBig_any rest 8 W (by omega)
  rw [h1] at co1
  rw [h2] at co2
  simp only [duo] at co1 co2
  have q1 : ((rest.length : Int) != 16) = false := by rw [hlen]; rfl
  have ci1 := fun W => isID_any (t : Int) W
  have ci2 := fun W => isID_any (i : Int) W
  rw [hi1] at ci1
  have CI1 := Lib.hid ci1
  clear h1 h2 hi1 ci1 ci2
  have CO1 := Lib.hid co1
  have CO2 := Lib.hid co2
  clear co1 co2
  go_enter Tryz.func64, Tryz.ntmps64
  go_wp2_with ((with_reducible show wpList _ _ _ _ _ _); refine wpList_store_row rfl 119 _ _ rfl (w.heap.size + 1) _ rfl rfl 119 pt0 HP0.out ?_ rfl ?_ ?_; kernel_rfl; simp [Value.oneCell'])
  generalize ((w.alloc (.cells pt0 119)).alloc (.cells pt0 119)).setRow (w.heap.size + 1) #[.int .u8 115, .int .i64 0, .int .i64 0, .int .i64 0, .string ⟨#[]⟩, .string ⟨#[]⟩] = W1 at *
  with_reducible refine (CP.out _).mono ?_
  rintro e w1 ⟨rfl, rfl⟩
  have k0 := HP1.out.cell 0
  have f0 := HP1.out.free 0
  simp at k0
  have HPx := Lib.hid (show RowIn #[.int .u8 120, .int .i64 0, .int .i64 0, .int .i64 0, .string ⟨#[]⟩, .string ⟨#[]⟩] 119 _ (w.heap.size + 1) from HP1.out.set 0 (.int .u8 120))
  have HRx := Lib.hid (HR1.out.other (show w.heap.size ≠ w.heap.size + 1 by omega) 0 (.int .u8 120))
  have HBx := Lib.hid (HB1.out.setCell (p := ⟨w.heap.size + 1, 0, none⟩) (by simp) (.int .u8 120))
  go_wp2_with fail
  with_reducible refine (CN.out _).mono ?_
  rintro e w2 ⟨rfl, hb2⟩
  clear k0 f0
  have HP2 := Lib.hid (HPx.out.below hb2)
  have HR2 := Lib.hid (HRx.out.below hb2)
  have HB2 := Lib.hid (below_step HBx.out hb2)
  clear hb2
  have k4 := HP2.out.cell 4
  have f4 := HP2.out.free 4
  have hp3 := HP2.out.set 4 (.string (S a))
  have k5 := hp3.cell 5
  have f5 := hp3.free 5
  simp at k4 k5
  have HP3 := Lib.hid (show RowIn #[.int .u8 120, .int .i64 0, .int .i64 0, .int .i64 0, .string (S a), .string (S b)] 119 ((w2.setCell ⟨w.heap.size + 1, 4, none⟩ (.string (S a))).setCell ⟨w.heap.size + 1, 5, none⟩ (.string (S b))) (w.heap.size + 1) from hp3.set 5 (.string (S b)))
  have HR3 := Lib.hid ((HR2.out.other (show w.heap.size ≠ w.heap.size + 1 by omega) 4 (.string (S a))).other (show w.heap.size ≠ w.heap.size + 1 by omega) 5 (.string (S b)))
  have HB3 := Lib.hid ((HB2.out.setCell (p := ⟨w.heap.size + 1, 4, none⟩) (by simp) (.string (S a))).setCell (p := ⟨w.heap.size + 1, 5, none⟩) (by simp) (.string (S b)))
  clear hp3
  go_wp2_with fail
  with_reducible refine (CO0.out _).mono ?_
  rintro e w3 ⟨rfl, rfl⟩
  clear k4 f4 k5 f5 CP CN HP2 HR2 HB2 HPx HRx HBx HP1 HR1 HB1 HP0
  generalize ((w2.setCell ⟨w.heap.size + 1, 4, none⟩ (.string (S a))).setCell ⟨w.heap.size + 1, 5, none⟩ (.string (S b))) = W3 at *
  have k3 := HP3.out.cell 3
  have f3 := HP3.out.free 3
  simp at k3
  have HP4 := Lib.hid (show RowIn #[.int .u8 120, .int .i64 0, .int .i64 0, .int .i64 (st : Int), .string (S a), .string (S b)] 119 (W3.setCell ⟨w.heap.size + 1, 3, none⟩ (.int .i64 (st : Int))) (w.heap.size + 1) from HP3.out.set 3 (.int .i64 (st : Int)))
  have HR4 := Lib.hid (HR3.out.other (show w.heap.size ≠ w.heap.size + 1 by omega) 3 (.int .i64 (st : Int)))
  have HB4 := Lib.hid (HB3.out.setCell (p := ⟨w.heap.size + 1, 3, none⟩) (by simp) (.int .i64 (st : Int)))
  have k3b := HP4.out.cell 3
  simp at k3b
  go_wp2_with fail
  with_reducible refine (CO1.out _).mono ?_
  rintro e w4 ⟨rfl, rfl⟩
  clear k3 f3 k3b HP3 HR3 HB3 CO0 CO1
  generalize (W3.setCell ⟨w.heap.size + 1, 3, none⟩ (.int .i64 (st : Int))) = W4 at *
  go_wp2_with ((with_reducible show wpList _ _ _ _ _ _); refine wpList_store_row rfl 119 _ _ rfl w.heap.size _ rfl rfl 119 pt0 HR4.out ?_ rfl ?_ ?_; kernel_rfl; simp [Value.oneCell'])
  repeat (first | ((with_reducible refine (CO2.out _).mono ?_); rintro e w1 ⟨rfl, rfl⟩; go_wp2_with ((with_reducible show wpList _ _ _ _ _ _); refine wpList_store_row rfl 119 _ _ rfl w.heap.size _ rfl rfl 119 pt0 HR4.out ?_ rfl ?_ ?_; kernel_rfl; simp [Value.oneCell'])) | ((with_reducible refine (CI1.out _).mono ?_); rintro e w1 ⟨rfl, rfl⟩; go_wp2_with ((with_reducible show wpList _ _ _ _ _ _); refine wpList_store_row rfl 119 _ _ rfl w.heap.size _ rfl rfl 119 pt0 HR4.out ?_ rfl ?_ ?_; kernel_rfl; simp [Value.oneCell'])))
  try simp only [Exit.inBlock, Exit.then]
  exact bodyPost_ret (ret_row2 Tryz.underlying119 (by kernel_rfl) rfl _ _ w.heap.size rfl HR4.out.row) rfl ⟨rfl, below_setRow HB4.out (Nat.le_refl _) _⟩

set_option maxHeartbeats 4000000 in
set_option maxRecDepth 100000 in
theorem b_f5 (rest0 a b r2 rest : List UInt8) (hl : r2.length ≤ 140737488351232) (st : Nat) (hst : st ≤ 1073741824) (hr : rest = r2.drop 8) (h8 : 8 ≤ r2.length) (co0 : M.ofBigs r2 0 = some st) (t i : Nat) (h1 : M.ofBigs rest 0 = some t) (h2 : M.ofBigs rest 8 = some i) (hlen : rest.length = 16) (hi1 : M.idB t = true) (hi2 : M.idB i = false)
    (cn : ∀ W, Calls Tryz.prog 90 #[.string (S (120 :: rest0))] W fun e w' => e = .returned (.tuple #[.string (S a), .string (S b), .string (S r2), .bool true]) ∧ Below W.heap.size W w') (w : World) :
    Calls Tryz.prog 64 #[.string (S (120 :: rest0))] w fun e w' => e = .returned (.tuple #[.agg pt0, .bool false]) ∧ Below w.heap.size w w' := by
  have CP := Lib.hid (fun W => cutPrefix_no 115 (120 :: rest0) (by simp) W)
  have CN := Lib.hid cn
  clear cn
  have c0 := fun W => ofBig_any r2 0 W (by omega)
  rw [co0] at c0
  simp only [duo] at c0
  have CO0 := Lib.hid c0
  clear c0 co0
  have d3 : decide (1073741824 < (st : Int)) = false := by simp; omega
  have sl := fun W k => run_piece_from (P := Tryz.prog) 9 Tryz.underlying9 r2 8 8 rfl h8 W k
  rw [← hr] at sl
  have hl3 : rest.length ≤ 140737488351232 := by rw [hr, List.length_drop]; omega
  clear hr
  have b115 : B [115] 0 = 115 := rfl
  have b120 : B [120] 0 = 120 := rfl
  have HP0 := Lib.hid (rowIn_at pt0 119 (w.alloc (.cells pt0 119)) (w.heap.size + 1) (by simp))
  have HR1 := Lib.hid (((rowIn_new pt0 119 w).more (.cells pt0 119)).rowAbove (c := w.heap.size + 1) (D := #[.int .u8 115, .int .i64 0, .int .i64 0, .int .i64 0, .string ⟨#[]⟩, .string ⟨#[]⟩]) (by omega))
  have HP1 := Lib.hid (HP0.out.row (D := #[.int .u8 115, .int .i64 0, .int .i64 0, .int .i64 0, .string ⟨#[]⟩, .string ⟨#[]⟩]))
  have HB1 := Lib.hid (below_setRow (g := w.heap.size + 1) (((Below.refl w.heap.size w).alloc (Nat.le_refl _) (.cells pt0 119)).alloc (by simp) (.cells pt0 119)) (by omega) #[.int .u8 115, .int .i64 0, .int .i64 0, .int .i64 0, .string ⟨#[]⟩, .string ⟨#[]⟩])
  have co1 := fun W => ofBig_any rest 0 W (by omega)
  have co2 := fun W => ofBig_any rest 8 W (by omega)
  rw [h1] at co1
  rw [h2] at co2
  simp only [duo] at co1 co2
  have q1 : ((rest.length : Int) != 16) = false := by rw [hlen]; rfl
  have ci1 := fun W => isID_any (t : Int) W
  have ci2 := fun W => isID_any (i : Int) W
  rw [hi1] at ci1
  rw [hi2] at ci2
  have CI1 := Lib.hid ci1
  have CI2 := Lib.hid ci2
  clear h1 h2 hi1 hi2 ci1 ci2
  have CO1 := Lib.hid co1
  have CO2 := Lib.hid co2
  clear co1 co2
  go_enter Tryz.func64, Tryz.ntmps64
  go_wp2_with ((with_reducible show wpList _ _ _ _ _ _); refine wpList_store_row rfl 119 _ _ rfl (w.heap.size + 1) _ rfl rfl 119 pt0 HP0.out ?_ rfl ?_ ?_; kernel_rfl; simp [Value.oneCell'])
  generalize ((w.alloc (.cells pt0 119)).alloc (.cells pt0 119)).setRow (w.heap.size + 1) #[.int .u8 115, .int .i64 0, .int .i64 0, .int .i64 0, .string ⟨#[]⟩, .string ⟨#[]⟩] = W1 at *
  with_reducible refine (CP.out _).mono ?_
  rintro e w1 ⟨rfl, rfl⟩
  have k0 := HP1.out.cell 0
  have f0 := HP1.out.free 0
  simp at k0
  have HPx := Lib.hid (show RowIn #[.int .u8 120, .int .i64 0, .int .i64 0, .int .i64 0, .string ⟨#[]⟩, .string ⟨#[]⟩] 119 _ (w.heap.size + 1) from HP1.out.set 0 (.int .u8 120))
  have HRx := Lib.hid (HR1.out.other (show w.heap.size ≠ w.heap.size + 1 by omega) 0 (.int .u8 120))
  have HBx := Lib.hid (HB1.out.setCell (p := ⟨w.heap.size + 1, 0, none⟩) (by simp) (.int .u8 120))
  go_wp2_with fail
  with_reducible refine (CN.out _).mono ?_
  rintro e w2 ⟨rfl, hb2⟩
  clear k0 f0
  have HP2 := Lib.hid (HPx.out.below hb2)
  have HR2 := Lib.hid (HRx.out.below hb2)
  have HB2 := Lib.hid (below_step HBx.out hb2)
  clear hb2
  have k4 := HP2.out.cell 4
  have f4 := HP2.out.free 4
  have hp3 := HP2.out.set 4 (.string (S a))
  have k5 := hp3.cell 5
  have f5 := hp3.free 5
  simp at k4 k5
  have HP3 := Lib.hid (show RowIn #[.int .u8 120, .int .i64 0, .int .i64 0, .int .i64 0, .string (S a), .string (S b)] 119 ((w2.setCell ⟨w.heap.size + 1, 4, none⟩ (.string (S a))).setCell ⟨w.heap.size + 1, 5, none⟩ (.string (S b))) (w.heap.size + 1) from hp3.set 5 (.string (S b)))
  have HR3 := Lib.hid ((HR2.out.other (show w.heap.size ≠ w.heap.size + 1 by omega) 4 (.string (S a))).other (show w.heap.size ≠ w.heap.size + 1 by omega) 5 (.string (S b)))
  have HB3 := Lib.hid ((HB2.out.setCell (p := ⟨w.heap.size + 1, 4, none⟩) (by simp) (.string (S a))).setCell (p := ⟨w.heap.size + 1, 5, none⟩) (by simp) (.string (S b)))
  clear hp3
  go_wp2_with fail
  with_reducible refine (CO0.out _).mono ?_
  rintro e w3 ⟨rfl, rfl⟩
  clear k4 f4 k5 f5 CP CN HP2 HR2 HB2 HPx HRx HBx HP1 HR1 HB1 HP0
  generalize ((w2.setCell ⟨w.heap.size + 1, 4, none⟩ (.string (S a))).setCell ⟨w.heap.size + 1, 5, none⟩ (.string (S b))) = W3 at *
  have k3 := HP3.out.cell 3
  have f3 := HP3.out.free 3
  simp at k3
  have HP4 := Lib.hid (show RowIn #[.int .u8 120, .int .i64 0, .int .i64 0, .int .i64 (st : Int), .string (S a), .string (S b)] 119 (W3.setCell ⟨w.heap.size + 1, 3, none⟩ (.int .i64 (st : Int))) (w.heap.size + 1) from HP3.out.set 3 (.int .i64 (st : Int)))
  have HR4 := Lib.hid (HR3.out.other (show w.heap.size ≠ w.heap.size + 1 by omega) 3 (.int .i64 (st : Int)))
  have HB4 := Lib.hid (HB3.out.setCell (p := ⟨w.heap.size + 1, 3, none⟩) (by simp) (.int .i64 (st : Int)))
  have k3b := HP4.out.cell 3
  simp at k3b
  go_wp2_with fail
  with_reducible refine (CO1.out _).mono ?_
  rintro e w4 ⟨rfl, rfl⟩
  clear k3 f3 k3b HP3 HR3 HB3 CO0 CO1
  generalize (W3.setCell ⟨w.heap.size + 1, 3, none⟩ (.int .i64 (st : Int))) = W4 at *
  go_wp2_with ((with_reducible show wpList _ _ _ _ _ _); refine wpList_store_row rfl 119 _ _ rfl w.heap.size _ rfl rfl 119 pt0 HR4.out ?_ rfl ?_ ?_; kernel_rfl; simp [Value.oneCell'])
  repeat (first | ((with_reducible refine (CO2.out _).mono ?_); rintro e w1 ⟨rfl, rfl⟩; go_wp2_with ((with_reducible show wpList _ _ _ _ _ _); refine wpList_store_row rfl 119 _ _ rfl w.heap.size _ rfl rfl 119 pt0 HR4.out ?_ rfl ?_ ?_; kernel_rfl; simp [Value.oneCell'])) | ((with_reducible refine (CI1.out _).mono ?_); rintro e w1 ⟨rfl, rfl⟩; go_wp2_with ((with_reducible show wpList _ _ _ _ _ _); refine wpList_store_row rfl 119 _ _ rfl w.heap.size _ rfl rfl 119 pt0 HR4.out ?_ rfl ?_ ?_; kernel_rfl; simp [Value.oneCell'])) | ((with_reducible refine (CI2.out _).mono ?_); rintro e w1 ⟨rfl, rfl⟩; go_wp2_with ((with_reducible show wpList _ _ _ _ _ _); refine wpList_store_row rfl 119 _ _ rfl w.heap.size _ rfl rfl 119 pt0 HR4.out ?_ rfl ?_ ?_; kernel_rfl; simp [Value.oneCell'])))
  try simp only [Exit.inBlock, Exit.then]
  exact bodyPost_ret (ret_row2 Tryz.underlying119 (by kernel_rfl) rfl _ _ w.heap.size rfl HR4.out.row) rfl ⟨rfl, below_setRow HB4.out (Nat.le_refl _) _⟩

set_option maxHeartbeats 4000000 in
set_option maxRecDepth 100000 in
theorem b_ok (rest0 a b r2 rest : List UInt8) (hl : r2.length ≤ 140737488351232) (st : Nat) (hst : st ≤ 1073741824) (hr : rest = r2.drop 8) (h8 : 8 ≤ r2.length) (co0 : M.ofBigs r2 0 = some st) (t i : Nat) (h1 : M.ofBigs rest 0 = some t) (h2 : M.ofBigs rest 8 = some i) (hlen : rest.length = 16) (hi1 : M.idB t = true) (hi2 : M.idB i = true)
    (cn : ∀ W, Calls Tryz.prog 90 #[.string (S (120 :: rest0))] W fun e w' => e = .returned (.tuple #[.string (S a), .string (S b), .string (S r2), .bool true]) ∧ Below W.heap.size W w') (w : World) :
    Calls Tryz.prog 64 #[.string (S (120 :: rest0))] w fun e w' => e = .returned (ptR (some ⟨120, t, i, st, a, b⟩)) ∧ Below w.heap.size w w' := by
  have CP := Lib.hid (fun W => cutPrefix_no 115 (120 :: rest0) (by simp) W)
  have CN := Lib.hid cn
  clear cn
  have c0 := fun W => ofBig_any r2 0 W (by omega)
  rw [co0] at c0
  simp only [duo] at c0
  have CO0 := Lib.hid c0
  clear c0 co0
  have d3 : decide (1073741824 < (st : Int)) = false := by simp; omega
  have sl := fun W k => run_piece_from (P := Tryz.prog) 9 Tryz.underlying9 r2 8 8 rfl h8 W k
  rw [← hr] at sl
  have hl3 : rest.length ≤ 140737488351232 := by rw [hr, List.length_drop]; omega
  clear hr
  have b115 : B [115] 0 = 115 := rfl
  have b120 : B [120] 0 = 120 := rfl
  have HP0 := Lib.hid (rowIn_at pt0 119 (w.alloc (.cells pt0 119)) (w.heap.size + 1) (by simp))
  have HR1 := Lib.hid (((rowIn_new pt0 119 w).more (.cells pt0 119)).rowAbove (c := w.heap.size + 1) (D := #[.int .u8 115, .int .i64 0, .int .i64 0, .int .i64 0, .string ⟨#[]⟩, .string ⟨#[]⟩]) (by omega))
  have HP1 := Lib.hid (HP0.out.row (D := #[.int .u8 115, .int .i64 0, .int .i64 0, .int .i64 0, .string ⟨#[]⟩, .string ⟨#[]⟩]))
  have HB1 := Lib.hid (below_setRow (g := w.heap.size + 1) (((Below.refl w.heap.size w).alloc (Nat.le_refl _) (.cells pt0 119)).alloc (by simp) (.cells pt0 119)) (by omega) #[.int .u8 115, .int .i64 0, .int .i64 0, .int .i64 0, .string ⟨#[]⟩, .string ⟨#[]⟩])
  have co1 := fun W => ofBig_any rest 0 W (by omega)
  have co2 := fun W => ofBig_any rest 8 W (by omega)
  rw [h1] at co1
  rw [h2] at co2
  simp only [duo] at co1 co2
  have q1 : ((rest.length : Int) != 16) = false := by rw [hlen]; rfl
  have ci1 := fun W => isID_any (t : Int) W
  have ci2 := fun W => isID_any (i : Int) W
  rw [hi1] at ci1
  rw [hi2] at ci2
  have CI1 := Lib.hid ci1
  have CI2 := Lib.hid ci2
  clear h1 h2 hi1 hi2 ci1 ci2
  have CO1 := Lib.hid co1
  have CO2 := Lib.hid co2
  clear co1 co2
  go_enter Tryz.func64, Tryz.ntmps64
  go_wp2_with ((with_reducible show wpList _ _ _ _ _ _); refine wpList_store_row rfl 119 _ _ rfl (w.heap.size + 1) _ rfl rfl 119 pt0 HP0.out ?_ rfl ?_ ?_; kernel_rfl; simp [Value.oneCell'])
  generalize ((w.alloc (.cells pt0 119)).alloc (.cells pt0 119)).setRow (w.heap.size + 1) #[.int .u8 115, .int .i64 0, .int .i64 0, .int .i64 0, .string ⟨#[]⟩, .string ⟨#[]⟩] = W1 at *
  with_reducible refine (CP.out _).mono ?_
  rintro e w1 ⟨rfl, rfl⟩
  have k0 := HP1.out.cell 0
  have f0 := HP1.out.free 0
  simp at k0
  have HPx := Lib.hid (show RowIn #[.int .u8 120, .int .i64 0, .int .i64 0, .int .i64 0, .string ⟨#[]⟩, .string ⟨#[]⟩] 119 _ (w.heap.size + 1) from HP1.out.set 0 (.int .u8 120))
  have HRx := Lib.hid (HR1.out.other (show w.heap.size ≠ w.heap.size + 1 by omega) 0 (.int .u8 120))
  have HBx := Lib.hid (HB1.out.setCell (p := ⟨w.heap.size + 1, 0, none⟩) (by simp) (.int .u8 120))
  go_wp2_with fail
  with_reducible refine (CN.out _).mono ?_
  rintro e w2 ⟨rfl, hb2⟩
  clear k0 f0
  have HP2 := Lib.hid (HPx.out.below hb2)
  have HR2 := Lib.hid (HRx.out.below hb2)
  have HB2 := Lib.hid (below_step HBx.out hb2)
  clear hb2
  have k4 := HP2.out.cell 4
  have f4 := HP2.out.free 4
  have hp3 := HP2.out.set 4 (.string (S a))
  have k5 := hp3.cell 5
  have f5 := hp3.free 5
  simp at k4 k5
  have HP3 := Lib.hid (show RowIn #[.int .u8 120, .int .i64 0, .int .i64 0, .int .i64 0, .string (S a), .string (S b)] 119 ((w2.setCell ⟨w.heap.size + 1, 4, none⟩ (.string (S a))).setCell ⟨w.heap.size + 1, 5, none⟩ (.string (S b))) (w.heap.size + 1) from hp3.set 5 (.string (S b)))
  have HR3 := Lib.hid ((HR2.out.other (show w.heap.size ≠ w.heap.size + 1 by omega) 4 (.string (S a))).other (show w.heap.size ≠ w.heap.size + 1 by omega) 5 (.string (S b)))
  have HB3 := Lib.hid ((HB2.out.setCell (p := ⟨w.heap.size + 1, 4, none⟩) (by simp) (.string (S a))).setCell (p := ⟨w.heap.size + 1, 5, none⟩) (by simp) (.string (S b)))
  clear hp3
  go_wp2_with fail
  with_reducible refine (CO0.out _).mono ?_
  rintro e w3 ⟨rfl, rfl⟩
  clear k4 f4 k5 f5 CP CN HP2 HR2 HB2 HPx HRx HBx HP1 HR1 HB1 HP0
  generalize ((w2.setCell ⟨w.heap.size + 1, 4, none⟩ (.string (S a))).setCell ⟨w.heap.size + 1, 5, none⟩ (.string (S b))) = W3 at *
  have k3 := HP3.out.cell 3
  have f3 := HP3.out.free 3
  simp at k3
  have HP4 := Lib.hid (show RowIn #[.int .u8 120, .int .i64 0, .int .i64 0, .int .i64 (st : Int), .string (S a), .string (S b)] 119 (W3.setCell ⟨w.heap.size + 1, 3, none⟩ (.int .i64 (st : Int))) (w.heap.size + 1) from HP3.out.set 3 (.int .i64 (st : Int)))
  have HR4 := Lib.hid (HR3.out.other (show w.heap.size ≠ w.heap.size + 1 by omega) 3 (.int .i64 (st : Int)))
  have HB4 := Lib.hid (HB3.out.setCell (p := ⟨w.heap.size + 1, 3, none⟩) (by simp) (.int .i64 (st : Int)))
  have k3b := HP4.out.cell 3
  simp at k3b
  go_wp2_with fail
  with_reducible refine (CO1.out _).mono ?_
  rintro e w4 ⟨rfl, rfl⟩
  clear k3 f3 k3b HP3 HR3 HB3 CO0 CO1
  generalize (W3.setCell ⟨w.heap.size + 1, 3, none⟩ (.int .i64 (st : Int))) = W4 at *
  have hp5 := HP4.out.set 1 (.int .i64 (t : Int))
  have HP5 := Lib.hid (show RowIn #[.int .u8 120, .int .i64 (t : Int), .int .i64 (i : Int), .int .i64 (st : Int), .string (S a), .string (S b)] 119 _ (w.heap.size + 1) from hp5.set 2 (.int .i64 (i : Int)))
  have HR5 := Lib.hid ((HR4.out.other (show w.heap.size ≠ w.heap.size + 1 by omega) 1 (.int .i64 (t : Int))).other (show w.heap.size ≠ w.heap.size + 1 by omega) 2 (.int .i64 (i : Int)))
  have HB5 := Lib.hid ((HB4.out.setCell (p := ⟨w.heap.size + 1, 1, none⟩) (by simp) (.int .i64 (t : Int))).setCell (p := ⟨w.heap.size + 1, 2, none⟩) (by simp) (.int .i64 (i : Int)))
  have k1 := HP4.out.cell 1
  have k2 := hp5.cell 2
  have f1 := HP4.out.free 1
  have f2 := hp5.free 2
  simp at k1 k2
  clear hp5
  go_wp2_with (first | ((with_reducible show wpList _ _ _ _ _ _); refine wpList_load_row rfl 119 _ rfl (w.heap.size + 1) rfl 119 _ (0, 0) _ HP5.out Tryz.underlying119 rfl ?_ ?_; kernel_rfl) | ((with_reducible show wpList _ _ _ _ _ _); refine wpList_store_row rfl 119 _ _ rfl w.heap.size _ rfl rfl 119 pt0 HR5.out ?_ rfl ?_ ?_; kernel_rfl; simp [Value.oneCell']))
  repeat (first | ((with_reducible refine (CO2.out _).mono ?_); rintro e w1 ⟨rfl, rfl⟩; go_wp2_with (first | ((with_reducible show wpList _ _ _ _ _ _); refine wpList_load_row rfl 119 _ rfl (w.heap.size + 1) rfl 119 _ (0, 0) _ HP5.out Tryz.underlying119 rfl ?_ ?_; kernel_rfl) | ((with_reducible show wpList _ _ _ _ _ _); refine wpList_store_row rfl 119 _ _ rfl w.heap.size _ rfl rfl 119 pt0 HR5.out ?_ rfl ?_ ?_; kernel_rfl; simp [Value.oneCell']))) | ((with_reducible refine (CI1.out _).mono ?_); rintro e w1 ⟨rfl, rfl⟩; go_wp2_with (first | ((with_reducible show wpList _ _ _ _ _ _); refine wpList_load_row rfl 119 _ rfl (w.heap.size + 1) rfl 119 _ (0, 0) _ HP5.out Tryz.underlying119 rfl ?_ ?_; kernel_rfl) | ((with_reducible show wpList _ _ _ _ _ _); refine wpList_store_row rfl 119 _ _ rfl w.heap.size _ rfl rfl 119 pt0 HR5.out ?_ rfl ?_ ?_; kernel_rfl; simp [Value.oneCell']))) | ((with_reducible refine (CI2.out _).mono ?_); rintro e w1 ⟨rfl, rfl⟩; go_wp2_with (first | ((with_reducible show wpList _ _ _ _ _ _); refine wpList_load_row rfl 119 _ rfl (w.heap.size + 1) rfl 119 _ (0, 0) _ HP5.out Tryz.underlying119 rfl ?_ ?_; kernel_rfl) | ((with_reducible show wpList _ _ _ _ _ _); refine wpList_store_row rfl 119 _ _ rfl w.heap.size _ rfl rfl 119 pt0 HR5.out ?_ rfl ?_ ?_; kernel_rfl; simp [Value.oneCell']))))
  try simp only [Exit.inBlock, Exit.then]
  exact bodyPost_ret (ret_row2 Tryz.underlying119 (by kernel_rfl) rfl _ _ w.heap.size rfl (HR5.out.row (D := #[.int .u8 120, .int .i64 (t : Int), .int .i64 (i : Int), .int .i64 (st : Int), .string (S a), .string (S b)]))) rfl ⟨rfl, below_setRow HB5.out (Nat.le_refl _) _⟩

theorem parse_b2 (rest0 a b r2 rest : List UInt8) (hl : r2.length ≤ 140737488351232) (st : Nat) (hst : st ≤ 1073741824) (hr : rest = r2.drop 8) (h8 : 8 ≤ r2.length) (co0 : M.ofBigs r2 0 = some st)
    (cn : ∀ W, Calls Tryz.prog 90 #[.string (S (120 :: rest0))] W fun e w' => e = .returned (.tuple #[.string (S a), .string (S b), .string (S r2), .bool true]) ∧ Below W.heap.size W w') (w : World) :
    Calls Tryz.prog 64 #[.string (S (120 :: rest0))] w fun e w' => e = .returned (ptR (M.numsP 120 rest a b st)) ∧ Below w.heap.size w w' := by
  cases ho1 : M.ofBigs rest 0 with
  | none => rw [numsP_none (.inl ho1), ptR_none]; exact b_f1 rest0 a b r2 rest hl st hst hr h8 co0 ho1 cn w
  | some t =>
    cases ho2 : M.ofBigs rest 8 with
    | none => rw [numsP_none (.inr ho2), ptR_none]; exact b_f2 rest0 a b r2 rest hl st hst hr h8 co0 t ho1 ho2 cn w
    | some i =>
      rw [numsP_if ho1 ho2]
      by_cases hlen : rest.length = 16
      · cases hi1 : M.idB t with
        | false => rw [if_neg (by simp), ptR_none]; exact b_f4 rest0 a b r2 rest hl st hst hr h8 co0 t i ho1 ho2 hlen hi1 cn w
        | true =>
          cases hi2 : M.idB i with
          | false => rw [if_neg (by simp), ptR_none]; exact b_f5 rest0 a b r2 rest hl st hst hr h8 co0 t i ho1 ho2 hlen hi1 hi2 cn w
          | true => rw [if_pos ⟨hlen, rfl, rfl⟩]; exact b_ok rest0 a b r2 rest hl st hst hr h8 co0 t i ho1 ho2 hlen hi1 hi2 cn w
      · rw [if_neg (fun h => hlen h.1), ptR_none]; exact b_f3 rest0 a b r2 rest hl st hst hr h8 co0 t i ho1 ho2 hlen cn w

set_option maxHeartbeats 4000000 in
set_option maxRecDepth 100000 in
theorem parse_b (rest : List UInt8) (hl : rest.length ≤ 140737488351231) (w : World) :
    Calls Tryz.prog 64 #[.string (S (120 :: rest))] w fun e w' => e = .returned (ptR (M.parse (120 :: rest))) ∧ Below w.heap.size w w' := by
  have hpar : M.parse (120 :: rest) = M.idxP rest := by rw [M.parse, if_neg (by decide), if_pos rfl]
  rw [hpar]
  clear hpar
  have cn := fun W => names_yes rest (by omega) W
  have l1 := M.cut0_length rest
  have l2 := M.cut0_length (M.cut0 rest).2
  have hidx : M.idxP rest = if M.nameB (M.cut0 rest).1 && M.nameB (M.cut0 (M.cut0 rest).2).1 then
    match M.ofBigs (M.cut0 (M.cut0 rest).2).2 0 with
    | some st => if st ≤ 1073741824 then M.numsP 120 ((M.cut0 (M.cut0 rest).2).2.drop 8) (M.cut0 rest).1 (M.cut0 (M.cut0 rest).2).1 st else none
    | none => none
  else none := rfl
  rw [hidx]
  clear hidx
  generalize (M.cut0 (M.cut0 rest).2).2 = r2 at *
  generalize (M.cut0 (M.cut0 rest).2).1 = b at *
  generalize (M.cut0 rest).2 = r1 at *
  generalize (M.cut0 rest).1 = a at *
  have c0 := fun W => ofBig_any r2 0 W (by omega)
  have CP := Lib.hid (fun W => cutPrefix_no 115 (120 :: rest) (by simp) W)
  cases hn : (M.nameB a && M.nameB b) with
  | false =>
    rw [hn] at cn
    have CN := Lib.hid cn
    clear cn c0
    rw [if_neg (by simp), ptR_none]
    have b115 : B [115] 0 = 115 := rfl
    have b120 : B [120] 0 = 120 := rfl
    have HP0 := Lib.hid (rowIn_at pt0 119 (w.alloc (.cells pt0 119)) (w.heap.size + 1) (by simp))
    have HR1 := Lib.hid (((rowIn_new pt0 119 w).more (.cells pt0 119)).rowAbove (c := w.heap.size + 1) (D := #[.int .u8 115, .int .i64 0, .int .i64 0, .int .i64 0, .string ⟨#[]⟩, .string ⟨#[]⟩]) (by omega))
    have HP1 := Lib.hid (HP0.out.row (D := #[.int .u8 115, .int .i64 0, .int .i64 0, .int .i64 0, .string ⟨#[]⟩, .string ⟨#[]⟩]))
    have HB1 := Lib.hid (below_setRow (g := w.heap.size + 1) (((Below.refl w.heap.size w).alloc (Nat.le_refl _) (.cells pt0 119)).alloc (by simp) (.cells pt0 119)) (by omega) #[.int .u8 115, .int .i64 0, .int .i64 0, .int .i64 0, .string ⟨#[]⟩, .string ⟨#[]⟩])
    go_enter Tryz.func64, Tryz.ntmps64
    go_wp2_with ((with_reducible show wpList _ _ _ _ _ _); refine wpList_store_row rfl 119 _ _ rfl (w.heap.size + 1) _ rfl rfl 119 pt0 HP0.out ?_ rfl ?_ ?_; kernel_rfl; simp [Value.oneCell'])
    generalize ((w.alloc (.cells pt0 119)).alloc (.cells pt0 119)).setRow (w.heap.size + 1) #[.int .u8 115, .int .i64 0, .int .i64 0, .int .i64 0, .string ⟨#[]⟩, .string ⟨#[]⟩] = W1 at *
    with_reducible refine (CP.out _).mono ?_
    rintro e w1 ⟨rfl, rfl⟩
    have k0 := HP1.out.cell 0
    have f0 := HP1.out.free 0
    simp at k0
    have HPx := Lib.hid (show RowIn #[.int .u8 120, .int .i64 0, .int .i64 0, .int .i64 0, .string ⟨#[]⟩, .string ⟨#[]⟩] 119 _ (w.heap.size + 1) from HP1.out.set 0 (.int .u8 120))
    have HRx := Lib.hid (HR1.out.other (show w.heap.size ≠ w.heap.size + 1 by omega) 0 (.int .u8 120))
    have HBx := Lib.hid (HB1.out.setCell (p := ⟨w.heap.size + 1, 0, none⟩) (by simp) (.int .u8 120))
    go_wp2_with fail
    with_reducible refine (CN.out _).mono ?_
    rintro e w2 ⟨rfl, hb2⟩
    clear k0 f0
    have HP2 := Lib.hid (HPx.out.below hb2)
    have HR2 := Lib.hid (HRx.out.below hb2)
    have HB2 := Lib.hid (below_step HBx.out hb2)
    clear hb2
    have k4 := HP2.out.cell 4
    have f4 := HP2.out.free 4
    have hp3 := HP2.out.set 4 (.string (S a))
    have k5 := hp3.cell 5
    have f5 := hp3.free 5
    simp at k4 k5
    have HP3 := Lib.hid (show RowIn #[.int .u8 120, .int .i64 0, .int .i64 0, .int .i64 0, .string (S a), .string (S b)] 119 ((w2.setCell ⟨w.heap.size + 1, 4, none⟩ (.string (S a))).setCell ⟨w.heap.size + 1, 5, none⟩ (.string (S b))) (w.heap.size + 1) from hp3.set 5 (.string (S b)))
    have HR3 := Lib.hid ((HR2.out.other (show w.heap.size ≠ w.heap.size + 1 by omega) 4 (.string (S a))).other (show w.heap.size ≠ w.heap.size + 1 by omega) 5 (.string (S b)))
    have HB3 := Lib.hid ((HB2.out.setCell (p := ⟨w.heap.size + 1, 4, none⟩) (by simp) (.string (S a))).setCell (p := ⟨w.heap.size + 1, 5, none⟩) (by simp) (.string (S b)))
    clear hp3
    go_wp2_with ((with_reducible show wpList _ _ _ _ _ _); refine wpList_store_row rfl 119 _ _ rfl w.heap.size _ rfl rfl 119 pt0 HR3.out ?_ rfl ?_ ?_; kernel_rfl; simp [Value.oneCell'])
    try simp only [Exit.inBlock, Exit.then]
    exact bodyPost_ret (ret_row2 Tryz.underlying119 (by kernel_rfl) rfl _ _ w.heap.size rfl HR3.out.row) rfl ⟨rfl, below_setRow HB3.out (Nat.le_refl _) _⟩
  | true =>
    rw [hn] at cn
    rw [if_pos rfl]
    cases ho : M.ofBigs r2 0 with
    | none =>
      rw [ho] at c0
      simp only [duo] at c0
      have CO0 := Lib.hid c0
      have CN := Lib.hid cn
      clear cn c0
      simp only [ptR_none]
      have b115 : B [115] 0 = 115 := rfl
      have b120 : B [120] 0 = 120 := rfl
      have HP0 := Lib.hid (rowIn_at pt0 119 (w.alloc (.cells pt0 119)) (w.heap.size + 1) (by simp))
      have HR1 := Lib.hid (((rowIn_new pt0 119 w).more (.cells pt0 119)).rowAbove (c := w.heap.size + 1) (D := #[.int .u8 115, .int .i64 0, .int .i64 0, .int .i64 0, .string ⟨#[]⟩, .string ⟨#[]⟩]) (by omega))
      have HP1 := Lib.hid (HP0.out.row (D := #[.int .u8 115, .int .i64 0, .int .i64 0, .int .i64 0, .string ⟨#[]⟩, .string ⟨#[]⟩]))
      have HB1 := Lib.hid (below_setRow (g := w.heap.size + 1) (((Below.refl w.heap.size w).alloc (Nat.le_refl _) (.cells pt0 119)).alloc (by simp) (.cells pt0 119)) (by omega) #[.int .u8 115, .int .i64 0, .int .i64 0, .int .i64 0, .string ⟨#[]⟩, .string ⟨#[]⟩])
      go_enter Tryz.func64, Tryz.ntmps64
      go_wp2_with ((with_reducible show wpList _ _ _ _ _ _); refine wpList_store_row rfl 119 _ _ rfl (w.heap.size + 1) _ rfl rfl 119 pt0 HP0.out ?_ rfl ?_ ?_; kernel_rfl; simp [Value.oneCell'])
      generalize ((w.alloc (.cells pt0 119)).alloc (.cells pt0 119)).setRow (w.heap.size + 1) #[.int .u8 115, .int .i64 0, .int .i64 0, .int .i64 0, .string ⟨#[]⟩, .string ⟨#[]⟩] = W1 at *
      with_reducible refine (CP.out _).mono ?_
      rintro e w1 ⟨rfl, rfl⟩
      have k0 := HP1.out.cell 0
      have f0 := HP1.out.free 0
      simp at k0
      have HPx := Lib.hid (show RowIn #[.int .u8 120, .int .i64 0, .int .i64 0, .int .i64 0, .string ⟨#[]⟩, .string ⟨#[]⟩] 119 _ (w.heap.size + 1) from HP1.out.set 0 (.int .u8 120))
      have HRx := Lib.hid (HR1.out.other (show w.heap.size ≠ w.heap.size + 1 by omega) 0 (.int .u8 120))
      have HBx := Lib.hid (HB1.out.setCell (p := ⟨w.heap.size + 1, 0, none⟩) (by simp) (.int .u8 120))
      go_wp2_with fail
      with_reducible refine (CN.out _).mono ?_
      rintro e w2 ⟨rfl, hb2⟩
      clear k0 f0
      have HP2 := Lib.hid (HPx.out.below hb2)
      have HR2 := Lib.hid (HRx.out.below hb2)
      have HB2 := Lib.hid (below_step HBx.out hb2)
      clear hb2
      have k4 := HP2.out.cell 4
      have f4 := HP2.out.free 4
      have hp3 := HP2.out.set 4 (.string (S a))
      have k5 := hp3.cell 5
      have f5 := hp3.free 5
      simp at k4 k5
      have HP3 := Lib.hid (show RowIn #[.int .u8 120, .int .i64 0, .int .i64 0, .int .i64 0, .string (S a), .string (S b)] 119 ((w2.setCell ⟨w.heap.size + 1, 4, none⟩ (.string (S a))).setCell ⟨w.heap.size + 1, 5, none⟩ (.string (S b))) (w.heap.size + 1) from hp3.set 5 (.string (S b)))
      have HR3 := Lib.hid ((HR2.out.other (show w.heap.size ≠ w.heap.size + 1 by omega) 4 (.string (S a))).other (show w.heap.size ≠ w.heap.size + 1 by omega) 5 (.string (S b)))
      have HB3 := Lib.hid ((HB2.out.setCell (p := ⟨w.heap.size + 1, 4, none⟩) (by simp) (.string (S a))).setCell (p := ⟨w.heap.size + 1, 5, none⟩) (by simp) (.string (S b)))
      clear hp3
      go_wp2_with fail
      with_reducible refine (CO0.out _).mono ?_
      rintro e w3 ⟨rfl, rfl⟩
      clear k4 f4 k5 f5 CP CN HP2 HR2 HB2 HPx HRx HBx HP1 HR1 HB1 HP0
      generalize ((w2.setCell ⟨w.heap.size + 1, 4, none⟩ (.string (S a))).setCell ⟨w.heap.size + 1, 5, none⟩ (.string (S b))) = W3 at *
      have k3 := HP3.out.cell 3
      have f3 := HP3.out.free 3
      simp at k3
      have HP4 := Lib.hid (show RowIn #[.int .u8 120, .int .i64 0, .int .i64 0, .int .i64 0, .string (S a), .string (S b)] 119 (W3.setCell ⟨w.heap.size + 1, 3, none⟩ (.int .i64 0)) (w.heap.size + 1) from HP3.out.set 3 (.int .i64 0))
      have HR4 := Lib.hid (HR3.out.other (show w.heap.size ≠ w.heap.size + 1 by omega) 3 (.int .i64 0))
      have HB4 := Lib.hid (HB3.out.setCell (p := ⟨w.heap.size + 1, 3, none⟩) (by simp) (.int .i64 0))
      have k3b := HP4.out.cell 3
      simp at k3b
      go_wp2_with ((with_reducible show wpList _ _ _ _ _ _); refine wpList_store_row rfl 119 _ _ rfl w.heap.size _ rfl rfl 119 pt0 HR4.out ?_ rfl ?_ ?_; kernel_rfl; simp [Value.oneCell'])
      try simp only [Exit.inBlock, Exit.then]
      exact bodyPost_ret (ret_row2 Tryz.underlying119 (by kernel_rfl) rfl _ _ w.heap.size rfl HR4.out.row) rfl ⟨rfl, below_setRow HB4.out (Nat.le_refl _) _⟩
    | some st =>
      have hb := M.ofBigs_bounds ho
      by_cases hst : st ≤ 1073741824
      · simp only [if_pos hst]
        exact parse_b2 rest a b r2 _ (by omega) st hst rfl (by have := hb.2.1; omega) ho cn w
      · rw [ho] at c0
        simp only [duo] at c0
        have CO0 := Lib.hid c0
        have CN := Lib.hid cn
        clear cn c0
        simp only [if_neg hst, ptR_none]
        have d3 : decide (1073741824 < (st : Int)) = true := by simp; omega
        have b115 : B [115] 0 = 115 := rfl
        have b120 : B [120] 0 = 120 := rfl
        have HP0 := Lib.hid (rowIn_at pt0 119 (w.alloc (.cells pt0 119)) (w.heap.size + 1) (by simp))
        have HR1 := Lib.hid (((rowIn_new pt0 119 w).more (.cells pt0 119)).rowAbove (c := w.heap.size + 1) (D := #[.int .u8 115, .int .i64 0, .int .i64 0, .int .i64 0, .string ⟨#[]⟩, .string ⟨#[]⟩]) (by omega))
        have HP1 := Lib.hid (HP0.out.row (D := #[.int .u8 115, .int .i64 0, .int .i64 0, .int .i64 0, .string ⟨#[]⟩, .string ⟨#[]⟩]))
        have HB1 := Lib.hid (below_setRow (g := w.heap.size + 1) (((Below.refl w.heap.size w).alloc (Nat.le_refl _) (.cells pt0 119)).alloc (by simp) (.cells pt0 119)) (by omega) #[.int .u8 115, .int .i64 0, .int .i64 0, .int .i64 0, .string ⟨#[]⟩, .string ⟨#[]⟩])
        go_enter Tryz.func64, Tryz.ntmps64
        go_wp2_with ((with_reducible show wpList _ _ _ _ _ _); refine wpList_store_row rfl 119 _ _ rfl (w.heap.size + 1) _ rfl rfl 119 pt0 HP0.out ?_ rfl ?_ ?_; kernel_rfl; simp [Value.oneCell'])
        generalize ((w.alloc (.cells pt0 119)).alloc (.cells pt0 119)).setRow (w.heap.size + 1) #[.int .u8 115, .int .i64 0, .int .i64 0, .int .i64 0, .string ⟨#[]⟩, .string ⟨#[]⟩] = W1 at *
        with_reducible refine (CP.out _).mono ?_
        rintro e w1 ⟨rfl, rfl⟩
        have k0 := HP1.out.cell 0
        have f0 := HP1.out.free 0
        simp at k0
        have HPx := Lib.hid (show RowIn #[.int .u8 120, .int .i64 0, .int .i64 0, .int .i64 0, .string ⟨#[]⟩, .string ⟨#[]⟩] 119 _ (w.heap.size + 1) from HP1.out.set 0 (.int .u8 120))
        have HRx := Lib.hid (HR1.out.other (show w.heap.size ≠ w.heap.size + 1 by omega) 0 (.int .u8 120))
        have HBx := Lib.hid (HB1.out.setCell (p := ⟨w.heap.size + 1, 0, none⟩) (by simp) (.int .u8 120))
        go_wp2_with fail
        with_reducible refine (CN.out _).mono ?_
        rintro e w2 ⟨rfl, hb2⟩
        clear k0 f0
        have HP2 := Lib.hid (HPx.out.below hb2)
        have HR2 := Lib.hid (HRx.out.below hb2)
        have HB2 := Lib.hid (below_step HBx.out hb2)
        clear hb2
        have k4 := HP2.out.cell 4
        have f4 := HP2.out.free 4
        have hp3 := HP2.out.set 4 (.string (S a))
        have k5 := hp3.cell 5
        have f5 := hp3.free 5
        simp at k4 k5
        have HP3 := Lib.hid (show RowIn #[.int .u8 120, .int .i64 0, .int .i64 0, .int .i64 0, .string (S a), .string (S b)] 119 ((w2.setCell ⟨w.heap.size + 1, 4, none⟩ (.string (S a))).setCell ⟨w.heap.size + 1, 5, none⟩ (.string (S b))) (w.heap.size + 1) from hp3.set 5 (.string (S b)))
        have HR3 := Lib.hid ((HR2.out.other (show w.heap.size ≠ w.heap.size + 1 by omega) 4 (.string (S a))).other (show w.heap.size ≠ w.heap.size + 1 by omega) 5 (.string (S b)))
        have HB3 := Lib.hid ((HB2.out.setCell (p := ⟨w.heap.size + 1, 4, none⟩) (by simp) (.string (S a))).setCell (p := ⟨w.heap.size + 1, 5, none⟩) (by simp) (.string (S b)))
        clear hp3
        go_wp2_with fail
        with_reducible refine (CO0.out _).mono ?_
        rintro e w3 ⟨rfl, rfl⟩
        clear k4 f4 k5 f5 CP CN HP2 HR2 HB2 HPx HRx HBx HP1 HR1 HB1 HP0
        generalize ((w2.setCell ⟨w.heap.size + 1, 4, none⟩ (.string (S a))).setCell ⟨w.heap.size + 1, 5, none⟩ (.string (S b))) = W3 at *
        have k3 := HP3.out.cell 3
        have f3 := HP3.out.free 3
        simp at k3
        have HP4 := Lib.hid (show RowIn #[.int .u8 120, .int .i64 0, .int .i64 0, .int .i64 (st : Int), .string (S a), .string (S b)] 119 (W3.setCell ⟨w.heap.size + 1, 3, none⟩ (.int .i64 (st : Int))) (w.heap.size + 1) from HP3.out.set 3 (.int .i64 (st : Int)))
        have HR4 := Lib.hid (HR3.out.other (show w.heap.size ≠ w.heap.size + 1 by omega) 3 (.int .i64 (st : Int)))
        have HB4 := Lib.hid (HB3.out.setCell (p := ⟨w.heap.size + 1, 3, none⟩) (by simp) (.int .i64 (st : Int)))
        have k3b := HP4.out.cell 3
        simp at k3b
        go_wp2_with ((with_reducible show wpList _ _ _ _ _ _); refine wpList_store_row rfl 119 _ _ rfl w.heap.size _ rfl rfl 119 pt0 HR4.out ?_ rfl ?_ ?_; kernel_rfl; simp [Value.oneCell'])
        try simp only [Exit.inBlock, Exit.then]
        exact bodyPost_ret (ret_row2 Tryz.underlying119 (by kernel_rfl) rfl _ _ w.heap.size rfl HR4.out.row) rfl ⟨rfl, below_setRow HB4.out (Nat.le_refl _) _⟩

theorem parse_any (l : List UInt8) (hl : l.length ≤ 140737488351232) (w : World) :
    Calls Tryz.prog 64 #[.string (S l)] w fun e w' => e = .returned (ptR (M.parse l)) ∧ Below w.heap.size w w' := by
  cases l with
  | nil => exact parse_c [] (by simp) (by simp) w
  | cons k rest =>
    by_cases h1 : k = 115
    · subst h1; exact parse_a rest (by simp at hl; omega) w
    · by_cases h2 : k = 120
      · subst h2; exact parse_b rest (by simp at hl; omega) w
      · exact parse_c (k :: rest) (by simpa using h1) (by simpa using h2) w

end Go.Proofs.YtnhljlmelbiljaaGreat

/- Layer 8: keys.Row, does, by contracts; the laws' walks: KeysStretch. -/
namespace Go.Proofs.YtnhljlmelbiljaaGreat
set_option linter.unusedVariables false
open Go Go.RowKit Go.Sort
attribute [local go_sem ↓] run_index_S
attribute [local go_sem] S_append S_extract

set_option maxHeartbeats 1000000 in
theorem keyRow_any (l : List UInt8) (hl : l.length ≤ 140737488351232) (w : World) :
    Calls Tryz.prog 35 #[.string (S l)] w fun e w' => e = .returned (.string (S (M.rowK l))) ∧ Below w.heap.size w w' := by
  have cp := fun W => parse_any l hl W
  cases hp : M.parse l with
  | none =>
    rw [M.rowK, hp]
    rw [hp, ptR_none] at cp
    have CP := Lib.hid cp
    clear cp hp
    go_enter Tryz.func35, Tryz.ntmps35
    go_wp2_with fail
    with_reducible refine (CP.out _).mono ?_
    rintro e w1 ⟨rfl, hb1⟩
    have HX := Lib.hid (rowIn_new pt0 119 w1)
    have HB := Lib.hid (below_setRow (g := w1.heap.size) (hb1.alloc hb1.size (.cells pt0 119)) hb1.size pt0)
    clear hb1
    go_wp2_with ((with_reducible show wpList _ _ _ _ _ _); refine wpList_store_row rfl 119 _ _ rfl w1.heap.size _ rfl rfl 119 pt0 HX.out ?_ rfl ?_ ?_; kernel_rfl; simp [Value.oneCell'])
    go_ret
    exact ⟨rfl, HB.out⟩
  | some p =>
    have hps := M.parse_some hp
    rw [M.rowK, hp]
    rw [hp] at cp
    have cp2 : ∀ W, Calls Tryz.prog 64 #[.string (S l)] W fun e w' => e = .returned (.tuple #[.agg #[.int .u8 (p.kind : Nat), .int .i64 (p.trace : Nat), .int .i64 (p.id : Nat), .int .i64 (p.start : Nat), .string (S p.svc), .string (S p.host)], .bool true]) ∧ Below W.heap.size W w' := cp
    have CP := Lib.hid cp2
    clear cp cp2 hp
    have b115 : B [115] 0 = 115 := rfl
    rcases hps with ⟨_, _, ⟨hk, hl17, hrest⟩ | ⟨hk, hrest⟩⟩
    · simp only [hk, if_true]
      have q : (((p.kind : Nat) : Int) == 115) = true := by rw [hk]; rfl
      have h17 : l.length = 17 := by rw [hl17]; simp [M.spanK, M.bigN_length]
      have sl := fun W k => run_piece_to (P := Tryz.prog) 9 Tryz.underlying9 l 9 9 rfl (by omega) W k
      clear hk hl17 h17 hrest
      generalize p.kind = pk at *
      generalize p.trace = p1 at *
      generalize p.id = p2 at *
      generalize p.start = p3 at *
      generalize p.svc = p4 at *
      generalize p.host = p5 at *
      go_enter Tryz.func35, Tryz.ntmps35
      go_wp2_with fail
      with_reducible refine (CP.out _).mono ?_
      rintro e w1 ⟨rfl, hb1⟩
      have HX := Lib.hid (rowIn_new pt0 119 w1)
      have hc : (((w1.alloc (.cells pt0 119))).setRow w1.heap.size #[.int .u8 (pk : Nat), .int .i64 (p1 : Nat), .int .i64 (p2 : Nat), .int .i64 (p3 : Nat), .string (S p4), .string (S p5)]).cell? ⟨w1.heap.size, 0, none⟩ = some (.int .u8 (pk : Nat)) := (HX.out.row).cell 0
      have HB := Lib.hid (below_setRow (g := w1.heap.size) (hb1.alloc hb1.size (.cells pt0 119)) hb1.size #[.int .u8 (pk : Nat), .int .i64 (p1 : Nat), .int .i64 (p2 : Nat), .int .i64 (p3 : Nat), .string (S p4), .string (S p5)])
      clear hb1
      go_wp2_with ((with_reducible show wpList _ _ _ _ _ _); refine wpList_store_row rfl 119 _ _ rfl w1.heap.size _ rfl rfl 119 pt0 HX.out ?_ rfl ?_ ?_; kernel_rfl; simp [Value.oneCell'])
      go_quiet (fail)
      go_wp2_with fail
      go_ret
      exact ⟨rfl, below_drewN HB.out _⟩
    · simp only [hk, show ¬ (120 : Nat) = 115 by decide, if_false]
      have q : (((p.kind : Nat) : Int) == 115) = false := by rw [hk]; rfl
      clear hk hrest
      generalize p.kind = pk at *
      generalize p.trace = p1 at *
      generalize p.id = p2 at *
      generalize p.start = p3 at *
      generalize p.svc = p4 at *
      generalize p.host = p5 at *
      go_enter Tryz.func35, Tryz.ntmps35
      go_wp2_with fail
      with_reducible refine (CP.out _).mono ?_
      rintro e w1 ⟨rfl, hb1⟩
      have HX := Lib.hid (rowIn_new pt0 119 w1)
      have hc : (((w1.alloc (.cells pt0 119))).setRow w1.heap.size #[.int .u8 (pk : Nat), .int .i64 (p1 : Nat), .int .i64 (p2 : Nat), .int .i64 (p3 : Nat), .string (S p4), .string (S p5)]).cell? ⟨w1.heap.size, 0, none⟩ = some (.int .u8 (pk : Nat)) := (HX.out.row).cell 0
      have HB := Lib.hid (below_setRow (g := w1.heap.size) (hb1.alloc hb1.size (.cells pt0 119)) hb1.size #[.int .u8 (pk : Nat), .int .i64 (p1 : Nat), .int .i64 (p2 : Nat), .int .i64 (p3 : Nat), .string (S p4), .string (S p5)])
      clear hb1
      go_wp2_with ((with_reducible show wpList _ _ _ _ _ _); refine wpList_store_row rfl 119 _ _ rfl w1.heap.size _ rfl rfl 119 pt0 HX.out ?_ rfl ?_ ?_; kernel_rfl; simp [Value.oneCell'])
      go_quiet (fail)
      go_wp2_with fail
      go_ret
      exact ⟨rfl, below_drewN HB.out _⟩

end Go.Proofs.YtnhljlmelbiljaaGreat

/- Layer 8: the document's zero, by a contract; a key's parts by places. -/
namespace Go.Proofs.YtnhljlmelbiljaaGreat
set_option linter.unusedVariables false
open Go Go.RowKit Go.Sort
attribute [local go_sem ↓] run_index_S
attribute [local go_sem] S_append S_extract

theorem B_is0 (l : List UInt8) (a : Nat) : (B l a == 0) = (l.getD a 0 == 0) := by
  rw [Bool.eq_iff_iff, beq_iff_eq, beq_iff_eq]
  unfold B
  constructor
  · intro h
    exact UInt8.toNat_inj.1 (by simpa using h)
  · intro h; rw [h]; rfl
/-- The first byte 0 from a place on. -/
def ZeroAt (l : List UInt8) (a : Nat) (r : Int) : Prop := (r = -1 ∧ 0 ∉ l.drop a) ∨ ∃ k : Nat, r = k ∧ a ≤ k ∧ k < l.length ∧ M.cut0 (l.drop a) = (piece l a k, l.drop (k + 1))
theorem zeroAt_some {l : List UInt8} {a k : Nat} (ha : a ≤ k) (hk : k < l.length) (h0 : l.getD k 0 = 0) (hn : ∀ j, a ≤ j → j < k → l.getD j 0 ≠ 0) : M.cut0 (l.drop a) = (piece l a k, l.drop (k + 1)) := by
  have e : l.drop a = piece l a k ++ 0 :: l.drop (k + 1) := by
    have h1 : l.drop a = (l.drop a).take (k - a) ++ (l.drop a).drop (k - a) := (List.take_append_drop _ _).symm
    conv => lhs; rw [h1]
    rw [List.drop_drop, show a + (k - a) = k by omega, List.drop_eq_getElem_cons hk]
    rw [List.getD, List.getElem?_eq_getElem hk] at h0
    simp only [Option.getD_some] at h0
    rw [h0]
    rfl
  have hz : 0 ∉ piece l a k := fun hm => by
    obtain ⟨j, hj, hj2⟩ := List.getElem_of_mem hm
    have hl : (piece l a k).length = k - a := piece_length _ _ _ ha (by omega)
    refine hn (a + j) (by omega) (by omega) ?_
    rw [List.getD, List.getElem?_eq_getElem (by omega)]
    simp only [piece, List.getElem_take, List.getElem_drop] at hj2
    simpa using hj2
  rw [e, M.cut0_some _ _ hz]

set_option maxHeartbeats 1000000 in
theorem zero_any (l : List UInt8) (hl : l.length ≤ 140737488351232) (a : Nat) (ha : a ≤ l.length) (w : World) :
    Calls Tryz.prog 94 #[.string (S l), .int .i64 a] w fun e w' => (∃ r, e = .returned (.int .i64 r) ∧ ZeroAt l a r) ∧ w = w' := by
  go_enter Tryz.func94, Tryz.ntmps94
  go_wp2_with fail
  go_loopw [5] (fun i wr => ∃ k : Nat, a ≤ k ∧ k ≤ l.length ∧ i = .int .i64 k ∧ (∀ j, a ≤ j → j < k → l.getD j 0 ≠ 0) ∧ wr = w) (fun i _ => l.length - (intOf i).toNat)
  case atStart => exact ⟨a, Nat.le_refl _, ha, rfl, fun j h1 h2 => by omega, rfl⟩
  case round =>
    obtain ⟨k, hak, hk, rfl, hn, rfl⟩ := hrel
    have HN := Lib.hid hn
    clear hn
    by_cases hkl : k < l.length
    · have d1 : decide ((k : Int) < (l.length : Int)) = true := by simp; omega
      have hB := B_is0 l k
      by_cases h0 : l.getD k 0 = 0
      · have hb : (B l k == 0) = true := by rw [hB]; simpa using h0
        have HZ := Lib.hid (zeroAt_some hak hkl h0 HN.out)
        clear hB h0
        go_wp2_with fail
        go_ret
        exact ⟨⟨_, rfl, .inr ⟨k, rfl, hak, hkl, HZ.out⟩⟩, rfl⟩
      · have hb : (B l k == 0) = false := by rw [hB]; simpa using h0
        have H2 := Lib.hid (show ∀ j, a ≤ j → j < k + 1 → l.getD j 0 ≠ 0 from fun j h1 h2 => by
          by_cases e : j = k
          · subst e; exact h0
          · exact HN.out j h1 (by omega))
        clear hB h0
        go_wp2_with fail
        go_roundw
        case rel => exact ⟨k + 1, by omega, by omega, by go_num, H2.out, trivial⟩
        case measure => simp [intOf]; omega
    · obtain rfl : k = l.length := by omega
      have d1 : decide ((l.length : Int) < (l.length : Int)) = false := by simp
      have hno : 0 ∉ l.drop a := fun hm => by
        obtain ⟨j, hj, hj2⟩ := List.getElem_of_mem hm
        simp at hj
        refine HN.out (a + j) (by omega) (by omega) ?_
        rw [List.getD, List.getElem?_eq_getElem (by omega)]
        simpa using hj2
      go_wp2_with fail
      go_ret
      exact ⟨⟨_, rfl, .inl ⟨rfl, hno⟩⟩, rfl⟩

theorem ofBigs_drop (l : List UInt8) (a n : Nat) : M.ofBigs l ((a + n : Nat) : Int) = M.ofBigs (l.drop a) (n : Int) := by
  have g : l.getD (a + n) 0 = (l.drop a).getD n 0 := by simp [List.getD, List.getElem?_drop]
  have c : ((l.length : Int) - 8 < ((a + n : Nat) : Int)) ↔ (((l.drop a).length : Int) - 8 < (n : Int)) := by rw [List.length_drop]; omega
  have z1 : ¬ (((a + n : Nat) : Int) < 0) := by omega
  have z2 : ¬ ((n : Int) < 0) := by omega
  unfold M.ofBigs
  rw [Int.toNat_natCast, Int.toNat_natCast, g, List.drop_drop]
  simp only [z1, z2, c, false_or]

def zf (l : List UInt8) (a : Nat) : Int := if 0 ∈ l.drop a then ((a + (M.cut0 (l.drop a)).1.length : Nat) : Int) else -1
theorem zf_of {l : List UInt8} {a : Nat} {r : Int} (h : ZeroAt l a r) : r = zf l a := by
  rcases h with ⟨rfl, h⟩ | ⟨k, rfl, h1, h2, h3⟩
  · rw [zf, if_neg h]
  · have hm : 0 ∈ l.drop a := by
      by_cases m : 0 ∈ l.drop a
      · exact m
      · rw [M.cut0_none _ m] at h3
        have := congrArg (fun x => x.1.length) h3
        simp only [List.length_drop] at this
        rw [piece_length _ _ _ h1 (by omega)] at this
        omega
    rw [zf, if_pos hm, h3]
    simp only
    rw [piece_length _ _ _ h1 (by omega)]
    omega
theorem zf_spec (l : List UInt8) (a : Nat) (ha : a ≤ l.length) : ZeroAt l a (zf l a) := by
  by_cases m : 0 ∈ l.drop a
  · obtain ⟨e, hn⟩ := M.cut0_parts _ m
    have hlen : (l.drop a).length = (M.cut0 (l.drop a)).1.length + 1 + (M.cut0 (l.drop a)).2.length := by
      conv => lhs; rw [e]
      simp; omega
    rw [List.length_drop] at hlen
    refine .inr ⟨a + (M.cut0 (l.drop a)).1.length, by rw [zf, if_pos m], by omega, by omega, ?_⟩
    generalize (M.cut0 (l.drop a)).1 = p at *
    generalize (M.cut0 (l.drop a)).2 = q at *
    have e1 : piece l a (a + p.length) = p := by
      unfold piece
      rw [e, show a + p.length - a = p.length by omega, List.take_left]
    have e2 : l.drop (a + p.length + 1) = q := by
      rw [show a + p.length + 1 = a + (p.length + 1) by omega, ← List.drop_drop, e]
      simp
    rw [e1, e2, e, M.cut0_some _ _ hn]
  · exact .inl ⟨by rw [zf, if_neg m], m⟩
theorem zero_fn (l : List UInt8) (hl : l.length ≤ 140737488351232) (a : Nat) (ha : a ≤ l.length) (w : World) :
    Calls Tryz.prog 94 #[.string (S l), .int .i64 a] w fun e w' => e = .returned (.int .i64 (zf l a)) ∧ w = w' :=
  (zero_any l hl a ha w).mono fun e w' ⟨⟨r, he, hz⟩, hw⟩ => ⟨by rw [he, zf_of hz], hw⟩

end Go.Proofs.YtnhljlmelbiljaaGreat

/- Layer 8: the document's Parse, by contracts, case by case. -/
namespace Go.Proofs.YtnhljlmelbiljaaGreat
set_option linter.unusedVariables false
open Go Go.RowKit Go.Sort
attribute [local go_sem ↓] run_index_S
attribute [local go_sem] S_append S_extract

set_option maxHeartbeats 2000000 in
set_option maxRecDepth 100000 in
theorem rp_a1 (l : List UInt8) (hl : l.length ≤ 140737488351232) (h17 : l.length = 17) (h0 : l.getD 0 0 = 115) (h1 : M.ofBigs l 1 = none) (w : World) :
    Calls Tryz.prog 65 #[.string (S l)] w fun e w' => e = .returned (.tuple #[.agg pt0, .bool false]) ∧ Below w.heap.size w w' := by
  have q17 : ((l.length : Int) == 17) = true := by rw [h17]; rfl
  have b0 : (B l 0 == 115) = true := by unfold B; rw [h0]; rfl
  have g1 : 17 ≤ l.length := by omega
  have co1 := fun W => refOfBig_any l 1 W (by omega)
  have co2 := fun W => refOfBig_any l 9 W (by omega)
  obtain ⟨n2, v2, e2⟩ : ∃ n v, duo (M.ofBigs l 9) = .tuple #[.int .i64 n, .bool v] := by cases M.ofBigs l 9 <;> exact ⟨_, _, rfl⟩
  rw [e2] at co2
  rw [h1] at co1
  simp only [duo] at co1
  have CO1 := Lib.hid co1
  have CO2 := Lib.hid co2
  clear co1 co2 h1 e2 h17 h0
  have HR := Lib.hid (rowIn_new pt0 122 w)
  have HB := Lib.hid ((Below.refl w.heap.size w).alloc (Nat.le_refl _) (.cells pt0 122))
  go_enter Tryz.func65, Tryz.ntmps65
  go_wp2_with fail
  with_reducible refine (CO1.out _).mono ?_
  rintro e w1 ⟨rfl, rfl⟩
  generalize w.alloc (.cells pt0 122) = W0 at *
  go_wp2_with fail
  with_reducible refine (CO2.out _).mono ?_
  rintro e w1 ⟨rfl, rfl⟩
  go_wp2_with ((with_reducible show wpList _ _ _ _ _ _); refine wpList_store_row rfl 122 _ _ rfl w.heap.size _ rfl rfl 122 pt0 HR.out ?_ rfl ?_ ?_; kernel_rfl; simp [Value.oneCell'])
  try simp only [Exit.inBlock, Exit.then]
  exact bodyPost_ret (ret_row2 Tryz.underlying122 (by kernel_rfl) rfl _ _ w.heap.size rfl (HR.out.row)) rfl ⟨rfl, below_setRow HB.out (Nat.le_refl _) _⟩

set_option maxHeartbeats 2000000 in
set_option maxRecDepth 100000 in
theorem rp_a2 (l : List UInt8) (hl : l.length ≤ 140737488351232) (h17 : l.length = 17) (h0 : l.getD 0 0 = 115) (t : Nat) (h1 : M.ofBigs l 1 = some t) (h2 : M.ofBigs l 9 = none) (w : World) :
    Calls Tryz.prog 65 #[.string (S l)] w fun e w' => e = .returned (.tuple #[.agg pt0, .bool false]) ∧ Below w.heap.size w w' := by
  have q17 : ((l.length : Int) == 17) = true := by rw [h17]; rfl
  have b0 : (B l 0 == 115) = true := by unfold B; rw [h0]; rfl
  have g1 : 17 ≤ l.length := by omega
  have co1 := fun W => refOfBig_any l 1 W (by omega)
  have co2 := fun W => refOfBig_any l 9 W (by omega)
  rw [h1] at co1
  rw [h2] at co2
  simp only [duo] at co1 co2
  have CO1 := Lib.hid co1
  have CO2 := Lib.hid co2
  clear co1 co2 h1 h2 h17 h0
  have HR := Lib.hid (rowIn_new pt0 122 w)
  have HB := Lib.hid ((Below.refl w.heap.size w).alloc (Nat.le_refl _) (.cells pt0 122))
  go_enter Tryz.func65, Tryz.ntmps65
  go_wp2_with fail
  with_reducible refine (CO1.out _).mono ?_
  rintro e w1 ⟨rfl, rfl⟩
  generalize w.alloc (.cells pt0 122) = W0 at *
  go_wp2_with fail
  with_reducible refine (CO2.out _).mono ?_
  rintro e w1 ⟨rfl, rfl⟩
  go_wp2_with ((with_reducible show wpList _ _ _ _ _ _); refine wpList_store_row rfl 122 _ _ rfl w.heap.size _ rfl rfl 122 pt0 HR.out ?_ rfl ?_ ?_; kernel_rfl; simp [Value.oneCell'])
  try simp only [Exit.inBlock, Exit.then]
  exact bodyPost_ret (ret_row2 Tryz.underlying122 (by kernel_rfl) rfl _ _ w.heap.size rfl (HR.out.row)) rfl ⟨rfl, below_setRow HB.out (Nat.le_refl _) _⟩

set_option maxHeartbeats 2000000 in
set_option maxRecDepth 100000 in
theorem rp_a4 (l : List UInt8) (hl : l.length ≤ 140737488351232) (h17 : l.length = 17) (h0 : l.getD 0 0 = 115) (t i : Nat) (h1 : M.ofBigs l 1 = some t) (h2 : M.ofBigs l 9 = some i) (hi1 : M.idB t = false) (w : World) :
    Calls Tryz.prog 65 #[.string (S l)] w fun e w' => e = .returned (.tuple #[.agg pt0, .bool false]) ∧ Below w.heap.size w w' := by
  have q17 : ((l.length : Int) == 17) = true := by rw [h17]; rfl
  have b0 : (B l 0 == 115) = true := by unfold B; rw [h0]; rfl
  have g1 : 17 ≤ l.length := by omega
  have co1 := fun W => refOfBig_any l 1 W (by omega)
  have co2 := fun W => refOfBig_any l 9 W (by omega)
  rw [h1] at co1
  rw [h2] at co2
  simp only [duo] at co1 co2
  have CO1 := Lib.hid co1
  have CO2 := Lib.hid co2
  have ci1 := fun W => refIsID_any (t : Int) W
  rw [hi1] at ci1
  have CI1 := Lib.hid ci1
  clear co1 co2 ci1 h1 h2 hi1 h17 h0
  have HR := Lib.hid (rowIn_new pt0 122 w)
  have HB := Lib.hid ((Below.refl w.heap.size w).alloc (Nat.le_refl _) (.cells pt0 122))
  go_enter Tryz.func65, Tryz.ntmps65
  go_wp2_with fail
  with_reducible refine (CO1.out _).mono ?_
  rintro e w1 ⟨rfl, rfl⟩
  generalize w.alloc (.cells pt0 122) = W0 at *
  go_wp2_with fail
  with_reducible refine (CO2.out _).mono ?_
  rintro e w1 ⟨rfl, rfl⟩
  go_wp2_with fail
  with_reducible refine (CI1.out _).mono ?_
  rintro e w1 ⟨rfl, rfl⟩
  go_wp2_with ((with_reducible show wpList _ _ _ _ _ _); refine wpList_store_row rfl 122 _ _ rfl w.heap.size _ rfl rfl 122 pt0 HR.out ?_ rfl ?_ ?_; kernel_rfl; simp [Value.oneCell'])
  try simp only [Exit.inBlock, Exit.then]
  exact bodyPost_ret (ret_row2 Tryz.underlying122 (by kernel_rfl) rfl _ _ w.heap.size rfl (HR.out.row)) rfl ⟨rfl, below_setRow HB.out (Nat.le_refl _) _⟩

set_option maxHeartbeats 2000000 in
set_option maxRecDepth 100000 in
theorem rp_a5 (l : List UInt8) (hl : l.length ≤ 140737488351232) (h17 : l.length = 17) (h0 : l.getD 0 0 = 115) (t i : Nat) (h1 : M.ofBigs l 1 = some t) (h2 : M.ofBigs l 9 = some i) (hi1 : M.idB t = true) (hi2 : M.idB i = false) (w : World) :
    Calls Tryz.prog 65 #[.string (S l)] w fun e w' => e = .returned (.tuple #[.agg pt0, .bool false]) ∧ Below w.heap.size w w' := by
  have q17 : ((l.length : Int) == 17) = true := by rw [h17]; rfl
  have b0 : (B l 0 == 115) = true := by unfold B; rw [h0]; rfl
  have g1 : 17 ≤ l.length := by omega
  have co1 := fun W => refOfBig_any l 1 W (by omega)
  have co2 := fun W => refOfBig_any l 9 W (by omega)
  rw [h1] at co1
  rw [h2] at co2
  simp only [duo] at co1 co2
  have CO1 := Lib.hid co1
  have CO2 := Lib.hid co2
  have ci1 := fun W => refIsID_any (t : Int) W
  rw [hi1] at ci1
  have CI1 := Lib.hid ci1
  have ci2 := fun W => refIsID_any (i : Int) W
  rw [hi2] at ci2
  have CI2 := Lib.hid ci2
  clear co1 co2 ci1 ci2 h1 h2 hi1 hi2 h17 h0
  have HR := Lib.hid (rowIn_new pt0 122 w)
  have HB := Lib.hid ((Below.refl w.heap.size w).alloc (Nat.le_refl _) (.cells pt0 122))
  go_enter Tryz.func65, Tryz.ntmps65
  go_wp2_with fail
  with_reducible refine (CO1.out _).mono ?_
  rintro e w1 ⟨rfl, rfl⟩
  generalize w.alloc (.cells pt0 122) = W0 at *
  go_wp2_with fail
  with_reducible refine (CO2.out _).mono ?_
  rintro e w1 ⟨rfl, rfl⟩
  go_wp2_with fail
  with_reducible refine (CI1.out _).mono ?_
  rintro e w1 ⟨rfl, rfl⟩
  go_wp2_with fail
  with_reducible refine (CI2.out _).mono ?_
  rintro e w1 ⟨rfl, rfl⟩
  go_wp2_with ((with_reducible show wpList _ _ _ _ _ _); refine wpList_store_row rfl 122 _ _ rfl w.heap.size _ rfl rfl 122 pt0 HR.out ?_ rfl ?_ ?_; kernel_rfl; simp [Value.oneCell'])
  try simp only [Exit.inBlock, Exit.then]
  exact bodyPost_ret (ret_row2 Tryz.underlying122 (by kernel_rfl) rfl _ _ w.heap.size rfl (HR.out.row)) rfl ⟨rfl, below_setRow HB.out (Nat.le_refl _) _⟩

set_option maxHeartbeats 2000000 in
set_option maxRecDepth 100000 in
theorem rp_aok (l : List UInt8) (hl : l.length ≤ 140737488351232) (h17 : l.length = 17) (h0 : l.getD 0 0 = 115) (t i : Nat) (h1 : M.ofBigs l 1 = some t) (h2 : M.ofBigs l 9 = some i) (hi1 : M.idB t = true) (hi2 : M.idB i = true) (w : World) :
    Calls Tryz.prog 65 #[.string (S l)] w fun e w' => e = .returned (ptR (some ⟨115, t, i, 0, [], []⟩)) ∧ Below w.heap.size w w' := by
  have q17 : ((l.length : Int) == 17) = true := by rw [h17]; rfl
  have b0 : (B l 0 == 115) = true := by unfold B; rw [h0]; rfl
  have g1 : 17 ≤ l.length := by omega
  have co1 := fun W => refOfBig_any l 1 W (by omega)
  have co2 := fun W => refOfBig_any l 9 W (by omega)
  rw [h1] at co1
  rw [h2] at co2
  simp only [duo] at co1 co2
  have CO1 := Lib.hid co1
  have CO2 := Lib.hid co2
  have ci1 := fun W => refIsID_any (t : Int) W
  rw [hi1] at ci1
  have CI1 := Lib.hid ci1
  have ci2 := fun W => refIsID_any (i : Int) W
  rw [hi2] at ci2
  have CI2 := Lib.hid ci2
  clear co1 co2 ci1 ci2 h1 h2 hi1 hi2 h17 h0
  have HR := Lib.hid (rowIn_new pt0 122 w)
  have HB := Lib.hid ((Below.refl w.heap.size w).alloc (Nat.le_refl _) (.cells pt0 122))
  go_enter Tryz.func65, Tryz.ntmps65
  go_wp2_with fail
  with_reducible refine (CO1.out _).mono ?_
  rintro e w1 ⟨rfl, rfl⟩
  generalize w.alloc (.cells pt0 122) = W0 at *
  go_wp2_with fail
  with_reducible refine (CO2.out _).mono ?_
  rintro e w1 ⟨rfl, rfl⟩
  go_wp2_with fail
  with_reducible refine (CI1.out _).mono ?_
  rintro e w1 ⟨rfl, rfl⟩
  go_wp2_with fail
  with_reducible refine (CI2.out _).mono ?_
  rintro e w1 ⟨rfl, rfl⟩
  go_wp2_with ((with_reducible show wpList _ _ _ _ _ _); refine wpList_store_row rfl 122 _ _ rfl w.heap.size _ rfl rfl 122 pt0 HR.out ?_ rfl ?_ ?_; kernel_rfl; simp [Value.oneCell'])
  try simp only [Exit.inBlock, Exit.then]
  exact bodyPost_ret (ret_row2 Tryz.underlying122 (by kernel_rfl) rfl _ _ w.heap.size rfl (HR.out.row (D := #[.int .u8 115, .int .i64 (t : Int), .int .i64 (i : Int), .int .i64 0, .string ⟨#[]⟩, .string ⟨#[]⟩]))) rfl ⟨rfl, below_setRow HB.out (Nat.le_refl _) _⟩

set_option maxHeartbeats 2000000 in
set_option maxRecDepth 100000 in
theorem rp_s (l : List UInt8) (hl : l.length ≤ 140737488351232) (hs : l.length = 0) (w : World) :
    Calls Tryz.prog 65 #[.string (S l)] w fun e w' => e = .returned (.tuple #[.agg pt0, .bool false]) ∧ Below w.heap.size w w' := by
  have q17 : ((l.length : Int) == 17) = false := by rw [hs]; rfl
  have d1 : decide ((l.length : Int) < 1) = true := by simp; omega
  have g2 : l.length ≤ 0 := by omega
  clear hs
  have HR := Lib.hid (rowIn_new pt0 122 w)
  have HB := Lib.hid ((Below.refl w.heap.size w).alloc (Nat.le_refl _) (.cells pt0 122))
  go_enter Tryz.func65, Tryz.ntmps65
  go_wp2_with ((with_reducible show wpList _ _ _ _ _ _); refine wpList_store_row rfl 122 _ _ rfl w.heap.size _ rfl rfl 122 pt0 HR.out ?_ rfl ?_ ?_; kernel_rfl; simp [Value.oneCell'])
  try simp only [Exit.inBlock, Exit.then]
  exact bodyPost_ret (ret_row2 Tryz.underlying122 (by kernel_rfl) rfl _ _ w.heap.size rfl (HR.out.row)) rfl ⟨rfl, below_setRow HB.out (Nat.le_refl _) _⟩

set_option maxHeartbeats 2000000 in
set_option maxRecDepth 100000 in
theorem rp_nL (l : List UInt8) (hl : l.length ≤ 140737488351232) (h17 : ¬ l.length = 17) (hp : 1 ≤ l.length) (hx : ¬ l.getD 0 0 = 120) (w : World) :
    Calls Tryz.prog 65 #[.string (S l)] w fun e w' => e = .returned (.tuple #[.agg pt0, .bool false]) ∧ Below w.heap.size w w' := by
  have q17 : ((l.length : Int) == 17) = false := by rw [beq_eq_false_iff_ne]; omega
  have d1 : decide ((l.length : Int) < 1) = false := by simp; omega
  have b1 : (B l 0 == 120) = false := by
    rw [beq_eq_false_iff_ne]
    intro e
    exact hx (UInt8.toNat_inj.1 (by unfold B at e; have : (l.getD 0 0).toNat = 120 := by omega
                                    rw [this]; rfl))
  clear h17 hx
  have HR := Lib.hid (rowIn_new pt0 122 w)
  have HB := Lib.hid ((Below.refl w.heap.size w).alloc (Nat.le_refl _) (.cells pt0 122))
  go_enter Tryz.func65, Tryz.ntmps65
  go_wp2_with ((with_reducible show wpList _ _ _ _ _ _); refine wpList_store_row rfl 122 _ _ rfl w.heap.size _ rfl rfl 122 pt0 HR.out ?_ rfl ?_ ?_; kernel_rfl; simp [Value.oneCell'])
  try simp only [Exit.inBlock, Exit.then]
  exact bodyPost_ret (ret_row2 Tryz.underlying122 (by kernel_rfl) rfl _ _ w.heap.size rfl (HR.out.row)) rfl ⟨rfl, below_setRow HB.out (Nat.le_refl _) _⟩

set_option maxHeartbeats 2000000 in
set_option maxRecDepth 100000 in
theorem rp_zL (l : List UInt8) (hl : l.length ≤ 140737488351232) (h17 : ¬ l.length = 17) (hp : 1 ≤ l.length) (hx : l.getD 0 0 = 120) (hz : zf l 1 = -1) (w : World) :
    Calls Tryz.prog 65 #[.string (S l)] w fun e w' => e = .returned (.tuple #[.agg pt0, .bool false]) ∧ Below w.heap.size w w' := by
  have q17 : ((l.length : Int) == 17) = false := by rw [beq_eq_false_iff_ne]; omega
  have d1 : decide ((l.length : Int) < 1) = false := by simp; omega
  have b1 : (B l 0 == 120) = true := by unfold B; rw [hx]; rfl
  have cz1 := fun W => zero_fn l hl 1 (by omega) W
  rw [show ((1 : Nat) : Int) = 1 from rfl] at cz1
  rw [hz] at cz1
  have CZ1 := Lib.hid cz1
  clear cz1 hz h17 hx
  have HR := Lib.hid (rowIn_new pt0 122 w)
  have HB := Lib.hid ((Below.refl w.heap.size w).alloc (Nat.le_refl _) (.cells pt0 122))
  go_enter Tryz.func65, Tryz.ntmps65
  go_wp2_with fail
  with_reducible refine (CZ1.out _).mono ?_
  rintro e w1 ⟨rfl, rfl⟩
  generalize w.alloc (.cells pt0 122) = W0 at *
  go_wp2_with ((with_reducible show wpList _ _ _ _ _ _); refine wpList_store_row rfl 122 _ _ rfl w.heap.size _ rfl rfl 122 pt0 HR.out ?_ rfl ?_ ?_; kernel_rfl; simp [Value.oneCell'])
  try simp only [Exit.inBlock, Exit.then]
  exact bodyPost_ret (ret_row2 Tryz.underlying122 (by kernel_rfl) rfl _ _ w.heap.size rfl (HR.out.row)) rfl ⟨rfl, below_setRow HB.out (Nat.le_refl _) _⟩

set_option maxHeartbeats 2000000 in
set_option maxRecDepth 100000 in
theorem rp_yL (l : List UInt8) (hl : l.length ≤ 140737488351232) (h17 : ¬ l.length = 17) (hp : 1 ≤ l.length) (hx : l.getD 0 0 = 120) (i : Nat) (hi : i < l.length) (hz1 : zf l 1 = i) (hz2 : zf l (i + 1) = -1) (w : World) :
    Calls Tryz.prog 65 #[.string (S l)] w fun e w' => e = .returned (.tuple #[.agg pt0, .bool false]) ∧ Below w.heap.size w w' := by
  have q17 : ((l.length : Int) == 17) = false := by rw [beq_eq_false_iff_ne]; omega
  have d1 : decide ((l.length : Int) < 1) = false := by simp; omega
  have b1 : (B l 0 == 120) = true := by unfold B; rw [hx]; rfl
  have cz1 := fun W => zero_fn l hl 1 (by omega) W
  rw [show ((1 : Nat) : Int) = 1 from rfl] at cz1
  have cz2 := fun W => zero_fn l hl (i + 1) (by omega) W
  rw [show ((i + 1 : Nat) : Int) = (i : Int) + 1 from rfl] at cz2
  rw [hz1] at cz1
  rw [hz2] at cz2
  have CZ1 := Lib.hid cz1
  have CZ2 := Lib.hid cz2
  clear cz1 cz2 hz1 hz2 h17 hx
  have HR := Lib.hid (rowIn_new pt0 122 w)
  have HB := Lib.hid ((Below.refl w.heap.size w).alloc (Nat.le_refl _) (.cells pt0 122))
  go_enter Tryz.func65, Tryz.ntmps65
  go_wp2_with fail
  with_reducible refine (CZ1.out _).mono ?_
  rintro e w1 ⟨rfl, rfl⟩
  generalize w.alloc (.cells pt0 122) = W0 at *
  go_wp2_with fail
  with_reducible refine (CZ2.out _).mono ?_
  rintro e w1 ⟨rfl, rfl⟩
  go_wp2_with ((with_reducible show wpList _ _ _ _ _ _); refine wpList_store_row rfl 122 _ _ rfl w.heap.size _ rfl rfl 122 pt0 HR.out ?_ rfl ?_ ?_; kernel_rfl; simp [Value.oneCell'])
  try simp only [Exit.inBlock, Exit.then]
  exact bodyPost_ret (ret_row2 Tryz.underlying122 (by kernel_rfl) rfl _ _ w.heap.size rfl (HR.out.row)) rfl ⟨rfl, below_setRow HB.out (Nat.le_refl _) _⟩

set_option maxHeartbeats 2000000 in
set_option maxRecDepth 100000 in
theorem rp_lL (l : List UInt8) (hl : l.length ≤ 140737488351232) (h17 : ¬ l.length = 17) (hp : 1 ≤ l.length) (hx : l.getD 0 0 = 120) (i : Nat) (hi : i < l.length) (hz1 : zf l 1 = i) (k : Nat) (hk : k < l.length) (hz2 : zf l (i + 1) = k) (hlen : ¬ l.length = k + 25) (w : World) :
    Calls Tryz.prog 65 #[.string (S l)] w fun e w' => e = .returned (.tuple #[.agg pt0, .bool false]) ∧ Below w.heap.size w w' := by
  have q17 : ((l.length : Int) == 17) = false := by rw [beq_eq_false_iff_ne]; omega
  have d1 : decide ((l.length : Int) < 1) = false := by simp; omega
  have b1 : (B l 0 == 120) = true := by unfold B; rw [hx]; rfl
  have cz1 := fun W => zero_fn l hl 1 (by omega) W
  rw [show ((1 : Nat) : Int) = 1 from rfl] at cz1
  have cz2 := fun W => zero_fn l hl (i + 1) (by omega) W
  rw [show ((i + 1 : Nat) : Int) = (i : Int) + 1 from rfl] at cz2
  rw [hz1] at cz1
  rw [hz2] at cz2
  have CZ1 := Lib.hid cz1
  have CZ2 := Lib.hid cz2
  have q25 : ((l.length : Int) != (k : Int) + 25) = true := by rw [bne, show ((l.length : Int) == (k : Int) + 25) = false by rw [beq_eq_false_iff_ne]; omega]; rfl
  clear cz1 cz2 hz1 hz2 hlen h17 hx
  have HR := Lib.hid (rowIn_new pt0 122 w)
  have HB := Lib.hid ((Below.refl w.heap.size w).alloc (Nat.le_refl _) (.cells pt0 122))
  go_enter Tryz.func65, Tryz.ntmps65
  go_wp2_with fail
  with_reducible refine (CZ1.out _).mono ?_
  rintro e w1 ⟨rfl, rfl⟩
  generalize w.alloc (.cells pt0 122) = W0 at *
  go_wp2_with fail
  with_reducible refine (CZ2.out _).mono ?_
  rintro e w1 ⟨rfl, rfl⟩
  go_wp2_with ((with_reducible show wpList _ _ _ _ _ _); refine wpList_store_row rfl 122 _ _ rfl w.heap.size _ rfl rfl 122 pt0 HR.out ?_ rfl ?_ ?_; kernel_rfl; simp [Value.oneCell'])
  try simp only [Exit.inBlock, Exit.then]
  exact bodyPost_ret (ret_row2 Tryz.underlying122 (by kernel_rfl) rfl _ _ w.heap.size rfl (HR.out.row)) rfl ⟨rfl, below_setRow HB.out (Nat.le_refl _) _⟩

set_option maxHeartbeats 2000000 in
set_option maxRecDepth 100000 in
theorem rp_nM (l : List UInt8) (hl : l.length ≤ 140737488351232) (h17 : l.length = 17) (h0 : ¬ l.getD 0 0 = 115) (hp : 1 ≤ l.length) (hx : ¬ l.getD 0 0 = 120) (w : World) :
    Calls Tryz.prog 65 #[.string (S l)] w fun e w' => e = .returned (.tuple #[.agg pt0, .bool false]) ∧ Below w.heap.size w w' := by
  have q17 : ((l.length : Int) == 17) = true := by rw [h17]; rfl
  have g1 : 17 ≤ l.length := by omega
  have b0 : (B l 0 == 115) = false := by
    rw [beq_eq_false_iff_ne]
    intro e
    exact h0 (UInt8.toNat_inj.1 (by unfold B at e; have : (l.getD 0 0).toNat = 115 := by omega
                                    rw [this]; rfl))
  have d1 : decide ((l.length : Int) < 1) = false := by simp; omega
  have b1 : (B l 0 == 120) = false := by
    rw [beq_eq_false_iff_ne]
    intro e
    exact hx (UInt8.toNat_inj.1 (by unfold B at e; have : (l.getD 0 0).toNat = 120 := by omega
                                    rw [this]; rfl))
  clear h17 h0 hx
  have HR := Lib.hid (rowIn_new pt0 122 w)
  have HB := Lib.hid ((Below.refl w.heap.size w).alloc (Nat.le_refl _) (.cells pt0 122))
  go_enter Tryz.func65, Tryz.ntmps65
  go_wp2_with ((with_reducible show wpList _ _ _ _ _ _); refine wpList_store_row rfl 122 _ _ rfl w.heap.size _ rfl rfl 122 pt0 HR.out ?_ rfl ?_ ?_; kernel_rfl; simp [Value.oneCell'])
  try simp only [Exit.inBlock, Exit.then]
  exact bodyPost_ret (ret_row2 Tryz.underlying122 (by kernel_rfl) rfl _ _ w.heap.size rfl (HR.out.row)) rfl ⟨rfl, below_setRow HB.out (Nat.le_refl _) _⟩

set_option maxHeartbeats 2000000 in
set_option maxRecDepth 100000 in
theorem rp_zM (l : List UInt8) (hl : l.length ≤ 140737488351232) (h17 : l.length = 17) (h0 : ¬ l.getD 0 0 = 115) (hp : 1 ≤ l.length) (hx : l.getD 0 0 = 120) (hz : zf l 1 = -1) (w : World) :
    Calls Tryz.prog 65 #[.string (S l)] w fun e w' => e = .returned (.tuple #[.agg pt0, .bool false]) ∧ Below w.heap.size w w' := by
  have q17 : ((l.length : Int) == 17) = true := by rw [h17]; rfl
  have g1 : 17 ≤ l.length := by omega
  have b0 : (B l 0 == 115) = false := by
    rw [beq_eq_false_iff_ne]
    intro e
    exact h0 (UInt8.toNat_inj.1 (by unfold B at e; have : (l.getD 0 0).toNat = 115 := by omega
                                    rw [this]; rfl))
  have d1 : decide ((l.length : Int) < 1) = false := by simp; omega
  have b1 : (B l 0 == 120) = true := by unfold B; rw [hx]; rfl
  have cz1 := fun W => zero_fn l hl 1 (by omega) W
  rw [show ((1 : Nat) : Int) = 1 from rfl] at cz1
  rw [hz] at cz1
  have CZ1 := Lib.hid cz1
  clear cz1 hz h17 h0 hx
  have HR := Lib.hid (rowIn_new pt0 122 w)
  have HB := Lib.hid ((Below.refl w.heap.size w).alloc (Nat.le_refl _) (.cells pt0 122))
  go_enter Tryz.func65, Tryz.ntmps65
  go_wp2_with fail
  with_reducible refine (CZ1.out _).mono ?_
  rintro e w1 ⟨rfl, rfl⟩
  generalize w.alloc (.cells pt0 122) = W0 at *
  go_wp2_with ((with_reducible show wpList _ _ _ _ _ _); refine wpList_store_row rfl 122 _ _ rfl w.heap.size _ rfl rfl 122 pt0 HR.out ?_ rfl ?_ ?_; kernel_rfl; simp [Value.oneCell'])
  try simp only [Exit.inBlock, Exit.then]
  exact bodyPost_ret (ret_row2 Tryz.underlying122 (by kernel_rfl) rfl _ _ w.heap.size rfl (HR.out.row)) rfl ⟨rfl, below_setRow HB.out (Nat.le_refl _) _⟩

set_option maxHeartbeats 2000000 in
set_option maxRecDepth 100000 in
theorem rp_yM (l : List UInt8) (hl : l.length ≤ 140737488351232) (h17 : l.length = 17) (h0 : ¬ l.getD 0 0 = 115) (hp : 1 ≤ l.length) (hx : l.getD 0 0 = 120) (i : Nat) (hi : i < l.length) (hz1 : zf l 1 = i) (hz2 : zf l (i + 1) = -1) (w : World) :
    Calls Tryz.prog 65 #[.string (S l)] w fun e w' => e = .returned (.tuple #[.agg pt0, .bool false]) ∧ Below w.heap.size w w' := by
  have q17 : ((l.length : Int) == 17) = true := by rw [h17]; rfl
  have g1 : 17 ≤ l.length := by omega
  have b0 : (B l 0 == 115) = false := by
    rw [beq_eq_false_iff_ne]
    intro e
    exact h0 (UInt8.toNat_inj.1 (by unfold B at e; have : (l.getD 0 0).toNat = 115 := by omega
                                    rw [this]; rfl))
  have d1 : decide ((l.length : Int) < 1) = false := by simp; omega
  have b1 : (B l 0 == 120) = true := by unfold B; rw [hx]; rfl
  have cz1 := fun W => zero_fn l hl 1 (by omega) W
  rw [show ((1 : Nat) : Int) = 1 from rfl] at cz1
  have cz2 := fun W => zero_fn l hl (i + 1) (by omega) W
  rw [show ((i + 1 : Nat) : Int) = (i : Int) + 1 from rfl] at cz2
  rw [hz1] at cz1
  rw [hz2] at cz2
  have CZ1 := Lib.hid cz1
  have CZ2 := Lib.hid cz2
  clear cz1 cz2 hz1 hz2 h17 h0 hx
  have HR := Lib.hid (rowIn_new pt0 122 w)
  have HB := Lib.hid ((Below.refl w.heap.size w).alloc (Nat.le_refl _) (.cells pt0 122))
  go_enter Tryz.func65, Tryz.ntmps65
  go_wp2_with fail
  with_reducible refine (CZ1.out _).mono ?_
  rintro e w1 ⟨rfl, rfl⟩
  generalize w.alloc (.cells pt0 122) = W0 at *
  go_wp2_with fail
  with_reducible refine (CZ2.out _).mono ?_
  rintro e w1 ⟨rfl, rfl⟩
  go_wp2_with ((with_reducible show wpList _ _ _ _ _ _); refine wpList_store_row rfl 122 _ _ rfl w.heap.size _ rfl rfl 122 pt0 HR.out ?_ rfl ?_ ?_; kernel_rfl; simp [Value.oneCell'])
  try simp only [Exit.inBlock, Exit.then]
  exact bodyPost_ret (ret_row2 Tryz.underlying122 (by kernel_rfl) rfl _ _ w.heap.size rfl (HR.out.row)) rfl ⟨rfl, below_setRow HB.out (Nat.le_refl _) _⟩

set_option maxHeartbeats 2000000 in
set_option maxRecDepth 100000 in
theorem rp_lM (l : List UInt8) (hl : l.length ≤ 140737488351232) (h17 : l.length = 17) (h0 : ¬ l.getD 0 0 = 115) (hp : 1 ≤ l.length) (hx : l.getD 0 0 = 120) (i : Nat) (hi : i < l.length) (hz1 : zf l 1 = i) (k : Nat) (hk : k < l.length) (hz2 : zf l (i + 1) = k) (hlen : ¬ l.length = k + 25) (w : World) :
    Calls Tryz.prog 65 #[.string (S l)] w fun e w' => e = .returned (.tuple #[.agg pt0, .bool false]) ∧ Below w.heap.size w w' := by
  have q17 : ((l.length : Int) == 17) = true := by rw [h17]; rfl
  have g1 : 17 ≤ l.length := by omega
  have b0 : (B l 0 == 115) = false := by
    rw [beq_eq_false_iff_ne]
    intro e
    exact h0 (UInt8.toNat_inj.1 (by unfold B at e; have : (l.getD 0 0).toNat = 115 := by omega
                                    rw [this]; rfl))
  have d1 : decide ((l.length : Int) < 1) = false := by simp; omega
  have b1 : (B l 0 == 120) = true := by unfold B; rw [hx]; rfl
  have cz1 := fun W => zero_fn l hl 1 (by omega) W
  rw [show ((1 : Nat) : Int) = 1 from rfl] at cz1
  have cz2 := fun W => zero_fn l hl (i + 1) (by omega) W
  rw [show ((i + 1 : Nat) : Int) = (i : Int) + 1 from rfl] at cz2
  rw [hz1] at cz1
  rw [hz2] at cz2
  have CZ1 := Lib.hid cz1
  have CZ2 := Lib.hid cz2
  have q25 : ((l.length : Int) != (k : Int) + 25) = true := by rw [bne, show ((l.length : Int) == (k : Int) + 25) = false by rw [beq_eq_false_iff_ne]; omega]; rfl
  clear cz1 cz2 hz1 hz2 hlen h17 h0 hx
  have HR := Lib.hid (rowIn_new pt0 122 w)
  have HB := Lib.hid ((Below.refl w.heap.size w).alloc (Nat.le_refl _) (.cells pt0 122))
  go_enter Tryz.func65, Tryz.ntmps65
  go_wp2_with fail
  with_reducible refine (CZ1.out _).mono ?_
  rintro e w1 ⟨rfl, rfl⟩
  generalize w.alloc (.cells pt0 122) = W0 at *
  go_wp2_with fail
  with_reducible refine (CZ2.out _).mono ?_
  rintro e w1 ⟨rfl, rfl⟩
  go_wp2_with ((with_reducible show wpList _ _ _ _ _ _); refine wpList_store_row rfl 122 _ _ rfl w.heap.size _ rfl rfl 122 pt0 HR.out ?_ rfl ?_ ?_; kernel_rfl; simp [Value.oneCell'])
  try simp only [Exit.inBlock, Exit.then]
  exact bodyPost_ret (ret_row2 Tryz.underlying122 (by kernel_rfl) rfl _ _ w.heap.size rfl (HR.out.row)) rfl ⟨rfl, below_setRow HB.out (Nat.le_refl _) _⟩

set_option maxHeartbeats 2000000 in
set_option maxRecDepth 100000 in
theorem rp_k1 (l : List UInt8) (hl : l.length ≤ 140737488351232) (hx : l.getD 0 0 = 120) (i k : Nat) (hi1 : 1 ≤ i) (hik : i + 1 ≤ k) (hz1 : zf l 1 = i) (hz2 : zf l (i + 1) = k) (hlen : l.length = k + 25) (a b : List UInt8) (ha : piece l 1 i = a) (hb : piece l (i + 1) k = b) (h1 : M.ofBigs l ((k : Int) + 1) = none) (w : World) :
    Calls Tryz.prog 65 #[.string (S l)] w fun e w' => e = .returned (.tuple #[.agg pt0, .bool false]) ∧ Below w.heap.size w w' := by
  have hp : 1 ≤ l.length := by omega
  have q17 : ((l.length : Int) == 17) = false := by rw [beq_eq_false_iff_ne]; omega
  have d1 : decide ((l.length : Int) < 1) = false := by simp; omega
  have b1 : (B l 0 == 120) = true := by unfold B; rw [hx]; rfl
  have cz1 := fun W => zero_fn l hl 1 (by omega) W
  rw [show ((1 : Nat) : Int) = 1 from rfl] at cz1
  have cz2 := fun W => zero_fn l hl (i + 1) (by omega) W
  rw [show ((i + 1 : Nat) : Int) = (i : Int) + 1 from rfl] at cz2
  rw [hz1] at cz1
  rw [hz2] at cz2
  have CZ1 := Lib.hid cz1
  have CZ2 := Lib.hid cz2
  have q25 : ((l.length : Int) != (k : Int) + 25) = false := by rw [bne, show ((l.length : Int) == (k : Int) + 25) = true by rw [beq_iff_eq]; omega]; rfl
  have g1 : k + 25 ≤ l.length := by omega
  have sa := fun W q q' => run_piece (P := Tryz.prog) 9 Tryz.underlying9 l 1 (i : Int) 1 i rfl rfl hi1 (by omega) W q q'
  rw [ha] at sa
  have sb := fun W q q' => run_piece (P := Tryz.prog) 9 Tryz.underlying9 l ((i : Int) + 1) (k : Int) (i + 1) k rfl rfl hik (by omega) W q q'
  rw [hb] at sb
  have e1 : IntKind.i64.wrap ((i : Int) + 1) = (i : Int) + 1 := IntWalk.i64_in _ (by omega)
  have co1 := fun W => refOfBig_any l ((k : Int) + 1) W (by omega)
  have co2 := fun W => refOfBig_any l ((k : Int) + 9) W (by omega)
  have co3 := fun W => refOfBig_any l ((k : Int) + 17) W (by omega)
  rw [h1] at co1
  simp only [duo] at co1
  obtain ⟨n2, v2, ee2⟩ : ∃ n v, duo (M.ofBigs l ((k : Int) + 9)) = .tuple #[.int .i64 n, .bool v] := by cases M.ofBigs l ((k : Int) + 9) <;> exact ⟨_, _, rfl⟩
  rw [ee2] at co2
  obtain ⟨n3, v3, ee3⟩ : ∃ n v, duo (M.ofBigs l ((k : Int) + 17)) = .tuple #[.int .i64 n, .bool v] := by cases M.ofBigs l ((k : Int) + 17) <;> exact ⟨_, _, rfl⟩
  rw [ee3] at co3
  have CO1 := Lib.hid co1
  have CO2 := Lib.hid co2
  have CO3 := Lib.hid co3
  clear co1 co2 co3 cz1 cz2 hz1 hz2 hlen hx ha hb h1 ee2 ee3
  have HR := Lib.hid (rowIn_new pt0 122 w)
  have HB := Lib.hid ((Below.refl w.heap.size w).alloc (Nat.le_refl _) (.cells pt0 122))
  go_enter Tryz.func65, Tryz.ntmps65
  go_wp2_with fail
  with_reducible refine (CZ1.out _).mono ?_
  rintro e w1 ⟨rfl, rfl⟩
  generalize w.alloc (.cells pt0 122) = W0 at *
  go_wp2_with fail
  with_reducible refine (CZ2.out _).mono ?_
  rintro e w1 ⟨rfl, rfl⟩
  go_wp2_with fail
  with_reducible refine (CO1.out _).mono ?_
  rintro e w1 ⟨rfl, rfl⟩
  go_wp2_with fail
  with_reducible refine (CO2.out _).mono ?_
  rintro e w1 ⟨rfl, rfl⟩
  go_wp2_with fail
  with_reducible refine (CO3.out _).mono ?_
  rintro e w1 ⟨rfl, rfl⟩
  go_wp2_with fail
  go_region
  have HQ := Lib.hid (show RowIn #[.int .i64 n2, .int .i64 n3, .int .i64 0, .string (S a), .string (S b), .int .i64 0, .int .i64 0, .string ⟨#[]⟩] 159 (W0.alloc (.cells #[.int .i64 n2, .int .i64 n3, .int .i64 0, .string (S a), .string (S b), .int .i64 0, .int .i64 0, .string ⟨#[]⟩] 159)).drew W0.heap.size from rowIn_new #[.int .i64 n2, .int .i64 n3, .int .i64 0, .string (S a), .string (S b), .int .i64 0, .int .i64 0, .string ⟨#[]⟩] 159 W0)
  have HR2 := Lib.hid (show RowIn pt0 122 (W0.alloc (.cells #[.int .i64 n2, .int .i64 n3, .int .i64 0, .string (S a), .string (S b), .int .i64 0, .int .i64 0, .string ⟨#[]⟩] 159)).drew w.heap.size from HR.out.more (.cells #[.int .i64 n2, .int .i64 n3, .int .i64 0, .string (S a), .string (S b), .int .i64 0, .int .i64 0, .string ⟨#[]⟩] 159))
  have HB2 := Lib.hid ((HB.out.alloc HB.out.size (.cells #[.int .i64 n2, .int .i64 n3, .int .i64 0, .string (S a), .string (S b), .int .i64 0, .int .i64 0, .string ⟨#[]⟩] 159)).drew)
  clear HR HB
  generalize (W0.alloc (.cells #[.int .i64 n2, .int .i64 n3, .int .i64 0, .string (S a), .string (S b), .int .i64 0, .int .i64 0, .string ⟨#[]⟩] 159)).drew = W1 at *
  go_wp2_with ((with_reducible show wpList _ _ _ _ _ _); refine wpList_store_row rfl 122 _ _ rfl w.heap.size _ rfl rfl 122 pt0 HR2.out ?_ rfl ?_ ?_; kernel_rfl; simp [Value.oneCell'])
  try simp only [Exit.inBlock, Exit.then]
  exact bodyPost_ret (ret_row2 Tryz.underlying122 (by kernel_rfl) rfl _ _ w.heap.size rfl (HR2.out.row)) rfl ⟨rfl, below_setRow HB2.out (Nat.le_refl _) _⟩

set_option maxHeartbeats 2000000 in
set_option maxRecDepth 100000 in
theorem rp_k2 (l : List UInt8) (hl : l.length ≤ 140737488351232) (hx : l.getD 0 0 = 120) (i k : Nat) (hi1 : 1 ≤ i) (hik : i + 1 ≤ k) (hz1 : zf l 1 = i) (hz2 : zf l (i + 1) = k) (hlen : l.length = k + 25) (a b : List UInt8) (ha : piece l 1 i = a) (hb : piece l (i + 1) k = b) (st : Nat) (h1 : M.ofBigs l ((k : Int) + 1) = some st) (h2 : M.ofBigs l ((k : Int) + 9) = none) (w : World) :
    Calls Tryz.prog 65 #[.string (S l)] w fun e w' => e = .returned (.tuple #[.agg pt0, .bool false]) ∧ Below w.heap.size w w' := by
  have hp : 1 ≤ l.length := by omega
  have q17 : ((l.length : Int) == 17) = false := by rw [beq_eq_false_iff_ne]; omega
  have d1 : decide ((l.length : Int) < 1) = false := by simp; omega
  have b1 : (B l 0 == 120) = true := by unfold B; rw [hx]; rfl
  have cz1 := fun W => zero_fn l hl 1 (by omega) W
  rw [show ((1 : Nat) : Int) = 1 from rfl] at cz1
  have cz2 := fun W => zero_fn l hl (i + 1) (by omega) W
  rw [show ((i + 1 : Nat) : Int) = (i : Int) + 1 from rfl] at cz2
  rw [hz1] at cz1
  rw [hz2] at cz2
  have CZ1 := Lib.hid cz1
  have CZ2 := Lib.hid cz2
  have q25 : ((l.length : Int) != (k : Int) + 25) = false := by rw [bne, show ((l.length : Int) == (k : Int) + 25) = true by rw [beq_iff_eq]; omega]; rfl
  have g1 : k + 25 ≤ l.length := by omega
  have sa := fun W q q' => run_piece (P := Tryz.prog) 9 Tryz.underlying9 l 1 (i : Int) 1 i rfl rfl hi1 (by omega) W q q'
  rw [ha] at sa
  have sb := fun W q q' => run_piece (P := Tryz.prog) 9 Tryz.underlying9 l ((i : Int) + 1) (k : Int) (i + 1) k rfl rfl hik (by omega) W q q'
  rw [hb] at sb
  have e1 : IntKind.i64.wrap ((i : Int) + 1) = (i : Int) + 1 := IntWalk.i64_in _ (by omega)
  have co1 := fun W => refOfBig_any l ((k : Int) + 1) W (by omega)
  have co2 := fun W => refOfBig_any l ((k : Int) + 9) W (by omega)
  have co3 := fun W => refOfBig_any l ((k : Int) + 17) W (by omega)
  rw [h1] at co1
  simp only [duo] at co1
  rw [h2] at co2
  simp only [duo] at co2
  obtain ⟨n3, v3, ee3⟩ : ∃ n v, duo (M.ofBigs l ((k : Int) + 17)) = .tuple #[.int .i64 n, .bool v] := by cases M.ofBigs l ((k : Int) + 17) <;> exact ⟨_, _, rfl⟩
  rw [ee3] at co3
  have CO1 := Lib.hid co1
  have CO2 := Lib.hid co2
  have CO3 := Lib.hid co3
  clear co1 co2 co3 cz1 cz2 hz1 hz2 hlen hx ha hb h1 h2 ee3
  have HR := Lib.hid (rowIn_new pt0 122 w)
  have HB := Lib.hid ((Below.refl w.heap.size w).alloc (Nat.le_refl _) (.cells pt0 122))
  go_enter Tryz.func65, Tryz.ntmps65
  go_wp2_with fail
  with_reducible refine (CZ1.out _).mono ?_
  rintro e w1 ⟨rfl, rfl⟩
  generalize w.alloc (.cells pt0 122) = W0 at *
  go_wp2_with fail
  with_reducible refine (CZ2.out _).mono ?_
  rintro e w1 ⟨rfl, rfl⟩
  go_wp2_with fail
  with_reducible refine (CO1.out _).mono ?_
  rintro e w1 ⟨rfl, rfl⟩
  go_wp2_with fail
  with_reducible refine (CO2.out _).mono ?_
  rintro e w1 ⟨rfl, rfl⟩
  go_wp2_with fail
  with_reducible refine (CO3.out _).mono ?_
  rintro e w1 ⟨rfl, rfl⟩
  go_wp2_with fail
  go_region
  have HQ := Lib.hid (show RowIn #[.int .i64 0, .int .i64 n3, .int .i64 0, .string (S a), .string (S b), .int .i64 (st : Int), .int .i64 0, .string ⟨#[]⟩] 159 (W0.alloc (.cells #[.int .i64 0, .int .i64 n3, .int .i64 0, .string (S a), .string (S b), .int .i64 (st : Int), .int .i64 0, .string ⟨#[]⟩] 159)).drew W0.heap.size from rowIn_new #[.int .i64 0, .int .i64 n3, .int .i64 0, .string (S a), .string (S b), .int .i64 (st : Int), .int .i64 0, .string ⟨#[]⟩] 159 W0)
  have HR2 := Lib.hid (show RowIn pt0 122 (W0.alloc (.cells #[.int .i64 0, .int .i64 n3, .int .i64 0, .string (S a), .string (S b), .int .i64 (st : Int), .int .i64 0, .string ⟨#[]⟩] 159)).drew w.heap.size from HR.out.more (.cells #[.int .i64 0, .int .i64 n3, .int .i64 0, .string (S a), .string (S b), .int .i64 (st : Int), .int .i64 0, .string ⟨#[]⟩] 159))
  have HB2 := Lib.hid ((HB.out.alloc HB.out.size (.cells #[.int .i64 0, .int .i64 n3, .int .i64 0, .string (S a), .string (S b), .int .i64 (st : Int), .int .i64 0, .string ⟨#[]⟩] 159)).drew)
  clear HR HB
  generalize (W0.alloc (.cells #[.int .i64 0, .int .i64 n3, .int .i64 0, .string (S a), .string (S b), .int .i64 (st : Int), .int .i64 0, .string ⟨#[]⟩] 159)).drew = W1 at *
  go_wp2_with ((with_reducible show wpList _ _ _ _ _ _); refine wpList_store_row rfl 122 _ _ rfl w.heap.size _ rfl rfl 122 pt0 HR2.out ?_ rfl ?_ ?_; kernel_rfl; simp [Value.oneCell'])
  try simp only [Exit.inBlock, Exit.then]
  exact bodyPost_ret (ret_row2 Tryz.underlying122 (by kernel_rfl) rfl _ _ w.heap.size rfl (HR2.out.row)) rfl ⟨rfl, below_setRow HB2.out (Nat.le_refl _) _⟩

set_option maxHeartbeats 2000000 in
set_option maxRecDepth 100000 in
theorem rp_k3 (l : List UInt8) (hl : l.length ≤ 140737488351232) (hx : l.getD 0 0 = 120) (i k : Nat) (hi1 : 1 ≤ i) (hik : i + 1 ≤ k) (hz1 : zf l 1 = i) (hz2 : zf l (i + 1) = k) (hlen : l.length = k + 25) (a b : List UInt8) (ha : piece l 1 i = a) (hb : piece l (i + 1) k = b) (st : Nat) (h1 : M.ofBigs l ((k : Int) + 1) = some st) (t : Nat) (h2 : M.ofBigs l ((k : Int) + 9) = some t) (h3 : M.ofBigs l ((k : Int) + 17) = none) (w : World) :
    Calls Tryz.prog 65 #[.string (S l)] w fun e w' => e = .returned (.tuple #[.agg pt0, .bool false]) ∧ Below w.heap.size w w' := by
  have hp : 1 ≤ l.length := by omega
  have q17 : ((l.length : Int) == 17) = false := by rw [beq_eq_false_iff_ne]; omega
  have d1 : decide ((l.length : Int) < 1) = false := by simp; omega
  have b1 : (B l 0 == 120) = true := by unfold B; rw [hx]; rfl
  have cz1 := fun W => zero_fn l hl 1 (by omega) W
  rw [show ((1 : Nat) : Int) = 1 from rfl] at cz1
  have cz2 := fun W => zero_fn l hl (i + 1) (by omega) W
  rw [show ((i + 1 : Nat) : Int) = (i : Int) + 1 from rfl] at cz2
  rw [hz1] at cz1
  rw [hz2] at cz2
  have CZ1 := Lib.hid cz1
  have CZ2 := Lib.hid cz2
  have q25 : ((l.length : Int) != (k : Int) + 25) = false := by rw [bne, show ((l.length : Int) == (k : Int) + 25) = true by rw [beq_iff_eq]; omega]; rfl
  have g1 : k + 25 ≤ l.length := by omega
  have sa := fun W q q' => run_piece (P := Tryz.prog) 9 Tryz.underlying9 l 1 (i : Int) 1 i rfl rfl hi1 (by omega) W q q'
  rw [ha] at sa
  have sb := fun W q q' => run_piece (P := Tryz.prog) 9 Tryz.underlying9 l ((i : Int) + 1) (k : Int) (i + 1) k rfl rfl hik (by omega) W q q'
  rw [hb] at sb
  have e1 : IntKind.i64.wrap ((i : Int) + 1) = (i : Int) + 1 := IntWalk.i64_in _ (by omega)
  have co1 := fun W => refOfBig_any l ((k : Int) + 1) W (by omega)
  have co2 := fun W => refOfBig_any l ((k : Int) + 9) W (by omega)
  have co3 := fun W => refOfBig_any l ((k : Int) + 17) W (by omega)
  rw [h1] at co1
  simp only [duo] at co1
  rw [h2] at co2
  simp only [duo] at co2
  rw [h3] at co3
  simp only [duo] at co3
  have CO1 := Lib.hid co1
  have CO2 := Lib.hid co2
  have CO3 := Lib.hid co3
  clear co1 co2 co3 cz1 cz2 hz1 hz2 hlen hx ha hb h1 h2 h3
  have HR := Lib.hid (rowIn_new pt0 122 w)
  have HB := Lib.hid ((Below.refl w.heap.size w).alloc (Nat.le_refl _) (.cells pt0 122))
  go_enter Tryz.func65, Tryz.ntmps65
  go_wp2_with fail
  with_reducible refine (CZ1.out _).mono ?_
  rintro e w1 ⟨rfl, rfl⟩
  generalize w.alloc (.cells pt0 122) = W0 at *
  go_wp2_with fail
  with_reducible refine (CZ2.out _).mono ?_
  rintro e w1 ⟨rfl, rfl⟩
  go_wp2_with fail
  with_reducible refine (CO1.out _).mono ?_
  rintro e w1 ⟨rfl, rfl⟩
  go_wp2_with fail
  with_reducible refine (CO2.out _).mono ?_
  rintro e w1 ⟨rfl, rfl⟩
  go_wp2_with fail
  with_reducible refine (CO3.out _).mono ?_
  rintro e w1 ⟨rfl, rfl⟩
  go_wp2_with fail
  go_region
  have HQ := Lib.hid (show RowIn #[.int .i64 (t : Int), .int .i64 0, .int .i64 0, .string (S a), .string (S b), .int .i64 (st : Int), .int .i64 0, .string ⟨#[]⟩] 159 (W0.alloc (.cells #[.int .i64 (t : Int), .int .i64 0, .int .i64 0, .string (S a), .string (S b), .int .i64 (st : Int), .int .i64 0, .string ⟨#[]⟩] 159)).drew W0.heap.size from rowIn_new #[.int .i64 (t : Int), .int .i64 0, .int .i64 0, .string (S a), .string (S b), .int .i64 (st : Int), .int .i64 0, .string ⟨#[]⟩] 159 W0)
  have HR2 := Lib.hid (show RowIn pt0 122 (W0.alloc (.cells #[.int .i64 (t : Int), .int .i64 0, .int .i64 0, .string (S a), .string (S b), .int .i64 (st : Int), .int .i64 0, .string ⟨#[]⟩] 159)).drew w.heap.size from HR.out.more (.cells #[.int .i64 (t : Int), .int .i64 0, .int .i64 0, .string (S a), .string (S b), .int .i64 (st : Int), .int .i64 0, .string ⟨#[]⟩] 159))
  have HB2 := Lib.hid ((HB.out.alloc HB.out.size (.cells #[.int .i64 (t : Int), .int .i64 0, .int .i64 0, .string (S a), .string (S b), .int .i64 (st : Int), .int .i64 0, .string ⟨#[]⟩] 159)).drew)
  clear HR HB
  generalize (W0.alloc (.cells #[.int .i64 (t : Int), .int .i64 0, .int .i64 0, .string (S a), .string (S b), .int .i64 (st : Int), .int .i64 0, .string ⟨#[]⟩] 159)).drew = W1 at *
  go_wp2_with ((with_reducible show wpList _ _ _ _ _ _); refine wpList_store_row rfl 122 _ _ rfl w.heap.size _ rfl rfl 122 pt0 HR2.out ?_ rfl ?_ ?_; kernel_rfl; simp [Value.oneCell'])
  try simp only [Exit.inBlock, Exit.then]
  exact bodyPost_ret (ret_row2 Tryz.underlying122 (by kernel_rfl) rfl _ _ w.heap.size rfl (HR2.out.row)) rfl ⟨rfl, below_setRow HB2.out (Nat.le_refl _) _⟩

set_option maxHeartbeats 2000000 in
set_option maxRecDepth 100000 in
theorem rp_k4 (l : List UInt8) (hl : l.length ≤ 140737488351232) (hx : l.getD 0 0 = 120) (i k : Nat) (hi1 : 1 ≤ i) (hik : i + 1 ≤ k) (hz1 : zf l 1 = i) (hz2 : zf l (i + 1) = k) (hlen : l.length = k + 25) (a b : List UInt8) (ha : piece l 1 i = a) (hb : piece l (i + 1) k = b) (st : Nat) (h1 : M.ofBigs l ((k : Int) + 1) = some st) (t : Nat) (h2 : M.ofBigs l ((k : Int) + 9) = some t) (d : Nat) (h3 : M.ofBigs l ((k : Int) + 17) = some d) (hm : M.mayB ⟨(t : Int), (d : Int), 0, a, b, (st : Int), 0, []⟩ = false) (hfa : a.length ≤ 140737488351232) (hfb : b.length ≤ 140737488351232) (f1 : st ≤ 9223372036854775807) (f2 : t ≤ 9223372036854775807) (f3 : d ≤ 9223372036854775807) (w : World) :
    Calls Tryz.prog 65 #[.string (S l)] w fun e w' => e = .returned (.tuple #[.agg pt0, .bool false]) ∧ Below w.heap.size w w' := by
  have hp : 1 ≤ l.length := by omega
  have q17 : ((l.length : Int) == 17) = false := by rw [beq_eq_false_iff_ne]; omega
  have d1 : decide ((l.length : Int) < 1) = false := by simp; omega
  have b1 : (B l 0 == 120) = true := by unfold B; rw [hx]; rfl
  have cz1 := fun W => zero_fn l hl 1 (by omega) W
  rw [show ((1 : Nat) : Int) = 1 from rfl] at cz1
  have cz2 := fun W => zero_fn l hl (i + 1) (by omega) W
  rw [show ((i + 1 : Nat) : Int) = (i : Int) + 1 from rfl] at cz2
  rw [hz1] at cz1
  rw [hz2] at cz2
  have CZ1 := Lib.hid cz1
  have CZ2 := Lib.hid cz2
  have q25 : ((l.length : Int) != (k : Int) + 25) = false := by rw [bne, show ((l.length : Int) == (k : Int) + 25) = true by rw [beq_iff_eq]; omega]; rfl
  have g1 : k + 25 ≤ l.length := by omega
  have sa := fun W q q' => run_piece (P := Tryz.prog) 9 Tryz.underlying9 l 1 (i : Int) 1 i rfl rfl hi1 (by omega) W q q'
  rw [ha] at sa
  have sb := fun W q q' => run_piece (P := Tryz.prog) 9 Tryz.underlying9 l ((i : Int) + 1) (k : Int) (i + 1) k rfl rfl hik (by omega) W q q'
  rw [hb] at sb
  have e1 : IntKind.i64.wrap ((i : Int) + 1) = (i : Int) + 1 := IntWalk.i64_in _ (by omega)
  have co1 := fun W => refOfBig_any l ((k : Int) + 1) W (by omega)
  have co2 := fun W => refOfBig_any l ((k : Int) + 9) W (by omega)
  have co3 := fun W => refOfBig_any l ((k : Int) + 17) W (by omega)
  rw [h1] at co1
  simp only [duo] at co1
  rw [h2] at co2
  simp only [duo] at co2
  rw [h3] at co3
  simp only [duo] at co3
  have cm : ∀ W, Calls Tryz.prog 95 #[.agg #[.int .i64 (t : Int), .int .i64 (d : Int), .int .i64 0, .string (S a), .string (S b), .int .i64 (st : Int), .int .i64 0, .string ⟨#[]⟩]] W fun e w' => e = .returned (.bool false) ∧ Below W.heap.size W w' := fun W => by
    have := refMay_any ⟨(t : Int), (d : Int), 0, a, b, (st : Int), 0, []⟩ (by constructor <;> simp <;> omega) W
    rw [hm] at this
    exact this
  have CM := Lib.hid cm
  clear cm hm
  have CO1 := Lib.hid co1
  have CO2 := Lib.hid co2
  have CO3 := Lib.hid co3
  clear co1 co2 co3 cz1 cz2 hz1 hz2 hlen hx ha hb h1 h2 h3
  have HR := Lib.hid (rowIn_new pt0 122 w)
  have HB := Lib.hid ((Below.refl w.heap.size w).alloc (Nat.le_refl _) (.cells pt0 122))
  go_enter Tryz.func65, Tryz.ntmps65
  go_wp2_with fail
  with_reducible refine (CZ1.out _).mono ?_
  rintro e w1 ⟨rfl, rfl⟩
  generalize w.alloc (.cells pt0 122) = W0 at *
  go_wp2_with fail
  with_reducible refine (CZ2.out _).mono ?_
  rintro e w1 ⟨rfl, rfl⟩
  go_wp2_with fail
  with_reducible refine (CO1.out _).mono ?_
  rintro e w1 ⟨rfl, rfl⟩
  go_wp2_with fail
  with_reducible refine (CO2.out _).mono ?_
  rintro e w1 ⟨rfl, rfl⟩
  go_wp2_with fail
  with_reducible refine (CO3.out _).mono ?_
  rintro e w1 ⟨rfl, rfl⟩
  go_wp2_with fail
  go_region
  have HQ := Lib.hid (show RowIn #[.int .i64 (t : Int), .int .i64 (d : Int), .int .i64 0, .string (S a), .string (S b), .int .i64 (st : Int), .int .i64 0, .string ⟨#[]⟩] 159 (W0.alloc (.cells #[.int .i64 (t : Int), .int .i64 (d : Int), .int .i64 0, .string (S a), .string (S b), .int .i64 (st : Int), .int .i64 0, .string ⟨#[]⟩] 159)).drew W0.heap.size from rowIn_new #[.int .i64 (t : Int), .int .i64 (d : Int), .int .i64 0, .string (S a), .string (S b), .int .i64 (st : Int), .int .i64 0, .string ⟨#[]⟩] 159 W0)
  have HR2 := Lib.hid (show RowIn pt0 122 (W0.alloc (.cells #[.int .i64 (t : Int), .int .i64 (d : Int), .int .i64 0, .string (S a), .string (S b), .int .i64 (st : Int), .int .i64 0, .string ⟨#[]⟩] 159)).drew w.heap.size from HR.out.more (.cells #[.int .i64 (t : Int), .int .i64 (d : Int), .int .i64 0, .string (S a), .string (S b), .int .i64 (st : Int), .int .i64 0, .string ⟨#[]⟩] 159))
  have HB2 := Lib.hid ((HB.out.alloc HB.out.size (.cells #[.int .i64 (t : Int), .int .i64 (d : Int), .int .i64 0, .string (S a), .string (S b), .int .i64 (st : Int), .int .i64 0, .string ⟨#[]⟩] 159)).drew)
  clear HR HB
  generalize (W0.alloc (.cells #[.int .i64 (t : Int), .int .i64 (d : Int), .int .i64 0, .string (S a), .string (S b), .int .i64 (st : Int), .int .i64 0, .string ⟨#[]⟩] 159)).drew = W1 at *
  have m0 := HQ.out.cell 0
  have m1 := HQ.out.cell 1
  have m2 := HQ.out.cell 2
  have m3 := HQ.out.cell 3
  have m4 := HQ.out.cell 4
  have m5 := HQ.out.cell 5
  have m6 := HQ.out.cell 6
  have m7 := HQ.out.cell 7
  simp only [List.getElem?_toArray, List.getElem?_cons_zero, List.getElem?_cons_succ] at m0 m1 m2 m3 m4 m5 m6 m7
  go_wp2_with fail
  with_reducible refine (CM.out _).mono ?_
  rintro e w3 ⟨rfl, hb3⟩
  have HR3 := Lib.hid (HR2.out.below hb3)
  have HQ3 := Lib.hid (HQ.out.below hb3)
  have HB3 := Lib.hid (below_step HB2.out hb3)
  clear m0 m1 m2 m3 m4 m5 m6 m7 hb3
  go_wp2_with ((with_reducible show wpList _ _ _ _ _ _); refine wpList_store_row rfl 122 _ _ rfl w.heap.size _ rfl rfl 122 pt0 HR3.out ?_ rfl ?_ ?_; kernel_rfl; simp [Value.oneCell'])
  try simp only [Exit.inBlock, Exit.then]
  exact bodyPost_ret (ret_row2 Tryz.underlying122 (by kernel_rfl) rfl _ _ w.heap.size rfl (HR3.out.row)) rfl ⟨rfl, below_setRow HB3.out (Nat.le_refl _) _⟩

set_option maxHeartbeats 2000000 in
set_option maxRecDepth 100000 in
theorem rp_k5 (l : List UInt8) (hl : l.length ≤ 140737488351232) (hx : l.getD 0 0 = 120) (i k : Nat) (hi1 : 1 ≤ i) (hik : i + 1 ≤ k) (hz1 : zf l 1 = i) (hz2 : zf l (i + 1) = k) (hlen : l.length = k + 25) (a b : List UInt8) (ha : piece l 1 i = a) (hb : piece l (i + 1) k = b) (st : Nat) (h1 : M.ofBigs l ((k : Int) + 1) = some st) (t : Nat) (h2 : M.ofBigs l ((k : Int) + 9) = some t) (d : Nat) (h3 : M.ofBigs l ((k : Int) + 17) = some d) (hm : M.mayB ⟨(t : Int), (d : Int), 0, a, b, (st : Int), 0, []⟩ = true) (hfa : a.length ≤ 140737488351232) (hfb : b.length ≤ 140737488351232) (f1 : st ≤ 9223372036854775807) (f2 : t ≤ 9223372036854775807) (f3 : d ≤ 9223372036854775807) (w : World) :
    Calls Tryz.prog 65 #[.string (S l)] w fun e w' => e = .returned (ptR (some ⟨120, t, d, st, a, b⟩)) ∧ Below w.heap.size w w' := by
  have hp : 1 ≤ l.length := by omega
  have q17 : ((l.length : Int) == 17) = false := by rw [beq_eq_false_iff_ne]; omega
  have d1 : decide ((l.length : Int) < 1) = false := by simp; omega
  have b1 : (B l 0 == 120) = true := by unfold B; rw [hx]; rfl
  have cz1 := fun W => zero_fn l hl 1 (by omega) W
  rw [show ((1 : Nat) : Int) = 1 from rfl] at cz1
  have cz2 := fun W => zero_fn l hl (i + 1) (by omega) W
  rw [show ((i + 1 : Nat) : Int) = (i : Int) + 1 from rfl] at cz2
  rw [hz1] at cz1
  rw [hz2] at cz2
  have CZ1 := Lib.hid cz1
  have CZ2 := Lib.hid cz2
  have q25 : ((l.length : Int) != (k : Int) + 25) = false := by rw [bne, show ((l.length : Int) == (k : Int) + 25) = true by rw [beq_iff_eq]; omega]; rfl
  have g1 : k + 25 ≤ l.length := by omega
  have sa := fun W q q' => run_piece (P := Tryz.prog) 9 Tryz.underlying9 l 1 (i : Int) 1 i rfl rfl hi1 (by omega) W q q'
  rw [ha] at sa
  have sb := fun W q q' => run_piece (P := Tryz.prog) 9 Tryz.underlying9 l ((i : Int) + 1) (k : Int) (i + 1) k rfl rfl hik (by omega) W q q'
  rw [hb] at sb
  have e1 : IntKind.i64.wrap ((i : Int) + 1) = (i : Int) + 1 := IntWalk.i64_in _ (by omega)
  have co1 := fun W => refOfBig_any l ((k : Int) + 1) W (by omega)
  have co2 := fun W => refOfBig_any l ((k : Int) + 9) W (by omega)
  have co3 := fun W => refOfBig_any l ((k : Int) + 17) W (by omega)
  rw [h1] at co1
  simp only [duo] at co1
  rw [h2] at co2
  simp only [duo] at co2
  rw [h3] at co3
  simp only [duo] at co3
  have cm : ∀ W, Calls Tryz.prog 95 #[.agg #[.int .i64 (t : Int), .int .i64 (d : Int), .int .i64 0, .string (S a), .string (S b), .int .i64 (st : Int), .int .i64 0, .string ⟨#[]⟩]] W fun e w' => e = .returned (.bool true) ∧ Below W.heap.size W w' := fun W => by
    have := refMay_any ⟨(t : Int), (d : Int), 0, a, b, (st : Int), 0, []⟩ (by constructor <;> simp <;> omega) W
    rw [hm] at this
    exact this
  have CM := Lib.hid cm
  clear cm hm
  have CO1 := Lib.hid co1
  have CO2 := Lib.hid co2
  have CO3 := Lib.hid co3
  clear co1 co2 co3 cz1 cz2 hz1 hz2 hlen hx ha hb h1 h2 h3
  have HR := Lib.hid (rowIn_new pt0 122 w)
  have HB := Lib.hid ((Below.refl w.heap.size w).alloc (Nat.le_refl _) (.cells pt0 122))
  go_enter Tryz.func65, Tryz.ntmps65
  go_wp2_with fail
  with_reducible refine (CZ1.out _).mono ?_
  rintro e w1 ⟨rfl, rfl⟩
  generalize w.alloc (.cells pt0 122) = W0 at *
  go_wp2_with fail
  with_reducible refine (CZ2.out _).mono ?_
  rintro e w1 ⟨rfl, rfl⟩
  go_wp2_with fail
  with_reducible refine (CO1.out _).mono ?_
  rintro e w1 ⟨rfl, rfl⟩
  go_wp2_with fail
  with_reducible refine (CO2.out _).mono ?_
  rintro e w1 ⟨rfl, rfl⟩
  go_wp2_with fail
  with_reducible refine (CO3.out _).mono ?_
  rintro e w1 ⟨rfl, rfl⟩
  go_wp2_with fail
  go_region
  have HQ := Lib.hid (show RowIn #[.int .i64 (t : Int), .int .i64 (d : Int), .int .i64 0, .string (S a), .string (S b), .int .i64 (st : Int), .int .i64 0, .string ⟨#[]⟩] 159 (W0.alloc (.cells #[.int .i64 (t : Int), .int .i64 (d : Int), .int .i64 0, .string (S a), .string (S b), .int .i64 (st : Int), .int .i64 0, .string ⟨#[]⟩] 159)).drew W0.heap.size from rowIn_new #[.int .i64 (t : Int), .int .i64 (d : Int), .int .i64 0, .string (S a), .string (S b), .int .i64 (st : Int), .int .i64 0, .string ⟨#[]⟩] 159 W0)
  have HR2 := Lib.hid (show RowIn pt0 122 (W0.alloc (.cells #[.int .i64 (t : Int), .int .i64 (d : Int), .int .i64 0, .string (S a), .string (S b), .int .i64 (st : Int), .int .i64 0, .string ⟨#[]⟩] 159)).drew w.heap.size from HR.out.more (.cells #[.int .i64 (t : Int), .int .i64 (d : Int), .int .i64 0, .string (S a), .string (S b), .int .i64 (st : Int), .int .i64 0, .string ⟨#[]⟩] 159))
  have HB2 := Lib.hid ((HB.out.alloc HB.out.size (.cells #[.int .i64 (t : Int), .int .i64 (d : Int), .int .i64 0, .string (S a), .string (S b), .int .i64 (st : Int), .int .i64 0, .string ⟨#[]⟩] 159)).drew)
  clear HR HB
  generalize (W0.alloc (.cells #[.int .i64 (t : Int), .int .i64 (d : Int), .int .i64 0, .string (S a), .string (S b), .int .i64 (st : Int), .int .i64 0, .string ⟨#[]⟩] 159)).drew = W1 at *
  have m0 := HQ.out.cell 0
  have m1 := HQ.out.cell 1
  have m2 := HQ.out.cell 2
  have m3 := HQ.out.cell 3
  have m4 := HQ.out.cell 4
  have m5 := HQ.out.cell 5
  have m6 := HQ.out.cell 6
  have m7 := HQ.out.cell 7
  simp only [List.getElem?_toArray, List.getElem?_cons_zero, List.getElem?_cons_succ] at m0 m1 m2 m3 m4 m5 m6 m7
  go_wp2_with fail
  with_reducible refine (CM.out _).mono ?_
  rintro e w3 ⟨rfl, hb3⟩
  have HR3 := Lib.hid (HR2.out.below hb3)
  have HQ3 := Lib.hid (HQ.out.below hb3)
  have HB3 := Lib.hid (below_step HB2.out hb3)
  clear m0 m1 m2 m3 m4 m5 m6 m7 hb3
  have m3 := HQ3.out.cell 3
  have m4 := HQ3.out.cell 4
  simp only [List.getElem?_toArray, List.getElem?_cons_zero, List.getElem?_cons_succ] at m3 m4
  go_wp2_with ((with_reducible show wpList _ _ _ _ _ _); refine wpList_store_row rfl 122 _ _ rfl w.heap.size _ rfl rfl 122 pt0 HR3.out ?_ rfl ?_ ?_; kernel_rfl; simp [Value.oneCell'])
  try simp only [Exit.inBlock, Exit.then]
  exact bodyPost_ret (ret_row2 Tryz.underlying122 (by kernel_rfl) rfl _ _ w.heap.size rfl (HR3.out.row (D := #[.int .u8 120, .int .i64 (t : Int), .int .i64 (d : Int), .int .i64 (st : Int), .string (S a), .string (S b)]))) rfl ⟨rfl, below_setRow HB3.out (Nat.le_refl _) _⟩

end Go.Proofs.YtnhljlmelbiljaaGreat

/- Layer 8: the document's Parse, Row, by contracts; the laws' walks: KeysParse. -/
namespace Go.Proofs.YtnhljlmelbiljaaGreat
set_option linter.unusedVariables false
open Go Go.RowKit Go.Sort
attribute [local go_sem ↓] run_index_S
attribute [local go_sem] S_append S_extract

theorem numsP_len {kind : Nat} {r a b : List UInt8} {st : Nat} (h : ¬ r.length = 16) : M.numsP kind r a b st = none := by
  unfold M.numsP
  cases M.ofBigs r 0 with
  | none => rfl
  | some t => cases M.ofBigs r 8 with
    | none => rfl
    | some i => simp [h]
theorem ofBigs_nil : M.ofBigs [] 0 = none := M.ofBigs_short [] (by simp)
theorem idxP_eq {rest a b r1 r2 : List UInt8} (h1 : M.cut0 rest = (a, r1)) (h2 : M.cut0 r1 = (b, r2)) : M.idxP rest = if M.nameB a && M.nameB b then
    match M.ofBigs r2 0 with
    | some st => if st ≤ 1073741824 then M.numsP 120 (r2.drop 8) a b st else none
    | none => none
  else none := by
  rw [M.idxP, h1]
  simp only [h2]
  rfl

theorem refParse_any (l : List UInt8) (hl : l.length ≤ 140737488351232) (w : World) :
    Calls Tryz.prog 65 #[.string (S l)] w fun e w' => e = .returned (ptR (M.parse l)) ∧ Below w.heap.size w w' := by
  cases l with
  | nil => exact rp_s [] hl rfl w
  | cons c rest =>
    have hlen : (c :: rest).length = rest.length + 1 := rfl
    have hd1 : (c :: rest).drop 1 = rest := rfl
    have hp : 1 ≤ (c :: rest).length := by omega
    by_cases hA : (c :: rest).length = 17 ∧ c = 115
    · obtain ⟨h17, rfl⟩ := hA
      have h0 : (115 :: rest : List UInt8).getD 0 0 = 115 := rfl
      have e1 : M.ofBigs (115 :: rest) 1 = M.ofBigs rest 0 := by have := ofBigs_drop (115 :: rest) 1 0; rwa [hd1] at this
      have e2 : M.ofBigs (115 :: rest) 9 = M.ofBigs rest 8 := by have := ofBigs_drop (115 :: rest) 1 8; rwa [hd1] at this
      have hpar : M.parse (115 :: rest) = M.numsP 115 rest [] [] 0 := by rw [M.parse, if_pos rfl]
      rw [hpar]
      have h16 : rest.length = 16 := by omega
      cases ho1 : M.ofBigs rest 0 with
      | none => rw [numsP_none (.inl ho1), ptR_none]; exact rp_a1 _ hl h17 h0 (e1.trans ho1) w
      | some t =>
        cases ho2 : M.ofBigs rest 8 with
        | none => rw [numsP_none (.inr ho2), ptR_none]; exact rp_a2 _ hl h17 h0 t (e1.trans ho1) (e2.trans ho2) w
        | some i =>
          rw [numsP_if ho1 ho2]
          cases hi1 : M.idB t with
          | false => rw [if_neg (by simp), ptR_none]; exact rp_a4 _ hl h17 h0 t i (e1.trans ho1) (e2.trans ho2) hi1 w
          | true =>
            cases hi2 : M.idB i with
            | false => rw [if_neg (by simp), ptR_none]; exact rp_a5 _ hl h17 h0 t i (e1.trans ho1) (e2.trans ho2) hi1 hi2 w
            | true => rw [if_pos ⟨h16, rfl, rfl⟩]; exact rp_aok _ hl h17 h0 t i (e1.trans ho1) (e2.trans ho2) hi1 hi2 w
    · have hV : ¬ (c :: rest).length = 17 ∨ ((c :: rest).length = 17 ∧ ¬ (c :: rest).getD 0 0 = 115) := by
        by_cases h : (c :: rest).length = 17
        · exact .inr ⟨h, fun e => hA ⟨h, e⟩⟩
        · exact .inl h
      by_cases hx : c = 120
      · subst hx
        have hx : (120 :: rest : List UInt8).getD 0 0 = 120 := rfl
        have hpar : M.parse (120 :: rest) = M.idxP rest := by rw [M.parse, if_neg (by decide), if_pos rfl]
        rw [hpar]
        have z1 := zf_spec (120 :: rest) 1 hp
        rcases z1 with ⟨hz, hno⟩ | ⟨i, hz1, hi1, hil, hc1⟩
        · rw [hd1] at hno
          have hn : M.idxP rest = none := by
            rw [idxP_eq (M.cut0_none rest hno) (M.cut0_none [] (by simp))]
            simp [M.nameB]
          rw [hn, ptR_none]
          rcases hV with h | ⟨h, h'⟩
          · exact rp_zL _ hl h hp hx hz w
          · exact rp_zM _ hl h h' hp hx hz w
        · rw [hd1] at hc1
          have z2 := zf_spec (120 :: rest) (i + 1) (by omega)
          rcases z2 with ⟨hz2, hno⟩ | ⟨k, hz2, hik, hkl, hc2⟩
          · have hn : M.idxP rest = none := by
              rw [idxP_eq hc1 (M.cut0_none _ hno), ofBigs_nil]
              split <;> rfl
            rw [hn, ptR_none]
            rcases hV with h | ⟨h, h'⟩
            · exact rp_yL _ hl h hp hx i hil hz1 hz2 w
            · exact rp_yM _ hl h h' hp hx i hil hz1 hz2 w
          · rw [idxP_eq hc1 hc2]
            by_cases hlk : (120 :: rest).length = k + 25
            · generalize hL : (120 :: rest : List UInt8) = L at *
              have f0 : M.ofBigs (L.drop (k + 1)) 0 = M.ofBigs L ((k : Int) + 1) := (ofBigs_drop L (k + 1) 0).symm
              have f1 : M.ofBigs ((L.drop (k + 1)).drop 8) 0 = M.ofBigs L ((k : Int) + 9) := by
                rw [List.drop_drop]; exact (ofBigs_drop L (k + 1 + 8) 0).symm
              have f2 : M.ofBigs ((L.drop (k + 1)).drop 8) 8 = M.ofBigs L ((k : Int) + 17) := by
                rw [List.drop_drop]; exact (ofBigs_drop L (k + 1 + 8) 8).symm
              have f3 : ((L.drop (k + 1)).drop 8).length = 16 := by simp; omega
              obtain ⟨a, ha⟩ : ∃ a, piece L 1 i = a := ⟨_, rfl⟩
              obtain ⟨b, hb⟩ : ∃ b, piece L (i + 1) k = b := ⟨_, rfl⟩
              rw [ha, hb, f0]
              cases h1 : M.ofBigs L ((k : Int) + 1) with
              | none =>
                have : (if M.nameB a && M.nameB b then (match (none : Option Nat) with | some st => if st ≤ 1073741824 then M.numsP 120 ((L.drop (k + 1)).drop 8) a b st else none | none => none) else none : Option M.Pt) = none := by split <;> rfl
                rw [this, ptR_none]
                exact rp_k1 L hl hx i k hi1 hik hz1 hz2 hlk a b ha hb h1 w
              | some st =>
                cases h2 : M.ofBigs L ((k : Int) + 9) with
                | none =>
                  have : (if M.nameB a && M.nameB b then (match some st with | some st => if st ≤ 1073741824 then M.numsP 120 ((L.drop (k + 1)).drop 8) a b st else none | none => none) else none : Option M.Pt) = none := by
                    simp only [numsP_none (kind := 120) (a := a) (b := b) (st := st) (.inl (f1.trans h2))]
                    split
                    · split <;> rfl
                    · rfl
                  rw [this, ptR_none]
                  exact rp_k2 L hl hx i k hi1 hik hz1 hz2 hlk a b ha hb st h1 h2 w
                | some t =>
                  cases h3 : M.ofBigs L ((k : Int) + 17) with
                  | none =>
                    have : (if M.nameB a && M.nameB b then (match some st with | some st => if st ≤ 1073741824 then M.numsP 120 ((L.drop (k + 1)).drop 8) a b st else none | none => none) else none : Option M.Pt) = none := by
                      simp only [numsP_none (kind := 120) (a := a) (b := b) (st := st) (.inr (f2.trans h3))]
                      split
                      · split <;> rfl
                      · rfl
                    rw [this, ptR_none]
                    exact rp_k3 L hl hx i k hi1 hik hz1 hz2 hlk a b ha hb st h1 t h2 h3 w
                  | some d =>
                    have b1 := M.ofBigs_bounds h1
                    have b2 := M.ofBigs_bounds h2
                    have b3 := M.ofBigs_bounds h3
                    have hfa : a.length ≤ 140737488351232 := by rw [← ha, piece_length _ _ _ hi1 (by omega)]; omega
                    have hfb : b.length ≤ 140737488351232 := by rw [← hb, piece_length _ _ _ hik (by omega)]; omega
                    have hmay : M.mayB ⟨(t : Int), (d : Int), 0, a, b, (st : Int), 0, []⟩ = (M.nameB a && M.nameB b && decide (st ≤ 1073741824) && M.idB t && M.idB d) := by
                      rw [Bool.eq_iff_iff]
                      simp [M.mayB, M.idB, M.win]
                      constructor
                      · rintro ⟨⟨⟨⟨q1, q2⟩, q3⟩, q4⟩, q5⟩; exact ⟨⟨⟨⟨q3, q4⟩, by omega⟩, q1⟩, q2⟩
                      · rintro ⟨⟨⟨⟨q3, q4⟩, q5⟩, q1⟩, q2⟩; exact ⟨⟨⟨⟨q1, q2⟩, q3⟩, q4⟩, by omega⟩
                    have hres : (if M.nameB a && M.nameB b then (match some st with | some st => if st ≤ 1073741824 then M.numsP 120 ((L.drop (k + 1)).drop 8) a b st else none | none => none) else none : Option M.Pt) = if M.mayB ⟨(t : Int), (d : Int), 0, a, b, (st : Int), 0, []⟩ then some ⟨120, t, d, st, a, b⟩ else none := by
                      simp only [numsP_if (kind := 120) (a := a) (b := b) (st := st) (f1.trans h2) (f2.trans h3), f3, hmay]
                      cases M.nameB a <;> cases M.nameB b <;> cases M.idB t <;> cases M.idB d <;> by_cases hst : st ≤ 1073741824 <;> simp [hst]
                    rw [hres]
                    cases hm : M.mayB ⟨(t : Int), (d : Int), 0, a, b, (st : Int), 0, []⟩ with
                    | false =>
                      rw [if_neg (by simp), ptR_none]
                      exact rp_k4 L hl hx i k hi1 hik hz1 hz2 hlk a b ha hb st h1 t h2 d h3 hm hfa hfb (by omega) (by omega) (by omega) w
                    | true =>
                      rw [if_pos rfl]
                      exact rp_k5 L hl hx i k hi1 hik hz1 hz2 hlk a b ha hb st h1 t h2 d h3 hm hfa hfb (by omega) (by omega) (by omega) w
            · have hn : (if M.nameB (piece (120 :: rest) 1 i) && M.nameB (piece (120 :: rest) (i + 1) k) then (match M.ofBigs ((120 :: rest : List UInt8).drop (k + 1)) 0 with | some st => if st ≤ 1073741824 then M.numsP 120 (((120 :: rest : List UInt8).drop (k + 1)).drop 8) (piece (120 :: rest) 1 i) (piece (120 :: rest) (i + 1) k) st else none | none => none) else none : Option M.Pt) = none := by
                cases ho : M.ofBigs ((120 :: rest : List UInt8).drop (k + 1)) 0 with
                | none => simp
                | some st =>
                  have := (M.ofBigs_bounds ho).2.1
                  have hne : ¬ (((120 :: rest : List UInt8).drop (k + 1)).drop 8).length = 16 := by
                    rw [List.length_drop, List.length_drop]
                    rw [List.length_drop] at this
                    omega
                  simp only [numsP_len hne]
                  split
                  · split <;> rfl
                  · rfl
              rw [hn, ptR_none]
              rcases hV with h | ⟨h, h'⟩
              · exact rp_lL _ hl h hp hx i hil hz1 k hkl hz2 hlk w
              · exact rp_lM _ hl h h' hp hx i hil hz1 k hkl hz2 hlk w
      · have hn : M.parse (c :: rest) = none := by
          rw [M.parse]
          by_cases h5 : c = 115
          · rw [if_pos h5]
            exact numsP_len (fun e => hA ⟨by omega, h5⟩)
          · rw [if_neg h5, if_neg hx]
        rw [hn, ptR_none]
        have hx' : ¬ (c :: rest).getD 0 0 = 120 := hx
        rcases hV with h | ⟨h, h'⟩
        · exact rp_nL _ hl h hp hx' w
        · exact rp_nM _ hl h h' hp hx' w

set_option maxHeartbeats 1000000 in
theorem keyRefRow_any (l : List UInt8) (hl : l.length ≤ 140737488351232) (w : World) :
    Calls Tryz.prog 37 #[.string (S l)] w fun e w' => e = .returned (.string (S (M.rowK l))) ∧ Below w.heap.size w w' := by
  have cp := fun W => refParse_any l hl W
  cases hp : M.parse l with
  | none =>
    rw [M.rowK, hp]
    rw [hp, ptR_none] at cp
    have CP := Lib.hid cp
    clear cp hp
    go_enter Tryz.func37, Tryz.ntmps37
    go_wp2_with fail
    with_reducible refine (CP.out _).mono ?_
    rintro e w1 ⟨rfl, hb1⟩
    have HX := Lib.hid (rowIn_new pt0 122 w1)
    have HB := Lib.hid (below_setRow (g := w1.heap.size) (hb1.alloc hb1.size (.cells pt0 122)) hb1.size pt0)
    clear hb1
    go_wp2_with ((with_reducible show wpList _ _ _ _ _ _); refine wpList_store_row rfl 122 _ _ rfl w1.heap.size _ rfl rfl 122 pt0 HX.out ?_ rfl ?_ ?_; kernel_rfl; simp [Value.oneCell'])
    go_ret
    exact ⟨rfl, HB.out⟩
  | some p =>
    have hps := M.parse_some hp
    rw [M.rowK, hp]
    rw [hp] at cp
    have cp2 : ∀ W, Calls Tryz.prog 65 #[.string (S l)] W fun e w' => e = .returned (.tuple #[.agg #[.int .u8 (p.kind : Nat), .int .i64 (p.trace : Nat), .int .i64 (p.id : Nat), .int .i64 (p.start : Nat), .string (S p.svc), .string (S p.host)], .bool true]) ∧ Below W.heap.size W w' := cp
    have CP := Lib.hid cp2
    clear cp cp2 hp
    rcases hps with ⟨_, _, ⟨hk, hl17, hrest⟩ | ⟨hk, hrest⟩⟩
    · simp only [hk, if_true]
      have q : (((p.kind : Nat) : Int) == 115) = true := by rw [hk]; rfl
      have h17 : l.length = 17 := by rw [hl17]; simp [M.spanK, M.bigN_length]
      have sl := fun W k => run_piece_to (P := Tryz.prog) 9 Tryz.underlying9 l 9 9 rfl (by omega) W k
      clear hk hl17 h17 hrest
      generalize p.kind = pk at *
      generalize p.trace = p1 at *
      generalize p.id = p2 at *
      generalize p.start = p3 at *
      generalize p.svc = p4 at *
      generalize p.host = p5 at *
      go_enter Tryz.func37, Tryz.ntmps37
      go_wp2_with fail
      with_reducible refine (CP.out _).mono ?_
      rintro e w1 ⟨rfl, hb1⟩
      have HX := Lib.hid (rowIn_new pt0 122 w1)
      have hc : (((w1.alloc (.cells pt0 122))).setRow w1.heap.size #[.int .u8 (pk : Nat), .int .i64 (p1 : Nat), .int .i64 (p2 : Nat), .int .i64 (p3 : Nat), .string (S p4), .string (S p5)]).cell? ⟨w1.heap.size, 0, none⟩ = some (.int .u8 (pk : Nat)) := (HX.out.row).cell 0
      have HB := Lib.hid (below_setRow (g := w1.heap.size) (hb1.alloc hb1.size (.cells pt0 122)) hb1.size #[.int .u8 (pk : Nat), .int .i64 (p1 : Nat), .int .i64 (p2 : Nat), .int .i64 (p3 : Nat), .string (S p4), .string (S p5)])
      clear hb1
      go_wp2_with ((with_reducible show wpList _ _ _ _ _ _); refine wpList_store_row rfl 122 _ _ rfl w1.heap.size _ rfl rfl 122 pt0 HX.out ?_ rfl ?_ ?_; kernel_rfl; simp [Value.oneCell'])
      go_ret
      exact ⟨rfl, HB.out⟩
    · simp only [hk, show ¬ (120 : Nat) = 115 by decide, if_false]
      have q : (((p.kind : Nat) : Int) == 115) = false := by rw [hk]; rfl
      clear hk hrest
      generalize p.kind = pk at *
      generalize p.trace = p1 at *
      generalize p.id = p2 at *
      generalize p.start = p3 at *
      generalize p.svc = p4 at *
      generalize p.host = p5 at *
      go_enter Tryz.func37, Tryz.ntmps37
      go_wp2_with fail
      with_reducible refine (CP.out _).mono ?_
      rintro e w1 ⟨rfl, hb1⟩
      have HX := Lib.hid (rowIn_new pt0 122 w1)
      have hc : (((w1.alloc (.cells pt0 122))).setRow w1.heap.size #[.int .u8 (pk : Nat), .int .i64 (p1 : Nat), .int .i64 (p2 : Nat), .int .i64 (p3 : Nat), .string (S p4), .string (S p5)]).cell? ⟨w1.heap.size, 0, none⟩ = some (.int .u8 (pk : Nat)) := (HX.out.row).cell 0
      have HB := Lib.hid (below_setRow (g := w1.heap.size) (hb1.alloc hb1.size (.cells pt0 122)) hb1.size #[.int .u8 (pk : Nat), .int .i64 (p1 : Nat), .int .i64 (p2 : Nat), .int .i64 (p3 : Nat), .string (S p4), .string (S p5)])
      clear hb1
      go_wp2_with ((with_reducible show wpList _ _ _ _ _ _); refine wpList_store_row rfl 122 _ _ rfl w1.heap.size _ rfl rfl 122 pt0 HX.out ?_ rfl ?_ ?_; kernel_rfl; simp [Value.oneCell'])
      go_ret
      exact ⟨rfl, HB.out⟩

end Go.Proofs.YtnhljlmelbiljaaGreat
