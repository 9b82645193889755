/- Texts of lower layers, as one. -/
import Derived.Test.YtnhljlmelbiljaaGreatZF
import Derived.Test.YtnhljlmelbiljaaGreatZC
import Derived.Test.YtnhljlmelbiljaaGreatZA
import Derived.Deep.QuietTactic
import Derived.BigQuiet
import Derived.Lib.QuietBelow
import Derived.Test.YtnhljlmelbiljaaGreatShelf
import Derived.Lib.IndexLaws
import Derived.StillTailTactics
/- Layer 8: keys, the program's and the document's, by contracts. -/
namespace Go.Proofs.YtnhljlmelbiljaaGreat
set_option linter.unusedVariables false
open Go Go.RowKit
attribute [local go_sem ↓] run_index_S
attribute [local go_sem] S_append S_extract

theorem isID_any (n : Int) (w : World) :
    Calls Tryz.prog 91 #[.int .i64 n] w fun e w' => e = .returned (.bool (M.idB n)) ∧ w = w' := by
  by_cases h1 : 1 ≤ n
  · by_cases h2 : n ≤ 2147483647
    · go_enter Tryz.func91, Tryz.ntmps91
      go_wp2_with fail
      go_ret
      exact ⟨ret_bool (M.idB_true.2 ⟨h1, h2⟩).symm, rfl⟩
    · go_enter Tryz.func91, Tryz.ntmps91
      go_wp2_with fail
      go_ret
      exact ⟨ret_bool (M.win_false.2 (by omega)).symm, rfl⟩
  · go_enter Tryz.func91, Tryz.ntmps91
    go_wp2_with fail
    go_ret
    exact ⟨ret_bool (M.win_false.2 (by omega)).symm, rfl⟩

end Go.Proofs.YtnhljlmelbiljaaGreat

/- Layer 8: keys, the program's and the document's, by contracts: Index, Stretch. -/
namespace Go.Proofs.YtnhljlmelbiljaaGreat
set_option linter.unusedVariables false
open Go Go.RowKit Go.Sort
attribute [local go_sem ↓] run_index_S
attribute [local go_sem] S_append S_extract

end Go.Proofs.YtnhljlmelbiljaaGreat

/- Layer 8: keys.Parse, by a contract. -/
namespace Go.Proofs.YtnhljlmelbiljaaGreat
set_option linter.unusedVariables false
open Go Go.RowKit Go.Sort
attribute [local go_sem ↓] run_index_S
attribute [local go_sem] S_append S_extract

theorem ret_row2 {fn : Func} {p q : Tmp} {T : TypeId} {fs : Array Field} {C : Array Value} (hu : Tryz.prog.underlying T = some (.struct fs)) (hi : (Tryz.prog.info? T).map (·.size) = some C.size)
    (hr : fn.results = #[.cell p T, .tmp q]) (tmps : Array Value) (w : World) (g : Nat) (hp : tmps.getD p undef = .pointer (some ⟨g, 0, none⟩)) (hg : RowIn C T w g) :
    (results fn tmps).run Tryz.prog w = .ok (.tuple #[.agg C, tmps.getD q undef]) w := by
  have hp' : tmps[p]?.getD undef = .pointer (some ⟨g, 0, none⟩) := by simpa using hp
  have hl : (loadVar T ⟨g, 0, none⟩).run Tryz.prog w = .ok (.agg C) w := run_loadVar_row w g _ _ C (0, 0) _ hg hu rfl hi
  simp [results, hr, hp', asAddr, hl]
theorem RowIn.row {C D : Array Value} {T : TypeId} {w : World} {b : Nat} (h : RowIn C T w b) : RowIn D T (w.setRow b D) b := setRow_heap w b _ _ _ _ h
theorem RowIn.rowAbove {C D : Array Value} {T : TypeId} {w : World} {b c : Nat} (h : RowIn C T w b) (hlt : b < c) : RowIn C T (w.setRow c D) b := by
  have := below_setRow (Below.refl c w) (Nat.le_refl _) D
  unfold RowIn at *
  rw [← h]
  exact this.block b hlt
theorem results_tmp4 {fn : Func} {t u v x : Tmp} (h : fn.results = #[.tmp t, .tmp u, .tmp v, .tmp x]) (tmps : Array Value) (P : Program) (w : World) :
    (results fn tmps).run P w = .ok (.tuple #[tmps.getD t undef, tmps.getD u undef, tmps.getD v undef, tmps.getD x undef]) w := by
  simp [results, h]

theorem cut0_index {l : List UInt8} {o : Nat} (h : Lib.indexByte l 0 = o) : M.cut0 l = (l.take o, l.drop (o + 1)) ∧ o < l.length := by
  obtain ⟨h1, h2⟩ := Lib.indexByte_some h
  have hlt : o < l.length := (List.getElem?_eq_some_iff.1 h1).1
  have e : l = l.take o ++ 0 :: l.drop (o + 1) := by
    conv => lhs; rw [← List.take_append_drop o l, List.drop_eq_getElem_cons hlt]
    rw [List.getElem?_eq_getElem hlt] at h1
    rw [Option.some.inj h1]
  have hn : 0 ∉ l.take o := fun hm => by
    obtain ⟨k, hk, hk2⟩ := List.getElem_of_mem hm
    have hk' : k < o := by simp at hk; omega
    refine h2 k hk' ?_
    rw [List.getElem?_eq_getElem (by omega), ← hk2]
    simp
  refine ⟨?_, hlt⟩
  conv => lhs; rw [e]
  rw [M.cut0_some _ _ hn]

theorem liteCut_any (l : List UInt8) (hl : l.length ≤ 140737488351232) (w : World) :
    Calls Tryz.prog 131 #[.string (S l), .string ⟨#[0]⟩] w fun e w' => (∃ b, e = .returned (.tuple #[.string (S (M.cut0 l).1), .string (S (M.cut0 l).2), .bool b])) ∧ Below w.heap.size w w' := by
  have ci : ∀ W, Calls Tryz.prog 136 #[.string (S l), .string ⟨#[0]⟩] W fun e w' => e = .returned (.int .i64 (Lib.indexByte l 0)) ∧ W = w' := fun W =>
    (Tryz.stringslite_Index_one (S l) 0 W).mono fun e w' ⟨he, hw⟩ => ⟨he, hw.symm⟩
  have hge := Lib.indexByte_ge l 0
  by_cases hneg : Lib.indexByte l 0 = -1
  · have hno : 0 ∉ l := fun hm => by
      obtain ⟨k, hk, hk2⟩ := List.getElem_of_mem hm
      exact Lib.indexByte_none hneg k (by rw [List.getElem?_eq_getElem hk, hk2])
    rw [M.cut0_none l hno]
    rw [hneg] at ci
    have CI := Lib.hid ci
    clear ci
    go_enter Tryz.func131, Tryz.ntmps131
    go_wp2_with fail
    with_reducible refine (CI.out _).mono ?_
    rintro e w1 ⟨rfl, rfl⟩
    go_wp2_with fail
    go_ret3
    exact ⟨⟨_, rfl⟩, Below.refl _ _⟩
  · obtain ⟨o, ho⟩ := Int.eq_ofNat_of_zero_le (show 0 ≤ Lib.indexByte l 0 by omega)
    obtain ⟨hc, hlt⟩ := cut0_index ho
    rw [hc]
    rw [ho] at ci
    have CI := Lib.hid ci
    have d1 : decide (0 ≤ (o : Int)) = true := by simp
    have s1 := fun W k => run_piece_to (P := Tryz.prog) 9 Tryz.underlying9 l (o : Int) o rfl (by omega) W k
    have s2 := fun W k => run_piece_from (P := Tryz.prog) 9 Tryz.underlying9 l ((o : Int) + 1) (o + 1) (by omega) (by omega) W k
    have e1 : IntKind.i64.wrap ((o : Int) + 1) = (o : Int) + 1 := IntWalk.i64_in _ (by omega)
    clear ci hc
    go_enter Tryz.func131, Tryz.ntmps131
    go_wp2_with fail
    with_reducible refine (CI.out _).mono ?_
    rintro e w1 ⟨rfl, rfl⟩
    go_wp2_with fail
    go_quiet (fail)
    go_wp2_with fail
    go_ret3
    exact ⟨⟨_, rfl⟩, below_drewN (Below.refl _ _) _⟩
theorem cut_any (l : List UInt8) (hl : l.length ≤ 140737488351232) (w : World) :
    Calls Tryz.prog 115 #[.string (S l), .string ⟨#[0]⟩] w fun e w' => (∃ b, e = .returned (.tuple #[.string (S (M.cut0 l).1), .string (S (M.cut0 l).2), .bool b])) ∧ Below w.heap.size w w' := by
  have c := Lib.hid (fun W => liteCut_any l hl W)
  go_enter Tryz.func115, Tryz.ntmps115
  go_wp2_with fail
  with_reducible refine (c.out _).mono ?_
  rintro e w1 ⟨⟨b, rfl⟩, hb⟩
  go_wp2_with fail
  go_ret3
  exact ⟨⟨_, rfl⟩, hb⟩
theorem cutPrefix_yes (c : UInt8) (rest : List UInt8) (w : World) : Calls Tryz.prog 89 #[.string (S (c :: rest)), .string ⟨#[c]⟩] w fun e w' => e = .returned (.tuple #[.string (S rest), .bool true]) ∧ w = w' :=
  (Tryz.strings_CutPrefix (S (c :: rest)) ⟨#[c]⟩ w).mono fun e w' ⟨he, hw⟩ => ⟨by rw [he]; simp [Lib.trimPrefix, Lib.hasPrefix, List.isPrefixOf], hw.symm⟩
theorem cutPrefix_no (c : UInt8) (l : List UInt8) (h : l.head? ≠ some c) (w : World) : Calls Tryz.prog 89 #[.string (S l), .string ⟨#[c]⟩] w fun e w' => e = .returned (.tuple #[.string (S l), .bool false]) ∧ w = w' :=
  (Tryz.strings_CutPrefix (S l) ⟨#[c]⟩ w).mono fun e w' ⟨he, hw⟩ => ⟨by
    have hp : Lib.hasPrefix l [c] = false := by
      cases l with
      | nil => rfl
      | cons x r =>
        have : ¬ c = x := fun e => h (by rw [e]; rfl)
        simp [Lib.hasPrefix, List.isPrefixOf, this]
    rw [he]
    simp [Lib.trimPrefix, hp], hw.symm⟩

theorem names_yes (rest : List UInt8) (hl : rest.length ≤ 140737488351232) (w : World) :
    Calls Tryz.prog 90 #[.string (S (120 :: rest))] w fun e w' => e = .returned (.tuple #[.string (S (M.cut0 rest).1), .string (S (M.cut0 (M.cut0 rest).2).1), .string (S (M.cut0 (M.cut0 rest).2).2), .bool (M.nameB (M.cut0 rest).1 && M.nameB (M.cut0 (M.cut0 rest).2).1)]) ∧ Below w.heap.size w w' := by
  have cp := Lib.hid (fun W => cutPrefix_yes 120 rest W)
  have l1 := M.cut0_length rest
  have c1 := fun W => cut_any rest hl W
  generalize (M.cut0 rest).1 = a at *
  generalize (M.cut0 rest).2 = r1 at *
  have c2 := fun W => cut_any r1 (by omega) W
  have l2 := M.cut0_length r1
  generalize (M.cut0 r1).1 = b at *
  generalize (M.cut0 r1).2 = r2 at *
  have n1 := fun W => name_any a (by omega) W
  have n2 := fun W => name_any b (by omega) W
  have C1 := Lib.hid c1
  have C2 := Lib.hid c2
  clear c1 c2
  cases ha : M.nameB a with
  | false =>
    rw [ha] at n1
    have N1 := Lib.hid n1
    clear n1 n2
    go_enter Tryz.func90, Tryz.ntmps90
    go_wp2_with fail
    with_reducible refine (cp.out _).mono ?_
    rintro e w1 ⟨rfl, rfl⟩
    go_wp2_with fail
    with_reducible refine (C1.out _).mono ?_
    rintro e w1 ⟨⟨t1, rfl⟩, hb1⟩
    go_wp2_with fail
    with_reducible refine (C2.out _).mono ?_
    rintro e w2 ⟨⟨t2, rfl⟩, hb2⟩
    go_wp2_with fail
    with_reducible refine (N1.out _).mono ?_
    rintro e w3 ⟨rfl, rfl⟩
    go_wp2_with fail
    try simp only [Exit.inBlock, Exit.then]
    refine bodyPost_ret (results_tmp4 rfl _ _ _) rfl ?_
    exact ⟨rfl, below_step hb1 hb2⟩
  | true =>
    rw [ha] at n1
    have N1 := Lib.hid n1
    have N2 := Lib.hid n2
    clear n1 n2
    generalize M.nameB b = nb at *
    go_enter Tryz.func90, Tryz.ntmps90
    go_wp2_with fail
    with_reducible refine (cp.out _).mono ?_
    rintro e w1 ⟨rfl, rfl⟩
    go_wp2_with fail
    with_reducible refine (C1.out _).mono ?_
    rintro e w1 ⟨⟨t1, rfl⟩, hb1⟩
    go_wp2_with fail
    with_reducible refine (C2.out _).mono ?_
    rintro e w2 ⟨⟨t2, rfl⟩, hb2⟩
    go_wp2_with fail
    with_reducible refine (N1.out _).mono ?_
    rintro e w3 ⟨rfl, rfl⟩
    go_wp2_with fail
    with_reducible refine (N2.out _).mono ?_
    rintro e w3 ⟨rfl, rfl⟩
    go_wp2_with fail
    try simp only [Exit.inBlock, Exit.then]
    refine bodyPost_ret (results_tmp4 rfl _ _ _) rfl ?_
    exact ⟨by simp, below_step hb1 hb2⟩
theorem names_no (l : List UInt8) (h : l.head? ≠ some 120) (w : World) :
    Calls Tryz.prog 90 #[.string (S l)] w fun e w' => e = .returned (.tuple #[.string (S []), .string (S []), .string (S []), .bool false]) ∧ Below w.heap.size w w' := by
  have cp := Lib.hid (fun W => cutPrefix_no 120 l h W)
  go_enter Tryz.func90, Tryz.ntmps90
  go_wp2_with fail
  with_reducible refine (cp.out _).mono ?_
  rintro e w1 ⟨rfl, rfl⟩
  go_wp2_with fail
  try simp only [Exit.inBlock, Exit.then]
  refine bodyPost_ret (results_tmp4 rfl _ _ _) rfl ?_
  exact ⟨rfl, Below.refl _ _⟩

end Go.Proofs.YtnhljlmelbiljaaGreat

/- Layer 8: keys.Parse, by a contract. -/
namespace Go.Proofs.YtnhljlmelbiljaaGreat
set_option linter.unusedVariables false
open Go Go.RowKit Go.Sort
attribute [local go_sem ↓] run_index_S
attribute [local go_sem] S_append S_extract

def ptC (p : M.Pt) : Array Value := #[.int .u8 (p.kind : Nat), .int .i64 (p.trace : Nat), .int .i64 (p.id : Nat), .int .i64 (p.start : Nat), .string (S p.svc), .string (S p.host)]
abbrev pt0 : Array Value := #[.int .u8 0, .int .i64 0, .int .i64 0, .int .i64 0, .string ⟨#[]⟩, .string ⟨#[]⟩]
def ptR (r : Option M.Pt) : Value := .tuple #[.agg (ptC (r.getD ⟨0, 0, 0, 0, [], []⟩)), .bool r.isSome]
theorem ptR_none : ptR none = .tuple #[.agg pt0, .bool false] := rfl
theorem numsP_none {kind : Nat} {r a b : List UInt8} {st : Nat} (h : M.ofBigs r 0 = none ∨ M.ofBigs r 8 = none) : M.numsP kind r a b st = none := by
  unfold M.numsP
  rcases h with h | h
  · rw [h]
  · rw [h]; cases M.ofBigs r 0 <;> rfl
theorem numsP_if {kind : Nat} {r a b : List UInt8} {st t i : Nat} (h : M.ofBigs r 0 = some t) (k : M.ofBigs r 8 = some i) : M.numsP kind r a b st = if r.length = 16 ∧ M.idB t = true ∧ M.idB i = true then some ⟨kind, t, i, st, a, b⟩ else none := by
  unfold M.numsP
  rw [h, k]

set_option maxHeartbeats 2000000 in
set_option maxRecDepth 100000 in
theorem parse_a (rest : List UInt8) (hl : rest.length ≤ 140737488351232) (w : World) :
    Calls Tryz.prog 64 #[.string (S (115 :: rest))] w fun e w' => e = .returned (ptR (M.parse (115 :: rest))) ∧ Below w.heap.size w w' := by
  have hpar : M.parse (115 :: rest) = M.numsP 115 rest [] [] 0 := by rw [M.parse, if_pos rfl]
  rw [hpar]
  clear hpar
  have b115 : B [115] 0 = 115 := rfl
  have CP := Lib.hid (fun W => cutPrefix_yes 115 rest W)
  have HP0 := Lib.hid (rowIn_at pt0 119 (w.alloc (.cells pt0 119)) (w.heap.size + 1) (by simp))
  have HR1 := Lib.hid (((rowIn_new pt0 119 w).more (.cells pt0 119)).rowAbove (c := w.heap.size + 1) (D := #[.int .u8 115, .int .i64 0, .int .i64 0, .int .i64 0, .string ⟨#[]⟩, .string ⟨#[]⟩]) (by omega))
  have HP1 := Lib.hid (HP0.out.row (D := #[.int .u8 115, .int .i64 0, .int .i64 0, .int .i64 0, .string ⟨#[]⟩, .string ⟨#[]⟩]))
  have HB1 := Lib.hid (below_setRow (g := w.heap.size + 1) (((Below.refl w.heap.size w).alloc (Nat.le_refl _) (.cells pt0 119)).alloc (by simp) (.cells pt0 119)) (by omega) #[.int .u8 115, .int .i64 0, .int .i64 0, .int .i64 0, .string ⟨#[]⟩, .string ⟨#[]⟩])
  have co1 := fun W => ofBig_any rest 0 W (by omega)
  have co2 := fun W => ofBig_any rest 8 W (by omega)
  cases ho1 : M.ofBigs rest 0 with
  | none =>
    rw [ho1] at co1
    rw [numsP_none (.inl ho1), ptR_none]
    cases ho2 : M.ofBigs rest 8 with
    | none =>
      rw [ho2] at co2
      simp only [duo] at co1 co2
      have CO1 := Lib.hid co1
      have CO2 := Lib.hid co2
      clear co1 co2
      go_enter Tryz.func64, Tryz.ntmps64
      go_wp2_with (refine wpList_store_row rfl 119 _ _ rfl (w.heap.size + 1) _ rfl rfl 119 pt0 HP0.out ?_ rfl ?_ ?_; kernel_rfl; simp [Value.oneCell'])
      generalize ((w.alloc (.cells pt0 119)).alloc (.cells pt0 119)).setRow (w.heap.size + 1) #[.int .u8 115, .int .i64 0, .int .i64 0, .int .i64 0, .string ⟨#[]⟩, .string ⟨#[]⟩] = W1 at *
      with_reducible refine (CP.out _).mono ?_
      rintro e w1 ⟨rfl, rfl⟩
      go_wp2_with (refine wpList_store_row rfl 119 _ _ rfl w.heap.size _ rfl rfl 119 pt0 HR1.out ?_ rfl ?_ ?_; kernel_rfl; simp [Value.oneCell'])
      repeat (first | ((with_reducible refine (CO1.out _).mono ?_); rintro e w1 ⟨rfl, rfl⟩; go_wp2_with (refine wpList_store_row rfl 119 _ _ rfl w.heap.size _ rfl rfl 119 pt0 HR1.out ?_ rfl ?_ ?_; kernel_rfl; simp [Value.oneCell'])) | ((with_reducible refine (CO2.out _).mono ?_); rintro e w1 ⟨rfl, rfl⟩; go_wp2_with (refine wpList_store_row rfl 119 _ _ rfl w.heap.size _ rfl rfl 119 pt0 HR1.out ?_ rfl ?_ ?_; kernel_rfl; simp [Value.oneCell'])))
      try simp only [Exit.inBlock, Exit.then]
      exact bodyPost_ret (ret_row2 Tryz.underlying119 (by kernel_rfl) rfl _ _ w.heap.size rfl HR1.out.row) rfl ⟨rfl, below_setRow HB1.out (Nat.le_refl _) _⟩
    | some i =>
      rw [ho2] at co2
      simp only [duo] at co1 co2
      have CO1 := Lib.hid co1
      have CO2 := Lib.hid co2
      clear co1 co2
      go_enter Tryz.func64, Tryz.ntmps64
      go_wp2_with (refine wpList_store_row rfl 119 _ _ rfl (w.heap.size + 1) _ rfl rfl 119 pt0 HP0.out ?_ rfl ?_ ?_; kernel_rfl; simp [Value.oneCell'])
      generalize ((w.alloc (.cells pt0 119)).alloc (.cells pt0 119)).setRow (w.heap.size + 1) #[.int .u8 115, .int .i64 0, .int .i64 0, .int .i64 0, .string ⟨#[]⟩, .string ⟨#[]⟩] = W1 at *
      with_reducible refine (CP.out _).mono ?_
      rintro e w1 ⟨rfl, rfl⟩
      go_wp2_with (refine wpList_store_row rfl 119 _ _ rfl w.heap.size _ rfl rfl 119 pt0 HR1.out ?_ rfl ?_ ?_; kernel_rfl; simp [Value.oneCell'])
      repeat (first | ((with_reducible refine (CO1.out _).mono ?_); rintro e w1 ⟨rfl, rfl⟩; go_wp2_with (refine wpList_store_row rfl 119 _ _ rfl w.heap.size _ rfl rfl 119 pt0 HR1.out ?_ rfl ?_ ?_; kernel_rfl; simp [Value.oneCell'])) | ((with_reducible refine (CO2.out _).mono ?_); rintro e w1 ⟨rfl, rfl⟩; go_wp2_with (refine wpList_store_row rfl 119 _ _ rfl w.heap.size _ rfl rfl 119 pt0 HR1.out ?_ rfl ?_ ?_; kernel_rfl; simp [Value.oneCell'])))
      try simp only [Exit.inBlock, Exit.then]
      exact bodyPost_ret (ret_row2 Tryz.underlying119 (by kernel_rfl) rfl _ _ w.heap.size rfl HR1.out.row) rfl ⟨rfl, below_setRow HB1.out (Nat.le_refl _) _⟩
  | some t =>
    rw [ho1] at co1
    cases ho2 : M.ofBigs rest 8 with
    | none =>
      rw [numsP_none (.inr ho2), ptR_none]
      rw [ho2] at co2
      simp only [duo] at co1 co2
      have CO1 := Lib.hid co1
      have CO2 := Lib.hid co2
      clear co1 co2
      go_enter Tryz.func64, Tryz.ntmps64
      go_wp2_with (refine wpList_store_row rfl 119 _ _ rfl (w.heap.size + 1) _ rfl rfl 119 pt0 HP0.out ?_ rfl ?_ ?_; kernel_rfl; simp [Value.oneCell'])
      generalize ((w.alloc (.cells pt0 119)).alloc (.cells pt0 119)).setRow (w.heap.size + 1) #[.int .u8 115, .int .i64 0, .int .i64 0, .int .i64 0, .string ⟨#[]⟩, .string ⟨#[]⟩] = W1 at *
      with_reducible refine (CP.out _).mono ?_
      rintro e w1 ⟨rfl, rfl⟩
      go_wp2_with (refine wpList_store_row rfl 119 _ _ rfl w.heap.size _ rfl rfl 119 pt0 HR1.out ?_ rfl ?_ ?_; kernel_rfl; simp [Value.oneCell'])
      repeat (first | ((with_reducible refine (CO1.out _).mono ?_); rintro e w1 ⟨rfl, rfl⟩; go_wp2_with (refine wpList_store_row rfl 119 _ _ rfl w.heap.size _ rfl rfl 119 pt0 HR1.out ?_ rfl ?_ ?_; kernel_rfl; simp [Value.oneCell'])) | ((with_reducible refine (CO2.out _).mono ?_); rintro e w1 ⟨rfl, rfl⟩; go_wp2_with (refine wpList_store_row rfl 119 _ _ rfl w.heap.size _ rfl rfl 119 pt0 HR1.out ?_ rfl ?_ ?_; kernel_rfl; simp [Value.oneCell'])))
      try simp only [Exit.inBlock, Exit.then]
      exact bodyPost_ret (ret_row2 Tryz.underlying119 (by kernel_rfl) rfl _ _ w.heap.size rfl HR1.out.row) rfl ⟨rfl, below_setRow HB1.out (Nat.le_refl _) _⟩
    | some i =>
      rw [ho2] at co2
      rw [numsP_if ho1 ho2]
      by_cases hlen : rest.length = 16
      · have ci1 := fun W => isID_any (t : Int) W
        have ci2 := fun W => isID_any (i : Int) W
        have q1 : ((rest.length : Int) != 16) = false := by rw [hlen]; rfl
        cases hi1 : M.idB t with
        | false =>
          rw [if_neg (by simp), ptR_none]
          rw [hi1] at ci1
          have CI1 := Lib.hid ci1
          clear ci1 ci2
          simp only [duo] at co1 co2
          have CO1 := Lib.hid co1
          have CO2 := Lib.hid co2
          clear co1 co2
          go_enter Tryz.func64, Tryz.ntmps64
          go_wp2_with (refine wpList_store_row rfl 119 _ _ rfl (w.heap.size + 1) _ rfl rfl 119 pt0 HP0.out ?_ rfl ?_ ?_; kernel_rfl; simp [Value.oneCell'])
          generalize ((w.alloc (.cells pt0 119)).alloc (.cells pt0 119)).setRow (w.heap.size + 1) #[.int .u8 115, .int .i64 0, .int .i64 0, .int .i64 0, .string ⟨#[]⟩, .string ⟨#[]⟩] = W1 at *
          with_reducible refine (CP.out _).mono ?_
          rintro e w1 ⟨rfl, rfl⟩
          go_wp2_with (refine wpList_store_row rfl 119 _ _ rfl w.heap.size _ rfl rfl 119 pt0 HR1.out ?_ rfl ?_ ?_; kernel_rfl; simp [Value.oneCell'])
          repeat (first | ((with_reducible refine (CO1.out _).mono ?_); rintro e w1 ⟨rfl, rfl⟩; go_wp2_with (refine wpList_store_row rfl 119 _ _ rfl w.heap.size _ rfl rfl 119 pt0 HR1.out ?_ rfl ?_ ?_; kernel_rfl; simp [Value.oneCell'])) | ((with_reducible refine (CO2.out _).mono ?_); rintro e w1 ⟨rfl, rfl⟩; go_wp2_with (refine wpList_store_row rfl 119 _ _ rfl w.heap.size _ rfl rfl 119 pt0 HR1.out ?_ rfl ?_ ?_; kernel_rfl; simp [Value.oneCell'])) | ((with_reducible refine (CI1.out _).mono ?_); rintro e w1 ⟨rfl, rfl⟩; go_wp2_with (refine wpList_store_row rfl 119 _ _ rfl w.heap.size _ rfl rfl 119 pt0 HR1.out ?_ rfl ?_ ?_; kernel_rfl; simp [Value.oneCell'])))
          try simp only [Exit.inBlock, Exit.then]
          exact bodyPost_ret (ret_row2 Tryz.underlying119 (by kernel_rfl) rfl _ _ w.heap.size rfl HR1.out.row) rfl ⟨rfl, below_setRow HB1.out (Nat.le_refl _) _⟩
        | true =>
          rw [hi1] at ci1
          have CI1 := Lib.hid ci1
          cases hi2 : M.idB i with
          | false =>
            rw [if_neg (by simp), ptR_none]
            rw [hi2] at ci2
            have CI2 := Lib.hid ci2
            clear ci1 ci2
            simp only [duo] at co1 co2
            have CO1 := Lib.hid co1
            have CO2 := Lib.hid co2
            clear co1 co2
            go_enter Tryz.func64, Tryz.ntmps64
            go_wp2_with (refine wpList_store_row rfl 119 _ _ rfl (w.heap.size + 1) _ rfl rfl 119 pt0 HP0.out ?_ rfl ?_ ?_; kernel_rfl; simp [Value.oneCell'])
            generalize ((w.alloc (.cells pt0 119)).alloc (.cells pt0 119)).setRow (w.heap.size + 1) #[.int .u8 115, .int .i64 0, .int .i64 0, .int .i64 0, .string ⟨#[]⟩, .string ⟨#[]⟩] = W1 at *
            with_reducible refine (CP.out _).mono ?_
            rintro e w1 ⟨rfl, rfl⟩
            go_wp2_with (refine wpList_store_row rfl 119 _ _ rfl w.heap.size _ rfl rfl 119 pt0 HR1.out ?_ rfl ?_ ?_; kernel_rfl; simp [Value.oneCell'])
            repeat (first | ((with_reducible refine (CO1.out _).mono ?_); rintro e w1 ⟨rfl, rfl⟩; go_wp2_with (refine wpList_store_row rfl 119 _ _ rfl w.heap.size _ rfl rfl 119 pt0 HR1.out ?_ rfl ?_ ?_; kernel_rfl; simp [Value.oneCell'])) | ((with_reducible refine (CO2.out _).mono ?_); rintro e w1 ⟨rfl, rfl⟩; go_wp2_with (refine wpList_store_row rfl 119 _ _ rfl w.heap.size _ rfl rfl 119 pt0 HR1.out ?_ rfl ?_ ?_; kernel_rfl; simp [Value.oneCell'])) | ((with_reducible refine (CI1.out _).mono ?_); rintro e w1 ⟨rfl, rfl⟩; go_wp2_with (refine wpList_store_row rfl 119 _ _ rfl w.heap.size _ rfl rfl 119 pt0 HR1.out ?_ rfl ?_ ?_; kernel_rfl; simp [Value.oneCell'])) | ((with_reducible refine (CI2.out _).mono ?_); rintro e w1 ⟨rfl, rfl⟩; go_wp2_with (refine wpList_store_row rfl 119 _ _ rfl w.heap.size _ rfl rfl 119 pt0 HR1.out ?_ rfl ?_ ?_; kernel_rfl; simp [Value.oneCell'])))
            try simp only [Exit.inBlock, Exit.then]
            exact bodyPost_ret (ret_row2 Tryz.underlying119 (by kernel_rfl) rfl _ _ w.heap.size rfl HR1.out.row) rfl ⟨rfl, below_setRow HB1.out (Nat.le_refl _) _⟩
          | true =>
            rw [if_pos ⟨hlen, rfl, rfl⟩]
            rw [hi2] at ci2
            have CI2 := Lib.hid ci2
            clear ci1 ci2
            have HP2 := HP1.out.set 1 (.int .i64 (t : Int))
            have HP3 := Lib.hid (show RowIn #[.int .u8 115, .int .i64 (t : Int), .int .i64 (i : Int), .int .i64 0, .string ⟨#[]⟩, .string ⟨#[]⟩] 119 _ (w.heap.size + 1) from HP2.set 2 (.int .i64 (i : Int)))
            have HR3 := Lib.hid ((HR1.out.other (show w.heap.size ≠ w.heap.size + 1 by omega) 1 (.int .i64 (t : Int))).other (show w.heap.size ≠ w.heap.size + 1 by omega) 2 (.int .i64 (i : Int)))
            have HB3 := Lib.hid ((HB1.out.setCell (p := ⟨w.heap.size + 1, 1, none⟩) (by simp) (.int .i64 (t : Int))).setCell (p := ⟨w.heap.size + 1, 2, none⟩) (by simp) (.int .i64 (i : Int)))
            have k1 := HP1.out.cell 1
            have k2 := HP2.cell 2
            have f1 := HP1.out.free 1
            have f2 := HP2.free 2
            simp at k1 k2
            clear HP2
            simp only [duo] at co1 co2
            have CO1 := Lib.hid co1
            have CO2 := Lib.hid co2
            clear co1 co2
            go_enter Tryz.func64, Tryz.ntmps64
            go_wp2_with (refine wpList_store_row rfl 119 _ _ rfl (w.heap.size + 1) _ rfl rfl 119 pt0 HP0.out ?_ rfl ?_ ?_; kernel_rfl; simp [Value.oneCell'])
            generalize ((w.alloc (.cells pt0 119)).alloc (.cells pt0 119)).setRow (w.heap.size + 1) #[.int .u8 115, .int .i64 0, .int .i64 0, .int .i64 0, .string ⟨#[]⟩, .string ⟨#[]⟩] = W1 at *
            with_reducible refine (CP.out _).mono ?_
            rintro e w1 ⟨rfl, rfl⟩
            go_wp2_with (first | (refine wpList_load_row rfl 119 _ rfl (w.heap.size + 1) rfl 119 _ (0, 0) _ HP3.out Tryz.underlying119 rfl ?_ ?_; kernel_rfl) | (refine wpList_store_row rfl 119 _ _ rfl w.heap.size _ rfl rfl 119 pt0 HR3.out ?_ rfl ?_ ?_; kernel_rfl; simp [Value.oneCell']))
            repeat (first | ((with_reducible refine (CO1.out _).mono ?_); rintro e w1 ⟨rfl, rfl⟩; go_wp2_with (first | (refine wpList_load_row rfl 119 _ rfl (w.heap.size + 1) rfl 119 _ (0, 0) _ HP3.out Tryz.underlying119 rfl ?_ ?_; kernel_rfl) | (refine wpList_store_row rfl 119 _ _ rfl w.heap.size _ rfl rfl 119 pt0 HR3.out ?_ rfl ?_ ?_; kernel_rfl; simp [Value.oneCell']))) | ((with_reducible refine (CO2.out _).mono ?_); rintro e w1 ⟨rfl, rfl⟩; go_wp2_with (first | (refine wpList_load_row rfl 119 _ rfl (w.heap.size + 1) rfl 119 _ (0, 0) _ HP3.out Tryz.underlying119 rfl ?_ ?_; kernel_rfl) | (refine wpList_store_row rfl 119 _ _ rfl w.heap.size _ rfl rfl 119 pt0 HR3.out ?_ rfl ?_ ?_; kernel_rfl; simp [Value.oneCell']))) | ((with_reducible refine (CI1.out _).mono ?_); rintro e w1 ⟨rfl, rfl⟩; go_wp2_with (first | (refine wpList_load_row rfl 119 _ rfl (w.heap.size + 1) rfl 119 _ (0, 0) _ HP3.out Tryz.underlying119 rfl ?_ ?_; kernel_rfl) | (refine wpList_store_row rfl 119 _ _ rfl w.heap.size _ rfl rfl 119 pt0 HR3.out ?_ rfl ?_ ?_; kernel_rfl; simp [Value.oneCell']))) | ((with_reducible refine (CI2.out _).mono ?_); rintro e w1 ⟨rfl, rfl⟩; go_wp2_with (first | (refine wpList_load_row rfl 119 _ rfl (w.heap.size + 1) rfl 119 _ (0, 0) _ HP3.out Tryz.underlying119 rfl ?_ ?_; kernel_rfl) | (refine wpList_store_row rfl 119 _ _ rfl w.heap.size _ rfl rfl 119 pt0 HR3.out ?_ rfl ?_ ?_; kernel_rfl; simp [Value.oneCell']))))
            try simp only [Exit.inBlock, Exit.then]
            exact bodyPost_ret (ret_row2 Tryz.underlying119 (by kernel_rfl) rfl _ _ w.heap.size rfl (HR3.out.row (D := #[.int .u8 115, .int .i64 (t : Int), .int .i64 (i : Int), .int .i64 0, .string ⟨#[]⟩, .string ⟨#[]⟩]))) rfl ⟨rfl, below_setRow HB3.out (Nat.le_refl _) _⟩
      · rw [if_neg (fun h => hlen h.1), ptR_none]
        have q1 : ((rest.length : Int) != 16) = true := by rw [bne, show ((rest.length : Int) == 16) = false by rw [beq_eq_false_iff_ne]; omega]; rfl
        simp only [duo] at co1 co2
        have CO1 := Lib.hid co1
        have CO2 := Lib.hid co2
        clear co1 co2
        go_enter Tryz.func64, Tryz.ntmps64
        go_wp2_with (refine wpList_store_row rfl 119 _ _ rfl (w.heap.size + 1) _ rfl rfl 119 pt0 HP0.out ?_ rfl ?_ ?_; kernel_rfl; simp [Value.oneCell'])
        generalize ((w.alloc (.cells pt0 119)).alloc (.cells pt0 119)).setRow (w.heap.size + 1) #[.int .u8 115, .int .i64 0, .int .i64 0, .int .i64 0, .string ⟨#[]⟩, .string ⟨#[]⟩] = W1 at *
        with_reducible refine (CP.out _).mono ?_
        rintro e w1 ⟨rfl, rfl⟩
        go_wp2_with (refine wpList_store_row rfl 119 _ _ rfl w.heap.size _ rfl rfl 119 pt0 HR1.out ?_ rfl ?_ ?_; kernel_rfl; simp [Value.oneCell'])
        repeat (first | ((with_reducible refine (CO1.out _).mono ?_); rintro e w1 ⟨rfl, rfl⟩; go_wp2_with (refine wpList_store_row rfl 119 _ _ rfl w.heap.size _ rfl rfl 119 pt0 HR1.out ?_ rfl ?_ ?_; kernel_rfl; simp [Value.oneCell'])) | ((with_reducible refine (CO2.out _).mono ?_); rintro e w1 ⟨rfl, rfl⟩; go_wp2_with (refine wpList_store_row rfl 119 _ _ rfl w.heap.size _ rfl rfl 119 pt0 HR1.out ?_ rfl ?_ ?_; kernel_rfl; simp [Value.oneCell'])))
        try simp only [Exit.inBlock, Exit.then]
        exact bodyPost_ret (ret_row2 Tryz.underlying119 (by kernel_rfl) rfl _ _ w.heap.size rfl HR1.out.row) rfl ⟨rfl, below_setRow HB1.out (Nat.le_refl _) _⟩

end Go.Proofs.YtnhljlmelbiljaaGreat

/- Layer 8: keys.Parse, by a contract: an index cell's key; whatever else. -/
namespace Go.Proofs.YtnhljlmelbiljaaGreat
set_option linter.unusedVariables false
open Go Go.RowKit Go.Sort
attribute [local go_sem ↓] run_index_S
attribute [local go_sem] S_append S_extract

set_option maxHeartbeats 2000000 in
set_option maxRecDepth 100000 in
theorem parse_c (l : List UInt8) (h1 : l.head? ≠ some 115) (h2 : l.head? ≠ some 120) (w : World) :
    Calls Tryz.prog 64 #[.string (S l)] w fun e w' => e = .returned (ptR (M.parse l)) ∧ Below w.heap.size w w' := by
  have hpar : M.parse l = none := by
    cases l with
    | nil => rfl
    | cons k rest => rw [M.parse, if_neg (fun e => h1 (by rw [e]; rfl)), if_neg (fun e => h2 (by rw [e]; rfl))]
  rw [hpar, ptR_none]
  clear hpar
  have CP := Lib.hid (fun W => cutPrefix_no 115 l h1 W)
  have CN := Lib.hid (fun W => names_no l h2 W)
  have b115 : B [115] 0 = 115 := rfl
  have b120 : B [120] 0 = 120 := rfl
  have HP0 := Lib.hid (rowIn_at pt0 119 (w.alloc (.cells pt0 119)) (w.heap.size + 1) (by simp))
  have HR1 := Lib.hid (((rowIn_new pt0 119 w).more (.cells pt0 119)).rowAbove (c := w.heap.size + 1) (D := #[.int .u8 115, .int .i64 0, .int .i64 0, .int .i64 0, .string ⟨#[]⟩, .string ⟨#[]⟩]) (by omega))
  have HP1 := Lib.hid (HP0.out.row (D := #[.int .u8 115, .int .i64 0, .int .i64 0, .int .i64 0, .string ⟨#[]⟩, .string ⟨#[]⟩]))
  have HB1 := Lib.hid (below_setRow (g := w.heap.size + 1) (((Below.refl w.heap.size w).alloc (Nat.le_refl _) (.cells pt0 119)).alloc (by simp) (.cells pt0 119)) (by omega) #[.int .u8 115, .int .i64 0, .int .i64 0, .int .i64 0, .string ⟨#[]⟩, .string ⟨#[]⟩])
  go_enter Tryz.func64, Tryz.ntmps64
  go_wp2_with ((with_reducible show wpList _ _ _ _ _ _); refine wpList_store_row rfl 119 _ _ rfl (w.heap.size + 1) _ rfl rfl 119 pt0 HP0.out ?_ rfl ?_ ?_; kernel_rfl; simp [Value.oneCell'])
  generalize ((w.alloc (.cells pt0 119)).alloc (.cells pt0 119)).setRow (w.heap.size + 1) #[.int .u8 115, .int .i64 0, .int .i64 0, .int .i64 0, .string ⟨#[]⟩, .string ⟨#[]⟩] = W1 at *
  with_reducible refine (CP.out _).mono ?_
  rintro e w1 ⟨rfl, rfl⟩
  have k0 := HP1.out.cell 0
  have f0 := HP1.out.free 0
  simp at k0
  have HPx := Lib.hid (show RowIn #[.int .u8 120, .int .i64 0, .int .i64 0, .int .i64 0, .string ⟨#[]⟩, .string ⟨#[]⟩] 119 _ (w.heap.size + 1) from HP1.out.set 0 (.int .u8 120))
  have HRx := Lib.hid (HR1.out.other (show w.heap.size ≠ w.heap.size + 1 by omega) 0 (.int .u8 120))
  have HBx := Lib.hid (HB1.out.setCell (p := ⟨w.heap.size + 1, 0, none⟩) (by simp) (.int .u8 120))
  go_wp2_with fail
  with_reducible refine (CN.out _).mono ?_
  rintro e w2 ⟨rfl, hb2⟩
  clear k0 f0
  have HP2 := Lib.hid (HPx.out.below hb2)
  have HR2 := Lib.hid (HRx.out.below hb2)
  have HB2 := Lib.hid (below_step HBx.out hb2)
  clear hb2
  have k4 := HP2.out.cell 4
  have f4 := HP2.out.free 4
  have hp3 := HP2.out.set 4 (.string ⟨#[]⟩)
  have k5 := hp3.cell 5
  have f5 := hp3.free 5
  simp at k4 k5
  have HP3 := Lib.hid (show RowIn #[.int .u8 120, .int .i64 0, .int .i64 0, .int .i64 0, .string ⟨#[]⟩, .string ⟨#[]⟩] 119 ((w2.setCell ⟨w.heap.size + 1, 4, none⟩ (.string ⟨#[]⟩)).setCell ⟨w.heap.size + 1, 5, none⟩ (.string ⟨#[]⟩)) (w.heap.size + 1) from hp3.set 5 (.string ⟨#[]⟩))
  have HR3 := Lib.hid ((HR2.out.other (show w.heap.size ≠ w.heap.size + 1 by omega) 4 (.string ⟨#[]⟩)).other (show w.heap.size ≠ w.heap.size + 1 by omega) 5 (.string ⟨#[]⟩))
  have HB3 := Lib.hid ((HB2.out.setCell (p := ⟨w.heap.size + 1, 4, none⟩) (by simp) (.string ⟨#[]⟩)).setCell (p := ⟨w.heap.size + 1, 5, none⟩) (by simp) (.string ⟨#[]⟩))
  clear hp3
  go_wp2_with ((with_reducible show wpList _ _ _ _ _ _); refine wpList_store_row rfl 119 _ _ rfl w.heap.size _ rfl rfl 119 pt0 HR3.out ?_ rfl ?_ ?_; kernel_rfl; simp [Value.oneCell'])
  try simp only [Exit.inBlock, Exit.then]
  exact bodyPost_ret (ret_row2 Tryz.underlying119 (by kernel_rfl) rfl _ _ w.heap.size rfl HR3.out.row) rfl ⟨rfl, below_setRow HB3.out (Nat.le_refl _) _⟩

set_option maxHeartbeats 4000000 in
set_option maxRecDepth 100000 in
theorem b_f1 (rest0 a b r2 rest : List UInt8) (hl : r2.length ≤ 140737488351232) (st : Nat) (hst : st ≤ 1073741824) (hr : rest = r2.drop 8) (h8 : 8 ≤ r2.length) (co0 : M.ofBigs r2 0 = some st) (h1 : M.ofBigs rest 0 = none)
    (cn : ∀ W, Calls Tryz.prog 90 #[.string (S (120 :: rest0))] W fun e w' => e = .returned (.tuple #[.string (S a), .string (S b), .string (S r2), .bool true]) ∧ Below W.heap.size W w') (w : World) :
    Calls Tryz.prog 64 #[.string (S (120 :: rest0))] w fun e w' => e = .returned (.tuple #[.agg pt0, .bool false]) ∧ Below w.heap.size w w' := by
  have CP := Lib.hid (fun W => cutPrefix_no 115 (120 :: rest0) (by simp) W)
  have CN := Lib.hid cn
  clear cn
  have c0 := fun W => ofBig_any r2 0 W (by omega)
  rw [co0] at c0
  simp only [duo] at c0
  have CO0 := Lib.hid c0
  clear c0 co0
  have d3 : decide (1073741824 < (st : Int)) = false := by simp; omega
  have sl := fun W k => run_piece_from (P := Tryz.prog) 9 Tryz.underlying9 r2 8 8 rfl h8 W k
  rw [← hr] at sl
  have hl3 : rest.length ≤ 140737488351232 := by rw [hr, List.length_drop]; omega
  clear hr
  have b115 : B [115] 0 = 115 := rfl
  have b120 : B [120] 0 = 120 := rfl
  have HP0 := Lib.hid (rowIn_at pt0 119 (w.alloc (.cells pt0 119)) (w.heap.size + 1) (by simp))
  have HR1 := Lib.hid (((rowIn_new pt0 119 w).more (.cells pt0 119)).rowAbove (c := w.heap.size + 1) (D := #[.int .u8 115, .int .i64 0, .int .i64 0, .int .i64 0, .string ⟨#[]⟩, .string ⟨#[]⟩]) (by omega))
  have HP1 := Lib.hid (HP0.out.row (D := #[.int .u8 115, .int .i64 0, .int .i64 0, .int .i64 0, .string ⟨#[]⟩, .string ⟨#[]⟩]))
  have HB1 := Lib.hid (below_setRow (g := w.heap.size + 1) (((Below.refl w.heap.size w).alloc (Nat.le_refl _) (.cells pt0 119)).alloc (by simp) (.cells pt0 119)) (by omega) #[.int .u8 115, .int .i64 0, .int .i64 0, .int .i64 0, .string ⟨#[]⟩, .string ⟨#[]⟩])
  have co1 := fun W => ofBig_any rest 0 W (by omega)
  have co2 := fun W => ofBig_any rest 8 W (by omega)
  rw [h1] at co1
  obtain ⟨n2, b2, e2⟩ : ∃ n b, duo (M.ofBigs rest 8) = .tuple #[.int .i64 n, .bool b] := by cases M.ofBigs rest 8 <;> exact ⟨_, _, rfl⟩
  rw [e2] at co2
  simp only [duo] at co1
  clear h1 e2
  have CO1 := Lib.hid co1
  have CO2 := Lib.hid co2
  clear co1 co2
  go_enter Tryz.func64, Tryz.ntmps64
  go_wp2_with ((with_reducible show wpList _ _ _ _ _ _); refine wpList_store_row rfl 119 _ _ rfl (w.heap.size + 1) _ rfl rfl 119 pt0 HP0.out ?_ rfl ?_ ?_; kernel_rfl; simp [Value.oneCell'])
  generalize ((w.alloc (.cells pt0 119)).alloc (.cells pt0 119)).setRow (w.heap.size + 1) #[.int .u8 115, .int .i64 0, .int .i64 0, .int .i64 0, .string ⟨#[]⟩, .string ⟨#[]⟩] = W1 at *
  with_reducible refine (CP.out _).mono ?_
  rintro e w1 ⟨rfl, rfl⟩
  have k0 := HP1.out.cell 0
  have f0 := HP1.out.free 0
  simp at k0
  have HPx := Lib.hid (show RowIn #[.int .u8 120, .int .i64 0, .int .i64 0, .int .i64 0, .string ⟨#[]⟩, .string ⟨#[]⟩] 119 _ (w.heap.size + 1) from HP1.out.set 0 (.int .u8 120))
  have HRx := Lib.hid (HR1.out.other (show w.heap.size ≠ w.heap.size + 1 by omega) 0 (.int .u8 120))
  have HBx := Lib.hid (HB1.out.setCell (p := ⟨w.heap.size + 1, 0, none⟩) (by simp) (.int .u8 120))
  go_wp2_with fail
  with_reducible refine (CN.out _).mono ?_
  rintro e w2 ⟨rfl, hb2⟩
  clear k0 f0
  have HP2 := Lib.hid (HPx.out.below hb2)
  have HR2 := Lib.hid (HRx.out.below hb2)
  have HB2 := Lib.hid (below_step HBx.out hb2)
  clear hb2
  have k4 := HP2.out.cell 4
  have f4 := HP2.out.free 4
  have hp3 := HP2.out.set 4 (.string (S a))
  have k5 := hp3.cell 5
  have f5 := hp3.free 5
  simp at k4 k5
  have HP3 := Lib.hid (show RowIn #[.int .u8 120, .int .i64 0, .int .i64 0, .int .i64 0, .string (S a), .string (S b)] 119 ((w2.setCell ⟨w.heap.size + 1, 4, none⟩ (.string (S a))).setCell ⟨w.heap.size + 1, 5, none⟩ (.string (S b))) (w.heap.size + 1) from hp3.set 5 (.string (S b)))
  have HR3 := Lib.hid ((HR2.out.other (show w.heap.size ≠ w.heap.size + 1 by omega) 4 (.string (S a))).other (show w.heap.size ≠ w.heap.size + 1 by omega) 5 (.string (S b)))
  have HB3 := Lib.hid ((HB2.out.setCell (p := ⟨w.heap.size + 1, 4, none⟩) (by simp) (.string (S a))).setCell (p := ⟨w.heap.size + 1, 5, none⟩) (by simp) (.string (S b)))
  clear hp3
  go_wp2_with fail
  with_reducible refine (CO0.out _).mono ?_
  rintro e w3 ⟨rfl, rfl⟩
  clear k4 f4 k5 f5 CP CN HP2 HR2 HB2 HPx HRx HBx HP1 HR1 HB1 HP0
  generalize ((w2.setCell ⟨w.heap.size + 1, 4, none⟩ (.string (S a))).setCell ⟨w.heap.size + 1, 5, none⟩ (.string (S b))) = W3 at *
  have k3 := HP3.out.cell 3
  have f3 := HP3.out.free 3
  simp at k3
  have HP4 := Lib.hid (show RowIn #[.int .u8 120, .int .i64 0, .int .i64 0, .int .i64 (st : Int), .string (S a), .string (S b)] 119 (W3.setCell ⟨w.heap.size + 1, 3, none⟩ (.int .i64 (st : Int))) (w.heap.size + 1) from HP3.out.set 3 (.int .i64 (st : Int)))
  have HR4 := Lib.hid (HR3.out.other (show w.heap.size ≠ w.heap.size + 1 by omega) 3 (.int .i64 (st : Int)))
  have HB4 := Lib.hid (HB3.out.setCell (p := ⟨w.heap.size + 1, 3, none⟩) (by simp) (.int .i64 (st : Int)))
  have k3b := HP4.out.cell 3
  simp at k3b
  go_wp2_with fail
  with_reducible refine (CO1.out _).mono ?_
  rintro e w4 ⟨rfl, rfl⟩
  clear k3 f3 k3b HP3 HR3 HB3 CO0 CO1
  generalize (W3.setCell ⟨w.heap.size + 1, 3, none⟩ (.int .i64 (st : Int))) = W4 at *
  go_wp2_with ((with_reducible show wpList _ _ _ _ _ _); refine wpList_store_row rfl 119 _ _ rfl w.heap.size _ rfl rfl 119 pt0 HR4.out ?_ rfl ?_ ?_; kernel_rfl; simp [Value.oneCell'])
  repeat (first | ((with_reducible refine (CO2.out _).mono ?_); rintro e w1 ⟨rfl, rfl⟩; go_wp2_with ((with_reducible show wpList _ _ _ _ _ _); refine wpList_store_row rfl 119 _ _ rfl w.heap.size _ rfl rfl 119 pt0 HR4.out ?_ rfl ?_ ?_; kernel_rfl; simp [Value.oneCell'])))
  try simp only [Exit.inBlock, Exit.then]
  exact bodyPost_ret (ret_row2 Tryz.underlying119 (by kernel_rfl) rfl _ _ w.heap.size rfl HR4.out.row) rfl ⟨rfl, below_setRow HB4.out (Nat.le_refl _) _⟩

set_option maxHeartbeats 4000000 in
set_option maxRecDepth 100000 in
theorem b_f2 (rest0 a b r2 rest : List UInt8) (hl : r2.length ≤ 140737488351232) (st : Nat) (hst : st ≤ 1073741824) (hr : rest = r2.drop 8) (h8 : 8 ≤ r2.length) (co0 : M.ofBigs r2 0 = some st) (t : Nat) (h1 : M.ofBigs rest 0 = some t) (h2 : M.ofBigs rest 8 = none)
    (cn : ∀ W, Calls Tryz.prog 90 #[.string (S (120 :: rest0))] W fun e w' => e = .returned (.tuple #[.string (S a), .string (S b), .string (S r2), .bool true]) ∧ Below W.heap.size W w') (w : World) :
    Calls Tryz.prog 64 #[.string (S (120 :: rest0))] w fun e w' => e = .returned (.tuple #[.agg pt0, .bool false]) ∧ Below w.heap.size w w' := by
  have CP := Lib.hid (fun W => cutPrefix_no 115 (120 :: rest0) (by simp) W)
  have CN := Lib.hid cn
  clear cn
  have c0 := fun W => ofBig_any r2 0 W (by omega)
  rw [co0] at c0
  simp only [duo] at c0
  have CO0 := Lib.hid c0
  clear c0 co0
  have d3 : decide (1073741824 < (st : Int)) = false := by simp; omega
  have sl := fun W k => run_piece_from (P := Tryz.prog) 9 Tryz.underlying9 r2 8 8 rfl h8 W k
  rw [← hr] at sl
  have hl3 : rest.length ≤ 140737488351232 := by rw [hr, List.length_drop]; omega
  clear hr
  have b115 : B [115] 0 = 115 := rfl
  have b120 : B [120] 0 = 120 := rfl
  have HP0 := Lib.hid (rowIn_at pt0 119 (w.alloc (.cells pt0 119)) (w.heap.size + 1) (by simp))
  have HR1 := Lib.hid (((rowIn_new pt0 119 w).more (.cells pt0 119)).rowAbove (c := w.heap.size + 1) (D := #[.int .u8 115, .int .i64 0, .int .i64 0, .int .i64 0, .string ⟨#[]⟩, .string ⟨#[]⟩]) (by omega))
  have HP1 := Lib.hid (HP0.out.row (D := #[.int .u8 115, .int .i64 0, .int .i64 0, .int .i64 0, .string ⟨#[]⟩, .string ⟨#[]⟩]))
  have HB1 := Lib.hid (below_setRow (g := w.heap.size + 1) (((Below.refl w.heap.size w).alloc (Nat.le_refl _) (.cells pt0 119)).alloc (by simp) (.cells pt0 119)) (by omega) #[.int .u8 115, .int .i64 0, .int .i64 0, .int .i64 0, .string ⟨#[]⟩, .string ⟨#[]⟩])
  have co1 := fun W => ofBig_any rest 0 W (by omega)
  have co2 := fun W => ofBig_any rest 8 W (by omega)
  rw [h1] at co1
  rw [h2] at co2
  simp only [duo] at co1 co2
  clear h1 h2
  have CO1 := Lib.hid co1
  have CO2 := Lib.hid co2
  clear co1 co2
  go_enter Tryz.func64, Tryz.ntmps64
  go_wp2_with ((with_reducible show wpList _ _ _ _ _ _); refine wpList_store_row rfl 119 _ _ rfl (w.heap.size + 1) _ rfl rfl 119 pt0 HP0.out ?_ rfl ?_ ?_; kernel_rfl; simp [Value.oneCell'])
  generalize ((w.alloc (.cells pt0 119)).alloc (.cells pt0 119)).setRow (w.heap.size + 1) #[.int .u8 115, .int .i64 0, .int .i64 0, .int .i64 0, .string ⟨#[]⟩, .string ⟨#[]⟩] = W1 at *
  with_reducible refine (CP.out _).mono ?_
  rintro e w1 ⟨rfl, rfl⟩
  have k0 := HP1.out.cell 0
  have f0 := HP1.out.free 0
  simp at k0
  have HPx := Lib.hid (show RowIn #[.int .u8 120, .int .i64 0, .int .i64 0, .int .i64 0, .string ⟨#[]⟩, .string ⟨#[]⟩] 119 _ (w.heap.size + 1) from HP1.out.set 0 (.int .u8 120))
  have HRx := Lib.hid (HR1.out.other (show w.heap.size ≠ w.heap.size + 1 by omega) 0 (.int .u8 120))
  have HBx := Lib.hid (HB1.out.setCell (p := ⟨w.heap.size + 1, 0, none⟩) (by simp) (.int .u8 120))
  go_wp2_with fail
  with_reducible refine (CN.out _).mono ?_
  rintro e w2 ⟨rfl, hb2⟩
  clear k0 f0
  have HP2 := Lib.hid (HPx.out.below hb2)
  have HR2 := Lib.hid (HRx.out.below hb2)
  have HB2 := Lib.hid (below_step HBx.out hb2)
  clear hb2
  have k4 := HP2.out.cell 4
  have f4 := HP2.out.free 4
  have hp3 := HP2.out.set 4 (.string (S a))
  have k5 := hp3.cell 5
  have f5 := hp3.free 5
  simp at k4 k5
  have HP3 := Lib.hid (show RowIn #[.int .u8 120, .int .i64 0, .int .i64 0, .int .i64 0, .string (S a), .string (S b)] 119 ((w2.setCell ⟨w.heap.size + 1, 4, none⟩ (.string (S a))).setCell ⟨w.heap.size + 1, 5, none⟩ (.string (S b))) (w.heap.size + 1) from hp3.set 5 (.string (S b)))
  have HR3 := Lib.hid ((HR2.out.other (show w.heap.size ≠ w.heap.size + 1 by omega) 4 (.string (S a))).other (show w.heap.size ≠ w.heap.size + 1 by omega) 5 (.string (S b)))
  have HB3 := Lib.hid ((HB2.out.setCell (p := ⟨w.heap.size + 1, 4, none⟩) (by simp) (.string (S a))).setCell (p := ⟨w.heap.size + 1, 5, none⟩) (by simp) (.string (S b)))
  clear hp3
  go_wp2_with fail
  with_reducible refine (CO0.out _).mono ?_
  rintro e w3 ⟨rfl, rfl⟩
  clear k4 f4 k5 f5 CP CN HP2 HR2 HB2 HPx HRx HBx HP1 HR1 HB1 HP0
  generalize ((w2.setCell ⟨w.heap.size + 1, 4, none⟩ (.string (S a))).setCell ⟨w.heap.size + 1, 5, none⟩ (.string (S b))) = W3 at *
  have k3 := HP3.out.cell 3
  have f3 := HP3.out.free 3
  simp at k3
  have HP4 := Lib.hid (show RowIn #[.int .u8 120, .int .i64 0, .int .i64 0, .int .i64 (st : Int), .string (S a), .string (S b)] 119 (W3.setCell ⟨w.heap.size + 1, 3, none⟩ (.int .i64 (st : Int))) (w.heap.size + 1) from HP3.out.set 3 (.int .i64 (st : Int)))
  have HR4 := Lib.hid (HR3.out.other (show w.heap.size ≠ w.heap.size + 1 by omega) 3 (.int .i64 (st : Int)))
  have HB4 := Lib.hid (HB3.out.setCell (p := ⟨w.heap.size + 1, 3, none⟩) (by simp) (.int .i64 (st : Int)))
  have k3b := HP4.out.cell 3
  simp at k3b
  go_wp2_with fail
  with_reducible refine (CO1.out _).mono ?_
  rintro e w4 ⟨rfl, rfl⟩
  clear k3 f3 k3b HP3 HR3 HB3 CO0 CO1
  generalize (W3.setCell ⟨w.heap.size + 1, 3, none⟩ (.int .i64 (st : Int))) = W4 at *
  go_wp2_with ((with_reducible show wpList _ _ _ _ _ _); refine wpList_store_row rfl 119 _ _ rfl w.heap.size _ rfl rfl 119 pt0 HR4.out ?_ rfl ?_ ?_; kernel_rfl; simp [Value.oneCell'])
  repeat (first | ((with_reducible refine (CO2.out _).mono ?_); rintro e w1 ⟨rfl, rfl⟩; go_wp2_with ((with_reducible show wpList _ _ _ _ _ _); refine wpList_store_row rfl 119 _ _ rfl w.heap.size _ rfl rfl 119 pt0 HR4.out ?_ rfl ?_ ?_; kernel_rfl; simp [Value.oneCell'])))
  try simp only [Exit.inBlock, Exit.then]
  exact bodyPost_ret (ret_row2 Tryz.underlying119 (by kernel_rfl) rfl _ _ w.heap.size rfl HR4.out.row) rfl ⟨rfl, below_setRow HB4.out (Nat.le_refl _) _⟩

set_option maxHeartbeats 4000000 in
set_option maxRecDepth 100000 in
theorem b_f3 (rest0 a b r2 rest : List UInt8) (hl : r2.length ≤ 140737488351232) (st : Nat) (hst : st ≤ 1073741824) (hr : rest = r2.drop 8) (h8 : 8 ≤ r2.length) (co0 : M.ofBigs r2 0 = some st) (t i : Nat) (h1 : M.ofBigs rest 0 = some t) (h2 : M.ofBigs rest 8 = some i) (hlen : ¬ rest.length = 16)
    (cn : ∀ W, Calls Tryz.prog 90 #[.string (S (120 :: rest0))] W fun e w' => e = .returned (.tuple #[.string (S a), .string (S b), .string (S r2), .bool true]) ∧ Below W.heap.size W w') (w : World) :
    Calls Tryz.prog 64 #[.string (S (120 :: rest0))] w fun e w' => e = .returned (.tuple #[.agg pt0, .bool false]) ∧ Below w.heap.size w w' := by
  have CP := Lib.hid (fun W => cutPrefix_no 115 (120 :: rest0) (by simp) W)
  have CN := Lib.hid cn
  clear cn
  have c0 := fun W => ofBig_any r2 0 W (by omega)
  rw [co0] at c0
  simp only [duo] at c0
  have CO0 := Lib.hid c0
  clear c0 co0
  have d3 : decide (1073741824 < (st : Int)) = false := by simp; omega
  have sl := fun W k => run_piece_from (P := Tryz.prog) 9 Tryz.underlying9 r2 8 8 rfl h8 W k
  rw [← hr] at sl
  have hl3 : rest.length ≤ 140737488351232 := by rw [hr, List.length_drop]; omega
  clear hr
  have b115 : B [115] 0 = 115 := rfl
  have b120 : B [120] 0 = 120 := rfl
  have HP0 := Lib.hid (rowIn_at pt0 119 (w.alloc (.cells pt0 119)) (w.heap.size + 1) (by simp))
  have HR1 := Lib.hid (((rowIn_new pt0 119 w).more (.cells pt0 119)).rowAbove (c := w.heap.size + 1) (D := #[.int .u8 115, .int .i64 0, .int .i64 0, .int .i64 0, .string ⟨#[]⟩, .string ⟨#[]⟩]) (by omega))
  have HP1 := Lib.hid (HP0.out.row (D := #[.int .u8 115, .int .i64 0, .int .i64 0, .int .i64 0, .string ⟨#[]⟩, .string ⟨#[]⟩]))
  have HB1 := Lib.hid (below_setRow (g := w.heap.size + 1) (((Below.refl w.heap.size w).alloc (Nat.le_refl _) (.cells pt0 119)).alloc (by simp) (.cells pt0 119)) (by omega) #[.int .u8 115, .int .i64 0, .int .i64 0, .int .i64 0, .string ⟨#[]⟩, .string ⟨#[]⟩])
  have co1 := fun W => ofBig_any rest 0 W (by omega)
  have co2 := fun W => ofBig_any rest 8 W (by omega)
  rw [h1] at co1
  rw [h2] at co2
  simp only [duo] at co1 co2
  have q1 : ((rest.length : Int) != 16) = true := by rw [bne, show ((rest.length : Int) == 16) = false by rw [beq_eq_false_iff_ne]; omega]; rfl
  clear h1 h2 hlen
  have CO1 := Lib.hid co1
  have CO2 := Lib.hid co2
  clear co1 co2
  go_enter Tryz.func64, Tryz.ntmps64
  go_wp2_with ((with_reducible show wpList _ _ _ _ _ _); refine wpList_store_row rfl 119 _ _ rfl (w.heap.size + 1) _ rfl rfl 119 pt0 HP0.out ?_ rfl ?_ ?_; kernel_rfl; simp [Value.oneCell'])
  generalize ((w.alloc (.cells pt0 119)).alloc (.cells pt0 119)).setRow (w.heap.size + 1) #[.int .u8 115, .int .i64 0, .int .i64 0, .int .i64 0, .string ⟨#[]⟩, .string ⟨#[]⟩] = W1 at *
  with_reducible refine (CP.out _).mono ?_
  rintro e w1 ⟨rfl, rfl⟩
  have k0 := HP1.out.cell 0
  have f0 := HP1.out.free 0
  simp at k0
  have HPx := Lib.hid (show RowIn #[.int .u8 120, .int .i64 0, .int .i64 0, .int .i64 0, .string ⟨#[]⟩, .string ⟨#[]⟩] 119 _ (w.heap.size + 1) from HP1.out.set 0 (.int .u8 120))
  have HRx := Lib.hid (HR1.out.other (show w.heap.size ≠ w.heap.size + 1 by omega) 0 (.int .u8 120))
  have HBx := Lib.hid (HB1.out.setCell (p := ⟨w.heap.size + 1, 0, none⟩) (by simp) (.int .u8 120))
  go_wp2_with fail
  with_reducible refine (CN.out _).mono ?_
  rintro e w2 ⟨rfl, hb2⟩
  clear k0 f0
  have HP2 := Lib.hid (HPx.out.below hb2)
  have HR2 := Lib.hid (HRx.out.below hb2)
  have HB2 := Lib.hid (below_step HBx.out hb2)
  clear hb2
  have k4 := HP2.out.cell 4
  have f4 := HP2.out.free 4
  have hp3 := HP2.out.set 4 (.string (S a))
  have k5 := hp3.cell 5
  have f5 := hp3.free 5
  simp at k4 k5
  have HP3 := Lib.hid (show RowIn #[.int .u8 120, .int .i64 0, .int .i64 0, .int .i64 0, .string (S a), .string (S b)] 119 ((w2.setCell ⟨w.heap.size + 1, 4, none⟩ (.string (S a))).setCell ⟨w.heap.size + 1, 5, none⟩ (.string (S b))) (w.heap.size + 1) from hp3.set 5 (.string (S b)))
  have HR3 := Lib.hid ((HR2.out.other (show w.heap.size ≠ w.heap.size + 1 by omega) 4 (.string (S a))).other (show w.heap.size ≠ w.heap.size + 1 by omega) 5 (.string (S b)))
  have HB3 := Lib.hid ((HB2.out.setCell (p := ⟨w.heap.size + 1, 4, none⟩) (by simp) (.string (S a))).setCell (p := ⟨w.heap.size + 1, 5, none⟩) (by simp) (.string (S b)))
  clear hp3
  go_wp2_with fail
  with_reducible refine (CO0.out _).mono ?_
  rintro e w3 ⟨rfl, rfl⟩
  clear k4 f4 k5 f5 CP CN HP2 HR2 HB2 HPx HRx HBx HP1 HR1 HB1 HP0
  generalize ((w2.setCell ⟨w.heap.size + 1, 4, none⟩ (.string (S a))).setCell ⟨w.heap.size + 1, 5, none⟩ (.string (S b))) = W3 at *
  have k3 := HP3.out.cell 3
  have f3 := HP3.out.free 3
  simp at k3
  have HP4 := Lib.hid (show RowIn #[.int .u8 120, .int .i64 0, .int .i64 0, .int .i64 (st : Int), .string (S a), .string (S b)] 119 (W3.setCell ⟨w.heap.size + 1, 3, none⟩ (.int .i64 (st : Int))) (w.heap.size + 1) from HP3.out.set 3 (.int .i64 (st : Int)))
  have HR4 := Lib.hid (HR3.out.other (show w.heap.size ≠ w.heap.size + 1 by omega) 3 (.int .i64 (st : Int)))
  have HB4 := Lib.hid (HB3.out.setCell (p := ⟨w.heap.size + 1, 3, none⟩) (by simp) (.int .i64 (st : Int)))
  have k3b := HP4.out.cell 3
  simp at k3b
  go_wp2_with fail
  with_reducible refine (CO1.out _).mono ?_
  rintro e w4 ⟨rfl, rfl⟩
  clear k3 f3 k3b HP3 HR3 HB3 CO0 CO1
  generalize (W3.setCell ⟨w.heap.size + 1, 3, none⟩ (.int .i64 (st : Int))) = W4 at *
  go_wp2_with ((with_reducible show wpList _ _ _ _ _ _); refine wpList_store_row rfl 119 _ _ rfl w.heap.size _ rfl rfl 119 pt0 HR4.out ?_ rfl ?_ ?_; kernel_rfl; simp [Value.oneCell'])
  repeat (first | ((with_reducible refine (CO2.out _).mono ?_); rintro e w1 ⟨rfl, rfl⟩; go_wp2_with ((with_reducible show wpList _ _ _ _ _ _); refine wpList_store_row rfl 119 _ _ rfl w.heap.size _ rfl rfl 119 pt0 HR4.out ?_ rfl ?_ ?_; kernel_rfl; simp [Value.oneCell'])))
  try simp only [Exit.inBlock, Exit.then]
  exact bodyPost_ret (ret_row2 Tryz.underlying119 (by kernel_rfl) rfl _ _ w.heap.size rfl HR4.out.row) rfl ⟨rfl, below_setRow HB4.out (Nat.le_refl _) _⟩

set_option maxHeartbeats 4000000 in
set_option maxRecDepth 100000 in
theorem b_f4 (rest0 a b r2 rest : List UInt8) (hl : r2.length ≤ 140737488351232) (st : Nat) (hst : st ≤ 1073741824) (hr : rest = r2.drop 8) (h8 : 8 ≤ r2.length) (co0 : M.ofBigs r2 0 = some st) (t i : Nat) (h1 : M.ofBigs rest 0 = some t) (h2 : M.ofBigs rest 8 = some i) (hlen : rest.length = 16) (hi1 : M.idB t = false)
    (cn : ∀ W, Calls Tryz.prog 90 #[.string (S (120 :: rest0))] W fun e w' => e = .returned (.tuple #[.string (S a), .string (S b), .string (S r2), .bool true]) ∧ Below W.heap.size W w') (w : World) :
    Calls Tryz.prog 64 #[.string (S (120 :: rest0))] w fun e w' => e = .returned (.tuple #[.agg pt0, .bool false]) ∧ Below w.heap.size w w' := by
  have CP := Lib.hid (fun W => cutPrefix_no 115 (120 :: rest0) (by simp) W)
  have CN := Lib.hid cn
  clear cn
  have c0 := fun W => ofBig_any r2 0 W (by omega)
  rw [co0] at c0
  simp only [duo] at c0
  have CO0 := Lib.hid c0
  clear c0 co0
  have d3 : decide (1073741824 < (st : Int)) = false := by simp; omega
  have sl := fun W k => run_piece_from (P := Tryz.prog) 9 Tryz.underlying9 r2 8 8 rfl h8 W k
  rw [← hr] at sl
  have hl3 : rest.length ≤ 140737488351232 := by rw [hr, List.length_drop]; omega
  clear hr
  have b115 : B [115] 0 = 115 := rfl
  have b120 : B [120] 0 = 120 := rfl
  have HP0 := Lib.hid (rowIn_at pt0 119 (w.alloc (.cells pt0 119)) (w.heap.size + 1) (by simp))
  have HR1 := Lib.hid (((rowIn_new pt0 119 w).more (.cells pt0 119)).rowAbove (c := w.heap.size + 1) (D := #[.int .u8 115, .int .i64 0, .int .i64 0, .int .i64 0, .string ⟨#[]⟩, .string ⟨#[]⟩]) (by omega))
  have HP1 := Lib.hid (HP0.out.row (D := #[.int .u8 115, .int .i64 0, .int .i64 0, .int .i64 0, .string ⟨#[]⟩, .string ⟨#[]⟩]))
  have HB1 := Lib.hid (below_setRow (g := w.heap.size + 1) (((Below.refl w.heap.size w).alloc (Nat.le_refl _) (.cells pt0 119)).alloc (by simp) (.cells pt0 119)) (by omega) #[.int .u8 115, .int .i64 0, .int .i64 0, .int .i64 0, .string ⟨#[]⟩, .string ⟨#[]⟩])
  have co1 := fun W => ofBig_any rest 0 W (by omega)
  have co2 := fun W => ofBig_any rest 8 W (by omega)
  rw [h1] at co1
  rw [h2] at co2
  simp only [duo] at co1 co2
  have q1 : ((rest.length : Int) != 16) = false := by rw [hlen]; rfl
  have ci1 := fun W => isID_any (t : Int) W
  have ci2 := fun W => isID_any (i : Int) W
  rw [hi1] at ci1
  have CI1 := Lib.hid ci1
  clear h1 h2 hi1 ci1 ci2
  have CO1 := Lib.hid co1
  have CO2 := Lib.hid co2
  clear co1 co2
  go_enter Tryz.func64, Tryz.ntmps64
  go_wp2_with ((with_reducible show wpList _ _ _ _ _ _); refine wpList_store_row rfl 119 _ _ rfl (w.heap.size + 1) _ rfl rfl 119 pt0 HP0.out ?_ rfl ?_ ?_; kernel_rfl; simp [Value.oneCell'])
  generalize ((w.alloc (.cells pt0 119)).alloc (.cells pt0 119)).setRow (w.heap.size + 1) #[.int .u8 115, .int .i64 0, .int .i64 0, .int .i64 0, .string ⟨#[]⟩, .string ⟨#[]⟩] = W1 at *
  with_reducible refine (CP.out _).mono ?_
  rintro e w1 ⟨rfl, rfl⟩
  have k0 := HP1.out.cell 0
  have f0 := HP1.out.free 0
  simp at k0
  have HPx := Lib.hid (show RowIn #[.int .u8 120, .int .i64 0, .int .i64 0, .int .i64 0, .string ⟨#[]⟩, .string ⟨#[]⟩] 119 _ (w.heap.size + 1) from HP1.out.set 0 (.int .u8 120))
  have HRx := Lib.hid (HR1.out.other (show w.heap.size ≠ w.heap.size + 1 by omega) 0 (.int .u8 120))
  have HBx := Lib.hid (HB1.out.setCell (p := ⟨w.heap.size + 1, 0, none⟩) (by simp) (.int .u8 120))
  go_wp2_with fail
  with_reducible refine (CN.out _).mono ?_
  rintro e w2 ⟨rfl, hb2⟩
  clear k0 f0
  have HP2 := Lib.hid (HPx.out.below hb2)
  have HR2 := Lib.hid (HRx.out.below hb2)
  have HB2 := Lib.hid (below_step HBx.out hb2)
  clear hb2
  have k4 := HP2.out.cell 4
  have f4 := HP2.out.free 4
  have hp3 := HP2.out.set 4 (.string (S a))
  have k5 := hp3.cell 5
  have f5 := hp3.free 5
  simp at k4 k5
  have HP3 := Lib.hid (show RowIn #[.int .u8 120, .int .i64 0, .int .i64 0, .int .i64 0, .string (S a), .string (S b)] 119 ((w2.setCell ⟨w.heap.size + 1, 4, none⟩ (.string (S a))).setCell ⟨w.heap.size + 1, 5, none⟩ (.string (S b))) (w.heap.size + 1) from hp3.set 5 (.string (S b)))
  have HR3 := Lib.hid ((HR2.out.other (show w.heap.size ≠ w.heap.size + 1 by omega) 4 (.string (S a))).other (show w.heap.size ≠ w.heap.size + 1 by omega) 5 (.string (S b)))
  have HB3 := Lib.hid ((HB2.out.setCell (p := ⟨w.heap.size + 1, 4, none⟩) (by simp) (.string (S a))).setCell (p := ⟨w.heap.size + 1, 5, none⟩) (by simp) (.string (S b)))
  clear hp3
  go_wp2_with fail
  with_reducible refine (CO0.out _).mono ?_
  rintro e w3 ⟨rfl, rfl⟩
  clear k4 f4 k5 f5 CP CN HP2 HR2 HB2 HPx HRx HBx HP1 HR1 HB1 HP0
  generalize ((w2.setCell ⟨w.heap.size + 1, 4, none⟩ (.string (S a))).setCell ⟨w.heap.size + 1, 5, none⟩ (.string (S b))) = W3 at *
  have k3 := HP3.out.cell 3
  have f3 := HP3.out.free 3
  simp at k3
  have HP4 := Lib.hid (show RowIn #[.int .u8 120, .int .i64 0, .int .i64 0, .int .i64 (st : Int), .string (S a), .string (S b)] 119 (W3.setCell ⟨w.heap.size + 1, 3, none⟩ (.int .i64 (st : Int))) (w.heap.size + 1) from HP3.out.set 3 (.int .i64 (st : Int)))
  have HR4 := Lib.hid (HR3.out.other (show w.heap.size ≠ w.heap.size + 1 by omega) 3 (.int .i64 (st : Int)))
  have HB4 := Lib.hid (HB3.out.setCell (p := ⟨w.heap.size + 1, 3, none⟩) (by simp) (.int .i64 (st : Int)))
  have k3b := HP4.out.cell 3
  simp at k3b
  go_wp2_with fail
  with_reducible refine (CO1.out _).mono ?_
  rintro e w4 ⟨rfl, rfl⟩
  clear k3 f3 k3b HP3 HR3 HB3 CO0 CO1
  generalize (W3.setCell ⟨w.heap.size + 1, 3, none⟩ (.int .i64 (st : Int))) = W4 at *
  go_wp2_with ((with_reducible show wpList _ _ _ _ _ _); refine wpList_store_row rfl 119 _ _ rfl w.heap.size _ rfl rfl 119 pt0 HR4.out ?_ rfl ?_ ?_; kernel_rfl; simp [Value.oneCell'])
  repeat (first | ((with_reducible refine (CO2.out _).mono ?_); rintro e w1 ⟨rfl, rfl⟩; go_wp2_with ((with_reducible show wpList _ _ _ _ _ _); refine wpList_store_row rfl 119 _ _ rfl w.heap.size _ rfl rfl 119 pt0 HR4.out ?_ rfl ?_ ?_; kernel_rfl; simp [Value.oneCell'])) | ((with_reducible refine (CI1.out _).mono ?_); rintro e w1 ⟨rfl, rfl⟩; go_wp2_with ((with_reducible show wpList _ _ _ _ _ _); refine wpList_store_row rfl 119 _ _ rfl w.heap.size _ rfl rfl 119 pt0 HR4.out ?_ rfl ?_ ?_; kernel_rfl; simp [Value.oneCell'])))
  try simp only [Exit.inBlock, Exit.then]
  exact bodyPost_ret (ret_row2 Tryz.underlying119 (by kernel_rfl) rfl _ _ w.heap.size rfl HR4.out.row) rfl ⟨rfl, below_setRow HB4.out (Nat.le_refl _) _⟩

set_option maxHeartbeats 4000000 in
set_option maxRecDepth 100000 in
theorem b_f5 (rest0 a b r2 rest : List UInt8) (hl : r2.length ≤ 140737488351232) (st : Nat) (hst : st ≤ 1073741824) (hr : rest = r2.drop 8) (h8 : 8 ≤ r2.length) (co0 : M.ofBigs r2 0 = some st) (t i : Nat) (h1 : M.ofBigs rest 0 = some t) (h2 : M.ofBigs rest 8 = some i) (hlen : rest.length = 16) (hi1 : M.idB t = true) (hi2 : M.idB i = false)
    (cn : ∀ W, Calls Tryz.prog 90 #[.string (S (120 :: rest0))] W fun e w' => e = .returned (.tuple #[.string (S a), .string (S b), .string (S r2), .bool true]) ∧ Below W.heap.size W w') (w : World) :
    Calls Tryz.prog 64 #[.string (S (120 :: rest0))] w fun e w' => e = .returned (.tuple #[.agg pt0, .bool false]) ∧ Below w.heap.size w w' := by
  have CP := Lib.hid (fun W => cutPrefix_no 115 (120 :: rest0) (by simp) W)
  have CN := Lib.hid cn
  clear cn
  have c0 := fun W => ofBig_any r2 0 W (by omega)
  rw [co0] at c0
  simp only [duo] at c0
  have CO0 := Lib.hid c0
  clear c0 co0
  have d3 : decide (1073741824 < (st : Int)) = false := by simp; omega
  have sl := fun W k => run_piece_from (P := Tryz.prog) 9 Tryz.underlying9 r2 8 8 rfl h8 W k
  rw [← hr] at sl
  have hl3 : rest.length ≤ 140737488351232 := by rw [hr, List.length_drop]; omega
  clear hr
  have b115 : B [115] 0 = 115 := rfl
  have b120 : B [120] 0 = 120 := rfl
  have HP0 := Lib.hid (rowIn_at pt0 119 (w.alloc (.cells pt0 119)) (w.heap.size + 1) (by simp))
  have HR1 := Lib.hid (((rowIn_new pt0 119 w).more (.cells pt0 119)).rowAbove (c := w.heap.size + 1) (D := #[.int .u8 115, .int .i64 0, .int .i64 0, .int .i64 0, .string ⟨#[]⟩, .string ⟨#[]⟩]) (by omega))
  have HP1 := Lib.hid (HP0.out.row (D := #[.int .u8 115, .int .i64 0, .int .i64 0, .int .i64 0, .string ⟨#[]⟩, .string ⟨#[]⟩]))
  have HB1 := Lib.hid (below_setRow (g := w.heap.size + 1) (((Below.refl w.heap.size w).alloc (Nat.le_refl _) (.cells pt0 119)).alloc (by simp) (.cells pt0 119)) (by omega) #[.int .u8 115, .int .i64 0, .int .i64 0, .int .i64 0, .string ⟨#[]⟩, .string ⟨#[]⟩])
  have co1 := fun W => ofBig_any rest 0 W (by omega)
  have co2 := fun W => ofBig_any rest 8 W (by omega)
  rw [h1] at co1
  rw [h2] at co2
  simp only [duo] at co1 co2
  have q1 : ((rest.length : Int) != 16) = false := by rw [hlen]; rfl
  have ci1 := fun W => isID_any (t : Int) W
  have ci2 := fun W => isID_any (i : Int) W
  rw [hi1] at ci1
  rw [hi2] at ci2
  have CI1 := Lib.hid ci1
  have CI2 := Lib.hid ci2
  clear h1 h2 hi1 hi2 ci1 ci2
  have CO1 := Lib.hid co1
  have CO2 := Lib.hid co2
  clear co1 co2
  go_enter Tryz.func64, Tryz.ntmps64
  go_wp2_with ((with_reducible show wpList _ _ _ _ _ _); refine wpList_store_row rfl 119 _ _ rfl (w.heap.size + 1) _ rfl rfl 119 pt0 HP0.out ?_ rfl ?_ ?_; kernel_rfl; simp [Value.oneCell'])
  generalize ((w.alloc (.cells pt0 119)).alloc (.cells pt0 119)).setRow (w.heap.size + 1) #[.int .u8 115, .int .i64 0, .int .i64 0, .int .i64 0, .string ⟨#[]⟩, .string ⟨#[]⟩] = W1 at *
  with_reducible refine (CP.out _).mono ?_
  rintro e w1 ⟨rfl, rfl⟩
  have k0 := HP1.out.cell 0
  have f0 := HP1.out.free 0
  simp at k0
  have HPx := Lib.hid (show RowIn #[.int .u8 120, .int .i64 0, .int .i64 0, .int .i64 0, .string ⟨#[]⟩, .string ⟨#[]⟩] 119 _ (w.heap.size + 1) from HP1.out.set 0 (.int .u8 120))
  have HRx := Lib.hid (HR1.out.other (show w.heap.size ≠ w.heap.size + 1 by omega) 0 (.int .u8 120))
  have HBx := Lib.hid (HB1.out.setCell (p := ⟨w.heap.size + 1, 0, none⟩) (by simp) (.int .u8 120))
  go_wp2_with fail
  with_reducible refine (CN.out _).mono ?_
  rintro e w2 ⟨rfl, hb2⟩
  clear k0 f0
  have HP2 := Lib.hid (HPx.out.below hb2)
  have HR2 := Lib.hid (HRx.out.below hb2)
  have HB2 := Lib.hid (below_step HBx.out hb2)
  clear hb2
  have k4 := HP2.out.cell 4
  have f4 := HP2.out.free 4
  have hp3 := HP2.out.set 4 (.string (S a))
  have k5 := hp3.cell 5
  have f5 := hp3.free 5
  simp at k4 k5
  have HP3 := Lib.hid (show RowIn #[.int .u8 120, .int .i64 0, .int .i64 0, .int .i64 0, .string (S a), .string (S b)] 119 ((w2.setCell ⟨w.heap.size + 1, 4, none⟩ (.string (S a))).setCell ⟨w.heap.size + 1, 5, none⟩ (.string (S b))) (w.heap.size + 1) from hp3.set 5 (.string (S b)))
  have HR3 := Lib.hid ((HR2.out.other (show w.heap.size ≠ w.heap.size + 1 by omega) 4 (.string (S a))).other (show w.heap.size ≠ w.heap.size + 1 by omega) 5 (.string (S b)))
  have HB3 := Lib.hid ((HB2.out.setCell (p := ⟨w.heap.size + 1, 4, none⟩) (by simp) (.string (S a))).setCell (p := ⟨w.heap.size + 1, 5, none⟩) (by simp) (.string (S b)))
  clear hp3
  go_wp2_with fail
  with_reducible refine (CO0.out _).mono ?_
  rintro e w3 ⟨rfl, rfl⟩
  clear k4 f4 k5 f5 CP CN HP2 HR2 HB2 HPx HRx HBx HP1 HR1 HB1 HP0
  generalize ((w2.setCell ⟨w.heap.size + 1, 4, none⟩ (.string (S a))).setCell ⟨w.heap.size + 1, 5, none⟩ (.string (S b))) = W3 at *
  have k3 := HP3.out.cell 3
  have f3 := HP3.out.free 3
  simp at k3
  have HP4 := Lib.hid (show RowIn #[.int .u8 120, .int .i64 0, .int .i64 0, .int .i64 (st : Int), .string (S a), .string (S b)] 119 (W3.setCell ⟨w.heap.size + 1, 3, none⟩ (.int .i64 (st : Int))) (w.heap.size + 1) from HP3.out.set 3 (.int .i64 (st : Int)))
  have HR4 := Lib.hid (HR3.out.other (show w.heap.size ≠ w.heap.size + 1 by omega) 3 (.int .i64 (st : Int)))
  have HB4 := Lib.hid (HB3.out.setCell (p := ⟨w.heap.size + 1, 3, none⟩) (by simp) (.int .i64 (st : Int)))
  have k3b := HP4.out.cell 3
  simp at k3b
  go_wp2_with fail
  with_reducible refine (CO1.out _).mono ?_
  rintro e w4 ⟨rfl, rfl⟩
  clear k3 f3 k3b HP3 HR3 HB3 CO0 CO1
  generalize (W3.setCell ⟨w.heap.size + 1, 3, none⟩ (.int .i64 (st : Int))) = W4 at *
  go_wp2_with ((with_reducible show wpList _ _ _ _ _ _); refine wpList_store_row rfl 119 _ _ rfl w.heap.size _ rfl rfl 119 pt0 HR4.out ?_ rfl ?_ ?_; kernel_rfl; simp [Value.oneCell'])
  repeat (first | ((with_reducible refine (CO2.out _).mono ?_); rintro e w1 ⟨rfl, rfl⟩; go_wp2_with ((with_reducible show wpList _ _ _ _ _ _); refine wpList_store_row rfl 119 _ _ rfl w.heap.size _ rfl rfl 119 pt0 HR4.out ?_ rfl ?_ ?_; kernel_rfl; simp [Value.oneCell'])) | ((with_reducible refine (CI1.out _).mono ?_); rintro e w1 ⟨rfl, rfl⟩; go_wp2_with ((with_reducible show wpList _ _ _ _ _ _); refine wpList_store_row rfl 119 _ _ rfl w.heap.size _ rfl rfl 119 pt0 HR4.out ?_ rfl ?_ ?_; kernel_rfl; simp [Value.oneCell'])) | ((with_reducible refine (CI2.out _).mono ?_); rintro e w1 ⟨rfl, rfl⟩; go_wp2_with ((with_reducible show wpList _ _ _ _ _ _); refine wpList_store_row rfl 119 _ _ rfl w.heap.size _ rfl rfl 119 pt0 HR4.out ?_ rfl ?_ ?_; kernel_rfl; simp [Value.oneCell'])))
  try simp only [Exit.inBlock, Exit.then]
  exact bodyPost_ret (ret_row2 Tryz.underlying119 (by kernel_rfl) rfl _ _ w.heap.size rfl HR4.out.row) rfl ⟨rfl, below_setRow HB4.out (Nat.le_refl _) _⟩

set_option maxHeartbeats 4000000 in
set_option maxRecDepth 100000 in
theorem b_ok (rest0 a b r2 rest : List UInt8) (hl : r2.length ≤ 140737488351232) (st : Nat) (hst : st ≤ 1073741824) (hr : rest = r2.drop 8) (h8 : 8 ≤ r2.length) (co0 : M.ofBigs r2 0 = some st) (t i : Nat) (h1 : M.ofBigs rest 0 = some t) (h2 : M.ofBigs rest 8 = some i) (hlen : rest.length = 16) (hi1 : M.idB t = true) (hi2 : M.idB i = true)
    (cn : ∀ W, Calls Tryz.prog 90 #[.string (S (120 :: rest0))] W fun e w' => e = .returned (.tuple #[.string (S a), .string (S b), .string (S r2), .bool true]) ∧ Below W.heap.size W w') (w : World) :
    Calls Tryz.prog 64 #[.string (S (120 :: rest0))] w fun e w' => e = .returned (ptR (some ⟨120, t, i, st, a, b⟩)) ∧ Below w.heap.size w w' := by
  have CP := Lib.hid (fun W => cutPrefix_no 115 (120 :: rest0) (by simp) W)
  have CN := Lib.hid cn
  clear cn
  have c0 := fun W => ofBig_any r2 0 W (by omega)
  rw [co0] at c0
  simp only [duo] at c0
  have CO0 := Lib.hid c0
  clear c0 co0
  have d3 : decide (1073741824 < (st : Int)) = false := by simp; omega
  have sl := fun W k => run_piece_from (P := Tryz.prog) 9 Tryz.underlying9 r2 8 8 rfl h8 W k
  rw [← hr] at sl
  have hl3 : rest.length ≤ 140737488351232 := by rw [hr, List.length_drop]; omega
  clear hr
  have b115 : B [115] 0 = 115 := rfl
  have b120 : B [120] 0 = 120 := rfl
  have HP0 := Lib.hid (rowIn_at pt0 119 (w.alloc (.cells pt0 119)) (w.heap.size + 1) (by simp))
  have HR1 := Lib.hid (((rowIn_new pt0 119 w).more (.cells pt0 119)).rowAbove (c := w.heap.size + 1) (D := #[.int .u8 115, .int .i64 0, .int .i64 0, .int .i64 0, .string ⟨#[]⟩, .string ⟨#[]⟩]) (by omega))
  have HP1 := Lib.hid (HP0.out.row (D := #[.int .u8 115, .int .i64 0, .int .i64 0, .int .i64 0, .string ⟨#[]⟩, .string ⟨#[]⟩]))
  have HB1 := Lib.hid (below_setRow (g := w.heap.size + 1) (((Below.refl w.heap.size w).alloc (Nat.le_refl _) (.cells pt0 119)).alloc (by simp) (.cells pt0 119)) (by omega) #[.int .u8 115, .int .i64 0, .int .i64 0, .int .i64 0, .string ⟨#[]⟩, .string ⟨#[]⟩])
  have co1 := fun W => ofBig_any rest 0 W (by omega)
  have co2 := fun W => ofBig_any rest 8 W (by omega)
  rw [h1] at co1
  rw [h2] at co2
  simp only [duo] at co1 co2
  have q1 : ((rest.length : Int) != 16) = false := by rw [hlen]; rfl
  have ci1 := fun W => isID_any (t : Int) W
  have ci2 := fun W => isID_any (i : Int) W
  rw [hi1] at ci1
  rw [hi2] at ci2
  have CI1 := Lib.hid ci1
  have CI2 := Lib.hid ci2
  clear h1 h2 hi1 hi2 ci1 ci2
  have CO1 := Lib.hid co1
  have CO2 := Lib.hid co2
  clear co1 co2
  go_enter Tryz.func64, Tryz.ntmps64
  go_wp2_with ((with_reducible show wpList _ _ _ _ _ _); refine wpList_store_row rfl 119 _ _ rfl (w.heap.size + 1) _ rfl rfl 119 pt0 HP0.out ?_ rfl ?_ ?_; kernel_rfl; simp [Value.oneCell'])
  generalize ((w.alloc (.cells pt0 119)).alloc (.cells pt0 119)).setRow (w.heap.size + 1) #[.int .u8 115, .int .i64 0, .int .i64 0, .int .i64 0, .string ⟨#[]⟩, .string ⟨#[]⟩] = W1 at *
  with_reducible refine (CP.out _).mono ?_
  rintro e w1 ⟨rfl, rfl⟩
  have k0 := HP1.out.cell 0
  have f0 := HP1.out.free 0
  simp at k0
  have HPx := Lib.hid (show RowIn #[.int .u8 120, .int .i64 0, .int .i64 0, .int .i64 0, .string ⟨#[]⟩, .string ⟨#[]⟩] 119 _ (w.heap.size + 1) from HP1.out.set 0 (.int .u8 120))
  have HRx := Lib.hid (HR1.out.other (show w.heap.size ≠ w.heap.size + 1 by omega) 0 (.int .u8 120))
  have HBx := Lib.hid (HB1.out.setCell (p := ⟨w.heap.size + 1, 0, none⟩) (by simp) (.int .u8 120))
  go_wp2_with fail
  with_reducible refine (CN.out _).mono ?_
  rintro e w2 ⟨rfl, hb2⟩
  clear k0 f0
  have HP2 := Lib.hid (HPx.out.below hb2)
  have HR2 := Lib.hid (HRx.out.below hb2)
  have HB2 := Lib.hid (below_step HBx.out hb2)
  clear hb2
  have k4 := HP2.out.cell 4
  have f4 := HP2.out.free 4
  have hp3 := HP2.out.set 4 (.string (S a))
  have k5 := hp3.cell 5
  have f5 := hp3.free 5
  simp at k4 k5
  have HP3 := Lib.hid (show RowIn #[.int .u8 120, .int .i64 0, .int .i64 0, .int .i64 0, .string (S a), .string (S b)] 119 ((w2.setCell ⟨w.heap.size + 1, 4, none⟩ (.string (S a))).setCell ⟨w.heap.size + 1, 5, none⟩ (.string (S b))) (w.heap.size + 1) from hp3.set 5 (.string (S b)))
  have HR3 := Lib.hid ((HR2.out.other (show w.heap.size ≠ w.heap.size + 1 by omega) 4 (.string (S a))).other (show w.heap.size ≠ w.heap.size + 1 by omega) 5 (.string (S b)))
  have HB3 := Lib.hid ((HB2.out.setCell (p := ⟨w.heap.size + 1, 4, none⟩) (by simp) (.string (S a))).setCell (p := ⟨w.heap.size + 1, 5, none⟩) (by simp) (.string (S b)))
  clear hp3
  go_wp2_with fail
  with_reducible refine (CO0.out _).mono ?_
  rintro e w3 ⟨rfl, rfl⟩
  clear k4 f4 k5 f5 CP CN HP2 HR2 HB2 HPx HRx HBx HP1 HR1 HB1 HP0
  generalize ((w2.setCell ⟨w.heap.size + 1, 4, none⟩ (.string (S a))).setCell ⟨w.heap.size + 1, 5, none⟩ (.string (S b))) = W3 at *
  have k3 := HP3.out.cell 3
  have f3 := HP3.out.free 3
  simp at k3
  have HP4 := Lib.hid (show RowIn #[.int .u8 120, .int .i64 0, .int .i64 0, .int .i64 (st : Int), .string (S a), .string (S b)] 119 (W3.setCell ⟨w.heap.size + 1, 3, none⟩ (.int .i64 (st : Int))) (w.heap.size + 1) from HP3.out.set 3 (.int .i64 (st : Int)))
  have HR4 := Lib.hid (HR3.out.other (show w.heap.size ≠ w.heap.size + 1 by omega) 3 (.int .i64 (st : Int)))
  have HB4 := Lib.hid (HB3.out.setCell (p := ⟨w.heap.size + 1, 3, none⟩) (by simp) (.int .i64 (st : Int)))
  have k3b := HP4.out.cell 3
  simp at k3b
  go_wp2_with fail
  with_reducible refine (CO1.out _).mono ?_
  rintro e w4 ⟨rfl, rfl⟩
  clear k3 f3 k3b HP3 HR3 HB3 CO0 CO1
  generalize (W3.setCell ⟨w.heap.size + 1, 3, none⟩ (.int .i64 (st : Int))) = W4 at *
  have hp5 := HP4.out.set 1 (.int .i64 (t : Int))
  have HP5 := Lib.hid (show RowIn #[.int .u8 120, .int .i64 (t : Int), .int .i64 (i : Int), .int .i64 (st : Int), .string (S a), .string (S b)] 119 _ (w.heap.size + 1) from hp5.set 2 (.int .i64 (i : Int)))
  have HR5 := Lib.hid ((HR4.out.other (show w.heap.size ≠ w.heap.size + 1 by omega) 1 (.int .i64 (t : Int))).other (show w.heap.size ≠ w.heap.size + 1 by omega) 2 (.int .i64 (i : Int)))
  have HB5 := Lib.hid ((HB4.out.setCell (p := ⟨w.heap.size + 1, 1, none⟩) (by simp) (.int .i64 (t : Int))).setCell (p := ⟨w.heap.size + 1, 2, none⟩) (by simp) (.int .i64 (i : Int)))
  have k1 := HP4.out.cell 1
  have k2 := hp5.cell 2
  have f1 := HP4.out.free 1
  have f2 := hp5.free 2
  simp at k1 k2
  clear hp5
  go_wp2_with (first | ((with_reducible show wpList _ _ _ _ _ _); refine wpList_load_row rfl 119 _ rfl (w.heap.size + 1) rfl 119 _ (0, 0) _ HP5.out Tryz.underlying119 rfl ?_ ?_; kernel_rfl) | ((with_reducible show wpList _ _ _ _ _ _); refine wpList_store_row rfl 119 _ _ rfl w.heap.size _ rfl rfl 119 pt0 HR5.out ?_ rfl ?_ ?_; kernel_rfl; simp [Value.oneCell']))
  repeat (first | ((with_reducible refine (CO2.out _).mono ?_); rintro e w1 ⟨rfl, rfl⟩; go_wp2_with (first | ((with_reducible show wpList _ _ _ _ _ _); refine wpList_load_row rfl 119 _ rfl (w.heap.size + 1) rfl 119 _ (0, 0) _ HP5.out Tryz.underlying119 rfl ?_ ?_; kernel_rfl) | ((with_reducible show wpList _ _ _ _ _ _); refine wpList_store_row rfl 119 _ _ rfl w.heap.size _ rfl rfl 119 pt0 HR5.out ?_ rfl ?_ ?_; kernel_rfl; simp [Value.oneCell']))) | ((with_reducible refine (CI1.out _).mono ?_); rintro e w1 ⟨rfl, rfl⟩; go_wp2_with (first | ((with_reducible show wpList _ _ _ _ _ _); refine wpList_load_row rfl 119 _ rfl (w.heap.size + 1) rfl 119 _ (0, 0) _ HP5.out Tryz.underlying119 rfl ?_ ?_; kernel_rfl) | ((with_reducible show wpList _ _ _ _ _ _); refine wpList_store_row rfl 119 _ _ rfl w.heap.size _ rfl rfl 119 pt0 HR5.out ?_ rfl ?_ ?_; kernel_rfl; simp [Value.oneCell']))) | ((with_reducible refine (CI2.out _).mono ?_); rintro e w1 ⟨rfl, rfl⟩; go_wp2_with (first | ((with_reducible show wpList _ _ _ _ _ _); refine wpList_load_row rfl 119 _ rfl (w.heap.size + 1) rfl 119 _ (0, 0) _ HP5.out Tryz.underlying119 rfl ?_ ?_; kernel_rfl) | ((with_reducible show wpList _ _ _ _ _ _); refine wpList_store_row rfl 119 _ _ rfl w.heap.size _ rfl rfl 119 pt0 HR5.out ?_ rfl ?_ ?_; kernel_rfl; simp [Value.oneCell']))))
  try simp only [Exit.inBlock, Exit.then]
  exact bodyPost_ret (ret_row2 Tryz.underlying119 (by kernel_rfl) rfl _ _ w.heap.size rfl (HR5.out.row (D := #[.int .u8 120, .int .i64 (t : Int), .int .i64 (i : Int), .int .i64 (st : Int), .string (S a), .string (S b)]))) rfl ⟨rfl, below_setRow HB5.out (Nat.le_refl _) _⟩

theorem parse_b2 (rest0 a b r2 rest : List UInt8) (hl : r2.length ≤ 140737488351232) (st : Nat) (hst : st ≤ 1073741824) (hr : rest = r2.drop 8) (h8 : 8 ≤ r2.length) (co0 : M.ofBigs r2 0 = some st)
    (cn : ∀ W, Calls Tryz.prog 90 #[.string (S (120 :: rest0))] W fun e w' => e = .returned (.tuple #[.string (S a), .string (S b), .string (S r2), .bool true]) ∧ Below W.heap.size W w') (w : World) :
    Calls Tryz.prog 64 #[.string (S (120 :: rest0))] w fun e w' => e = .returned (ptR (M.numsP 120 rest a b st)) ∧ Below w.heap.size w w' := by
  cases ho1 : M.ofBigs rest 0 with
  | none => rw [numsP_none (.inl ho1), ptR_none]; exact b_f1 rest0 a b r2 rest hl st hst hr h8 co0 ho1 cn w
  | some t =>
    cases ho2 : M.ofBigs rest 8 with
    | none => rw [numsP_none (.inr ho2), ptR_none]; exact b_f2 rest0 a b r2 rest hl st hst hr h8 co0 t ho1 ho2 cn w
    | some i =>
      rw [numsP_if ho1 ho2]
      by_cases hlen : rest.length = 16
      · cases hi1 : M.idB t with
        | false => rw [if_neg (by simp), ptR_none]; exact b_f4 rest0 a b r2 rest hl st hst hr h8 co0 t i ho1 ho2 hlen hi1 cn w
        | true =>
          cases hi2 : M.idB i with
          | false => rw [if_neg (by simp), ptR_none]; exact b_f5 rest0 a b r2 rest hl st hst hr h8 co0 t i ho1 ho2 hlen hi1 hi2 cn w
          | true => rw [if_pos ⟨hlen, rfl, rfl⟩]; exact b_ok rest0 a b r2 rest hl st hst hr h8 co0 t i ho1 ho2 hlen hi1 hi2 cn w
      · rw [if_neg (fun h => hlen h.1), ptR_none]; exact b_f3 rest0 a b r2 rest hl st hst hr h8 co0 t i ho1 ho2 hlen cn w

set_option maxHeartbeats 4000000 in
set_option maxRecDepth 100000 in
theorem parse_b (rest : List UInt8) (hl : rest.length ≤ 140737488351231) (w : World) :
    Calls Tryz.prog 64 #[.string (S (120 :: rest))] w fun e w' => e = .returned (ptR (M.parse (120 :: rest))) ∧ Below w.heap.size w w' := by
  have hpar : M.parse (120 :: rest) = M.idxP rest := by rw [M.parse, if_neg (by decide), if_pos rfl]
  rw [hpar]
  clear hpar
  have cn := fun W => names_yes rest (by omega) W
  have l1 := M.cut0_length rest
  have l2 := M.cut0_length (M.cut0 rest).2
  have hidx : M.idxP rest = if M.nameB (M.cut0 rest).1 && M.nameB (M.cut0 (M.cut0 rest).2).1 then
    match M.ofBigs (M.cut0 (M.cut0 rest).2).2 0 with
    | some st => if st ≤ 1073741824 then M.numsP 120 ((M.cut0 (M.cut0 rest).2).2.drop 8) (M.cut0 rest).1 (M.cut0 (M.cut0 rest).2).1 st else none
    | none => none
  else none := rfl
  rw [hidx]
  clear hidx
  generalize (M.cut0 (M.cut0 rest).2).2 = r2 at *
  generalize (M.cut0 (M.cut0 rest).2).1 = b at *
  generalize (M.cut0 rest).2 = r1 at *
  generalize (M.cut0 rest).1 = a at *
  have c0 := fun W => ofBig_any r2 0 W (by omega)
  have CP := Lib.hid (fun W => cutPrefix_no 115 (120 :: rest) (by simp) W)
  cases hn : (M.nameB a && M.nameB b) with
  | false =>
    rw [hn] at cn
    have CN := Lib.hid cn
    clear cn c0
    rw [if_neg (by simp), ptR_none]
    have b115 : B [115] 0 = 115 := rfl
    have b120 : B [120] 0 = 120 := rfl
    have HP0 := Lib.hid (rowIn_at pt0 119 (w.alloc (.cells pt0 119)) (w.heap.size + 1) (by simp))
    have HR1 := Lib.hid (((rowIn_new pt0 119 w).more (.cells pt0 119)).rowAbove (c := w.heap.size + 1) (D := #[.int .u8 115, .int .i64 0, .int .i64 0, .int .i64 0, .string ⟨#[]⟩, .string ⟨#[]⟩]) (by omega))
    have HP1 := Lib.hid (HP0.out.row (D := #[.int .u8 115, .int .i64 0, .int .i64 0, .int .i64 0, .string ⟨#[]⟩, .string ⟨#[]⟩]))
    have HB1 := Lib.hid (below_setRow (g := w.heap.size + 1) (((Below.refl w.heap.size w).alloc (Nat.le_refl _) (.cells pt0 119)).alloc (by simp) (.cells pt0 119)) (by omega) #[.int .u8 115, .int .i64 0, .int .i64 0, .int .i64 0, .string ⟨#[]⟩, .string ⟨#[]⟩])
    go_enter Tryz.func64, Tryz.ntmps64
    go_wp2_with ((with_reducible show wpList _ _ _ _ _ _); refine wpList_store_row rfl 119 _ _ rfl (w.heap.size + 1) _ rfl rfl 119 pt0 HP0.out ?_ rfl ?_ ?_; kernel_rfl; simp [Value.oneCell'])
    generalize ((w.alloc (.cells pt0 119)).alloc (.cells pt0 119)).setRow (w.heap.size + 1) #[.int .u8 115, .int .i64 0, .int .i64 0, .int .i64 0, .string ⟨#[]⟩, .string ⟨#[]⟩] = W1 at *
    with_reducible refine (CP.out _).mono ?_
    rintro e w1 ⟨rfl, rfl⟩
    have k0 := HP1.out.cell 0
    have f0 := HP1.out.free 0
    simp at k0
    have HPx := Lib.hid (show RowIn #[.int .u8 120, .int .i64 0, .int .i64 0, .int .i64 0, .string ⟨#[]⟩, .string ⟨#[]⟩] 119 _ (w.heap.size + 1) from HP1.out.set 0 (.int .u8 120))
    have HRx := Lib.hid (HR1.out.other (show w.heap.size ≠ w.heap.size + 1 by omega) 0 (.int .u8 120))
    have HBx := Lib.hid (HB1.out.setCell (p := ⟨w.heap.size + 1, 0, none⟩) (by simp) (.int .u8 120))
    go_wp2_with fail
    with_reducible refine (CN.out _).mono ?_
    rintro e w2 ⟨rfl, hb2⟩
    clear k0 f0
    have HP2 := Lib.hid (HPx.out.below hb2)
    have HR2 := Lib.hid (HRx.out.below hb2)
    have HB2 := Lib.hid (below_step HBx.out hb2)
    clear hb2
    have k4 := HP2.out.cell 4
    have f4 := HP2.out.free 4
    have hp3 := HP2.out.set 4 (.string (S a))
    have k5 := hp3.cell 5
    have f5 := hp3.free 5
    simp at k4 k5
    have HP3 := Lib.hid (show RowIn #[.int .u8 120, .int .i64 0, .int .i64 0, .int .i64 0, .string (S a), .string (S b)] 119 ((w2.setCell ⟨w.heap.size + 1, 4, none⟩ (.string (S a))).setCell ⟨w.heap.size + 1, 5, none⟩ (.string (S b))) (w.heap.size + 1) from hp3.set 5 (.string (S b)))
    have HR3 := Lib.hid ((HR2.out.other (show w.heap.size ≠ w.heap.size + 1 by omega) 4 (.string (S a))).other (show w.heap.size ≠ w.heap.size + 1 by omega) 5 (.string (S b)))
    have HB3 := Lib.hid ((HB2.out.setCell (p := ⟨w.heap.size + 1, 4, none⟩) (by simp) (.string (S a))).setCell (p := ⟨w.heap.size + 1, 5, none⟩) (by simp) (.string (S b)))
    clear hp3
    go_wp2_with ((with_reducible show wpList _ _ _ _ _ _); refine wpList_store_row rfl 119 _ _ rfl w.heap.size _ rfl rfl 119 pt0 HR3.out ?_ rfl ?_ ?_; kernel_rfl; simp [Value.oneCell'])
    try simp only [Exit.inBlock, Exit.then]
    exact bodyPost_ret (ret_row2 Tryz.underlying119 (by kernel_rfl) rfl _ _ w.heap.size rfl HR3.out.row) rfl ⟨rfl, below_setRow HB3.out (Nat.le_refl _) _⟩
  | true =>
    rw [hn] at cn
    rw [if_pos rfl]
    cases ho : M.ofBigs r2 0 with
    | none =>
      rw [ho] at c0
      simp only [duo] at c0
      have CO0 := Lib.hid c0
      have CN := Lib.hid cn
      clear cn c0
      simp only [ptR_none]
      have b115 : B [115] 0 = 115 := rfl
      have b120 : B [120] 0 = 120 := rfl
      have HP0 := Lib.hid (rowIn_at pt0 119 (w.alloc (.cells pt0 119)) (w.heap.size + 1) (by simp))
      have HR1 := Lib.hid (((rowIn_new pt0 119 w).more (.cells pt0 119)).rowAbove (c := w.heap.size + 1) (D := #[.int .u8 115, .int .i64 0, .int .i64 0, .int .i64 0, .string ⟨#[]⟩, .string ⟨#[]⟩]) (by omega))
      have HP1 := Lib.hid (HP0.out.row (D := #[.int .u8 115, .int .i64 0, .int .i64 0, .int .i64 0, .string ⟨#[]⟩, .string ⟨#[]⟩]))
      have HB1 := Lib.hid (below_setRow (g := w.heap.size + 1) (((Below.refl w.heap.size w).alloc (Nat.le_refl _) (.cells pt0 119)).alloc (by simp) (.cells pt0 119)) (by omega) #[.int .u8 115, .int .i64 0, .int .i64 0, .int .i64 0, .string ⟨#[]⟩, .string ⟨#[]⟩])
      go_enter Tryz.func64, Tryz.ntmps64
      go_wp2_with ((with_reducible show wpList _ _ _ _ _ _); refine wpList_store_row rfl 119 _ _ rfl (w.heap.size + 1) _ rfl rfl 119 pt0 HP0.out ?_ rfl ?_ ?_; kernel_rfl; simp [Value.oneCell'])
      generalize ((w.alloc (.cells pt0 119)).alloc (.cells pt0 119)).setRow (w.heap.size + 1) #[.int .u8 115, .int .i64 0, .int .i64 0, .int .i64 0, .string ⟨#[]⟩, .string ⟨#[]⟩] = W1 at *
      with_reducible refine (CP.out _).mono ?_
      rintro e w1 ⟨rfl, rfl⟩
      have k0 := HP1.out.cell 0
      have f0 := HP1.out.free 0
      simp at k0
      have HPx := Lib.hid (show RowIn #[.int .u8 120, .int .i64 0, .int .i64 0, .int .i64 0, .string ⟨#[]⟩, .string ⟨#[]⟩] 119 _ (w.heap.size + 1) from HP1.out.set 0 (.int .u8 120))
      have HRx := Lib.hid (HR1.out.other (show w.heap.size ≠ w.heap.size + 1 by omega) 0 (.int .u8 120))
      have HBx := Lib.hid (HB1.out.setCell (p := ⟨w.heap.size + 1, 0, none⟩) (by simp) (.int .u8 120))
      go_wp2_with fail
      with_reducible refine (CN.out _).mono ?_
      rintro e w2 ⟨rfl, hb2⟩
      clear k0 f0
      have HP2 := Lib.hid (HPx.out.below hb2)
      have HR2 := Lib.hid (HRx.out.below hb2)
      have HB2 := Lib.hid (below_step HBx.out hb2)
      clear hb2
      have k4 := HP2.out.cell 4
      have f4 := HP2.out.free 4
      have hp3 := HP2.out.set 4 (.string (S a))
      have k5 := hp3.cell 5
      have f5 := hp3.free 5
      simp at k4 k5
      have HP3 := Lib.hid (show RowIn #[.int .u8 120, .int .i64 0, .int .i64 0, .int .i64 0, .string (S a), .string (S b)] 119 ((w2.setCell ⟨w.heap.size + 1, 4, none⟩ (.string (S a))).setCell ⟨w.heap.size + 1, 5, none⟩ (.string (S b))) (w.heap.size + 1) from hp3.set 5 (.string (S b)))
      have HR3 := Lib.hid ((HR2.out.other (show w.heap.size ≠ w.heap.size + 1 by omega) 4 (.string (S a))).other (show w.heap.size ≠ w.heap.size + 1 by omega) 5 (.string (S b)))
      have HB3 := Lib.hid ((HB2.out.setCell (p := ⟨w.heap.size + 1, 4, none⟩) (by simp) (.string (S a))).setCell (p := ⟨w.heap.size + 1, 5, none⟩) (by simp) (.string (S b)))
      clear hp3
      go_wp2_with fail
      with_reducible refine (CO0.out _).mono ?_
      rintro e w3 ⟨rfl, rfl⟩
      clear k4 f4 k5 f5 CP CN HP2 HR2 HB2 HPx HRx HBx HP1 HR1 HB1 HP0
      generalize ((w2.setCell ⟨w.heap.size + 1, 4, none⟩ (.string (S a))).setCell ⟨w.heap.size + 1, 5, none⟩ (.string (S b))) = W3 at *
      have k3 := HP3.out.cell 3
      have f3 := HP3.out.free 3
      simp at k3
      have HP4 := Lib.hid (show RowIn #[.int .u8 120, .int .i64 0, .int .i64 0, .int .i64 0, .string (S a), .string (S b)] 119 (W3.setCell ⟨w.heap.size + 1, 3, none⟩ (.int .i64 0)) (w.heap.size + 1) from HP3.out.set 3 (.int .i64 0))
      have HR4 := Lib.hid (HR3.out.other (show w.heap.size ≠ w.heap.size + 1 by omega) 3 (.int .i64 0))
      have HB4 := Lib.hid (HB3.out.setCell (p := ⟨w.heap.size + 1, 3, none⟩) (by simp) (.int .i64 0))
      have k3b := HP4.out.cell 3
      simp at k3b
      go_wp2_with ((with_reducible show wpList _ _ _ _ _ _); refine wpList_store_row rfl 119 _ _ rfl w.heap.size _ rfl rfl 119 pt0 HR4.out ?_ rfl ?_ ?_; kernel_rfl; simp [Value.oneCell'])
      try simp only [Exit.inBlock, Exit.then]
      exact bodyPost_ret (ret_row2 Tryz.underlying119 (by kernel_rfl) rfl _ _ w.heap.size rfl HR4.out.row) rfl ⟨rfl, below_setRow HB4.out (Nat.le_refl _) _⟩
    | some st =>
      have hb := M.ofBigs_bounds ho
      by_cases hst : st ≤ 1073741824
      · simp only [if_pos hst]
        exact parse_b2 rest a b r2 _ (by omega) st hst rfl (by have := hb.2.1; omega) ho cn w
      · rw [ho] at c0
        simp only [duo] at c0
        have CO0 := Lib.hid c0
        have CN := Lib.hid cn
        clear cn c0
        simp only [if_neg hst, ptR_none]
        have d3 : decide (1073741824 < (st : Int)) = true := by simp; omega
        have b115 : B [115] 0 = 115 := rfl
        have b120 : B [120] 0 = 120 := rfl
        have HP0 := Lib.hid (rowIn_at pt0 119 (w.alloc (.cells pt0 119)) (w.heap.size + 1) (by simp))
        have HR1 := Lib.hid (((rowIn_new pt0 119 w).more (.cells pt0 119)).rowAbove (c := w.heap.size + 1) (D := #[.int .u8 115, .int .i64 0, .int .i64 0, .int .i64 0, .string ⟨#[]⟩, .string ⟨#[]⟩]) (by omega))
        have HP1 := Lib.hid (HP0.out.row (D := #[.int .u8 115, .int .i64 0, .int .i64 0, .int .i64 0, .string ⟨#[]⟩, .string ⟨#[]⟩]))
        have HB1 := Lib.hid (below_setRow (g := w.heap.size + 1) (((Below.refl w.heap.size w).alloc (Nat.le_refl _) (.cells pt0 119)).alloc (by simp) (.cells pt0 119)) (by omega) #[.int .u8 115, .int .i64 0, .int .i64 0, .int .i64 0, .string ⟨#[]⟩, .string ⟨#[]⟩])
        go_enter Tryz.func64, Tryz.ntmps64
        go_wp2_with ((with_reducible show wpList _ _ _ _ _ _); refine wpList_store_row rfl 119 _ _ rfl (w.heap.size + 1) _ rfl rfl 119 pt0 HP0.out ?_ rfl ?_ ?_; kernel_rfl; simp [Value.oneCell'])
        generalize ((w.alloc (.cells pt0 119)).alloc (.cells pt0 119)).setRow (w.heap.size + 1) #[.int .u8 115, .int .i64 0, .int .i64 0, .int .i64 0, .string ⟨#[]⟩, .string ⟨#[]⟩] = W1 at *
        with_reducible refine (CP.out _).mono ?_
        rintro e w1 ⟨rfl, rfl⟩
        have k0 := HP1.out.cell 0
        have f0 := HP1.out.free 0
        simp at k0
        have HPx := Lib.hid (show RowIn #[.int .u8 120, .int .i64 0, .int .i64 0, .int .i64 0, .string ⟨#[]⟩, .string ⟨#[]⟩] 119 _ (w.heap.size + 1) from HP1.out.set 0 (.int .u8 120))
        have HRx := Lib.hid (HR1.out.other (show w.heap.size ≠ w.heap.size + 1 by omega) 0 (.int .u8 120))
        have HBx := Lib.hid (HB1.out.setCell (p := ⟨w.heap.size + 1, 0, none⟩) (by simp) (.int .u8 120))
        go_wp2_with fail
        with_reducible refine (CN.out _).mono ?_
        rintro e w2 ⟨rfl, hb2⟩
        clear k0 f0
        have HP2 := Lib.hid (HPx.out.below hb2)
        have HR2 := Lib.hid (HRx.out.below hb2)
        have HB2 := Lib.hid (below_step HBx.out hb2)
        clear hb2
        have k4 := HP2.out.cell 4
        have f4 := HP2.out.free 4
        have hp3 := HP2.out.set 4 (.string (S a))
        have k5 := hp3.cell 5
        have f5 := hp3.free 5
        simp at k4 k5
        have HP3 := Lib.hid (show RowIn #[.int .u8 120, .int .i64 0, .int .i64 0, .int .i64 0, .string (S a), .string (S b)] 119 ((w2.setCell ⟨w.heap.size + 1, 4, none⟩ (.string (S a))).setCell ⟨w.heap.size + 1, 5, none⟩ (.string (S b))) (w.heap.size + 1) from hp3.set 5 (.string (S b)))
        have HR3 := Lib.hid ((HR2.out.other (show w.heap.size ≠ w.heap.size + 1 by omega) 4 (.string (S a))).other (show w.heap.size ≠ w.heap.size + 1 by omega) 5 (.string (S b)))
        have HB3 := Lib.hid ((HB2.out.setCell (p := ⟨w.heap.size + 1, 4, none⟩) (by simp) (.string (S a))).setCell (p := ⟨w.heap.size + 1, 5, none⟩) (by simp) (.string (S b)))
        clear hp3
        go_wp2_with fail
        with_reducible refine (CO0.out _).mono ?_
        rintro e w3 ⟨rfl, rfl⟩
        clear k4 f4 k5 f5 CP CN HP2 HR2 HB2 HPx HRx HBx HP1 HR1 HB1 HP0
        generalize ((w2.setCell ⟨w.heap.size + 1, 4, none⟩ (.string (S a))).setCell ⟨w.heap.size + 1, 5, none⟩ (.string (S b))) = W3 at *
        have k3 := HP3.out.cell 3
        have f3 := HP3.out.free 3
        simp at k3
        have HP4 := Lib.hid (show RowIn #[.int .u8 120, .int .i64 0, .int .i64 0, .int .i64 (st : Int), .string (S a), .string (S b)] 119 (W3.setCell ⟨w.heap.size + 1, 3, none⟩ (.int .i64 (st : Int))) (w.heap.size + 1) from HP3.out.set 3 (.int .i64 (st : Int)))
        have HR4 := Lib.hid (HR3.out.other (show w.heap.size ≠ w.heap.size + 1 by omega) 3 (.int .i64 (st : Int)))
        have HB4 := Lib.hid (HB3.out.setCell (p := ⟨w.heap.size + 1, 3, none⟩) (by simp) (.int .i64 (st : Int)))
        have k3b := HP4.out.cell 3
        simp at k3b
        go_wp2_with ((with_reducible show wpList _ _ _ _ _ _); refine wpList_store_row rfl 119 _ _ rfl w.heap.size _ rfl rfl 119 pt0 HR4.out ?_ rfl ?_ ?_; kernel_rfl; simp [Value.oneCell'])
        try simp only [Exit.inBlock, Exit.then]
        exact bodyPost_ret (ret_row2 Tryz.underlying119 (by kernel_rfl) rfl _ _ w.heap.size rfl HR4.out.row) rfl ⟨rfl, below_setRow HB4.out (Nat.le_refl _) _⟩

theorem parse_any (l : List UInt8) (hl : l.length ≤ 140737488351232) (w : World) :
    Calls Tryz.prog 64 #[.string (S l)] w fun e w' => e = .returned (ptR (M.parse l)) ∧ Below w.heap.size w w' := by
  cases l with
  | nil => exact parse_c [] (by simp) (by simp) w
  | cons k rest =>
    by_cases h1 : k = 115
    · subst h1; exact parse_a rest (by simp at hl; omega) w
    · by_cases h2 : k = 120
      · subst h2; exact parse_b rest (by simp at hl; omega) w
      · exact parse_c (k :: rest) (by simpa using h1) (by simpa using h2) w

end Go.Proofs.YtnhljlmelbiljaaGreat

/- Layer 8: keys.Row, does, by contracts; the laws' walks: KeysStretch. -/
namespace Go.Proofs.YtnhljlmelbiljaaGreat
set_option linter.unusedVariables false
open Go Go.RowKit Go.Sort
attribute [local go_sem ↓] run_index_S
attribute [local go_sem] S_append S_extract

set_option maxHeartbeats 1000000 in
theorem keyRow_any (l : List UInt8) (hl : l.length ≤ 140737488351232) (w : World) :
    Calls Tryz.prog 35 #[.string (S l)] w fun e w' => e = .returned (.string (S (M.rowK l))) ∧ Below w.heap.size w w' := by
  have cp := fun W => parse_any l hl W
  cases hp : M.parse l with
  | none =>
    rw [M.rowK, hp]
    rw [hp, ptR_none] at cp
    have CP := Lib.hid cp
    clear cp hp
    go_enter Tryz.func35, Tryz.ntmps35
    go_wp2_with fail
    with_reducible refine (CP.out _).mono ?_
    rintro e w1 ⟨rfl, hb1⟩
    have HX := Lib.hid (rowIn_new pt0 119 w1)
    have HB := Lib.hid (below_setRow (g := w1.heap.size) (hb1.alloc hb1.size (.cells pt0 119)) hb1.size pt0)
    clear hb1
    go_wp2_with ((with_reducible show wpList _ _ _ _ _ _); refine wpList_store_row rfl 119 _ _ rfl w1.heap.size _ rfl rfl 119 pt0 HX.out ?_ rfl ?_ ?_; kernel_rfl; simp [Value.oneCell'])
    go_ret
    exact ⟨rfl, HB.out⟩
  | some p =>
    have hps := M.parse_some hp
    rw [M.rowK, hp]
    rw [hp] at cp
    have cp2 : ∀ W, Calls Tryz.prog 64 #[.string (S l)] W fun e w' => e = .returned (.tuple #[.agg #[.int .u8 (p.kind : Nat), .int .i64 (p.trace : Nat), .int .i64 (p.id : Nat), .int .i64 (p.start : Nat), .string (S p.svc), .string (S p.host)], .bool true]) ∧ Below W.heap.size W w' := cp
    have CP := Lib.hid cp2
    clear cp cp2 hp
    have b115 : B [115] 0 = 115 := rfl
    rcases hps with ⟨_, _, ⟨hk, hl17, hrest⟩ | ⟨hk, hrest⟩⟩
    · simp only [hk, if_true]
      have q : (((p.kind : Nat) : Int) == 115) = true := by rw [hk]; rfl
      have h17 : l.length = 17 := by rw [hl17]; simp [M.spanK, M.bigN_length]
      have sl := fun W k => run_piece_to (P := Tryz.prog) 9 Tryz.underlying9 l 9 9 rfl (by omega) W k
      clear hk hl17 h17 hrest
      generalize p.kind = pk at *
      generalize p.trace = p1 at *
      generalize p.id = p2 at *
      generalize p.start = p3 at *
      generalize p.svc = p4 at *
      generalize p.host = p5 at *
      go_enter Tryz.func35, Tryz.ntmps35
      go_wp2_with fail
      with_reducible refine (CP.out _).mono ?_
      rintro e w1 ⟨rfl, hb1⟩
      have HX := Lib.hid (rowIn_new pt0 119 w1)
      have hc : (((w1.alloc (.cells pt0 119))).setRow w1.heap.size #[.int .u8 (pk : Nat), .int .i64 (p1 : Nat), .int .i64 (p2 : Nat), .int .i64 (p3 : Nat), .string (S p4), .string (S p5)]).cell? ⟨w1.heap.size, 0, none⟩ = some (.int .u8 (pk : Nat)) := (HX.out.row).cell 0
      have HB := Lib.hid (below_setRow (g := w1.heap.size) (hb1.alloc hb1.size (.cells pt0 119)) hb1.size #[.int .u8 (pk : Nat), .int .i64 (p1 : Nat), .int .i64 (p2 : Nat), .int .i64 (p3 : Nat), .string (S p4), .string (S p5)])
      clear hb1
      go_wp2_with ((with_reducible show wpList _ _ _ _ _ _); refine wpList_store_row rfl 119 _ _ rfl w1.heap.size _ rfl rfl 119 pt0 HX.out ?_ rfl ?_ ?_; kernel_rfl; simp [Value.oneCell'])
      go_quiet (fail)
      go_wp2_with fail
      go_ret
      exact ⟨rfl, below_drewN HB.out _⟩
    · simp only [hk, show ¬ (120 : Nat) = 115 by decide, if_false]
      have q : (((p.kind : Nat) : Int) == 115) = false := by rw [hk]; rfl
      clear hk hrest
      generalize p.kind = pk at *
      generalize p.trace = p1 at *
      generalize p.id = p2 at *
      generalize p.start = p3 at *
      generalize p.svc = p4 at *
      generalize p.host = p5 at *
      go_enter Tryz.func35, Tryz.ntmps35
      go_wp2_with fail
      with_reducible refine (CP.out _).mono ?_
      rintro e w1 ⟨rfl, hb1⟩
      have HX := Lib.hid (rowIn_new pt0 119 w1)
      have hc : (((w1.alloc (.cells pt0 119))).setRow w1.heap.size #[.int .u8 (pk : Nat), .int .i64 (p1 : Nat), .int .i64 (p2 : Nat), .int .i64 (p3 : Nat), .string (S p4), .string (S p5)]).cell? ⟨w1.heap.size, 0, none⟩ = some (.int .u8 (pk : Nat)) := (HX.out.row).cell 0
      have HB := Lib.hid (below_setRow (g := w1.heap.size) (hb1.alloc hb1.size (.cells pt0 119)) hb1.size #[.int .u8 (pk : Nat), .int .i64 (p1 : Nat), .int .i64 (p2 : Nat), .int .i64 (p3 : Nat), .string (S p4), .string (S p5)])
      clear hb1
      go_wp2_with ((with_reducible show wpList _ _ _ _ _ _); refine wpList_store_row rfl 119 _ _ rfl w1.heap.size _ rfl rfl 119 pt0 HX.out ?_ rfl ?_ ?_; kernel_rfl; simp [Value.oneCell'])
      go_quiet (fail)
      go_wp2_with fail
      go_ret
      exact ⟨rfl, below_drewN HB.out _⟩

end Go.Proofs.YtnhljlmelbiljaaGreat

/- Layer 8: the document's zero, by a contract; a key's parts by places. -/
namespace Go.Proofs.YtnhljlmelbiljaaGreat
set_option linter.unusedVariables false
open Go Go.RowKit Go.Sort
attribute [local go_sem ↓] run_index_S
attribute [local go_sem] S_append S_extract

end Go.Proofs.YtnhljlmelbiljaaGreat

/- Layer 8: the document's Parse, by contracts, case by case. -/
namespace Go.Proofs.YtnhljlmelbiljaaGreat
set_option linter.unusedVariables false
open Go Go.RowKit Go.Sort
attribute [local go_sem ↓] run_index_S
attribute [local go_sem] S_append S_extract

end Go.Proofs.YtnhljlmelbiljaaGreat

/- Layer 8: the document's Parse, Row, by contracts; the laws' walks: KeysParse. -/
namespace Go.Proofs.YtnhljlmelbiljaaGreat
set_option linter.unusedVariables false
open Go Go.RowKit Go.Sort
attribute [local go_sem ↓] run_index_S
attribute [local go_sem] S_append S_extract

end Go.Proofs.YtnhljlmelbiljaaGreat
