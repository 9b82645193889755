/- Texts of lower layers, as one. -/
import Derived.Test.YtekmnpmeienhhaaZP
import Derived.Test.YtekmnpmeienhhaaSpansM
import Derived.Test.YtekmnpmeienhhaaDiskK
import Derived.Test.YtekmnpmeienhhaaIntsC2
import Derived.Deep.QuietTactic
import Derived.BigQuiet
import Derived.Lib.QuietBelow
import Derived.Test.YtekmnpmeienhhaaDiskD
/- Plain mathematics of layer 13: cursors, their bytes, what is saved and loaded. -/
namespace Go.Proofs.Ytekmnpmeienhhaa
set_option linter.unusedVariables false
open Go Go.RowKit

namespace Cu
structure C where
  next : Int
  gap : Int
def c0 : C := ⟨0, 0⟩
def may (c : C) : Bool := M.win c.next 0 2147483647 && M.win c.gap 0 2147483647
def enc (c : C) : List UInt8 := 67 :: (M.putN c.next.toNat ++ M.putN c.gap.toNat)
def encR (c : C) : Int × List UInt8 := if may c then (0, enc c) else (2, [])
def dec (s : List UInt8) : Option C :=
  match M.gets s 1 with
  | none => none
  | some (n, k) =>
    match M.gets s k with
    | none => none
    | some (g, e) => if e = s.length ∧ s.head? = some 67 ∧ may ⟨n, g⟩ = true then some ⟨n, g⟩ else none
abbrev nC : List UInt8 := [99, 117, 114, 115, 111, 114]
abbrev nD : List UInt8 := [99, 117, 114, 115, 111, 114, 43]
def save (c : C) (D : Dk.St) : Int × Dk.St := if D.up = false then (51, D) else if may c = false then (2, D) else Dk.renew nD nC (enc c) D
def load (D : Dk.St) : Int × C :=
  if D.up = false then (51, c0) else if Dk.has nC D.L = false then (0, c0) else
  match dec (Dk.get nC D.L).dat with
  | none => (60, c0)
  | some c => (0, c)
theorem may_iff {c : C} : may c = true ↔ (0 ≤ c.next ∧ c.next ≤ 2147483647) ∧ (0 ≤ c.gap ∧ c.gap ≤ 2147483647) := by
  unfold may
  rw [Bool.and_eq_true, M.win_true, M.win_true]
theorem putN_len5 {n : Nat} (h : n ≤ 2147483647) : (M.putN n).length ≤ 5 := by
  have h1 := M.putN_len_mono n 2147483647 h
  have h2 : (M.putN 2147483647).length = 5 := by decide +kernel
  omega
theorem enc_len {c : C} (h : may c = true) : (enc c).length ≤ 11 := by
  obtain ⟨⟨h1, h2⟩, h3, h4⟩ := may_iff.1 h
  have k1 := putN_len5 (n := c.next.toNat) (by omega)
  have k2 := putN_len5 (n := c.gap.toNat) (by omega)
  unfold enc
  rw [List.length_cons, List.length_append]
  omega
theorem dec_enc {c : C} (h : may c = true) : dec (enc c) = some c := by
  obtain ⟨⟨h1, h2⟩, h3, h4⟩ := may_iff.1 h
  have k1 := M.gets_put [67] (M.putN c.gap.toNat) c.next.toNat (by omega)
  have k2 := M.gets_put (67 :: M.putN c.next.toNat) [] c.gap.toNat (by omega)
  simp only [List.append_nil, List.cons_append, List.nil_append, List.length_cons, List.length_nil, Nat.zero_add] at k1 k2
  have e1 : M.gets (enc c) 1 = some (c.next.toNat, 1 + (M.putN c.next.toNat).length) := by unfold enc; exact k1
  have e2 : M.gets (enc c) ((1 + (M.putN c.next.toNat).length : Nat) : Int) = some (c.gap.toNat, (M.putN c.next.toNat).length + 1 + (M.putN c.gap.toNat).length) := by
    unfold enc
    rw [Nat.add_comm 1]
    exact k2
  have ec : (⟨(c.next.toNat : Int), (c.gap.toNat : Int)⟩ : C) = c := by cases c; simp only [C.mk.injEq] at *; omega
  unfold dec
  rw [e1]
  simp only [e2]
  rw [if_pos]
  · rw [ec]
  · refine ⟨?_, rfl, ?_⟩
    · unfold enc; rw [List.length_cons, List.length_append]; omega
    · rw [ec]; exact h
theorem dec_some {s : List UInt8} {c : C} (h : dec s = some c) : may c = true ∧ enc c = s := by
  unfold dec at h
  cases h1 : M.gets s 1 with
  | none => rw [h1] at h; cases h
  | some p =>
    obtain ⟨n, k⟩ := p
    rw [h1] at h
    simp only at h
    cases h2 : M.gets s (k : Int) with
    | none => rw [h2] at h; cases h
    | some q =>
      obtain ⟨g, e⟩ := q
      rw [h2] at h
      simp only at h
      split at h
      · rename_i hc
        obtain ⟨c1, c2, c3⟩ := hc
        cases h
        refine ⟨c3, ?_⟩
        obtain ⟨a1, a2, a3, a4, a5, a6⟩ := M.gets_bounds h1
        obtain ⟨b1, b2, b3, b4, b5, b6⟩ := M.gets_bounds h2
        unfold enc
        simp only [Int.toNat_natCast]
        rw [a6, b6, c1]
        simp only [Int.toNat_natCast, Int.toNat_one] at *
        cases s with
        | nil => simp at c2
        | cons x r =>
          simp only [List.head?_cons, Option.some.injEq] at c2
          subst c2
          simp only [List.length_cons] at *
          obtain ⟨k', rfl⟩ : ∃ k', k = k' + 1 := ⟨k - 1, by omega⟩
          simp only [List.drop_succ_cons, List.drop_zero]
          rw [List.take_of_length_le (l := r.drop k') (by rw [List.length_drop]; omega), Nat.add_sub_cancel, List.take_append_drop]
      · cases h
end Cu

end Go.Proofs.Ytekmnpmeienhhaa

/- Layer 13: which cursors may be; their bytes; the cursor of bytes: the program's, by contracts. -/
namespace Go.Proofs.Ytekmnpmeienhhaa
set_option linter.unusedVariables false
open Go Go.RowKit Go.Maps
attribute [local go_sem ↓] run_index_S
attribute [local go_sem] S_append S_extract

def cuC (c : Cu.C) : Array Value := #[.int .i64 c.next, .int .i64 c.gap]
theorem cuC_one (c : Cu.C) : (cuC c).all (·.oneCell') = true := by simp [cuC, Value.oneCell']
theorem Cu.may_false {a b : Int} (h : ¬ ((0 ≤ a ∧ a ≤ 2147483647) ∧ (0 ≤ b ∧ b ≤ 2147483647))) : Cu.may ⟨a, b⟩ = false := by
  cases hm : Cu.may ⟨a, b⟩ with
  | false => rfl
  | true => exact absurd (Cu.may_iff.1 hm) h
/-- A whole struct stored: the world behind it by what it is good for. -/
theorem wpList_store13 {ops : Array Oper} {rest : List Oper} {o : Oper} {a : Act} {w : World} {Q : Exit → Act → World → Prop} (hgd : o.guard = none) (ty : TypeId) (x y : Operand) (ho : o.op = .store ty x y)
    (g : Nat) (cells : Array Value) (hx : a.eval x = .pointer (some ⟨g, 0, none⟩)) (hy : a.eval y = .agg cells)
    (t : TypeId) (old : Array Value) (hg : Bk old t w g) (hi : (Try.prog.info? ty).map (·.size) = some cells.size)
    (hold : old.size = cells.size) (h1 : cells.all (·.oneCell') = true)
    (h : ∀ w', Bk cells t w' g → Wr (fun q => q = g) w w' → wpList Try.prog ops Q rest (a.put o.dst undef) w') :
    wpList Try.prog ops Q (o :: rest) a w :=
  wpList_store_row hgd ty x y ho g cells hx hy t old hg hi hold h1 (h _ (setRow_heap w g _ _ _ _ hg) ⟨rfl, rfl, rfl, by simp [World.setRow], fun k hk hn => by
    unfold World.setRow
    simp only [Array.getElem?_modify]
    rw [if_neg (fun e => hn e.symm)]⟩)
set_option maxHeartbeats 400000 in
theorem mayBe13_any (a b : Int) (w : World) : Calls Try.prog 77 #[.agg #[.int .i64 a, .int .i64 b]] w fun e w' => e = .returned (.bool (Cu.may ⟨a, b⟩)) ∧ Below w.heap.size w w' := by
  by_cases h1 : 0 ≤ a
  case neg =>
    rw [Cu.may_false (fun h => h1 h.1.1)]
    go_enter Try.func77, Try.ntmps77
    go_wp2_with fail
    go_ret
    exact ⟨rfl, (Below.refl _ _).alloc (Nat.le_refl _) _⟩
  by_cases h2 : a ≤ 2147483647
  case neg =>
    rw [Cu.may_false (fun h => h2 h.1.2)]
    go_enter Try.func77, Try.ntmps77
    go_wp2_with fail
    go_ret
    exact ⟨rfl, (Below.refl _ _).alloc (Nat.le_refl _) _⟩
  by_cases h3 : 0 ≤ b
  case neg =>
    rw [Cu.may_false (fun h => h3 h.2.1)]
    go_enter Try.func77, Try.ntmps77
    go_wp2_with fail
    go_ret
    exact ⟨rfl, (Below.refl _ _).alloc (Nat.le_refl _) _⟩
  by_cases h4 : b ≤ 2147483647
  case neg =>
    rw [Cu.may_false (fun h => h4 h.2.2)]
    go_enter Try.func77, Try.ntmps77
    go_wp2_with fail
    go_ret
    exact ⟨rfl, (Below.refl _ _).alloc (Nat.le_refl _) _⟩
  rw [Cu.may_iff.2 ⟨⟨h1, h2⟩, h3, h4⟩]
  go_enter Try.func77, Try.ntmps77
  go_wp2_with fail
  go_ret
  exact ⟨rfl, (Below.refl _ _).alloc (Nat.le_refl _) _⟩
theorem ret_se13 {a : List UInt8} {b : List UInt8} {n : Int} (h : a = b) : Ending.returned (.tuple #[.string ⟨a.toArray⟩, .int .i64 n]) = .returned (.tuple #[.string (S b), .int .i64 n]) := by rw [h]
set_option maxHeartbeats 1000000 in
theorem enc13_yes (n g : Nat) (hm : Cu.may ⟨n, g⟩ = true) (w : World) :
    Calls Try.prog 44 #[.agg #[.int .i64 n, .int .i64 g]] w fun e w' => e = .returned (.tuple #[.string (S (Cu.enc ⟨n, g⟩)), .int .i64 0]) ∧ Below w.heap.size w w' := by
  have hb := Cu.may_iff.1 hm
  dsimp only at hb
  have C0 := Lib.hid (fun W => by have := mayBe13_any n g W; rw [hm] at this; exact this)
  have c1 := fun W => put_nat n W (by omega)
  have c2 := fun W => put_nat g W (by omega)
  have henc : Cu.enc ⟨n, g⟩ = 67 :: (M.putN n ++ M.putN g) := rfl
  have p1 := (M.putN_length n).2
  have p2 := (M.putN_length g).2
  generalize Cu.enc ⟨n, g⟩ = q at *
  generalize M.putN n = e1 at *
  generalize M.putN g = e2 at *
  have C1 := Lib.hid c1
  have C2 := Lib.hid c2
  have HQ := Lib.hid henc
  clear c1 c2 henc hm
  go_enter Try.func44, Try.ntmps44
  go_wp2_with fail
  with_reducible refine (C0.out _).mono ?_
  rintro e w1 ⟨rfl, hb1⟩
  have HR := Lib.hid ((bk_new #[.int .i64 n, .int .i64 g] 71 w).below hb1)
  have HB := Lib.hid (below_step ((Below.refl _ _).alloc (Nat.le_refl _) _) hb1)
  clear hb1
  go_wp2_with fail
  have g0 : ∀ d os, (Sort.grow (redrawn w1 d) os).cell? ⟨w.heap.size, 0, none⟩ = some (.int .i64 n) := fun d os => cell_regrown (HR.out.cell 0) d os
  have g1 : ∀ d os, (Sort.grow (redrawn w1 d) os).cell? ⟨w.heap.size, 1, none⟩ = some (.int .i64 g) := fun d os => cell_regrown (HR.out.cell 1) d os
  refine wp_region_quiet_below (by kernel_rfl) (by kernel_rfl) ?_
  repeat (go_big_quiet_step ((first | (go_at_call 78; with_reducible exact Calls.regrown_of (C1.out _)) | (go_at_call 78; with_reducible exact Calls.regrown_of (C2.out _)))))
  refine wpQuiet_nil ?_
  intro _ hw1
  obtain ⟨⟨d1, o1⟩, hw1⟩ := hw1
  subst hw1
  go_wp2_with fail
  go_ret2
  exact ⟨ret_se13 (by rw [HQ.out]), below_step HB.out (below_regrown _ d1 o1)⟩
theorem enc13_no (n g : Int) (hm : Cu.may ⟨n, g⟩ = false) (w : World) :
    Calls Try.prog 44 #[.agg #[.int .i64 n, .int .i64 g]] w fun e w' => e = .returned (.tuple #[.string ⟨#[]⟩, .int .i64 2]) ∧ Below w.heap.size w w' := by
  have C0 := Lib.hid (fun W => by have := mayBe13_any n g W; rw [hm] at this; exact this)
  clear hm
  go_enter Try.func44, Try.ntmps44
  go_wp2_with fail
  with_reducible refine (C0.out _).mono ?_
  rintro e w1 ⟨rfl, hb1⟩
  go_wp2_with fail
  go_ret2
  exact ⟨rfl, below_step ((Below.refl _ _).alloc (Nat.le_refl _) _) hb1⟩
theorem Cu.nat (c : Cu.C) (h : Cu.may c = true) : ∃ n g : Nat, c = ⟨n, g⟩ := by
  obtain ⟨a, b⟩ := c
  obtain ⟨⟨h1, _⟩, h2, _⟩ := Cu.may_iff.1 h
  dsimp only at h1 h2
  obtain ⟨n, rfl⟩ := Int.eq_ofNat_of_zero_le h1
  obtain ⟨g, rfl⟩ := Int.eq_ofNat_of_zero_le h2
  exact ⟨n, g, rfl⟩
theorem enc13_any (c : Cu.C) (w : World) :
    Calls Try.prog 44 #[.agg #[.int .i64 c.next, .int .i64 c.gap]] w fun e w' => e = .returned (.tuple #[.string (S (Cu.encR c).2), .int .i64 (Cu.encR c).1]) ∧ Below w.heap.size w w' := by
  unfold Cu.encR
  cases hm : Cu.may c with
  | false => rw [if_neg (by simp)]; exact enc13_no _ _ hm w
  | true =>
    rw [if_pos rfl]
    obtain ⟨n, g, rfl⟩ := Cu.nat c hm
    exact enc13_yes n g hm w
/-- What Decode tells. -/
def Cu.decV (r : Option Cu.C) : Ending := .returned (.tuple #[.agg (cuC (r.getD Cu.c0)), .int .i64 (if r = none then 30 else 0)])
theorem Cu.decV_none {r : Option Cu.C} (h : r = none) : Ending.returned (.tuple #[.agg (cuC Cu.c0), .int .i64 30]) = Cu.decV r := by rw [h]; rfl
theorem Cu.decV_some {r : Option Cu.C} {c : Cu.C} (h : r = some c) : Ending.returned (.tuple #[.agg (cuC c), .int .i64 0]) = Cu.decV r := by rw [h]; rfl
theorem Cu.dec_no1 {l : List UInt8} (h : M.gets l 1 = none) : Cu.dec l = none := by unfold Cu.dec; rw [h]
theorem Cu.dec_no2 {l : List UInt8} {n k : Nat} (h : M.gets l 1 = some (n, k)) (h2 : M.gets l k = none) : Cu.dec l = none := by unfold Cu.dec; rw [h]; simp only [h2]
theorem Cu.dec_eq {l : List UInt8} {n k g e : Nat} (h : M.gets l 1 = some (n, k)) (h2 : M.gets l k = some (g, e)) : Cu.dec l = if e = l.length ∧ l.head? = some 67 ∧ Cu.may ⟨n, g⟩ = true then some ⟨n, g⟩ else none := by unfold Cu.dec; rw [h]; simp only [h2]
set_option maxHeartbeats 1000000 in
set_option maxRecDepth 100000 in
theorem dec13_no1 (l : List UInt8) (hl : l.length ≤ 140737488351232) (w : World) (h : M.gets l 1 = none) :
    Calls Try.prog 46 #[.string (S l)] w fun e w' => e = Cu.decV (Cu.dec l) ∧ Below w.heap.size w w' := by
  have C1 := Lib.hid (fun W => by have := get_any l 1 W (by omega); rw [h] at this; exact this)
  have C2 := Lib.hid (fun W => get_any l 0 W (by omega))
  have HF := Lib.hid (Cu.decV_none (Cu.dec_no1 h))
  have hi : (Try.prog.info? 71).map (·.size) = some 2 := by kernel_rfl
  have HI := Lib.hid hi
  clear h hi
  go_enter Try.func46, Try.ntmps46
  go_wp2_with fail
  with_reducible refine (C1.out _).mono ?_
  rintro e w1 ⟨rfl, rfl⟩
  unfold tri
  go_wp2_with fail
  with_reducible refine (C2.out _).mono ?_
  rintro e w1 ⟨rfl, rfl⟩
  cases hg : M.gets l 0 with
  | none =>
    unfold tri
    go_wp2_with fail
    exact bodyPost_ret (v := .tuple #[.agg #[.int .i64 0, .int .i64 0], .int .i64 30]) (ret_cell2 (p := 2) (q := 3) (C := #[.int .i64 0, .int .i64 0]) Try.underlying71 HI.out rfl _ _ w.heap.size rfl ((bk_new _ _ _).more _)) rfl ⟨HF.out, below_two5 _ _ _⟩
  | some p =>
    obtain ⟨g, e⟩ := p
    unfold tri
    go_wp2_with fail
    exact bodyPost_ret (v := .tuple #[.agg #[.int .i64 0, .int .i64 0], .int .i64 30]) (ret_cell2 (p := 2) (q := 3) (C := #[.int .i64 0, .int .i64 0]) Try.underlying71 HI.out rfl _ _ w.heap.size rfl ((bk_new _ _ _).more _)) rfl ⟨HF.out, below_two5 _ _ _⟩
set_option maxHeartbeats 1000000 in
set_option maxRecDepth 100000 in
theorem dec13_no2 (l : List UInt8) (hl : l.length ≤ 140737488351232) (w : World) (n k : Nat) (h : M.gets l 1 = some (n, k)) (h2 : M.gets l k = none) :
    Calls Try.prog 46 #[.string (S l)] w fun e w' => e = Cu.decV (Cu.dec l) ∧ Below w.heap.size w w' := by
  have C1 := Lib.hid (fun W => by have := get_any l 1 W (by omega); rw [h] at this; exact this)
  have C2 := Lib.hid (fun W => by have := get_any l k W (by omega); rw [h2] at this; exact this)
  have HF := Lib.hid (Cu.decV_none (Cu.dec_no2 h h2))
  have hi : (Try.prog.info? 71).map (·.size) = some 2 := by kernel_rfl
  have HI := Lib.hid hi
  clear h h2 hi
  go_enter Try.func46, Try.ntmps46
  go_wp2_with fail
  with_reducible refine (C1.out _).mono ?_
  rintro e w1 ⟨rfl, rfl⟩
  unfold tri
  go_wp2_with fail
  with_reducible refine (C2.out _).mono ?_
  rintro e w1 ⟨rfl, rfl⟩
  unfold tri
  go_wp2_with fail
  exact bodyPost_ret (v := .tuple #[.agg #[.int .i64 0, .int .i64 0], .int .i64 30]) (ret_cell2 (p := 2) (q := 3) (C := #[.int .i64 0, .int .i64 0]) Try.underlying71 HI.out rfl _ _ w.heap.size rfl ((bk_new _ _ _).more _)) rfl ⟨HF.out, below_two5 _ _ _⟩
set_option maxHeartbeats 1000000 in
set_option maxRecDepth 100000 in
theorem dec13_two (l : List UInt8) (hl : l.length ≤ 140737488351232) (w : World) (n k g e : Nat) (h : M.gets l 1 = some (n, k)) (h2 : M.gets l k = some (g, e)) :
    Calls Try.prog 46 #[.string (S l)] w fun e w' => e = Cu.decV (Cu.dec l) ∧ Below w.heap.size w w' := by
  have C1 := Lib.hid (fun W => by have := get_any l 1 W (by omega); rw [h] at this; exact this)
  have C2 := Lib.hid (fun W => by have := get_any l k W (by omega); rw [h2] at this; exact this)
  have hlen := (M.gets_bounds h).2.2.1
  have HD := Lib.hid (Cu.dec_eq h h2)
  have CM := Lib.hid (fun W => mayBe13_any n g W)
  have hi : (Try.prog.info? 71).map (·.size) = some 2 := by kernel_rfl
  have HI := Lib.hid hi
  have hk := (M.gets_bounds h).2.1
  clear h h2 hi
  cases l with
  | nil => simp at hlen; omega
  | cons x r =>
    have kpt := run_piece_to (P := Try.prog) 9 Try.underlying9 (x :: r) 1 1 rfl (by simp)
    have ht : (x :: r).take 1 = [x] := by simp
    rw [ht] at kpt
    have HN := Lib.hid (fun (q : ¬ ((e : Int) = (r.length : Int) + 1 ∧ x = 67 ∧ Cu.may ⟨n, g⟩ = true)) => Cu.decV_none (r := Cu.dec (x :: r)) (by
      rw [HD.out, if_neg]
      rintro ⟨q1, q2, q3⟩
      refine q ⟨?_, ?_, q3⟩
      · rw [q1, List.length_cons]; omega
      · simpa using q2))
    have HY := Lib.hid (fun (q1 : (e : Int) = (r.length : Int) + 1) (q2 : x = 67) (q3 : Cu.may ⟨n, g⟩ = true) => Cu.decV_some (r := Cu.dec (x :: r)) (c := ⟨n, g⟩) (by
      rw [HD.out, if_pos]
      refine ⟨by rw [List.length_cons]; omega, by rw [q2]; rfl, q3⟩))
    clear HD hlen ht hk
    go_enter Try.func46, Try.ntmps46
    go_wp2_with fail
    with_reducible refine (C1.out _).mono ?_
    rintro e w1 ⟨rfl, rfl⟩
    unfold tri
    go_wp2_with fail
    with_reducible refine (C2.out _).mono ?_
    rintro e w1 ⟨rfl, rfl⟩
    unfold tri
    go_wp2_with fail
    any_goals (rename_i q; exact bodyPost_ret (v := .tuple #[.agg #[.int .i64 0, .int .i64 0], .int .i64 30]) (ret_cell2 (p := 2) (q := 3) (C := #[.int .i64 0, .int .i64 0]) Try.underlying71 HI.out rfl _ _ w.heap.size rfl ((bk_new _ _ _).more _)) rfl ⟨HN.out (fun z => by first | exact q z.1 | exact q z.2.1), below_two5 _ _ _⟩)
    · rename_i q1 q2 _ _
      have HX := Lib.hid q1
      have HX2 := Lib.hid q2
      clear q1 q2
      with_reducible refine (CM.out _).mono ?_
      rintro e w4 ⟨rfl, hb⟩
      have HR0 := Lib.hid (((bk_new #[.int .i64 0, .int .i64 0] 71 w).more (.cells #[.int .i64 n, .int .i64 g] 71)).below hb)
      have HR1 := Lib.hid ((bk_new #[.int .i64 n, .int .i64 g] 71 (w.alloc (.cells #[.int .i64 0, .int .i64 0] 71))).below hb)
      have HB := Lib.hid (below_step (below_two5 _ _ _) hb)
      rw [sz5] at HR1
      clear hb
      cases hm : Cu.may ⟨n, g⟩ with
      | false =>
        have HF := Lib.hid (HN.out (fun q => by rw [hm] at q; cases q.2.2))
        clear HN HY hm
        go_wp2_with (refine wpList_store13 rfl 71 _ _ rfl w.heap.size #[.int .i64 0, .int .i64 0] rfl rfl 71 _ HR0.out HI.out rfl (by simp [Value.oneCell']) ?_; intro w5 h5 hw5; have HR5 := Lib.hid h5; have HW5 := Lib.hid hw5; clear h5 hw5)
        exact bodyPost_ret (v := .tuple #[.agg #[.int .i64 0, .int .i64 0], .int .i64 30]) (ret_cell2 (p := 2) (q := 3) (C := #[.int .i64 0, .int .i64 0]) Try.underlying71 HI.out rfl _ _ w.heap.size rfl HR5.out) rfl ⟨HF.out, HB.out.trans (HW5.out.below (fun k hk => by omega) HB.out.size)⟩
      | true =>
        have HF := Lib.hid (HY.out HX.out HX2.out hm)
        clear HN HY hm
        go_wp2_with (first | (refine wpList_load_row rfl 71 _ rfl (w.heap.size + 1) rfl 71 _ (0, 0) _ HR1.out Try.underlying71 rfl ?_ ?_; exact HI.out) | (refine wpList_store13 rfl 71 _ _ rfl w.heap.size #[.int .i64 n, .int .i64 g] rfl rfl 71 _ HR0.out HI.out rfl (by simp [Value.oneCell']) ?_; intro w5 h5 hw5; have HR5 := Lib.hid h5; have HW5 := Lib.hid hw5; clear h5 hw5))
        exact bodyPost_ret (v := .tuple #[.agg #[.int .i64 n, .int .i64 g], .int .i64 0]) (ret_cell2 (p := 2) (q := 3) (C := #[.int .i64 n, .int .i64 g]) Try.underlying71 HI.out rfl _ _ w.heap.size rfl HR5.out) rfl ⟨HF.out, HB.out.trans (HW5.out.below (fun k hk => by omega) HB.out.size)⟩
theorem dec13_any (l : List UInt8) (hl : l.length ≤ 140737488351232) (w : World) :
    Calls Try.prog 46 #[.string (S l)] w fun e w' => e = Cu.decV (Cu.dec l) ∧ Below w.heap.size w w' := by
  cases h : M.gets l 1 with
  | none => exact dec13_no1 l hl w h
  | some p =>
    obtain ⟨n, k⟩ := p
    cases h2 : M.gets l k with
    | none => exact dec13_no2 l hl w n k h h2
    | some q => exact dec13_two l hl w n k q.1 q.2 h h2

end Go.Proofs.Ytekmnpmeienhhaa

/- Layer 13: Save, Load: the program's, by contracts. -/
namespace Go.Proofs.Ytekmnpmeienhhaa
set_option linter.unusedVariables false
open Go Go.RowKit Go.Maps

section
variable {X : Nat → Prop} {B d : Nat} {D : Dk.St} {w w' : World}
def loadV13 (r : Int × Cu.C) : Ending := .returned (.tuple #[.agg #[.int .i64 r.2.next, .int .i64 r.2.gap], .int .i64 r.1])
set_option maxRecDepth 100000 in
set_option maxHeartbeats 1000000 in
theorem load13_any (h : DkX X B d D w) : Calls Try.prog 50 #[.pointer (some ⟨d, 0, none⟩)] w fun e w' => e = loadV13 (Cu.load D) ∧ Below w.heap.size w w' := by
  have hb := (Below.refl w.heap.size w).alloc (Nat.le_refl _) (.cells #[.int .i64 0, .int .i64 0] 71)
  have CR := Lib.hid (show Calls Try.prog 26 #[.pointer (some ⟨d, 0, none⟩), .string { data := #[99, 117, 114, 115, 111, 114] }] (w.alloc (.cells #[.int .i64 0, .int .i64 0] 71)) fun e w' => e = .returned (.tuple #[.string (S (Dk.read Cu.nC D).2), .int .i64 (Dk.read Cu.nC D).1]) ∧ Below (w.alloc (.cells #[.int .i64 0, .int .i64 0] 71)).heap.size (w.alloc (.cells #[.int .i64 0, .int .i64 0] 71)) w' from readX (h.below hb) Cu.nC (by simp))
  have hi : (Try.prog.info? 71).map (·.size) = some 2 := by kernel_rfl
  have HI := Lib.hid hi
  have HB := Lib.hid hb
  have hbox := bk_new #[.int .i64 0, .int .i64 0] 71 w
  have HX := Lib.hid hbox
  have hsz := Dk.get_size h.ok.l Cu.nC
  have hrm := h.ok.room
  have hmo := h.ok.most
  have HLE := Lib.hid (show (Dk.get Cu.nC D.L).dat.length ≤ 140737488351232 from by omega)
  clear h hi hb hbox hsz hrm hmo
  by_cases hu : D.up = false
  · have e1 : Dk.read Cu.nC D = (51, []) := by unfold Dk.read; rw [if_pos hu]
    have HF := Lib.hid (show loadV13 (51, Cu.c0) = loadV13 (Cu.load D) from by unfold Cu.load; rw [if_pos hu])
    rw [e1] at CR
    clear e1 hu HLE
    go_enter Try.func50, Try.ntmps50
    go_wp2_with fail
    with_reducible refine CR.out.mono ?_
    rintro e w1 ⟨rfl, hb1⟩
    replace HX := Lib.hid (HX.out.below hb1)
    replace HB := Lib.hid (below_step HB.out hb1)
    clear hb1 CR
    go_wp2_with (refine wpList_store13 rfl 71 _ _ rfl w.heap.size #[.int .i64 0, .int .i64 0] rfl rfl 71 _ HX.out HI.out rfl (by simp [Value.oneCell']) ?_; intro w5 h5 hw5; have HR5 := Lib.hid h5; have HW5 := Lib.hid hw5; clear h5 hw5)
    exact bodyPost_ret (v := .tuple #[.agg #[.int .i64 0, .int .i64 0], .int .i64 51]) (ret_cell2 (p := 2) (q := 3) (C := #[.int .i64 0, .int .i64 0]) Try.underlying71 HI.out rfl _ _ w.heap.size rfl HR5.out) rfl ⟨HF.out, HB.out.trans (HW5.out.below (fun k hk => by omega) HB.out.size)⟩
  by_cases hh : Dk.has Cu.nC D.L = false
  · have e1 : Dk.read Cu.nC D = (4, []) := by unfold Dk.read; rw [if_neg hu, if_pos hh]
    have HF := Lib.hid (show loadV13 (0, Cu.c0) = loadV13 (Cu.load D) from by unfold Cu.load; rw [if_neg hu, if_pos hh])
    rw [e1] at CR
    clear e1 hu hh HLE
    go_enter Try.func50, Try.ntmps50
    go_wp2_with fail
    with_reducible refine CR.out.mono ?_
    rintro e w1 ⟨rfl, hb1⟩
    replace HX := Lib.hid (HX.out.below hb1)
    replace HB := Lib.hid (below_step HB.out hb1)
    clear hb1 CR
    go_wp2_with (refine wpList_store13 rfl 71 _ _ rfl w.heap.size #[.int .i64 0, .int .i64 0] rfl rfl 71 _ HX.out HI.out rfl (by simp [Value.oneCell']) ?_; intro w5 h5 hw5; have HR5 := Lib.hid h5; have HW5 := Lib.hid hw5; clear h5 hw5)
    exact bodyPost_ret (v := .tuple #[.agg #[.int .i64 0, .int .i64 0], .int .i64 0]) (ret_cell2 (p := 2) (q := 3) (C := #[.int .i64 0, .int .i64 0]) Try.underlying71 HI.out rfl _ _ w.heap.size rfl HR5.out) rfl ⟨HF.out, HB.out.trans (HW5.out.below (fun k hk => by omega) HB.out.size)⟩
  have e1 : Dk.read Cu.nC D = (0, (Dk.get Cu.nC D.L).dat) := by unfold Dk.read; rw [if_neg hu, if_neg hh]
  have HF := Lib.hid (show Cu.load D = match Cu.dec (Dk.get Cu.nC D.L).dat with | none => (60, Cu.c0) | some c => (0, c) from by unfold Cu.load; rw [if_neg hu, if_neg hh] <;> rfl)
  rw [e1] at CR
  clear e1 hu hh
  have CD := Lib.hid (fun W => dec13_any (Dk.get Cu.nC D.L).dat HLE.out W)
  generalize (Dk.get Cu.nC D.L).dat = t at *
  cases hd : Cu.dec t with
  | none =>
    rw [hd] at CD HF
    have HF2 := Lib.hid (show loadV13 (60, Cu.c0) = loadV13 (Cu.load D) from by rw [HF.out])
    clear HF hd
    go_enter Try.func50, Try.ntmps50
    go_wp2_with fail
    with_reducible refine CR.out.mono ?_
    rintro e w1 ⟨rfl, hb1⟩
    replace HX := Lib.hid (HX.out.below hb1)
    replace HB := Lib.hid (below_step HB.out hb1)
    clear hb1 CR
    go_wp2_with fail
    with_reducible refine (CD.out _).mono ?_
    rintro e w1 ⟨rfl, hb1⟩
    replace HX := Lib.hid (HX.out.below hb1)
    replace HB := Lib.hid (below_step HB.out hb1)
    clear hb1 CD
    unfold Cu.decV cuC
    simp only [Option.getD, if_true, Cu.c0]
    replace HX := Lib.hid (HX.out.more (.cells #[.int .i64 0, .int .i64 0] 71))
    replace HB := Lib.hid (HB.out.alloc HB.out.size (.cells #[.int .i64 0, .int .i64 0] 71))
    go_wp2_with (refine wpList_store13 rfl 71 _ _ rfl w.heap.size #[.int .i64 0, .int .i64 0] rfl rfl 71 _ HX.out HI.out rfl (by simp [Value.oneCell']) ?_; intro w5 h5 hw5; have HR5 := Lib.hid h5; have HW5 := Lib.hid hw5; clear h5 hw5)
    exact bodyPost_ret (v := .tuple #[.agg #[.int .i64 0, .int .i64 0], .int .i64 60]) (ret_cell2 (p := 2) (q := 3) (C := #[.int .i64 0, .int .i64 0]) Try.underlying71 HI.out rfl _ _ w.heap.size rfl HR5.out) rfl ⟨HF2.out, HB.out.trans (HW5.out.below (fun k hk => by omega) HB.out.size)⟩
  | some c =>
    rw [hd] at CD HF
    have HF2 := Lib.hid (show loadV13 (0, c) = loadV13 (Cu.load D) from by rw [HF.out])
    clear HF hd
    go_enter Try.func50, Try.ntmps50
    go_wp2_with fail
    with_reducible refine CR.out.mono ?_
    rintro e w1 ⟨rfl, hb1⟩
    replace HX := Lib.hid (HX.out.below hb1)
    replace HB := Lib.hid (below_step HB.out hb1)
    clear hb1 CR
    go_wp2_with fail
    with_reducible refine (CD.out _).mono ?_
    rintro e w1 ⟨rfl, hb1⟩
    replace HX := Lib.hid (HX.out.below hb1)
    replace HB := Lib.hid (below_step HB.out hb1)
    clear hb1 CD
    obtain ⟨a, b⟩ := c
    unfold Cu.decV cuC
    simp only [Option.getD, reduceCtorEq, if_false]
    replace HX := Lib.hid (HX.out.more (.cells #[.int .i64 a, .int .i64 b] 71))
    have HY := Lib.hid (bk_new #[.int .i64 a, .int .i64 b] 71 w1)
    replace HB := Lib.hid (HB.out.alloc HB.out.size (.cells #[.int .i64 a, .int .i64 b] 71))
    go_wp2_with (first | (refine wpList_load_row rfl 71 _ rfl w1.heap.size rfl 71 _ (0, 0) _ HY.out Try.underlying71 rfl ?_ ?_; exact HI.out) | (refine wpList_store13 rfl 71 _ _ rfl w.heap.size #[.int .i64 a, .int .i64 b] rfl rfl 71 _ HX.out HI.out rfl (by simp [Value.oneCell']) ?_; intro w5 h5 hw5; have HR5 := Lib.hid h5; have HW5 := Lib.hid hw5; clear h5 hw5))
    exact bodyPost_ret (v := .tuple #[.agg #[.int .i64 a, .int .i64 b], .int .i64 0]) (ret_cell2 (p := 2) (q := 3) (C := #[.int .i64 a, .int .i64 b]) Try.underlying71 HI.out rfl _ _ w.heap.size rfl HR5.out) rfl ⟨HF2.out, HB.out.trans (HW5.out.below (fun k hk => by omega) HB.out.size)⟩
set_option maxRecDepth 100000 in
set_option maxHeartbeats 1000000 in
theorem save13_any (h : DkX X B d D w) (hX : ∀ k, X k → k < w.heap.size) (hB : B ≤ w.heap.size) (c : Cu.C) :
    Calls Try.prog 56 #[.pointer (some ⟨d, 0, none⟩), .agg #[.int .i64 c.next, .int .i64 c.gap]] w (OpX X B d (Cu.save c D) w) := by
  obtain ⟨a, b⟩ := c
  have hb := (Below.refl w.heap.size w).alloc (Nat.le_refl _) (.cells #[.int .i64 a, .int .i64 b] 71)
  have CS := Lib.hid (filesState_any (h.below hb))
  have CE := Lib.hid (fun W => enc13_any ⟨a, b⟩ W)
  have HD := Lib.hid (h.below hb)
  have HB := Lib.hid hb
  have hbox := bk_new #[.int .i64 a, .int .i64 b] 71 w
  have HX := Lib.hid hbox
  have HXX := Lib.hid hX
  have HBB := Lib.hid hB
  have hi : (Try.prog.info? 71).map (·.size) = some 2 := by kernel_rfl
  have HI := Lib.hid hi
  clear h hX hB hb hbox hi
  by_cases hu : D.up = false
  · have HF := Lib.hid (show Cu.save ⟨a, b⟩ D = (51, D) from by unfold Cu.save; rw [if_pos hu])
    rw [hu] at CS
    simp only [Bool.false_eq_true, if_false] at CS
    go_enter Try.func56, Try.ntmps56
    go_wp2_with fail
    with_reducible refine CS.out.mono ?_
    rintro e w1 ⟨rfl, hb1⟩
    have HF2 := Lib.hid (show OpX X B d (Cu.save ⟨a, b⟩ D) w (.returned (.int .i64 51)) w1 from by
      rw [HF.out]
      exact ⟨rfl, HD.out.below hb1, wr_below (below_step HB.out hb1)⟩)
    clear hb1 CS HD
    go_wp2_with fail
    go_ret
    exact HF2.out
  have hu' : D.up = true := by simpa using hu
  rw [hu'] at CS
  simp only [if_true] at CS
  unfold Cu.encR at CE
  cases hm : Cu.may ⟨a, b⟩ with
  | false =>
    have HF := Lib.hid (show Cu.save ⟨a, b⟩ D = (2, D) from by unfold Cu.save; rw [if_neg hu, if_pos hm])
    rw [hm] at CE
    simp only [Bool.false_eq_true, if_false] at CE
    clear hm hu hu'
    go_enter Try.func56, Try.ntmps56
    go_wp2_with fail
    with_reducible refine CS.out.mono ?_
    rintro e w1 ⟨rfl, hb1⟩
    replace HD := Lib.hid (HD.out.below hb1)
    replace HX := Lib.hid (HX.out.below hb1)
    replace HB := Lib.hid (below_step HB.out hb1)
    clear hb1 CS
    go_wp2_with (refine wpList_load_row rfl 71 _ rfl w.heap.size rfl 71 _ (0, 0) _ HX.out Try.underlying71 rfl ?_ ?_; exact HI.out)
    with_reducible refine (CE.out _).mono ?_
    rintro e w2 ⟨rfl, hb1⟩
    have HF2 := Lib.hid (show OpX X B d (Cu.save ⟨a, b⟩ D) w (.returned (.int .i64 2)) w2 from by
      rw [HF.out]
      exact ⟨rfl, HD.out.below hb1, wr_below (below_step HB.out hb1)⟩)
    clear hb1 CE HD
    go_wp2_with fail
    go_ret
    exact HF2.out
  | true =>
    have HF := Lib.hid (show Cu.save ⟨a, b⟩ D = Dk.renew Cu.nD Cu.nC (Cu.enc ⟨a, b⟩) D from by unfold Cu.save; rw [if_neg hu, if_neg (by rw [hm]; simp)])
    have HEL := Lib.hid (show (Cu.enc ⟨a, b⟩).length ≤ 140737488351232 from by have := Cu.enc_len hm; omega)
    rw [hm] at CE
    simp only [if_true] at CE
    clear hm hu hu'
    generalize Cu.enc ⟨a, b⟩ = t at *
    go_enter Try.func56, Try.ntmps56
    go_wp2_with fail
    with_reducible refine CS.out.mono ?_
    rintro e w1 ⟨rfl, hb1⟩
    replace HD := Lib.hid (HD.out.below hb1)
    replace HX := Lib.hid (HX.out.below hb1)
    replace HB := Lib.hid (below_step HB.out hb1)
    clear hb1 CS
    go_wp2_with (refine wpList_load_row rfl 71 _ rfl w.heap.size rfl 71 _ (0, 0) _ HX.out Try.underlying71 rfl ?_ ?_; exact HI.out)
    with_reducible refine (CE.out _).mono ?_
    rintro e w2 ⟨rfl, hb1⟩
    replace HD := Lib.hid (HD.out.below hb1)
    replace HB := Lib.hid (below_step HB.out hb1)
    clear hb1 CE
    have CN := Lib.hid (show Calls Try.prog 87 #[.pointer (some ⟨d, 0, none⟩), .string { data := #[99, 117, 114, 115, 111, 114, 43] }, .string { data := #[99, 117, 114, 115, 111, 114] }, .string (S t)] w2 (OpX X B d (Dk.renew Cu.nD Cu.nC t D) w2) from filesRenew_any HD.out (fun k hk => Nat.lt_of_lt_of_le (HXX.out k hk) HB.out.size) (Nat.le_trans HBB.out HB.out.size) Cu.nD Cu.nC t (by simp) (by simp) HEL.out)
    go_wp2_with fail
    with_reducible refine CN.out.mono ?_
    rintro e w3 ⟨rfl, hd, hw⟩
    have HF2 := Lib.hid (show OpX X B d (Cu.save ⟨a, b⟩ D) w (.returned (.int .i64 (Dk.renew Cu.nD Cu.nC t D).1)) w3 from by
      rw [HF.out]
      exact ⟨rfl, hd, (wr_below HB.out).trans hw⟩)
    clear hd hw CN HD
    go_wp2_with fail
    go_ret
    exact HF2.out
end

end Go.Proofs.Ytekmnpmeienhhaa

/- Layer 13: a disk beside boxes; the example. -/
namespace Go.Proofs.Ytekmnpmeienhhaa
set_option linter.unusedVariables false
open Go Go.RowKit Go.Maps

/-- A disk, and boxes that it doesn't have. -/
structure DB (W : World) (bs : List (Nat × Array Value × TypeId)) (B d : Nat) (D : Dk.St) (w : World) : Prop where
  dk : DkX (fun k => ∃ p ∈ bs, k = p.1) B d D w
  bx : ∀ p ∈ bs, Bk p.2.1 p.2.2 w p.1
  bel : Below W.heap.size W w
  hB : B ≤ w.heap.size
  hW : W.heap.size ≤ B
section
variable {W w w' : World} {bs : List (Nat × Array Value × TypeId)} {B d : Nat} {D : Dk.St}
theorem DB.below (h : DB W bs B d D w) (hb : Below w.heap.size w w') : DB W bs B d D w' := ⟨h.dk.below hb, fun p hp => (h.bx p hp).below hb, below_step h.bel hb, Nat.le_trans h.hB hb.size, h.hW⟩
theorem DB.xlt (h : DB W bs B d D w) : ∀ k, (∃ p ∈ bs, k = p.1) → k < w.heap.size := fun k ⟨p, hp, e⟩ => by rw [e]; exact (h.bx p hp).lt
theorem DB.op {r : Int × Dk.St} {e : Ending} (h : DB W bs B d D w) (ho : OpX (fun k => ∃ p ∈ bs, k = p.1) B d r w e w') : e = .returned (.int .i64 r.1) ∧ DB W bs B d r.2 w' := by
  obtain ⟨o1, o2, o3⟩ := ho
  exact ⟨o1, o2, fun p hp => (h.bx p hp).wr o3 (fun q => q.2 ⟨p, hp, rfl⟩), h.bel.trans (o3.below (fun q hq => Nat.le_trans h.hW hq.1) h.bel.size), Nat.le_trans h.hB o3.size, h.hW⟩
theorem DB.box (h : DB W bs B d D w) (C : Array Value) (T : TypeId) : DB W ((w.heap.size, C, T) :: bs) B d D (w.alloc (.cells C T)) := by
  have hb := (Below.refl w.heap.size w).alloc (Nat.le_refl _) (.cells C T)
  refine ⟨(h.dk.more (fun k hk => ?_)).below hb, fun p hp => ?_, below_step h.bel hb, Nat.le_trans h.hB hb.size, h.hW⟩
  · obtain ⟨p, hp, e⟩ := hk
    rcases List.mem_cons.1 hp with rfl | hp
    · exact .inr (by rw [e]; exact Nat.le_refl _)
    · exact .inl ⟨p, hp, e⟩
  · rcases List.mem_cons.1 hp with rfl | hp
    · exact bk_new _ _ _
    · exact (h.bx p hp).below hb
theorem DB.add (h : DB W bs B d D w) {b : Nat} {C : Array Value} {T : TypeId} (hk : Bk C T w b) (hb : b < B) : DB W ((b, C, T) :: bs) B d D w := by
  refine ⟨?_, fun p hp => ?_, h.bel, h.hB, h.hW⟩
  · obtain ⟨F, h1, h2⟩ := h.dk
    have h1' := h1
    obtain ⟨_, _, _, _, _, _, _, f1⟩ := h1'
    refine ⟨F, h1, fun k hk hx => ?_⟩
    obtain ⟨p, hp, e⟩ := hx
    rcases List.mem_cons.1 hp with rfl | hp
    · have := (f1 k hk).1
      simp only at e
      omega
    · exact h2 k hk ⟨p, hp, e⟩
  · rcases List.mem_cons.1 hp with rfl | hp
    · exact hk
    · exact h.bx p hp
theorem DB.set (h : DB W bs B d D w) {b : Nat} {C : Array Value} {T : TypeId} (hm : (b, C, T) ∈ bs) {C' : Array Value} (hk : Bk C' T w' b) (hw : Wr (fun q => q = b) w w') (hn : bs.Pairwise fun p q => p.1 ≠ q.1) (hWb : W.heap.size ≤ b) :
    DB W (bs.map fun p => if p.1 = b then (b, C', T) else p) B d D w' := by
  refine ⟨(h.dk.wr hw (fun k hk => ⟨_, hm, hk⟩)).less (fun k hk => ?_), fun p hp => ?_, h.bel.trans (hw.below (fun q hq => by rw [hq]; exact hWb) h.bel.size), Nat.le_trans h.hB hw.size, h.hW⟩
  · obtain ⟨p, hp, e⟩ := hk
    obtain ⟨q, hq, rfl⟩ := List.mem_map.1 hp
    split at e
    · exact ⟨_, hm, e⟩
    · exact ⟨q, hq, e⟩
  · obtain ⟨q, hq, rfl⟩ := List.mem_map.1 hp
    split
    · exact hk
    · rename_i hne
      exact (h.bx q hq).wr hw hne
theorem DB.save (h : DB W bs B d D w) (c : Cu.C) : Calls Try.prog 56 #[.pointer (some ⟨d, 0, none⟩), .agg #[.int .i64 c.next, .int .i64 c.gap]] w fun e w' => e = .returned (.int .i64 (Cu.save c D).1) ∧ DB W bs B d (Cu.save c D).2 w' :=
  (save13_any h.dk h.xlt h.hB c).mono fun e w' ho => h.op ho
theorem DB.load (h : DB W bs B d D w) : Calls Try.prog 50 #[.pointer (some ⟨d, 0, none⟩)] w fun e w' => e = loadV13 (Cu.load D) ∧ DB W bs B d D w' :=
  (load13_any h.dk).mono fun e w' ho => ⟨ho.1, h.below ho.2⟩
theorem DB.start (h : DB W bs B d D w) (hs : D.starts ≤ 1000000000) : Calls Try.prog 35 #[.pointer (some ⟨d, 0, none⟩)] w fun e w' => e = .returned (.int .i64 (Dk.start D).1) ∧ DB W bs B d (Dk.start D).2 w' :=
  (startX h.dk h.xlt h.hB hs).mono fun e w' ho => h.op ho
theorem DB.crash (h : DB W bs B d D w) (ks : List Int) (ao : Option Addr) (cap : Nat) (hK : Dk.KsOk ks) (hk : NsA5 w ao ks) (hkX : ∀ a, ks ≠ [] → ao = some a → (∃ p ∈ bs, a.block = p.1) ∨ a.block < B) : Calls Try.prog 37 #[.pointer (some ⟨d, 0, none⟩), .slice ao ks.length cap] w fun e w' => e = .returned (.int .i64 (Dk.crash ks D).1) ∧ DB W bs B d (Dk.crash ks D).2 w' :=
  (crashX h.dk h.xlt h.hB ks ao cap hK hk hkX).mono fun e w' ho => h.op ho
theorem DB.fail (h : DB W bs B d D w) (n : Int) (ks : List Int) (ao : Option Addr) (cap : Nat) (hn : n ≤ 9223372036854775807) (hK : Dk.KsOk ks) (hk : NsA5 w ao ks) : Calls Try.prog 39 #[.pointer (some ⟨d, 0, none⟩), .int .i64 n, .slice ao ks.length cap] w fun e w' => e = .returned (.int .i64 (Dk.fail n ks D).1) ∧ DB W bs B d (Dk.fail n ks D).2 w' :=
  (failX h.dk h.xlt h.hB n ks ao cap hn hK hk).mono fun e w' ho => h.op ho
theorem DB.append (h : DB W bs B d D w) (nm s : List UInt8) (hl : nm.length ≤ 140737488351232) (hs : s.length ≤ 140737488351232) : Calls Try.prog 32 #[.pointer (some ⟨d, 0, none⟩), .string (S nm), .string (S s)] w fun e w' => e = .returned (.int .i64 (Dk.append nm s D).1) ∧ DB W bs B d (Dk.append nm s D).2 w' :=
  (appendX h.dk h.xlt h.hB nm s hl hs).mono fun e w' ho => h.op ho
theorem DB.names (h : DB W bs B d D w) : Calls Try.prog 27 #[.pointer (some ⟨d, 0, none⟩)] w fun e w' => ∃ ao cap, e = .returned (.slice ao D.L.length cap) ∧ TsA5 w' ao (Dk.names D.L) ∧ DB W bs B d D w' ∧ (∀ a, ao = some a → w.heap.size ≤ a.block) :=
  (namesX h.dk).mono fun e w' ho => by
    obtain ⟨ao, cap, rfl, hr, hb⟩ := ho
    have hl : (Dk.names D.L).length = D.L.length := by unfold Dk.names; rw [List.length_map]
    refine ⟨ao, cap, by rw [hl], tsA_row5 hr, h.below hb, fun a ha => (hr.lt a.block (by rw [ha]; rfl)).1⟩
theorem newDB (n : Nat) (w : World) (h1 : 1 ≤ n) (h2 : n ≤ 1048576) {W : World} (hb : Below W.heap.size W w) : Calls Try.prog 17 #[.int .i64 n] w fun e w' => ∃ d, e = .returned (.tuple #[.pointer (some ⟨d, 0, none⟩), .int .i64 0]) ∧ DB W [] w.heap.size d (Dk.new n) w' ∧ Below w.heap.size w w' :=
  (newXd5 n w h1 h2).mono fun e w' ho => by
    obtain ⟨d, rfl, hd, hb2, _⟩ := ho
    exact ⟨d, rfl, ⟨hd.less (fun k hk => by obtain ⟨p, hp, _⟩ := hk; cases hp), fun p hp => (by cases hp), below_step hb hb2, hb2.size, hb.size⟩, hb2⟩
end
namespace Cu
def exD : Dk.St := ⟨100, 0, true, none, [⟨nC, [67, 3, 0], 3⟩]⟩
theorem ex1 : encR ⟨300, 2⟩ = (0, [67, 130, 44, 2]) := by rfl
theorem ex2 : dec [67, 130, 44, 2] = some ⟨300, 2⟩ := by rfl
theorem ex3 : load (Dk.new 100) = (0, c0) := by rfl
theorem ex4 : save ⟨3, 0⟩ (Dk.new 100) = (0, exD) := by rfl
theorem ex5 : load exD = (0, ⟨3, 0⟩) := by rfl
theorem ex6 : save ⟨-1, 0⟩ exD = (2, exD) := by rfl
end Cu
theorem one_ts13 (W : World) (a : List UInt8) : TsA5 (W.alloc (.cells #[.string (S a)] 9)) (some ⟨W.heap.size, 0, none⟩) [a] := fun _ => ⟨W.heap.size, 0, rfl, fun j hj => by
  have h := bk_new #[.string (S a)] 9 W
  have hj2 : j = 0 := by simp at hj; omega
  subst hj2
  exact h.cell 0⟩
theorem ex_texts13 (ao : Option Addr) (ac : Nat) (W : World) (h : TsA5 W ao [Cu.nC]) : Calls Try.prog 33 #[.slice ao 1 ac, .slice (some ⟨W.heap.size, 0, none⟩) 1 1] (W.alloc (.cells #[.string (S Cu.nC)] 9)) fun e w' => e = .returned (.bool true) ∧ Below (W.alloc (.cells #[.string (S Cu.nC)] 9)).heap.size (W.alloc (.cells #[.string (S Cu.nC)] 9)) w' :=
  sameTexts5_any [Cu.nC] [Cu.nC] (by decide) (by decide) ao _ ac 1 _ (h.below ((Below.refl _ _).alloc (Nat.le_refl _) _)) (one_ts13 W Cu.nC)
set_option maxRecDepth 100000 in
set_option maxHeartbeats 4000000 in
theorem does13 (w : World) : Calls Try.prog 48 #[] w fun e w' => e = .returned (.bool true) ∧ Below w.heap.size w w' := by
  have CN := Lib.hid (show Calls Try.prog 17 #[.int .i64 100] w _ from newDB 100 w (by decide) (by decide) (Below.refl w.heap.size w))
  have CE := Lib.hid (fun W => show Calls Try.prog 44 #[.agg #[.int .i64 300, .int .i64 2]] W fun e w' => e = .returned (.tuple #[.string { data := #[67, 130, 44, 2] }, .int .i64 0]) ∧ Below W.heap.size W w' from by have := enc13_any ⟨300, 2⟩ W; rw [Cu.ex1] at this; exact this)
  have CD := Lib.hid (fun W => show Calls Try.prog 46 #[.string { data := #[67, 130, 44, 2] }] W fun e w' => e = .returned (.tuple #[.agg #[.int .i64 300, .int .i64 2], .int .i64 0]) ∧ Below W.heap.size W w' from by have := dec13_any [67, 130, 44, 2] (by decide) W; rw [Cu.ex2] at this; exact this)
  go_enter Try.func48, Try.ntmps48
  go_wp2_with fail
  with_reducible refine CN.out.mono ?_
  rintro e w0 ⟨d, rfl, hd, -⟩
  have HD := Lib.hid hd
  clear hd CN
  generalize w.heap.size = B0 at HD
  go_wp2_with fail
  with_reducible refine (CE.out _).mono ?_
  rintro e w1 ⟨rfl, hb⟩
  replace HD := Lib.hid (HD.out.below hb)
  clear hb CE
  go_wp2_with fail
  with_reducible refine (CD.out _).mono ?_
  rintro e w2 ⟨rfl, hb⟩
  replace HD := Lib.hid ((HD.out.below hb).box #[.int .i64 300, .int .i64 2] 71)
  clear hb CD
  obtain ⟨b5, hb5⟩ : ∃ x, x = w2.heap.size := ⟨_, rfl⟩
  have CL := Lib.hid HD.out.load
  rw [Cu.ex3] at CL
  go_wp2_with fail
  with_reducible refine CL.out.mono ?_
  rintro e w3 ⟨rfl, hd⟩
  replace HD := Lib.hid (hd.box #[.int .i64 0, .int .i64 0] 71)
  clear hd CL
  unfold loadV13 Cu.c0
  simp only
  have CS := Lib.hid (HD.out.save ⟨3, 0⟩)
  rw [Cu.ex4] at CS
  go_wp2_with fail
  with_reducible refine CS.out.mono ?_
  rintro e w4 ⟨rfl, hd⟩
  replace HD := Lib.hid hd
  clear hd CS
  have CL := Lib.hid HD.out.load
  rw [Cu.ex5] at CL
  go_wp2_with fail
  with_reducible refine CL.out.mono ?_
  rintro e w5 ⟨rfl, hd⟩
  replace HD := Lib.hid (hd.box #[.int .i64 3, .int .i64 0] 71)
  clear hd CL
  unfold loadV13
  simp only
  go_upto_region 7 with fail
  have q1 := HD.out.bx _ (List.mem_cons_self ..)
  have q2 := HD.out.bx _ (List.mem_cons_of_mem _ (List.mem_cons_self ..))
  have q3 := HD.out.bx _ (List.mem_cons_of_mem _ (List.mem_cons_of_mem _ (List.mem_cons_self ..)))
  have CN := Lib.hid (HD.out.names)
  rw [show Cu.exD.L.length = 1 from rfl] at CN
  generalize w5.alloc (.cells #[.int .i64 3, .int .i64 0] 71) = w6 at *
  have c0 : w6.cell? ⟨w5.heap.size, 0, none⟩ = some (.int .i64 3) := q1.cell 0
  have c1 : w6.cell? ⟨w5.heap.size, 1, none⟩ = some (.int .i64 0) := q1.cell 1
  have c2 : w6.cell? ⟨w3.heap.size, 0, none⟩ = some (.int .i64 0) := q2.cell 0
  have c3 : w6.cell? ⟨w3.heap.size, 1, none⟩ = some (.int .i64 0) := q2.cell 1
  have c4 : w6.cell? ⟨w2.heap.size, 0, none⟩ = some (.int .i64 300) := q3.cell 0
  have c5 : w6.cell? ⟨w2.heap.size, 1, none⟩ = some (.int .i64 2) := q3.cell 1
  clear q1 q2 q3 hb5
  go_wp2_with fail
  with_reducible refine CN.out.mono ?_
  rintro e w7 ⟨ao, ac, rfl, hr, hd, -⟩
  replace HD := Lib.hid (hd.box #[.string (S Cu.nC)] 9)
  have CT := Lib.hid (ex_texts13 ao ac w7 hr)
  clear hr hd CN c0 c1 c2 c3 c4 c5
  go_wp2_with fail
  with_reducible refine CT.out.mono ?_
  rintro e w8 ⟨rfl, hb⟩
  replace HD := Lib.hid (HD.out.below hb)
  clear hb CT
  have CS := Lib.hid (HD.out.save ⟨-1, 0⟩)
  rw [Cu.ex6] at CS
  go_wp2_with fail
  with_reducible refine CS.out.mono ?_
  rintro e w9 ⟨rfl, hd⟩
  go_wp2_with fail
  go_ret
  exact ⟨rfl, hd.bel⟩

end Go.Proofs.Ytekmnpmeienhhaa
