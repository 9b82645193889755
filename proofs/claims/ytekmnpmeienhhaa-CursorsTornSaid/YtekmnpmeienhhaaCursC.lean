/- Layer 13: which cursors may be; their bytes; the cursor of bytes: the program's, by contracts. -/
import Derived.Test.YtekmnpmeienhhaaCursM
import Derived.Test.YtekmnpmeienhhaaDiskK
import Derived.Test.YtekmnpmeienhhaaIntsC2
import Derived.Deep.QuietTactic
import Derived.BigQuiet
import Derived.Lib.QuietBelow
namespace Go.Proofs.Ytekmnpmeienhhaa
set_option linter.unusedVariables false
open Go Go.RowKit Go.Maps
attribute [local go_sem ↓] run_index_S
attribute [local go_sem] S_append S_extract

def cuC (c : Cu.C) : Array Value := #[.int .i64 c.next, .int .i64 c.gap]
theorem cuC_one (c : Cu.C) : (cuC c).all (·.oneCell') = true := by simp [cuC, Value.oneCell']
theorem Cu.may_false {a b : Int} (h : ¬ ((0 ≤ a ∧ a ≤ 2147483647) ∧ (0 ≤ b ∧ b ≤ 2147483647))) : Cu.may ⟨a, b⟩ = false := by
  cases hm : Cu.may ⟨a, b⟩ with
  | false => rfl
  | true => exact absurd (Cu.may_iff.1 hm) h
/-- A whole struct stored: the world behind it by what it is good for. -/
theorem wpList_store13 {ops : Array Oper} {rest : List Oper} {o : Oper} {a : Act} {w : World} {Q : Exit → Act → World → Prop} (hgd : o.guard = none) (ty : TypeId) (x y : Operand) (ho : o.op = .store ty x y)
    (g : Nat) (cells : Array Value) (hx : a.eval x = .pointer (some ⟨g, 0, none⟩)) (hy : a.eval y = .agg cells)
    (t : TypeId) (old : Array Value) (hg : Bk old t w g) (hi : (Try.prog.info? ty).map (·.size) = some cells.size)
    (hold : old.size = cells.size) (h1 : cells.all (·.oneCell') = true)
    (h : ∀ w', Bk cells t w' g → Wr (fun q => q = g) w w' → wpList Try.prog ops Q rest (a.put o.dst undef) w') :
    wpList Try.prog ops Q (o :: rest) a w :=
  wpList_store_row hgd ty x y ho g cells hx hy t old hg hi hold h1 (h _ (setRow_heap w g _ _ _ _ hg) ⟨rfl, rfl, rfl, by simp [World.setRow], fun k hk hn => by
    unfold World.setRow
    simp only [Array.getElem?_modify]
    rw [if_neg (fun e => hn e.symm)]⟩)
set_option maxHeartbeats 400000 in
theorem mayBe13_any (a b : Int) (w : World) : Calls Try.prog 77 #[.agg #[.int .i64 a, .int .i64 b]] w fun e w' => e = .returned (.bool (Cu.may ⟨a, b⟩)) ∧ Below w.heap.size w w' := by
  by_cases h1 : 0 ≤ a
  case neg =>
    rw [Cu.may_false (fun h => h1 h.1.1)]
    go_enter Try.func77, Try.ntmps77
    go_wp2_with fail
    go_ret
    exact ⟨rfl, (Below.refl _ _).alloc (Nat.le_refl _) _⟩
  by_cases h2 : a ≤ 2147483647
  case neg =>
    rw [Cu.may_false (fun h => h2 h.1.2)]
    go_enter Try.func77, Try.ntmps77
    go_wp2_with fail
    go_ret
    exact ⟨rfl, (Below.refl _ _).alloc (Nat.le_refl _) _⟩
  by_cases h3 : 0 ≤ b
  case neg =>
    rw [Cu.may_false (fun h => h3 h.2.1)]
    go_enter Try.func77, Try.ntmps77
    go_wp2_with fail
    go_ret
    exact ⟨rfl, (Below.refl _ _).alloc (Nat.le_refl _) _⟩
  by_cases h4 : b ≤ 2147483647
  case neg =>
    rw [Cu.may_false (fun h => h4 h.2.2)]
    go_enter Try.func77, Try.ntmps77
    go_wp2_with fail
    go_ret
    exact ⟨rfl, (Below.refl _ _).alloc (Nat.le_refl _) _⟩
  rw [Cu.may_iff.2 ⟨⟨h1, h2⟩, h3, h4⟩]
  go_enter Try.func77, Try.ntmps77
  go_wp2_with fail
  go_ret
  exact ⟨rfl, (Below.refl _ _).alloc (Nat.le_refl _) _⟩
theorem ret_se13 {a : List UInt8} {b : List UInt8} {n : Int} (h : a = b) : Ending.returned (.tuple #[.string ⟨a.toArray⟩, .int .i64 n]) = .returned (.tuple #[.string (S b), .int .i64 n]) := by rw [h]
set_option maxHeartbeats 1000000 in
theorem enc13_yes (n g : Nat) (hm : Cu.may ⟨n, g⟩ = true) (w : World) :
    Calls Try.prog 44 #[.agg #[.int .i64 n, .int .i64 g]] w fun e w' => e = .returned (.tuple #[.string (S (Cu.enc ⟨n, g⟩)), .int .i64 0]) ∧ Below w.heap.size w w' := by
  have hb := Cu.may_iff.1 hm
  dsimp only at hb
  have C0 := Lib.hid (fun W => by have := mayBe13_any n g W; rw [hm] at this; exact this)
  have c1 := fun W => put_nat n W (by omega)
  have c2 := fun W => put_nat g W (by omega)
  have henc : Cu.enc ⟨n, g⟩ = 67 :: (M.putN n ++ M.putN g) := rfl
  have p1 := (M.putN_length n).2
  have p2 := (M.putN_length g).2
  generalize Cu.enc ⟨n, g⟩ = q at *
  generalize M.putN n = e1 at *
  generalize M.putN g = e2 at *
  have C1 := Lib.hid c1
  have C2 := Lib.hid c2
  have HQ := Lib.hid henc
  clear c1 c2 henc hm
  go_enter Try.func44, Try.ntmps44
  go_wp2_with fail
  with_reducible refine (C0.out _).mono ?_
  rintro e w1 ⟨rfl, hb1⟩
  have HR := Lib.hid ((bk_new #[.int .i64 n, .int .i64 g] 71 w).below hb1)
  have HB := Lib.hid (below_step ((Below.refl _ _).alloc (Nat.le_refl _) _) hb1)
  clear hb1
  go_wp2_with fail
  have g0 : ∀ d os, (Sort.grow (redrawn w1 d) os).cell? ⟨w.heap.size, 0, none⟩ = some (.int .i64 n) := fun d os => cell_regrown (HR.out.cell 0) d os
  have g1 : ∀ d os, (Sort.grow (redrawn w1 d) os).cell? ⟨w.heap.size, 1, none⟩ = some (.int .i64 g) := fun d os => cell_regrown (HR.out.cell 1) d os
  refine wp_region_quiet_below (by kernel_rfl) (by kernel_rfl) ?_
  repeat (go_big_quiet_step ((first | (go_at_call 78; with_reducible exact Calls.regrown_of (C1.out _)) | (go_at_call 78; with_reducible exact Calls.regrown_of (C2.out _)))))
  refine wpQuiet_nil ?_
  intro _ hw1
  obtain ⟨⟨d1, o1⟩, hw1⟩ := hw1
  subst hw1
  go_wp2_with fail
  go_ret2
  exact ⟨ret_se13 (by rw [HQ.out]), below_step HB.out (below_regrown _ d1 o1)⟩
theorem enc13_no (n g : Int) (hm : Cu.may ⟨n, g⟩ = false) (w : World) :
    Calls Try.prog 44 #[.agg #[.int .i64 n, .int .i64 g]] w fun e w' => e = .returned (.tuple #[.string ⟨#[]⟩, .int .i64 2]) ∧ Below w.heap.size w w' := by
  have C0 := Lib.hid (fun W => by have := mayBe13_any n g W; rw [hm] at this; exact this)
  clear hm
  go_enter Try.func44, Try.ntmps44
  go_wp2_with fail
  with_reducible refine (C0.out _).mono ?_
  rintro e w1 ⟨rfl, hb1⟩
  go_wp2_with fail
  go_ret2
  exact ⟨rfl, below_step ((Below.refl _ _).alloc (Nat.le_refl _) _) hb1⟩
theorem Cu.nat (c : Cu.C) (h : Cu.may c = true) : ∃ n g : Nat, c = ⟨n, g⟩ := by
  obtain ⟨a, b⟩ := c
  obtain ⟨⟨h1, _⟩, h2, _⟩ := Cu.may_iff.1 h
  dsimp only at h1 h2
  obtain ⟨n, rfl⟩ := Int.eq_ofNat_of_zero_le h1
  obtain ⟨g, rfl⟩ := Int.eq_ofNat_of_zero_le h2
  exact ⟨n, g, rfl⟩
theorem enc13_any (c : Cu.C) (w : World) :
    Calls Try.prog 44 #[.agg #[.int .i64 c.next, .int .i64 c.gap]] w fun e w' => e = .returned (.tuple #[.string (S (Cu.encR c).2), .int .i64 (Cu.encR c).1]) ∧ Below w.heap.size w w' := by
  unfold Cu.encR
  cases hm : Cu.may c with
  | false => rw [if_neg (by simp)]; exact enc13_no _ _ hm w
  | true =>
    rw [if_pos rfl]
    obtain ⟨n, g, rfl⟩ := Cu.nat c hm
    exact enc13_yes n g hm w
/-- What Decode tells. -/
def Cu.decV (r : Option Cu.C) : Ending := .returned (.tuple #[.agg (cuC (r.getD Cu.c0)), .int .i64 (if r = none then 30 else 0)])
theorem Cu.decV_none {r : Option Cu.C} (h : r = none) : Ending.returned (.tuple #[.agg (cuC Cu.c0), .int .i64 30]) = Cu.decV r := by rw [h]; rfl
theorem Cu.decV_some {r : Option Cu.C} {c : Cu.C} (h : r = some c) : Ending.returned (.tuple #[.agg (cuC c), .int .i64 0]) = Cu.decV r := by rw [h]; rfl
theorem Cu.dec_no1 {l : List UInt8} (h : M.gets l 1 = none) : Cu.dec l = none := by unfold Cu.dec; rw [h]
theorem Cu.dec_no2 {l : List UInt8} {n k : Nat} (h : M.gets l 1 = some (n, k)) (h2 : M.gets l k = none) : Cu.dec l = none := by unfold Cu.dec; rw [h]; simp only [h2]
theorem Cu.dec_eq {l : List UInt8} {n k g e : Nat} (h : M.gets l 1 = some (n, k)) (h2 : M.gets l k = some (g, e)) : Cu.dec l = if e = l.length ∧ l.head? = some 67 ∧ Cu.may ⟨n, g⟩ = true then some ⟨n, g⟩ else none := by unfold Cu.dec; rw [h]; simp only [h2]
set_option maxHeartbeats 1000000 in
set_option maxRecDepth 100000 in
theorem dec13_no1 (l : List UInt8) (hl : l.length ≤ 140737488351232) (w : World) (h : M.gets l 1 = none) :
    Calls Try.prog 46 #[.string (S l)] w fun e w' => e = Cu.decV (Cu.dec l) ∧ Below w.heap.size w w' := by
  have C1 := Lib.hid (fun W => by have := get_any l 1 W (by omega); rw [h] at this; exact this)
  have C2 := Lib.hid (fun W => get_any l 0 W (by omega))
  have HF := Lib.hid (Cu.decV_none (Cu.dec_no1 h))
  have hi : (Try.prog.info? 71).map (·.size) = some 2 := by kernel_rfl
  have HI := Lib.hid hi
  clear h hi
  go_enter Try.func46, Try.ntmps46
  go_wp2_with fail
  with_reducible refine (C1.out _).mono ?_
  rintro e w1 ⟨rfl, rfl⟩
  unfold tri
  go_wp2_with fail
  with_reducible refine (C2.out _).mono ?_
  rintro e w1 ⟨rfl, rfl⟩
  cases hg : M.gets l 0 with
  | none =>
    unfold tri
    go_wp2_with fail
    exact bodyPost_ret (v := .tuple #[.agg #[.int .i64 0, .int .i64 0], .int .i64 30]) (ret_cell2 (p := 2) (q := 3) (C := #[.int .i64 0, .int .i64 0]) Try.underlying71 HI.out rfl _ _ w.heap.size rfl ((bk_new _ _ _).more _)) rfl ⟨HF.out, below_two5 _ _ _⟩
  | some p =>
    obtain ⟨g, e⟩ := p
    unfold tri
    go_wp2_with fail
    exact bodyPost_ret (v := .tuple #[.agg #[.int .i64 0, .int .i64 0], .int .i64 30]) (ret_cell2 (p := 2) (q := 3) (C := #[.int .i64 0, .int .i64 0]) Try.underlying71 HI.out rfl _ _ w.heap.size rfl ((bk_new _ _ _).more _)) rfl ⟨HF.out, below_two5 _ _ _⟩
set_option maxHeartbeats 1000000 in
set_option maxRecDepth 100000 in
theorem dec13_no2 (l : List UInt8) (hl : l.length ≤ 140737488351232) (w : World) (n k : Nat) (h : M.gets l 1 = some (n, k)) (h2 : M.gets l k = none) :
    Calls Try.prog 46 #[.string (S l)] w fun e w' => e = Cu.decV (Cu.dec l) ∧ Below w.heap.size w w' := by
  have C1 := Lib.hid (fun W => by have := get_any l 1 W (by omega); rw [h] at this; exact this)
  have C2 := Lib.hid (fun W => by have := get_any l k W (by omega); rw [h2] at this; exact this)
  have HF := Lib.hid (Cu.decV_none (Cu.dec_no2 h h2))
  have hi : (Try.prog.info? 71).map (·.size) = some 2 := by kernel_rfl
  have HI := Lib.hid hi
  clear h h2 hi
  go_enter Try.func46, Try.ntmps46
  go_wp2_with fail
  with_reducible refine (C1.out _).mono ?_
  rintro e w1 ⟨rfl, rfl⟩
  unfold tri
  go_wp2_with fail
  with_reducible refine (C2.out _).mono ?_
  rintro e w1 ⟨rfl, rfl⟩
  unfold tri
  go_wp2_with fail
  exact bodyPost_ret (v := .tuple #[.agg #[.int .i64 0, .int .i64 0], .int .i64 30]) (ret_cell2 (p := 2) (q := 3) (C := #[.int .i64 0, .int .i64 0]) Try.underlying71 HI.out rfl _ _ w.heap.size rfl ((bk_new _ _ _).more _)) rfl ⟨HF.out, below_two5 _ _ _⟩
set_option maxHeartbeats 1000000 in
set_option maxRecDepth 100000 in
theorem dec13_two (l : List UInt8) (hl : l.length ≤ 140737488351232) (w : World) (n k g e : Nat) (h : M.gets l 1 = some (n, k)) (h2 : M.gets l k = some (g, e)) :
    Calls Try.prog 46 #[.string (S l)] w fun e w' => e = Cu.decV (Cu.dec l) ∧ Below w.heap.size w w' := by
  have C1 := Lib.hid (fun W => by have := get_any l 1 W (by omega); rw [h] at this; exact this)
  have C2 := Lib.hid (fun W => by have := get_any l k W (by omega); rw [h2] at this; exact this)
  have hlen := (M.gets_bounds h).2.2.1
  have HD := Lib.hid (Cu.dec_eq h h2)
  have CM := Lib.hid (fun W => mayBe13_any n g W)
  have hi : (Try.prog.info? 71).map (·.size) = some 2 := by kernel_rfl
  have HI := Lib.hid hi
  have hk := (M.gets_bounds h).2.1
  clear h h2 hi
  cases l with
  | nil => simp at hlen; omega
  | cons x r =>
    have kpt := run_piece_to (P := Try.prog) 9 Try.underlying9 (x :: r) 1 1 rfl (by simp)
    have ht : (x :: r).take 1 = [x] := by simp
    rw [ht] at kpt
    have HN := Lib.hid (fun (q : ¬ ((e : Int) = (r.length : Int) + 1 ∧ x = 67 ∧ Cu.may ⟨n, g⟩ = true)) => Cu.decV_none (r := Cu.dec (x :: r)) (by
      rw [HD.out, if_neg]
      rintro ⟨q1, q2, q3⟩
      refine q ⟨?_, ?_, q3⟩
      · rw [q1, List.length_cons]; omega
      · simpa using q2))
    have HY := Lib.hid (fun (q1 : (e : Int) = (r.length : Int) + 1) (q2 : x = 67) (q3 : Cu.may ⟨n, g⟩ = true) => Cu.decV_some (r := Cu.dec (x :: r)) (c := ⟨n, g⟩) (by
      rw [HD.out, if_pos]
      refine ⟨by rw [List.length_cons]; omega, by rw [q2]; rfl, q3⟩))
    clear HD hlen ht hk
    go_enter Try.func46, Try.ntmps46
    go_wp2_with fail
    with_reducible refine (C1.out _).mono ?_
    rintro e w1 ⟨rfl, rfl⟩
    unfold tri
    go_wp2_with fail
    with_reducible refine (C2.out _).mono ?_
    rintro e w1 ⟨rfl, rfl⟩
    unfold tri
    go_wp2_with fail
    any_goals (rename_i q; exact bodyPost_ret (v := .tuple #[.agg #[.int .i64 0, .int .i64 0], .int .i64 30]) (ret_cell2 (p := 2) (q := 3) (C := #[.int .i64 0, .int .i64 0]) Try.underlying71 HI.out rfl _ _ w.heap.size rfl ((bk_new _ _ _).more _)) rfl ⟨HN.out (fun z => by first | exact q z.1 | exact q z.2.1), below_two5 _ _ _⟩)
    · rename_i q1 q2 _ _
      have HX := Lib.hid q1
      have HX2 := Lib.hid q2
      clear q1 q2
      with_reducible refine (CM.out _).mono ?_
      rintro e w4 ⟨rfl, hb⟩
      have HR0 := Lib.hid (((bk_new #[.int .i64 0, .int .i64 0] 71 w).more (.cells #[.int .i64 n, .int .i64 g] 71)).below hb)
      have HR1 := Lib.hid ((bk_new #[.int .i64 n, .int .i64 g] 71 (w.alloc (.cells #[.int .i64 0, .int .i64 0] 71))).below hb)
      have HB := Lib.hid (below_step (below_two5 _ _ _) hb)
      rw [sz5] at HR1
      clear hb
      cases hm : Cu.may ⟨n, g⟩ with
      | false =>
        have HF := Lib.hid (HN.out (fun q => by rw [hm] at q; cases q.2.2))
        clear HN HY hm
        go_wp2_with (refine wpList_store13 rfl 71 _ _ rfl w.heap.size #[.int .i64 0, .int .i64 0] rfl rfl 71 _ HR0.out HI.out rfl (by simp [Value.oneCell']) ?_; intro w5 h5 hw5; have HR5 := Lib.hid h5; have HW5 := Lib.hid hw5; clear h5 hw5)
        exact bodyPost_ret (v := .tuple #[.agg #[.int .i64 0, .int .i64 0], .int .i64 30]) (ret_cell2 (p := 2) (q := 3) (C := #[.int .i64 0, .int .i64 0]) Try.underlying71 HI.out rfl _ _ w.heap.size rfl HR5.out) rfl ⟨HF.out, HB.out.trans (HW5.out.below (fun k hk => by omega) HB.out.size)⟩
      | true =>
        have HF := Lib.hid (HY.out HX.out HX2.out hm)
        clear HN HY hm
        go_wp2_with (first | (refine wpList_load_row rfl 71 _ rfl (w.heap.size + 1) rfl 71 _ (0, 0) _ HR1.out Try.underlying71 rfl ?_ ?_; exact HI.out) | (refine wpList_store13 rfl 71 _ _ rfl w.heap.size #[.int .i64 n, .int .i64 g] rfl rfl 71 _ HR0.out HI.out rfl (by simp [Value.oneCell']) ?_; intro w5 h5 hw5; have HR5 := Lib.hid h5; have HW5 := Lib.hid hw5; clear h5 hw5))
        exact bodyPost_ret (v := .tuple #[.agg #[.int .i64 n, .int .i64 g], .int .i64 0]) (ret_cell2 (p := 2) (q := 3) (C := #[.int .i64 n, .int .i64 g]) Try.underlying71 HI.out rfl _ _ w.heap.size rfl HR5.out) rfl ⟨HF.out, HB.out.trans (HW5.out.below (fun k hk => by omega) HB.out.size)⟩
theorem dec13_any (l : List UInt8) (hl : l.length ≤ 140737488351232) (w : World) :
    Calls Try.prog 46 #[.string (S l)] w fun e w' => e = Cu.decV (Cu.dec l) ∧ Below w.heap.size w w' := by
  cases h : M.gets l 1 with
  | none => exact dec13_no1 l hl w h
  | some p =>
    obtain ⟨n, k⟩ := p
    cases h2 : M.gets l k with
    | none => exact dec13_no2 l hl w n k h h2
    | some q => exact dec13_two l hl w n k q.1 q.2 h h2

end Go.Proofs.Ytekmnpmeienhhaa
