/- Layer 21: whether a cell says nothing any more, the program's and the document's, by contracts. -/
import Derived.Test.YtjlddackpckmfaaRowsE
import Derived.Test.YtjlddackpckmfaaKeysP3
import Derived.Test.YtjlddackpckmfaaKeysR3
namespace Go.Proofs.Ytjlddackpckmfaa
set_option linter.unusedVariables false
open Go Go.RowKit
attribute [local go_sem ↓] run_index_S
attribute [local go_sem] S_append S_extract

theorem spanC_fits {c : M.Cl} {x : M.Sp} (hl : c.val.length ≤ 140737488351232) (h : M.spanC c = some x) : x.fits := by
  unfold M.spanC at h
  cases hd : M.dec c.val with
  | none => simp [hd] at h
  | some y =>
    rw [hd] at h
    simp only at h
    split at h
    · cases h
      rw [M.dec_take] at hd
      cases ht : M.take c.val 0 with
      | none => simp [ht] at hd
      | some q =>
        obtain ⟨z, e⟩ := q
        rw [ht] at hd
        simp only at hd
        split at hd
        · cases hd; exact take_fits hl ht
        · cases hd
    · cases h

set_option maxHeartbeats 2000000 in
set_option maxRecDepth 100000 in
theorem dropped_some (c : M.Cl) (hl : c.val.length ≤ 140737488351232) (hk : c.key.length ≤ 140737488351232) (n : Int) (hn1 : -9223372036854775808 ≤ n) (hn2 : n ≤ 9223372036854775807) (x : M.Sp) (hx : x.fits) (hs : M.spanC c = some x) (w : World) :
    Calls Try.prog 17 #[.agg (clA c), .int .i64 n] w fun e w' => e = .returned (.bool (M.pastB x.start n)) ∧ Below w.heap.size w w' := by
  have HA := Lib.hid (rowIn_new (clA c) 25 w)
  have HB := Lib.hid ((Below.refl w.heap.size w).alloc (Nat.le_refl _) (.cells (clA c) 25))
  have C1 := Lib.hid (fun W => by have := span_any c hl W; unfold SpanR at this; rw [hs] at this; simp only [decX, Option.isSome] at this; exact this)
  have C2 := Lib.hid (fun W => expired_any x hx n hn1 hn2 W)
  clear hs
  go_enter Try.func17, Try.ntmps17
  go_wp2_with (refine wpList_load_row rfl 25 _ rfl w.heap.size rfl 25 _ (0, 0) _ HA.out Try.underlying25 rfl ?_ ?_; kernel_rfl)
  with_reducible refine (C1.out _).mono ?_
  rintro e w1 ⟨rfl, hb1⟩
  have HA1 := Lib.hid (HA.out.below hb1)
  have HB1 := Lib.hid (below_step HB.out hb1)
  clear hb1
  go_wp2_with (first | (refine wpList_store_hid rfl 23 _ _ rfl w1.heap.size _ rfl rfl 23 (spC M.sp0) (spIn_new w1) ?_ rfl (spC_one x) ?_; kernel_rfl; intro w2 hr2 hbel2 hoth2 hsz2; have hb2 := hbel2 w1.heap.size w1 (Nat.le_refl _) ((Below.refl _ _).alloc (Nat.le_refl _) _); have HA2 := Lib.hid (HA1.out.below hb2); have HB2 := Lib.hid (below_step HB1.out hb2); have HX2 := Lib.hid (show RowIn (spA x) 23 w2 w1.heap.size from hr2); clear hr2 hbel2 hoth2 hsz2 hb2) | (refine wpList_load_row rfl 23 _ rfl w1.heap.size rfl 23 _ (0, 0) _ HX2.out Try.underlying23 rfl ?_ ?_; kernel_rfl))
  with_reducible refine (C2.out _).mono ?_
  rintro e w3 ⟨rfl, hb3⟩
  have HB3 := Lib.hid (below_step HB2.out hb3)
  clear hb3
  go_wp2_with fail
  go_ret
  exact ⟨rfl, HB3.out⟩

set_option maxHeartbeats 2000000 in
set_option maxRecDepth 100000 in
theorem dropped_no (c : M.Cl) (hl : c.val.length ≤ 140737488351232) (hk : c.key.length ≤ 140737488351232) (n : Int) (hn1 : -9223372036854775808 ≤ n) (hn2 : n ≤ 9223372036854775807) (hs : M.spanC c = none) (hp : M.parse c.key = none) (w : World) :
    Calls Try.prog 17 #[.agg (clA c), .int .i64 n] w fun e w' => e = .returned (.bool false) ∧ Below w.heap.size w w' := by
  have HA := Lib.hid (rowIn_new (clA c) 25 w)
  have HB := Lib.hid ((Below.refl w.heap.size w).alloc (Nat.le_refl _) (.cells (clA c) 25))
  have C1 := Lib.hid (fun W => by have := span_any c hl W; unfold SpanR at this; rw [hs] at this; simp only [decX, Option.isSome] at this; exact this)
  have C2 := Lib.hid (fun W => by have := parse_any c.key hk W; rw [hp, ptR_none] at this; exact this)
  clear hs hp
  go_enter Try.func17, Try.ntmps17
  go_wp2_with (refine wpList_load_row rfl 25 _ rfl w.heap.size rfl 25 _ (0, 0) _ HA.out Try.underlying25 rfl ?_ ?_; kernel_rfl)
  with_reducible refine (C1.out _).mono ?_
  rintro e w1 ⟨rfl, hb1⟩
  have HA1 := Lib.hid (HA.out.below hb1)
  have HB1 := Lib.hid (below_step HB.out hb1)
  clear hb1
  go_wp2_with (refine wpList_store_hid rfl 23 _ _ rfl w1.heap.size _ rfl rfl 23 (spC M.sp0) (spIn_new w1) ?_ rfl (spC_one M.sp0) ?_; kernel_rfl; intro w2 hr2 hbel2 hoth2 hsz2; have hb2 := hbel2 w1.heap.size w1 (Nat.le_refl _) ((Below.refl _ _).alloc (Nat.le_refl _) _); have HA2 := Lib.hid (HA1.out.below hb2); have HB2 := Lib.hid (below_step HB1.out hb2); have HX2 := Lib.hid (show RowIn (spA M.sp0) 23 w2 w1.heap.size from hr2); have k0 := HA2.out.cell 0; clear hr2 hbel2 hoth2 hsz2 hb2)
  with_reducible refine (C2.out _).mono ?_
  rintro e w3 ⟨rfl, hb3⟩
  have HB3 := Lib.hid (below_step HB2.out hb3)
  clear hb3 k0
  go_wp2_with (refine wpList_store_hid rfl 65 _ _ rfl w3.heap.size _ rfl rfl 65 pt0 (rowIn_new pt0 65 w3) ?_ rfl (by simp [Value.oneCell']) ?_; kernel_rfl; intro w4 hr4 hbel4 hoth4 hsz4; have hb4 := hbel4 w3.heap.size w3 (Nat.le_refl _) ((Below.refl _ _).alloc (Nat.le_refl _) _); have HB4 := Lib.hid (below_step HB3.out hb4); have q0 := hr4.cell 0; have q3 := hr4.cell 3; clear hr4 hbel4 hoth4 hsz4 hb4)
  go_ret
  exact ⟨rfl, HB4.out⟩

set_option maxHeartbeats 2000000 in
set_option maxRecDepth 100000 in
theorem dropped_span (c : M.Cl) (hl : c.val.length ≤ 140737488351232) (hk : c.key.length ≤ 140737488351232) (n : Int) (hn1 : -9223372036854775808 ≤ n) (hn2 : n ≤ 9223372036854775807) (hs : M.spanC c = none) (p : M.Pt) (hp : M.parse c.key = some p) (h120 : ¬ p.kind = 120) (w : World) :
    Calls Try.prog 17 #[.agg (clA c), .int .i64 n] w fun e w' => e = .returned (.bool false) ∧ Below w.heap.size w w' := by
  have HA := Lib.hid (rowIn_new (clA c) 25 w)
  have HB := Lib.hid ((Below.refl w.heap.size w).alloc (Nat.le_refl _) (.cells (clA c) 25))
  have C1 := Lib.hid (fun W => by have := span_any c hl W; unfold SpanR at this; rw [hs] at this; simp only [decX, Option.isSome] at this; exact this)
  have C2 := Lib.hid (fun W => by have := parse_any c.key hk W; rw [hp] at this; simp only [ptR, ptC, Option.getD, Option.isSome] at this; exact this)
  have d1 : ((p.kind : Int) == 120) = false := by simp; omega
  clear hs hp
  clear h120
  go_enter Try.func17, Try.ntmps17
  go_wp2_with (refine wpList_load_row rfl 25 _ rfl w.heap.size rfl 25 _ (0, 0) _ HA.out Try.underlying25 rfl ?_ ?_; kernel_rfl)
  with_reducible refine (C1.out _).mono ?_
  rintro e w1 ⟨rfl, hb1⟩
  have HA1 := Lib.hid (HA.out.below hb1)
  have HB1 := Lib.hid (below_step HB.out hb1)
  clear hb1
  go_wp2_with (refine wpList_store_hid rfl 23 _ _ rfl w1.heap.size _ rfl rfl 23 (spC M.sp0) (spIn_new w1) ?_ rfl (spC_one M.sp0) ?_; kernel_rfl; intro w2 hr2 hbel2 hoth2 hsz2; have hb2 := hbel2 w1.heap.size w1 (Nat.le_refl _) ((Below.refl _ _).alloc (Nat.le_refl _) _); have HA2 := Lib.hid (HA1.out.below hb2); have HB2 := Lib.hid (below_step HB1.out hb2); have HX2 := Lib.hid (show RowIn (spA M.sp0) 23 w2 w1.heap.size from hr2); have k0 := HA2.out.cell 0; clear hr2 hbel2 hoth2 hsz2 hb2)
  with_reducible refine (C2.out _).mono ?_
  rintro e w3 ⟨rfl, hb3⟩
  have HB3 := Lib.hid (below_step HB2.out hb3)
  clear hb3 k0
  go_wp2_with (refine wpList_store_hid rfl 65 _ _ rfl w3.heap.size _ rfl rfl 65 pt0 (rowIn_new pt0 65 w3) ?_ rfl (by simp [Value.oneCell']) ?_; kernel_rfl; intro w4 hr4 hbel4 hoth4 hsz4; have hb4 := hbel4 w3.heap.size w3 (Nat.le_refl _) ((Below.refl _ _).alloc (Nat.le_refl _) _); have HB4 := Lib.hid (below_step HB3.out hb4); have q0 := hr4.cell 0; have q3 := hr4.cell 3; clear hr4 hbel4 hoth4 hsz4 hb4)
  go_ret
  exact ⟨rfl, HB4.out⟩

set_option maxHeartbeats 2000000 in
set_option maxRecDepth 100000 in
theorem dropped_idx (c : M.Cl) (hl : c.val.length ≤ 140737488351232) (hk : c.key.length ≤ 140737488351232) (n : Int) (hn1 : -9223372036854775808 ≤ n) (hn2 : n ≤ 9223372036854775807) (hs : M.spanC c = none) (p : M.Pt) (hp : M.parse c.key = some p) (h120 : p.kind = 120) (hst : p.start ≤ 1073741824) (w : World) :
    Calls Try.prog 17 #[.agg (clA c), .int .i64 n] w fun e w' => e = .returned (.bool (M.pastB p.start n)) ∧ Below w.heap.size w w' := by
  have HA := Lib.hid (rowIn_new (clA c) 25 w)
  have HB := Lib.hid ((Below.refl w.heap.size w).alloc (Nat.le_refl _) (.cells (clA c) 25))
  have C1 := Lib.hid (fun W => by have := span_any c hl W; unfold SpanR at this; rw [hs] at this; simp only [decX, Option.isSome] at this; exact this)
  have C2 := Lib.hid (fun W => by have := parse_any c.key hk W; rw [hp] at this; simp only [ptR, ptC, Option.getD, Option.isSome] at this; exact this)
  have d1 : ((p.kind : Int) == 120) = true := by simp; omega
  have C3 := Lib.hid (fun W => past_any (p.start : Int) n (by omega) (by omega) hn1 hn2 W)
  clear hs hp
  clear h120
  go_enter Try.func17, Try.ntmps17
  go_wp2_with (refine wpList_load_row rfl 25 _ rfl w.heap.size rfl 25 _ (0, 0) _ HA.out Try.underlying25 rfl ?_ ?_; kernel_rfl)
  with_reducible refine (C1.out _).mono ?_
  rintro e w1 ⟨rfl, hb1⟩
  have HA1 := Lib.hid (HA.out.below hb1)
  have HB1 := Lib.hid (below_step HB.out hb1)
  clear hb1
  go_wp2_with (refine wpList_store_hid rfl 23 _ _ rfl w1.heap.size _ rfl rfl 23 (spC M.sp0) (spIn_new w1) ?_ rfl (spC_one M.sp0) ?_; kernel_rfl; intro w2 hr2 hbel2 hoth2 hsz2; have hb2 := hbel2 w1.heap.size w1 (Nat.le_refl _) ((Below.refl _ _).alloc (Nat.le_refl _) _); have HA2 := Lib.hid (HA1.out.below hb2); have HB2 := Lib.hid (below_step HB1.out hb2); have HX2 := Lib.hid (show RowIn (spA M.sp0) 23 w2 w1.heap.size from hr2); have k0 := HA2.out.cell 0; clear hr2 hbel2 hoth2 hsz2 hb2)
  with_reducible refine (C2.out _).mono ?_
  rintro e w3 ⟨rfl, hb3⟩
  have HB3 := Lib.hid (below_step HB2.out hb3)
  clear hb3 k0
  go_wp2_with (refine wpList_store_hid rfl 65 _ _ rfl w3.heap.size _ rfl rfl 65 pt0 (rowIn_new pt0 65 w3) ?_ rfl (by simp [Value.oneCell']) ?_; kernel_rfl; intro w4 hr4 hbel4 hoth4 hsz4; have hb4 := hbel4 w3.heap.size w3 (Nat.le_refl _) ((Below.refl _ _).alloc (Nat.le_refl _) _); have HB4 := Lib.hid (below_step HB3.out hb4); have q0 := hr4.cell 0; have q3 := hr4.cell 3; clear hr4 hbel4 hoth4 hsz4 hb4)
  with_reducible refine (C3.out _).mono ?_
  rintro e w5 ⟨rfl, rfl⟩
  go_wp2_with fail
  go_ret
  exact ⟨rfl, HB4.out⟩

theorem dropped_any (c : M.Cl) (hl : c.val.length ≤ 140737488351232) (hk : c.key.length ≤ 140737488351232) (n : Int) (hn1 : -9223372036854775808 ≤ n) (hn2 : n ≤ 9223372036854775807) (w : World) :
    Calls Try.prog 17 #[.agg (clA c), .int .i64 n] w fun e w' => e = .returned (.bool (M.dropB c n)) ∧ Below w.heap.size w w' := by
  cases hs : M.spanC c with
  | some x =>
    have e : M.dropB c n = M.pastB x.start n := by simp [M.dropB, hs]
    rw [e]; exact dropped_some c hl hk n hn1 hn2 x (spanC_fits hl hs) hs w
  | none =>
    cases hp : M.parse c.key with
    | none =>
      have e : M.dropB c n = false := by simp [M.dropB, hs, hp]
      rw [e]; exact dropped_no c hl hk n hn1 hn2 hs hp w
    | some p =>
      by_cases h : p.kind = 120
      · have e : M.dropB c n = M.pastB p.start n := by simp [M.dropB, hs, hp, h]
        rw [e]; exact dropped_idx c hl hk n hn1 hn2 hs p hp h (by have := (M.parse_some hp).2.2; omega) w
      · have e : M.dropB c n = false := by simp [M.dropB, hs, hp, h]
        rw [e]; exact dropped_span c hl hk n hn1 hn2 hs p hp h w

set_option maxHeartbeats 2000000 in
set_option maxRecDepth 100000 in
theorem refDropped_some (c : M.Cl) (hl : c.val.length ≤ 140737488351232) (hk : c.key.length ≤ 140737488351232) (n : Int) (hn1 : -9223372036854775808 ≤ n) (hn2 : n ≤ 9223372036854775807) (x : M.Sp) (hx : x.fits) (hs : M.spanC c = some x) (w : World) :
    Calls Try.prog 18 #[.agg (clA c), .int .i64 n] w fun e w' => e = .returned (.bool (M.pastB x.start n)) ∧ Below w.heap.size w w' := by
  have HA := Lib.hid (rowIn_new (clA c) 25 w)
  have HB := Lib.hid ((Below.refl w.heap.size w).alloc (Nat.le_refl _) (.cells (clA c) 25))
  have C1 := Lib.hid (fun W => by have := refSpan_any c hl W; unfold SpanR at this; rw [hs] at this; simp only [decX, Option.isSome] at this; exact this)
  have C2 := Lib.hid (fun W => refExpired_any x hx n hn1 hn2 W)
  clear hs
  go_enter Try.func18, Try.ntmps18
  go_wp2_with (refine wpList_load_row rfl 25 _ rfl w.heap.size rfl 25 _ (0, 0) _ HA.out Try.underlying25 rfl ?_ ?_; kernel_rfl)
  with_reducible refine (C1.out _).mono ?_
  rintro e w1 ⟨rfl, hb1⟩
  have HA1 := Lib.hid (HA.out.below hb1)
  have HB1 := Lib.hid (below_step HB.out hb1)
  clear hb1
  go_wp2_with (first | (refine wpList_store_hid rfl 23 _ _ rfl w1.heap.size _ rfl rfl 23 (spC M.sp0) (spIn_new w1) ?_ rfl (spC_one x) ?_; kernel_rfl; intro w2 hr2 hbel2 hoth2 hsz2; have hb2 := hbel2 w1.heap.size w1 (Nat.le_refl _) ((Below.refl _ _).alloc (Nat.le_refl _) _); have HA2 := Lib.hid (HA1.out.below hb2); have HB2 := Lib.hid (below_step HB1.out hb2); have HX2 := Lib.hid (show RowIn (spA x) 23 w2 w1.heap.size from hr2); clear hr2 hbel2 hoth2 hsz2 hb2) | (refine wpList_load_row rfl 23 _ rfl w1.heap.size rfl 23 _ (0, 0) _ HX2.out Try.underlying23 rfl ?_ ?_; kernel_rfl))
  with_reducible refine (C2.out _).mono ?_
  rintro e w3 ⟨rfl, hb3⟩
  have HB3 := Lib.hid (below_step HB2.out hb3)
  clear hb3
  go_wp2_with fail
  go_ret
  exact ⟨rfl, HB3.out⟩

set_option maxHeartbeats 2000000 in
set_option maxRecDepth 100000 in
theorem refDropped_no (c : M.Cl) (hl : c.val.length ≤ 140737488351232) (hk : c.key.length ≤ 140737488351232) (n : Int) (hn1 : -9223372036854775808 ≤ n) (hn2 : n ≤ 9223372036854775807) (hs : M.spanC c = none) (hp : M.parse c.key = none) (w : World) :
    Calls Try.prog 18 #[.agg (clA c), .int .i64 n] w fun e w' => e = .returned (.bool false) ∧ Below w.heap.size w w' := by
  have HA := Lib.hid (rowIn_new (clA c) 25 w)
  have HB := Lib.hid ((Below.refl w.heap.size w).alloc (Nat.le_refl _) (.cells (clA c) 25))
  have C1 := Lib.hid (fun W => by have := refSpan_any c hl W; unfold SpanR at this; rw [hs] at this; simp only [decX, Option.isSome] at this; exact this)
  have C2 := Lib.hid (fun W => by have := refParse_any c.key hk W; rw [hp, ptR_none] at this; exact this)
  clear hs hp
  go_enter Try.func18, Try.ntmps18
  go_wp2_with (refine wpList_load_row rfl 25 _ rfl w.heap.size rfl 25 _ (0, 0) _ HA.out Try.underlying25 rfl ?_ ?_; kernel_rfl)
  with_reducible refine (C1.out _).mono ?_
  rintro e w1 ⟨rfl, hb1⟩
  have HA1 := Lib.hid (HA.out.below hb1)
  have HB1 := Lib.hid (below_step HB.out hb1)
  clear hb1
  go_wp2_with (refine wpList_store_hid rfl 23 _ _ rfl w1.heap.size _ rfl rfl 23 (spC M.sp0) (spIn_new w1) ?_ rfl (spC_one M.sp0) ?_; kernel_rfl; intro w2 hr2 hbel2 hoth2 hsz2; have hb2 := hbel2 w1.heap.size w1 (Nat.le_refl _) ((Below.refl _ _).alloc (Nat.le_refl _) _); have HA2 := Lib.hid (HA1.out.below hb2); have HB2 := Lib.hid (below_step HB1.out hb2); have HX2 := Lib.hid (show RowIn (spA M.sp0) 23 w2 w1.heap.size from hr2); have k0 := HA2.out.cell 0; clear hr2 hbel2 hoth2 hsz2 hb2)
  with_reducible refine (C2.out _).mono ?_
  rintro e w3 ⟨rfl, hb3⟩
  have HB3 := Lib.hid (below_step HB2.out hb3)
  clear hb3 k0
  go_wp2_with (refine wpList_store_hid rfl 68 _ _ rfl w3.heap.size _ rfl rfl 68 pt0 (rowIn_new pt0 68 w3) ?_ rfl (by simp [Value.oneCell']) ?_; kernel_rfl; intro w4 hr4 hbel4 hoth4 hsz4; have hb4 := hbel4 w3.heap.size w3 (Nat.le_refl _) ((Below.refl _ _).alloc (Nat.le_refl _) _); have HB4 := Lib.hid (below_step HB3.out hb4); have q0 := hr4.cell 0; have q3 := hr4.cell 3; clear hr4 hbel4 hoth4 hsz4 hb4)
  go_ret
  exact ⟨rfl, HB4.out⟩

set_option maxHeartbeats 2000000 in
set_option maxRecDepth 100000 in
theorem refDropped_span (c : M.Cl) (hl : c.val.length ≤ 140737488351232) (hk : c.key.length ≤ 140737488351232) (n : Int) (hn1 : -9223372036854775808 ≤ n) (hn2 : n ≤ 9223372036854775807) (hs : M.spanC c = none) (p : M.Pt) (hp : M.parse c.key = some p) (h120 : ¬ p.kind = 120) (w : World) :
    Calls Try.prog 18 #[.agg (clA c), .int .i64 n] w fun e w' => e = .returned (.bool false) ∧ Below w.heap.size w w' := by
  have HA := Lib.hid (rowIn_new (clA c) 25 w)
  have HB := Lib.hid ((Below.refl w.heap.size w).alloc (Nat.le_refl _) (.cells (clA c) 25))
  have C1 := Lib.hid (fun W => by have := refSpan_any c hl W; unfold SpanR at this; rw [hs] at this; simp only [decX, Option.isSome] at this; exact this)
  have C2 := Lib.hid (fun W => by have := refParse_any c.key hk W; rw [hp] at this; simp only [ptR, ptC, Option.getD, Option.isSome] at this; exact this)
  have d1 : ((p.kind : Int) == 120) = false := by simp; omega
  clear hs hp
  clear h120
  go_enter Try.func18, Try.ntmps18
  go_wp2_with (refine wpList_load_row rfl 25 _ rfl w.heap.size rfl 25 _ (0, 0) _ HA.out Try.underlying25 rfl ?_ ?_; kernel_rfl)
  with_reducible refine (C1.out _).mono ?_
  rintro e w1 ⟨rfl, hb1⟩
  have HA1 := Lib.hid (HA.out.below hb1)
  have HB1 := Lib.hid (below_step HB.out hb1)
  clear hb1
  go_wp2_with (refine wpList_store_hid rfl 23 _ _ rfl w1.heap.size _ rfl rfl 23 (spC M.sp0) (spIn_new w1) ?_ rfl (spC_one M.sp0) ?_; kernel_rfl; intro w2 hr2 hbel2 hoth2 hsz2; have hb2 := hbel2 w1.heap.size w1 (Nat.le_refl _) ((Below.refl _ _).alloc (Nat.le_refl _) _); have HA2 := Lib.hid (HA1.out.below hb2); have HB2 := Lib.hid (below_step HB1.out hb2); have HX2 := Lib.hid (show RowIn (spA M.sp0) 23 w2 w1.heap.size from hr2); have k0 := HA2.out.cell 0; clear hr2 hbel2 hoth2 hsz2 hb2)
  with_reducible refine (C2.out _).mono ?_
  rintro e w3 ⟨rfl, hb3⟩
  have HB3 := Lib.hid (below_step HB2.out hb3)
  clear hb3 k0
  go_wp2_with (refine wpList_store_hid rfl 68 _ _ rfl w3.heap.size _ rfl rfl 68 pt0 (rowIn_new pt0 68 w3) ?_ rfl (by simp [Value.oneCell']) ?_; kernel_rfl; intro w4 hr4 hbel4 hoth4 hsz4; have hb4 := hbel4 w3.heap.size w3 (Nat.le_refl _) ((Below.refl _ _).alloc (Nat.le_refl _) _); have HB4 := Lib.hid (below_step HB3.out hb4); have q0 := hr4.cell 0; have q3 := hr4.cell 3; clear hr4 hbel4 hoth4 hsz4 hb4)
  go_ret
  exact ⟨rfl, HB4.out⟩

set_option maxHeartbeats 2000000 in
set_option maxRecDepth 100000 in
theorem refDropped_idx (c : M.Cl) (hl : c.val.length ≤ 140737488351232) (hk : c.key.length ≤ 140737488351232) (n : Int) (hn1 : -9223372036854775808 ≤ n) (hn2 : n ≤ 9223372036854775807) (hs : M.spanC c = none) (p : M.Pt) (hp : M.parse c.key = some p) (h120 : p.kind = 120) (hst : p.start ≤ 1073741824) (w : World) :
    Calls Try.prog 18 #[.agg (clA c), .int .i64 n] w fun e w' => e = .returned (.bool (M.pastB p.start n)) ∧ Below w.heap.size w w' := by
  have HA := Lib.hid (rowIn_new (clA c) 25 w)
  have HB := Lib.hid ((Below.refl w.heap.size w).alloc (Nat.le_refl _) (.cells (clA c) 25))
  have C1 := Lib.hid (fun W => by have := refSpan_any c hl W; unfold SpanR at this; rw [hs] at this; simp only [decX, Option.isSome] at this; exact this)
  have C2 := Lib.hid (fun W => by have := refParse_any c.key hk W; rw [hp] at this; simp only [ptR, ptC, Option.getD, Option.isSome] at this; exact this)
  have d1 : ((p.kind : Int) == 120) = true := by simp; omega
  have C3 := Lib.hid (fun W => refExpired_any { M.sp0 with start := (p.start : Int) } (by constructor <;> simp [M.sp0] <;> omega) n hn1 hn2 W)
  simp only [M.sp0] at C3
  clear hs hp
  clear h120
  go_enter Try.func18, Try.ntmps18
  go_wp2_with (refine wpList_load_row rfl 25 _ rfl w.heap.size rfl 25 _ (0, 0) _ HA.out Try.underlying25 rfl ?_ ?_; kernel_rfl)
  with_reducible refine (C1.out _).mono ?_
  rintro e w1 ⟨rfl, hb1⟩
  have HA1 := Lib.hid (HA.out.below hb1)
  have HB1 := Lib.hid (below_step HB.out hb1)
  clear hb1
  go_wp2_with (refine wpList_store_hid rfl 23 _ _ rfl w1.heap.size _ rfl rfl 23 (spC M.sp0) (spIn_new w1) ?_ rfl (spC_one M.sp0) ?_; kernel_rfl; intro w2 hr2 hbel2 hoth2 hsz2; have hb2 := hbel2 w1.heap.size w1 (Nat.le_refl _) ((Below.refl _ _).alloc (Nat.le_refl _) _); have HA2 := Lib.hid (HA1.out.below hb2); have HB2 := Lib.hid (below_step HB1.out hb2); have HX2 := Lib.hid (show RowIn (spA M.sp0) 23 w2 w1.heap.size from hr2); have k0 := HA2.out.cell 0; clear hr2 hbel2 hoth2 hsz2 hb2)
  with_reducible refine (C2.out _).mono ?_
  rintro e w3 ⟨rfl, hb3⟩
  have HB3 := Lib.hid (below_step HB2.out hb3)
  clear hb3 k0
  go_wp2_with (refine wpList_store_hid rfl 68 _ _ rfl w3.heap.size _ rfl rfl 68 pt0 (rowIn_new pt0 68 w3) ?_ rfl (by simp [Value.oneCell']) ?_; kernel_rfl; intro w4 hr4 hbel4 hoth4 hsz4; have hb4 := hbel4 w3.heap.size w3 (Nat.le_refl _) ((Below.refl _ _).alloc (Nat.le_refl _) _); have HB4 := Lib.hid (below_step HB3.out hb4); have q0 := hr4.cell 0; have q3 := hr4.cell 3; clear hr4 hbel4 hoth4 hsz4 hb4)
  with_reducible refine (C3.out _).mono ?_
  rintro e w5 ⟨rfl, hb5⟩
  have HB5 := Lib.hid (below_step HB4.out hb5)
  clear hb5 q0 q3
  go_wp2_with fail
  go_ret
  exact ⟨rfl, HB5.out⟩

theorem refDropped_any (c : M.Cl) (hl : c.val.length ≤ 140737488351232) (hk : c.key.length ≤ 140737488351232) (n : Int) (hn1 : -9223372036854775808 ≤ n) (hn2 : n ≤ 9223372036854775807) (w : World) :
    Calls Try.prog 18 #[.agg (clA c), .int .i64 n] w fun e w' => e = .returned (.bool (M.dropB c n)) ∧ Below w.heap.size w w' := by
  cases hs : M.spanC c with
  | some x =>
    have e : M.dropB c n = M.pastB x.start n := by simp [M.dropB, hs]
    rw [e]; exact refDropped_some c hl hk n hn1 hn2 x (spanC_fits hl hs) hs w
  | none =>
    cases hp : M.parse c.key with
    | none =>
      have e : M.dropB c n = false := by simp [M.dropB, hs, hp]
      rw [e]; exact refDropped_no c hl hk n hn1 hn2 hs hp w
    | some p =>
      by_cases h : p.kind = 120
      · have e : M.dropB c n = M.pastB p.start n := by simp [M.dropB, hs, hp, h]
        rw [e]; exact refDropped_idx c hl hk n hn1 hn2 hs p hp h (by have := (M.parse_some hp).2.2; omega) w
      · have e : M.dropB c n = false := by simp [M.dropB, hs, hp, h]
        rw [e]; exact refDropped_span c hl hk n hn1 hn2 hs p hp h w


end Go.Proofs.Ytjlddackpckmfaa
