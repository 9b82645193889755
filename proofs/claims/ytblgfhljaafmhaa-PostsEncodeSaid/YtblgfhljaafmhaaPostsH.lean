/- Layer 12: the ack of bytes, the program's and the document's, each by a contract. -/
import Derived.Test.YtblgfhljaafmhaaPostsD
namespace Go.Proofs.Ytblgfhljaafmhaa
set_option linter.unusedVariables false
open Go Go.RowKit
attribute [local go_sem ↓] run_index_S
attribute [local go_sem] S_append S_extract

def akC (a : M.Ak) : Array Value := #[.int .i64 a.host, .int .i64 a.first, .int .i64 a.next]
theorem akC_one (a : M.Ak) : (akC a).all (·.oneCell') = true := by simp [akC, Value.oneCell']
def ak0 : M.Ak := ⟨0, 0, 0⟩
def akX (r : Option M.Ak) : M.Ak := match r with
  | some x => x
  | none => ak0
def akE (r : Option M.Ak) : Int := match r with
  | some _ => 0
  | none => 30
def decAV (r : Option M.Ak) : Ending := .returned (.tuple #[.agg (akC (akX r)), .int .i64 (akE r)])
theorem decAV_none {r : Option M.Ak} (h : r = none) : Ending.returned (.tuple #[.agg (akC ak0), .int .i64 30]) = decAV r := by rw [h]; rfl
theorem decAV_some {r : Option M.Ak} {a : M.Ak} (h : r = some a) : Ending.returned (.tuple #[.agg (akC a), .int .i64 0]) = decAV r := by rw [h]; rfl
theorem M.wrapA (n0 n1 n2 : Nat) (h1 : n1 ≤ 9223372036854775807) (h2 : n2 ≤ 2147483647) (s : Int) (hs : s = IntKind.i64.wrap ((n1 : Int) + (n2 : Int))) :
    M.aMay ⟨n0, n1, s⟩ = M.aMay ⟨n0, n1, (n1 + n2 : Nat)⟩ ∧ (M.aMay ⟨n0, n1, s⟩ = true → s = (n1 + n2 : Nat)) := by
  by_cases h : n1 + n2 ≤ 9223372036854775807
  · have : s = ((n1 + n2 : Nat) : Int) := by rw [hs, IntWalk.i64_in _ (by omega)]; omega
    rw [this]; exact ⟨rfl, fun _ => rfl⟩
  · have e : s = (n1 : Int) + (n2 : Int) - 18446744073709551616 := by
      rw [hs]; show (if (IntKind.signed .i64 && decide (((n1 : Int) + n2) % 2 ^ 64 ≥ 2 ^ 63)) = true then ((n1 : Int) + n2) % 2 ^ 64 - 2 ^ 64 else ((n1 : Int) + n2) % 2 ^ 64) = _; rw [if_pos (by simp [IntKind.signed]; omega)]; omega
    have f1 : M.aMay ⟨n0, n1, s⟩ = false := M.aMay_false.2 (by dsimp only; omega)
    have f2 : M.aMay ⟨n0, n1, (n1 + n2 : Nat)⟩ = false := M.aMay_false.2 (by dsimp only; omega)
    rw [f1, f2]
    exact ⟨rfl, fun h => by cases h⟩
theorem M.decA_no {l : List UInt8} (h : ¬ (decide (M.hd l = 65) = true ∧ M.takeN 3 l 1 ≠ none)) : M.decA l = none := by
  unfold M.decA
  by_cases h0 : M.hd l = 65
  · rw [if_pos h0]
    cases ht : M.takeN 3 l 1 with
    | none => rfl
    | some r => exact absurd ⟨by simpa using h0, by rw [ht]; simp⟩ h
  · rw [if_neg h0]
theorem M.decA_eq {l : List UInt8} {ns : List Nat} {a : Nat} (h : M.hd l = 65) (ht : M.takeN 3 l 1 = some (ns, a)) : M.decA l = if a = l.length ∧ ns.getD 2 0 ≤ 2147483647 ∧ M.aMay ⟨(ns.getD 0 0 : Nat), (ns.getD 1 0 : Nat), (ns.getD 1 0 + ns.getD 2 0 : Nat)⟩ = true then some ⟨(ns.getD 0 0 : Nat), (ns.getD 1 0 : Nat), (ns.getD 1 0 + ns.getD 2 0 : Nat)⟩ else none := by
  unfold M.decA
  rw [if_pos h]
  simp only [ht]

set_option maxHeartbeats 1000000 in
set_option maxRecDepth 100000 in
theorem decAck_any (l : List UInt8) (hl : l.length ≤ 140737488351232) (w : World) :
    Calls Try.prog 18 #[.string (S l)] w fun e w' => e = decAV (M.decA l) ∧ Below w.heap.size w w' := by
  have C0 := Lib.hid (fun W => numbers_any l hl 65 (by decide) W)
  have HN := Lib.hid (rowIn_new (akC ak0) 26 w)
  go_enter Try.func18, Try.ntmps18
  go_wp2_with fail
  with_reducible refine (C0.out _).mono ?_
  rintro e w1 (⟨ns, a, ⟨h1, h2⟩, rfl, hb1⟩ | ⟨ns, h1, rfl, hb1⟩)
  · have HR1 := Lib.hid ((HN.out.below hb1).more (.cells (pad3 []) 53))
    have HB1 := Lib.hid (((below_step ((Below.refl _ _).alloc (Nat.le_refl _) (.cells (akC ak0) 26)) hb1)).alloc (below_step ((Below.refl _ _).alloc (Nat.le_refl _) (.cells (akC ak0) 26)) hb1).size (.cells (pad3 []) 53))
    have hsz1 := hb1.size
    rw [szA] at hsz1
    have hd := M.decA_eq (by simpa using h1) h2
    have hln := M.takeN_len h2
    have l1 : ns.getD 1 0 ≤ 9223372036854775807 := getD_mem (P := fun n => n ≤ 9223372036854775807) hln.2.2 (by omega)
    generalize hn0 : ns.getD 0 0 = n0 at *
    generalize hn1 : ns.getD 1 0 = n1 at *
    generalize hn2 : ns.getD 2 0 = n2 at *
    have HN0 := Lib.hid hn0
    have HN1 := Lib.hid hn1
    have HN2 := Lib.hid hn2
    clear hn0 hn1 hn2
    have HD := Lib.hid hd
    clear hd h1 h2 hln hb1
    by_cases ha : a = l.length
    · by_cases h2m : n2 ≤ 2147483647
      · subst ha
        obtain ⟨s, hs⟩ : ∃ s, s = IntKind.i64.wrap ((n1 : Int) + (n2 : Int)) := ⟨_, rfl⟩
        obtain ⟨e1, e2⟩ := M.wrapA n0 n1 n2 l1 h2m s hs
        have ew : IntKind.i64.wrap ((n1 : Int) + (n2 : Int)) = s := hs.symm
        clear hs
        have dm : decide (2147483647 < (n2 : Int)) = false := by simp; omega
        cases hm : M.aMay ⟨n0, n1, s⟩ with
        | false =>
          have C5 := Lib.hid (fun W => by have := ackMayBe_any n0 n1 s W; rw [hm] at this; exact this)
          have HX := Lib.hid (show M.decA l = none from by rw [HD.out, if_neg (fun h => by rw [← e1, hm] at h; cases h.2.2)])
          clear e1 e2 hm
          go_wp2_with (first | (refine wpList_store_hid rfl 53 _ _ rfl w1.heap.size _ rfl rfl 53 (pad3 []) (rowIn_new (pad3 []) 53 w1) ?_ rfl (pad3_one ns) ?_; kernel_rfl; intro w2 hr2 hbel2 hoth2 hsz2; have HR2 := Lib.hid hr2; have HO2 := Lib.hid (hoth2 _ _ _ (by omega) HR1.out); have HB2 := Lib.hid (hbel2 _ _ (by omega) HB1.out); have q0 := (hr2.cell 0).trans (pad3_at ns 0 (by decide)); have q1 := (hr2.cell 1).trans (pad3_at ns 1 (by decide)); have q2 := (hr2.cell 2).trans (pad3_at ns 2 (by decide)); rw [HN0.out] at q0; rw [HN1.out] at q1; rw [HN2.out] at q2; have hz2 : w.heap.size < w2.heap.size := (by have h9 := hsz2.trans (szA _ _); omega); clear hr2 hbel2 hoth2 hsz2) | (refine wpList_store_hid rfl 26 _ _ rfl w2.heap.size _ rfl rfl 26 (akC ak0) (rowIn_new (akC ak0) 26 w2) ?_ rfl (akC_one ⟨n0, n1, s⟩) ?_; kernel_rfl; intro w3 hr3 hbel3 hoth3 hsz3; have HR3 := Lib.hid hr3; have HO3 := Lib.hid (hoth3 _ _ _ (by omega) (HO2.out.more (.cells (akC ak0) 26))); have HB3 := Lib.hid (hbel3 _ _ (by omega) (HB2.out.alloc HB2.out.size _)); clear hr3 hbel3 hoth3 hsz3) | (refine wpList_load_row rfl 26 _ rfl w2.heap.size rfl 26 _ (0, 0) _ HR3.out Try.underlying26 rfl ?_ ?_; kernel_rfl))
          with_reducible refine (C5.out _).mono ?_
          rintro e w4 ⟨rfl, hb4⟩
          have HO4 := Lib.hid (HO3.out.below hb4)
          have HB4 := Lib.hid (below_step HB3.out hb4)
          go_wp2_with (refine wpList_store_row rfl 26 _ _ rfl w.heap.size _ rfl rfl 26 (akC ak0) HO4.out ?_ rfl (akC_one ak0) ?_; kernel_rfl)
          try simp only [Exit.inBlock, Exit.then]
          exact bodyPost_ret (ret_rowP2 rfl _ _ w.heap.size rfl (load_struct Try.underlying26 (by kernel_rfl) (RowIn.rowP HO4.out))) rfl ⟨(by exact decAV_none HX.out), below_setRow HB4.out (Nat.le_refl _) _⟩
        | true =>
          have C5 := Lib.hid (fun W => by have := ackMayBe_any n0 n1 s W; rw [hm] at this; exact this)
          have HX := Lib.hid (show M.decA l = some ⟨n0, n1, s⟩ from by rw [HD.out, if_pos ⟨rfl, h2m, e1 ▸ hm⟩, e2 hm])
          clear e1 e2 hm
          go_wp2_with (first | (refine wpList_store_hid rfl 53 _ _ rfl w1.heap.size _ rfl rfl 53 (pad3 []) (rowIn_new (pad3 []) 53 w1) ?_ rfl (pad3_one ns) ?_; kernel_rfl; intro w2 hr2 hbel2 hoth2 hsz2; have HR2 := Lib.hid hr2; have HO2 := Lib.hid (hoth2 _ _ _ (by omega) HR1.out); have HB2 := Lib.hid (hbel2 _ _ (by omega) HB1.out); have q0 := (hr2.cell 0).trans (pad3_at ns 0 (by decide)); have q1 := (hr2.cell 1).trans (pad3_at ns 1 (by decide)); have q2 := (hr2.cell 2).trans (pad3_at ns 2 (by decide)); rw [HN0.out] at q0; rw [HN1.out] at q1; rw [HN2.out] at q2; have hz2 : w.heap.size < w2.heap.size := (by have h9 := hsz2.trans (szA _ _); omega); clear hr2 hbel2 hoth2 hsz2) | (refine wpList_store_hid rfl 26 _ _ rfl w2.heap.size _ rfl rfl 26 (akC ak0) (rowIn_new (akC ak0) 26 w2) ?_ rfl (akC_one ⟨n0, n1, s⟩) ?_; kernel_rfl; intro w3 hr3 hbel3 hoth3 hsz3; have HR3 := Lib.hid hr3; have HO3 := Lib.hid (hoth3 _ _ _ (by omega) (HO2.out.more (.cells (akC ak0) 26))); have HB3 := Lib.hid (hbel3 _ _ (by omega) (HB2.out.alloc HB2.out.size _)); clear hr3 hbel3 hoth3 hsz3) | (refine wpList_load_row rfl 26 _ rfl w2.heap.size rfl 26 _ (0, 0) _ HR3.out Try.underlying26 rfl ?_ ?_; kernel_rfl))
          with_reducible refine (C5.out _).mono ?_
          rintro e w4 ⟨rfl, hb4⟩
          have HO4 := Lib.hid (HO3.out.below hb4)
          have HR4 := Lib.hid (HR3.out.below hb4)
          have HB4 := Lib.hid (below_step HB3.out hb4)
          go_wp2_with (first | (refine wpList_load_row rfl 26 _ rfl w2.heap.size rfl 26 _ (0, 0) _ HR4.out Try.underlying26 rfl ?_ ?_; kernel_rfl) | (refine wpList_store_row rfl 26 _ _ rfl w.heap.size _ rfl rfl 26 (akC ak0) HO4.out ?_ rfl (akC_one ⟨n0, n1, s⟩) ?_; kernel_rfl))
          try simp only [Exit.inBlock, Exit.then]
          exact bodyPost_ret (ret_rowP2 rfl _ _ w.heap.size rfl (load_struct Try.underlying26 (by kernel_rfl) (RowIn.rowP HO4.out))) rfl ⟨(by exact decAV_some HX.out), below_setRow HB4.out (Nat.le_refl _) _⟩
      · subst ha
        have dm : decide (2147483647 < (n2 : Int)) = true := by simp; omega
        have HX := Lib.hid (show M.decA l = none from by rw [HD.out, if_neg (fun h => h2m h.2.1)])
        go_wp2_with (first | (refine wpList_store_hid rfl 53 _ _ rfl w1.heap.size _ rfl rfl 53 (pad3 []) (rowIn_new (pad3 []) 53 w1) ?_ rfl (pad3_one ns) ?_; kernel_rfl; intro w2 hr2 hbel2 hoth2 hsz2; have HR2 := Lib.hid hr2; have HO2 := Lib.hid (hoth2 _ _ _ (by omega) HR1.out); have HB2 := Lib.hid (hbel2 _ _ (by omega) HB1.out); have q0 := (hr2.cell 0).trans (pad3_at ns 0 (by decide)); have q1 := (hr2.cell 1).trans (pad3_at ns 1 (by decide)); have q2 := (hr2.cell 2).trans (pad3_at ns 2 (by decide)); rw [HN0.out] at q0; rw [HN1.out] at q1; rw [HN2.out] at q2; have hz2 : w.heap.size < w2.heap.size := (by have h9 := hsz2.trans (szA _ _); omega); clear hr2 hbel2 hoth2 hsz2) | (refine wpList_store_row rfl 26 _ _ rfl w.heap.size _ rfl rfl 26 (akC ak0) HO2.out ?_ rfl (akC_one ak0) ?_; kernel_rfl))
        try simp only [Exit.inBlock, Exit.then]
        exact bodyPost_ret (ret_rowP2 rfl _ _ w.heap.size rfl (load_struct Try.underlying26 (by kernel_rfl) (RowIn.rowP HO2.out))) rfl ⟨(by exact decAV_none HX.out), below_setRow HB2.out (Nat.le_refl _) _⟩
    · have hci : ¬ ((a : Int) = (l.length : Int)) := by omega
      have HX := Lib.hid (show M.decA l = none from by rw [HD.out, if_neg (fun h => ha h.1)])
      go_wp2_with (first | (refine wpList_store_hid rfl 53 _ _ rfl w1.heap.size _ rfl rfl 53 (pad3 []) (rowIn_new (pad3 []) 53 w1) ?_ rfl (pad3_one ns) ?_; kernel_rfl; intro w2 hr2 hbel2 hoth2 hsz2; have HR2 := Lib.hid hr2; have HO2 := Lib.hid (hoth2 _ _ _ (by omega) HR1.out); have HB2 := Lib.hid (hbel2 _ _ (by omega) HB1.out); have q0 := (hr2.cell 0).trans (pad3_at ns 0 (by decide)); have q1 := (hr2.cell 1).trans (pad3_at ns 1 (by decide)); have q2 := (hr2.cell 2).trans (pad3_at ns 2 (by decide)); rw [HN0.out] at q0; rw [HN1.out] at q1; rw [HN2.out] at q2; have hz2 : w.heap.size < w2.heap.size := (by have h9 := hsz2.trans (szA _ _); omega); clear hr2 hbel2 hoth2 hsz2) | (refine wpList_store_row rfl 26 _ _ rfl w.heap.size _ rfl rfl 26 (akC ak0) HO2.out ?_ rfl (akC_one ak0) ?_; kernel_rfl))
      try simp only [Exit.inBlock, Exit.then]
      exact bodyPost_ret (ret_rowP2 rfl _ _ w.heap.size rfl (load_struct Try.underlying26 (by kernel_rfl) (RowIn.rowP HO2.out))) rfl ⟨(by exact decAV_none HX.out), below_setRow HB2.out (Nat.le_refl _) _⟩
  · have HX := Lib.hid (M.decA_no h1)
    have HR1 := Lib.hid ((HN.out.below hb1).more (.cells (pad3 []) 53))
    have HB1 := Lib.hid (((below_step ((Below.refl _ _).alloc (Nat.le_refl _) (.cells (akC ak0) 26)) hb1)).alloc (below_step ((Below.refl _ _).alloc (Nat.le_refl _) (.cells (akC ak0) 26)) hb1).size (.cells (pad3 []) 53))
    have hsz1 := hb1.size
    rw [szA] at hsz1
    clear h1 hb1
    go_wp2_with (first | (refine wpList_store_hid rfl 53 _ _ rfl w1.heap.size _ rfl rfl 53 (pad3 []) (rowIn_new (pad3 []) 53 w1) ?_ rfl (pad3_one ns) ?_; kernel_rfl; intro w2 hr2 hbel2 hoth2 hsz2; have HR2 := Lib.hid hr2; have HO2 := Lib.hid (hoth2 _ _ _ (by omega) HR1.out); have HB2 := Lib.hid (hbel2 _ _ (by omega) HB1.out); have q0 := (hr2.cell 0).trans (pad3_at ns 0 (by decide)); have q1 := (hr2.cell 1).trans (pad3_at ns 1 (by decide)); have q2 := (hr2.cell 2).trans (pad3_at ns 2 (by decide)); have hz2 : w.heap.size < w2.heap.size := (by have h9 := hsz2.trans (szA _ _); omega); clear hr2 hbel2 hoth2 hsz2) | (refine wpList_store_row rfl 26 _ _ rfl w.heap.size _ rfl rfl 26 (akC ak0) HO2.out ?_ rfl (akC_one ak0) ?_; kernel_rfl))
    try simp only [Exit.inBlock, Exit.then]
    exact bodyPost_ret (ret_rowP2 rfl _ _ w.heap.size rfl (load_struct Try.underlying26 (by kernel_rfl) (RowIn.rowP HO2.out))) rfl ⟨(by exact decAV_none HX.out), below_setRow HB2.out (Nat.le_refl _) _⟩

end Go.Proofs.Ytblgfhljaafmhaa
