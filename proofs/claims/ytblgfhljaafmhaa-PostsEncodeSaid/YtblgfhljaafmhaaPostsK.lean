/- Layer 12: the batch of bytes, the program's, by a contract. -/
import Derived.Test.YtblgfhljaafmhaaPostsJ
namespace Go.Proofs.Ytblgfhljaafmhaa
set_option linter.unusedVariables false
open Go Go.RowKit
attribute [local go_sem ↓] run_index_S
attribute [local go_sem] S_append S_extract

set_option maxHeartbeats 4000000 in
set_option maxRecDepth 100000 in
theorem decBatch_any (l : List UInt8) (hl : l.length ≤ 140737488351232) (w : World) :
    Calls Try.prog 16 #[.string (S l)] w fun e w' => DecB (M.decB l) w e w' := by
  have C0 := Lib.hid (fun W => numbers_any l hl 66 (by decide) W)
  have HN := Lib.hid (rowIn_new bz 24 w)
  have HBN := Lib.hid ((Below.refl w.heap.size w).alloc (Nat.le_refl _) (.cells bz 24))
  obtain ⟨i0, z0, hi, hz0, hz1, hz2, hz3⟩ := infoSp_parts
  go_enter Try.func16, Try.ntmps16
  go_wp2_with fail
  with_reducible refine (C0.out _).mono ?_
  rintro e w1 (⟨ns, a0, ⟨h1, h2⟩, rfl, hb1⟩ | ⟨ns, h1, rfl, hb1⟩)
  · have HO1 := Lib.hid (HN.out.below hb1)
    have HB1 := Lib.hid (below_step HBN.out hb1)
    have hd66 : M.hd l = 66 := by simpa using h1
    have hln := M.takeN_len h2
    have l1 : ns.getD 1 0 ≤ 9223372036854775807 := getD_mem (P := fun n => n ≤ 9223372036854775807) hln.2.2 (by omega)
    have h8n := M.decB_eight hd66 h2
    have heq := M.decB_eq hd66 h2
    clear hb1 h1 h2 hln
    generalize hn0 : ns.getD 0 0 = n0 at *
    generalize hn1 : ns.getD 1 0 = n1 at *
    generalize hn2 : ns.getD 2 0 = n2 at *
    have HN0 := Lib.hid hn0
    have HN1 := Lib.hid hn1
    have HN2 := Lib.hid hn2
    clear hn0 hn1 hn2
    by_cases h8 : 8 < n2
    · have HX := Lib.hid (h8n h8)
      have d8 : decide (8 < (n2 : Int)) = true := by simp; omega
      clear h8n heq
      go_wp2_with (first | (refine wpList_store_hid rfl 53 _ _ rfl w1.heap.size _ rfl rfl 53 (pad3 []) (rowIn_new (pad3 []) 53 w1) ?_ rfl (pad3_one ns) ?_; kernel_rfl; intro w2 hr2 hbel2 hoth2 hsz2; have hb2 := hbel2 w1.heap.size w1 (Nat.le_refl _) ((Below.refl _ _).alloc (Nat.le_refl _) _); have HR2 := Lib.hid hr2; have HO2 := Lib.hid (HO1.out.below hb2); have HB2 := Lib.hid (below_step HB1.out hb2); have q0 := (hr2.cell 0).trans (pad3_at ns 0 (by decide)); have q1 := (hr2.cell 1).trans (pad3_at ns 1 (by decide)); have q2 := (hr2.cell 2).trans (pad3_at ns 2 (by decide)); rw [HN0.out] at q0; rw [HN1.out] at q1; rw [HN2.out] at q2; clear hr2 hbel2 hoth2 hsz2 hb2) | (refine wpList_store_row rfl 24 _ _ rfl w.heap.size _ rfl rfl 24 bz HO2.out ?_ rfl bz_one ?_; kernel_rfl))
      try simp only [Exit.inBlock, Exit.then]
      exact bodyPost_ret (ret_rowP2 rfl _ _ w.heap.size rfl (load_struct Try.underlying24 (by kernel_rfl) (RowIn.rowP HO2.out))) rfl (by exact DecB.no HX.out (below_setRow HB2.out (Nat.le_refl _) _))
    · have HD := Lib.hid (heq h8)
      have HNO : Hid (∀ k, k ≤ n2 → M.takeS k l a0 = none → M.decB l = none) := Lib.hid (fun k hk h => by rw [HD.out, M.takeS_none h hk])
      have d8 : decide (8 < (n2 : Int)) = false := by simp; omega
      clear h8n heq
      go_wp2_with (first | (refine wpList_store_hid rfl 53 _ _ rfl w1.heap.size _ rfl rfl 53 (pad3 []) (rowIn_new (pad3 []) 53 w1) ?_ rfl (pad3_one ns) ?_; kernel_rfl; intro w2 hr2 hbel2 hoth2 hsz2; have hb2 := hbel2 w1.heap.size w1 (Nat.le_refl _) ((Below.refl _ _).alloc (Nat.le_refl _) _); have HR2 := Lib.hid hr2; have HO2 := Lib.hid (HO1.out.below hb2); have HB2 := Lib.hid (below_step HB1.out hb2); have q0 := (hr2.cell 0).trans (pad3_at ns 0 (by decide)); have q1 := (hr2.cell 1).trans (pad3_at ns 1 (by decide)); have q2 := (hr2.cell 2).trans (pad3_at ns 2 (by decide)); rw [HN0.out] at q0; rw [HN1.out] at q1; rw [HN2.out] at q2; clear hr2 hbel2 hoth2 hsz2 hb2) | (refine wpList_store_hid rfl 24 _ _ rfl w2.heap.size _ rfl rfl 24 bz (rowIn_new bz 24 w2) ?_ rfl (btC_one n0 n1 none 0 0) ?_; kernel_rfl; intro w3 hr3 hbel3 hoth3 hsz3; have hb3 := hbel3 w2.heap.size w2 (Nat.le_refl _) ((Below.refl _ _).alloc (Nat.le_refl _) _); have HR3 := Lib.hid hr3; have HO3 := Lib.hid (HO2.out.below hb3); have HB3 := Lib.hid (below_step HB2.out hb3); have q2 := ((HR2.out.below hb3).cell 2).trans (pad3_at ns 2 (by decide)); rw [HN2.out] at q2; clear hr3 hbel3 hoth3 hsz3 hb3))
      have HGW := Lib.hid (show w.heap.size < w2.heap.size from HO2.out.lt)
      go_loopw [5, 34] (fun p i wr => ∃ (k : Nat) (xs : List M.Sp) (a : Nat) (ao : Option Addr) (cap : Nat), k ≤ n2 ∧ p = .int .i64 a ∧ i = .int .i64 k ∧ M.takeS k l a0 = some (xs, a) ∧ RowIn (btC n0 n1 (.slice ao k cap)) 24 wr w2.heap.size ∧ RowIn bz 24 wr w.heap.size ∧ wr.ownsRow (w2.heap.size + 1) 29 8 (.slice ao k cap) k (sps xs) ∧ Below w.heap.size w wr) (fun _ i _ => n2 - (intOf i).toNat)
      case atStart => exact ⟨0, [], a0, none, 0, by omega, rfl, rfl, rfl, HR3.out, HO3.out, World.ownsRow_nil _ _ _ _, HB3.out⟩
      case round =>
        rename_i wr
        obtain ⟨k, xs, a, ao, cap, hk, rfl, rfl, ht, hR, hO, hW, hb⟩ := hrel
        have HT := Lib.hid ht
        have HRr := Lib.hid hR
        have HOr := Lib.hid hO
        have HWr := Lib.hid hW
        have HBr := Lib.hid hb
        have hgl := hR.lt
        have hwl := hO.lt
        clear ht hR hO hW hb
        by_cases hlt : k < n2
        · have hdk : decide ((k : Int) < (n2 : Int)) = true := by simp; omega
          cases hg : M.getTs l a with
          | none =>
            have CG := Lib.hid (fun W => by have := (getText_any l a W (by omega)).mono fun e w' ⟨he, hw⟩ => (⟨he, hw ▸ Below.refl _ _⟩ : e = _ ∧ Below W.heap.size W w'); rw [hg] at this; simp only [triT] at this; exact this)
            have HX := Lib.hid (HNO.out (k + 1) (by omega) (by simp only [M.takeS, HT.out, hg]))
            obtain ⟨x, hx⟩ : ∃ x, x = decX (M.dec []) := ⟨_, rfl⟩
            have CD := Lib.hid (fun W => by have := decode_any [] (by first | omega | decide) W; rw [← hx] at this; exact this)
            clear hg hx
            go_wp2_with fail
            with_reducible refine (CG.out _).mono ?_
            rintro e w3 ⟨rfl, hb3⟩
            have HR3 := Lib.hid (HRr.out.below hb3)
            have HO3 := Lib.hid (HOr.out.below hb3)
            have HW3 := Lib.hid (ownP_below HWr.out hb3)
            have HB3 := Lib.hid (below_step HBr.out hb3)
            clear hb3
            go_wp2_with fail
            with_reducible refine (CD.out _).mono ?_
            rintro e w4 ⟨rfl, hb4⟩
            have HR4 := Lib.hid (HR3.out.below hb4)
            have HO4 := Lib.hid (HO3.out.below hb4)
            have HW4 := Lib.hid (ownP_below HW3.out hb4)
            have HB4 := Lib.hid (below_step HB3.out hb4)
            clear hb4
            go_wp2_with (first | (refine wpList_store_hid rfl 29 _ _ rfl w4.heap.size _ rfl rfl 29 (spC M.sp0) (spIn_new w4) ?_ rfl (spC_one x) ?_; kernel_rfl; intro w5 hr5 hbel5 hoth5 hsz5; have hb5 := hbel5 w4.heap.size w4 (Nat.le_refl _) ((Below.refl _ _).alloc (Nat.le_refl _) _); have HX5 := Lib.hid (show RowIn #[.int .i64 x.trace, .int .i64 x.id, .int .i64 x.parent, .string (S x.svc), .string (S x.host), .int .i64 x.start, .int .i64 x.dur, .string (S x.note)] 29 w5 w4.heap.size from hr5); have HR5 := Lib.hid (HR4.out.below hb5); have HO5 := Lib.hid (HO4.out.below hb5); have HW5 := Lib.hid (ownP_below HW4.out hb5); have HB5 := Lib.hid (below_step HB4.out hb5); clear hr5 hbel5 hoth5 hsz5 hb5) | (refine wpList_store_row rfl 24 _ _ rfl w.heap.size _ rfl rfl 24 bz HO5.out ?_ rfl bz_one ?_; kernel_rfl))
            try simp only [Exit.inBlock, Exit.then]
            exact bodyPost_ret (ret_rowP2 rfl _ _ w.heap.size rfl (load_struct Try.underlying24 (by kernel_rfl) (RowIn.rowP HO5.out))) rfl (by exact DecB.no HX.out (below_setRow HB5.out (Nat.le_refl _) _))
          | some r =>
            obtain ⟨t, c⟩ := r
            have CG := Lib.hid (fun W => by have := (getText_any l a W (by omega)).mono fun e w' ⟨he, hw⟩ => (⟨he, hw ▸ Below.refl _ _⟩ : e = _ ∧ Below W.heap.size W w'); rw [hg] at this; simp only [triT] at this; exact this)
            have hlen := M.getTs_len hg
            cases hd : M.dec t with
            | none =>
              have HX := Lib.hid (HNO.out (k + 1) (by omega) (by simp only [M.takeS, HT.out, hg, hd]))
              obtain ⟨x, hx⟩ : ∃ x, x = M.sp0 := ⟨_, rfl⟩
              have CD := Lib.hid (fun W => by have := decode_any t (by first | omega | decide) W; rw [hd] at this; simp only [decX, decE] at this; rw [← hx] at this; exact this)
              clear hg hd hx
              go_wp2_with fail
              with_reducible refine (CG.out _).mono ?_
              rintro e w3 ⟨rfl, hb3⟩
              have HR3 := Lib.hid (HRr.out.below hb3)
              have HO3 := Lib.hid (HOr.out.below hb3)
              have HW3 := Lib.hid (ownP_below HWr.out hb3)
              have HB3 := Lib.hid (below_step HBr.out hb3)
              clear hb3
              go_wp2_with fail
              with_reducible refine (CD.out _).mono ?_
              rintro e w4 ⟨rfl, hb4⟩
              have HR4 := Lib.hid (HR3.out.below hb4)
              have HO4 := Lib.hid (HO3.out.below hb4)
              have HW4 := Lib.hid (ownP_below HW3.out hb4)
              have HB4 := Lib.hid (below_step HB3.out hb4)
              clear hb4
              go_wp2_with (first | (refine wpList_store_hid rfl 29 _ _ rfl w4.heap.size _ rfl rfl 29 (spC M.sp0) (spIn_new w4) ?_ rfl (spC_one x) ?_; kernel_rfl; intro w5 hr5 hbel5 hoth5 hsz5; have hb5 := hbel5 w4.heap.size w4 (Nat.le_refl _) ((Below.refl _ _).alloc (Nat.le_refl _) _); have HX5 := Lib.hid (show RowIn #[.int .i64 x.trace, .int .i64 x.id, .int .i64 x.parent, .string (S x.svc), .string (S x.host), .int .i64 x.start, .int .i64 x.dur, .string (S x.note)] 29 w5 w4.heap.size from hr5); have HR5 := Lib.hid (HR4.out.below hb5); have HO5 := Lib.hid (HO4.out.below hb5); have HW5 := Lib.hid (ownP_below HW4.out hb5); have HB5 := Lib.hid (below_step HB4.out hb5); clear hr5 hbel5 hoth5 hsz5 hb5) | (refine wpList_store_row rfl 24 _ _ rfl w.heap.size _ rfl rfl 24 bz HO5.out ?_ rfl bz_one ?_; kernel_rfl))
              try simp only [Exit.inBlock, Exit.then]
              exact bodyPost_ret (ret_rowP2 rfl _ _ w.heap.size rfl (load_struct Try.underlying24 (by kernel_rfl) (RowIn.rowP HO5.out))) rfl (by exact DecB.no HX.out (below_setRow HB5.out (Nat.le_refl _) _))
            | some x =>
              have HTS := Lib.hid (show M.takeS (k + 1) l a0 = some (xs ++ [x], c) from by simp only [M.takeS, HT.out, hg, hd])
              have CD := Lib.hid (fun W => by have := decode_any t (by first | omega | decide) W; rw [hd] at this; simp only [decX, decE] at this; exact this)
              clear hg hd
              go_wp2_with fail
              with_reducible refine (CG.out _).mono ?_
              rintro e w3 ⟨rfl, hb3⟩
              have HR3 := Lib.hid (HRr.out.below hb3)
              have HO3 := Lib.hid (HOr.out.below hb3)
              have HW3 := Lib.hid (ownP_below HWr.out hb3)
              have HB3 := Lib.hid (below_step HBr.out hb3)
              clear hb3
              go_wp2_with fail
              with_reducible refine (CD.out _).mono ?_
              rintro e w4 ⟨rfl, hb4⟩
              have HR4 := Lib.hid (HR3.out.below hb4)
              have HO4 := Lib.hid (HO3.out.below hb4)
              have HW4 := Lib.hid (ownP_below HW3.out hb4)
              have HB4 := Lib.hid (below_step HB3.out hb4)
              clear hb4
              go_wp2_with (first | (refine wpList_store_hid rfl 29 _ _ rfl w4.heap.size _ rfl rfl 29 (spC M.sp0) (spIn_new w4) ?_ rfl (spC_one x) ?_; kernel_rfl; intro w5 hr5 hbel5 hoth5 hsz5; have hb5 := hbel5 w4.heap.size w4 (Nat.le_refl _) ((Below.refl _ _).alloc (Nat.le_refl _) _); have HX5 := Lib.hid (show RowIn #[.int .i64 x.trace, .int .i64 x.id, .int .i64 x.parent, .string (S x.svc), .string (S x.host), .int .i64 x.start, .int .i64 x.dur, .string (S x.note)] 29 w5 w4.heap.size from hr5); have HR5 := Lib.hid (HR4.out.below hb5); have HO5 := Lib.hid (HO4.out.below hb5); have HW5 := Lib.hid (ownP_below HW4.out hb5); have HB5 := Lib.hid (below_step HB4.out hb5); have k9 : w5.cell? ⟨w2.heap.size, 2, none⟩ = some (.slice ao k cap) := HR5.out.cell 2; clear hr5 hbel5 hoth5 hsz5 hb5) | (refine wpList_load_row rfl 29 _ rfl w4.heap.size rfl 29 _ (0, 0) _ HX5.out Try.underlying29 rfl ?_ ?_; kernel_rfl) | (at_builtin; refine wpList_append_own _ rfl _ _ 22 rfl (w2.heap.size + 1) 29 i0 z0 8 88 Try.underlying22 hi hz0 hz1 hz2 hz3 (by decide) (.slice ao k cap) k (sps xs) rfl (HW5.out.alloc _) ⟨w5.heap.size, 0, none⟩ 1 1 (spL x) rfl rfl (sp_new _ _ _) (spL_one x) (by unfold maxLen; omega) (by omega) (by have h9 := HR5.out.lt; rw [szA]; omega) ?_; intro v6 w6 hown6 hgrow6 hnil6; obtain ⟨ao6, cap6, rfl⟩ := ownP_shape hown6; have HR6 := Lib.hid (((HR5.out.more (.cells #[.int .i64 x.trace, .int .i64 x.id, .int .i64 x.parent, .string (S x.svc), .string (S x.host), .int .i64 x.start, .int .i64 x.dur, .string (S x.note)] 29)).grownP hgrow6 (fun q hq h => by have h9 := (HW5.out.lt q hq).1; omega))); have HO6 := Lib.hid (((HO5.out.more (.cells #[.int .i64 x.trace, .int .i64 x.id, .int .i64 x.parent, .string (S x.svc), .string (S x.host), .int .i64 x.start, .int .i64 x.dur, .string (S x.note)] 29)).grownP hgrow6 (fun q hq h => by have h9 := (HW5.out.lt q hq).1; have h8 := HGW.out; omega))); have HW6 := Lib.hid (show w6.ownsRow (w2.heap.size + 1) 29 8 (.slice ao6 (k + 1) cap6) (k + 1) (sps (xs ++ [x])) from by rw [sps_append, sps_one]; exact hown6); have HB6 := Lib.hid ((HB5.out.alloc HB5.out.size _).grown hgrow6 (by have h9 := HB5.out.size; rw [szA]; omega) (fun q hq => by have h9 := (HW5.out.lt q hq).1; have h8 := HGW.out; omega)); have k8 : w6.cell? ⟨w2.heap.size, 2, none⟩ = some (.slice ao k cap) := HR6.out.cell 2; have f8 := HR6.out.free 2; clear hown6 hgrow6 hnil6))
              go_roundw
              case rel =>
                refine ⟨k + 1, xs ++ [x], c, ao6, cap6, by omega, rfl, by go_num, HTS.out, HR6.out.set 2 (.slice ao6 (k + 1 : Nat) cap6), HO6.out.other (c := w2.heap.size) (by have h8 := HGW.out; omega) _ _, ownP_set HW6.out (by omega) _ _, HB6.out.setCell (by have h8 := HGW.out; simp; omega) _⟩
              case measure => simp [intOf]; omega
        · obtain rfl : k = n2 := by omega
          have hdk : decide ((k : Int) < (k : Int)) = false := by simp
          have hL := M.takeS_len HT.out
          have hDX : M.decB l = if a = l.length ∧ M.bMay ⟨n0, n1, xs⟩ = true then some ⟨n0, n1, xs⟩ else none := by rw [HD.out, HT.out]
          by_cases ha : a = l.length
          · subst ha
            subst hL
            have k0 : wr.cell? ⟨w2.heap.size, 0, none⟩ = some (.int .i64 n0) := HRr.out.cell 0
            have k1 : wr.cell? ⟨w2.heap.size, 1, none⟩ = some (.int .i64 n1) := HRr.out.cell 1
            have k2 : wr.cell? ⟨w2.heap.size, 2, none⟩ = some (.slice ao xs.length cap) := HRr.out.cell 2
            have C5 := Lib.hid (fun W => batchMayBe_any n0 n1 xs ao cap W (by omega))
            cases hm : M.bMay ⟨n0, n1, xs⟩ with
            | false =>
              have HX := Lib.hid (show M.decB l = none from by rw [hDX, hm]; simp)
              rw [hm] at C5
              clear hDX hm
              go_wp2_with fail
              with_reducible refine (C5.out _).mono ?_
              rintro e w5 ⟨rfl, hb5⟩
              have HO5 := Lib.hid (HOr.out.below hb5)
              have HB5 := Lib.hid (below_step HBr.out hb5)
              clear hb5 k0 k1 k2
              go_wp2_with (refine wpList_store_row rfl 24 _ _ rfl w.heap.size _ rfl rfl 24 bz HO5.out ?_ rfl bz_one ?_; kernel_rfl)
              try simp only [Exit.inBlock, Exit.then]
              exact bodyPost_ret (ret_rowP2 rfl _ _ w.heap.size rfl (load_struct Try.underlying24 (by kernel_rfl) (RowIn.rowP HO5.out))) rfl (by exact DecB.no HX.out (below_setRow HB5.out (Nat.le_refl _) _))
            | true =>
              have HX := Lib.hid (show M.decB l = some ⟨n0, n1, xs⟩ from by rw [hDX, hm]; simp)
              rw [hm] at C5
              clear hDX hm
              go_wp2_with fail
              with_reducible refine (C5.out _).mono ?_
              rintro e w5 ⟨rfl, hb5⟩
              have HR5 := Lib.hid (HRr.out.below hb5)
              have HO5 := Lib.hid (HOr.out.below hb5)
              have HB5 := Lib.hid (below_step HBr.out hb5)
              have HW5 := Lib.hid (ownP_below HWr.out hb5)
              clear hb5 k0 k1 k2
              go_wp2_with (first | (refine wpList_load_row rfl 24 _ rfl w2.heap.size rfl 24 _ (0, 0) _ HR5.out Try.underlying24 rfl ?_ ?_; kernel_rfl) | (refine wpList_store_row rfl 24 _ _ rfl w.heap.size _ rfl rfl 24 bz HO5.out ?_ rfl (btC_one n0 n1 ao xs.length cap) ?_; kernel_rfl))
              try simp only [Exit.inBlock, Exit.then]
              exact bodyPost_ret (ret_rowP2 rfl _ _ w.heap.size rfl (load_struct Try.underlying24 (by kernel_rfl) (RowIn.rowP HO5.out))) rfl (by exact DecB.yes HX.out rfl (ownP_mono (ownP_row HW5.out (by have h8 := HGW.out; omega) _) (by have h8 := HGW.out; omega)) (below_setRow HB5.out (Nat.le_refl _) _))
          · have hci : ¬ ((a : Int) = (l.length : Int)) := by omega
            have HX := Lib.hid (show M.decB l = none from by rw [hDX, if_neg (fun h => ha h.1)])
            clear hDX
            go_wp2_with (refine wpList_store_row rfl 24 _ _ rfl w.heap.size _ rfl rfl 24 bz HOr.out ?_ rfl bz_one ?_; kernel_rfl)
            try simp only [Exit.inBlock, Exit.then]
            exact bodyPost_ret (ret_rowP2 rfl _ _ w.heap.size rfl (load_struct Try.underlying24 (by kernel_rfl) (RowIn.rowP HOr.out))) rfl (by exact DecB.no HX.out (below_setRow HBr.out (Nat.le_refl _) _))
  · have HX := Lib.hid (M.decB_none h1)
    have HO1 := Lib.hid (HN.out.below hb1)
    have HB1 := Lib.hid (below_step HBN.out hb1)
    clear hb1 h1
    go_wp2_with (first | (refine wpList_store_hid rfl 53 _ _ rfl w1.heap.size _ rfl rfl 53 (pad3 []) (rowIn_new (pad3 []) 53 w1) ?_ rfl (pad3_one ns) ?_; kernel_rfl; intro w2 hr2 hbel2 hoth2 hsz2; have hb2 := hbel2 w1.heap.size w1 (Nat.le_refl _) ((Below.refl _ _).alloc (Nat.le_refl _) _); have HR2 := Lib.hid hr2; have HO2 := Lib.hid (HO1.out.below hb2); have HB2 := Lib.hid (below_step HB1.out hb2); clear hr2 hbel2 hoth2 hsz2 hb2) | (refine wpList_store_row rfl 24 _ _ rfl w.heap.size _ rfl rfl 24 bz HO2.out ?_ rfl bz_one ?_; kernel_rfl))
    try simp only [Exit.inBlock, Exit.then]
    exact bodyPost_ret (ret_rowP2 rfl _ _ w.heap.size rfl (load_struct Try.underlying24 (by kernel_rfl) (RowIn.rowP HO2.out))) rfl (by exact DecB.no HX.out (below_setRow HB2.out (Nat.le_refl _) _))

end Go.Proofs.Ytblgfhljaafmhaa
