/- Layer 12: PostsEncode, walked. -/
import Derived.Test.YtblgfhljaafmhaaPostsV
import Derived.Deep.CutRange
import Derived.Deep.RegionHeld3
namespace Go.Proofs.Ytblgfhljaafmhaa
set_option linter.unusedVariables false
open Go Go.RowKit
attribute [local go_sem ↓] run_index_S
attribute [local go_sem] S_append S_extract

/-- What the law's own copy comes to. -/
def PEnc (W w2 : World) (h f : Int) (L : List M.Sp) (X : Nat) (w' : World) : Prop := ∃ g c6, L.length + 1 ≤ c6 ∧ RowIn #[.int .i64 h, .int .i64 f, .slice (some ⟨g, 0, none⟩) L.length c6] 24 w' X ∧ w'.ownsRow w2.heap.size 29 8 (.slice (some ⟨g, 0, none⟩) (L.length + 1) c6) (L.length + 1) (sps (L ++ [s70])) ∧ Below X w2 w'

set_option maxHeartbeats 8000000 in
set_option maxRecDepth 100000 in
theorem postsEncode_calls (W : World) (v : Value) (hv : UBt W v) (u : Value) (hu : UAk u) :
    Calls Try.prog 3 #[v, u] W fun e w' => e = .returned (.bool true) ∧ Below W.heap.size W w' := by
  obtain ⟨h, f, L, ao, cap, rfl, hbd, hlen, hint, hcap, hs⟩ := hv
  obtain ⟨a, rfl, hai⟩ := hu
  have bw := ((Below.refl W.heap.size W).alloc (Nat.le_refl _) (.cells #[.int .i64 h, .int .i64 f, .slice ao L.length cap] 24)).alloc (by rw [szA]; omega) (.cells #[.int .i64 a.host, .int .i64 a.first, .int .i64 a.next] 26)
  have HB0 := Lib.hid bw
  have HS0 := Lib.hid (hs.below bw)
  have HR0 := Lib.hid ((rowIn_new #[.int .i64 h, .int .i64 f, .slice ao L.length cap] 24 W).more (.cells #[.int .i64 a.host, .int .i64 a.first, .int .i64 a.next] 26))
  have HA0 := Lib.hid (rowIn_at #[.int .i64 a.host, .int .i64 a.first, .int .i64 a.next] 26 (W.alloc (.cells #[.int .i64 h, .int .i64 f, .slice ao L.length cap] 24)) (W.heap.size + 1) (by rw [szA]))
  have CG := Lib.hid (fun W' hs' => great12_any (w := W') (ao := ao) h f L cap hs' hlen)
  obtain ⟨i0, z0, hi, hz0, hz1, hz2, hz3⟩ := infoSp_parts
  have HSW := Lib.hid hs
  clear bw hs
  go_enter Try.func3, Try.ntmps3
  go_wp2_with fail
  with_reducible refine (CG.out _ HS0.out).mono ?_
  rintro e w1 ⟨rfl | ⟨rfl, hsm⟩, hb1⟩
  · go_wp2_with fail
    go_ret
    exact ⟨rfl, below_step HB0.out hb1⟩
  have hf := fun x (hx : x ∈ L) => by
    have h1 := hsm.2 x hx
    exact (hint x hx).fits (by have := h1.1; omega) (by have := h1.2.1; omega) (by have := h1.2.2; omega)
  have h50 := hsm.1
  have CB := Lib.hid (fun W' ao' c1 hs' => encB_l ⟨h, f, L⟩ ao' c1 W' (by dsimp only; omega) hf hs')
  have CR := Lib.hid (fun W' (hs' : SpsAt W' ao L) => (show Calls Try.prog 11 #[.agg #[.int .i64 h, .int .i64 f, .slice ao L.length cap]] W' fun e w' => e = .returned (.tuple #[.string (S (encBl ⟨h, f, L⟩)), .int .i64 (M.errOf (M.bOk ⟨h, f, L⟩))]) ∧ Below W'.heap.size W' w' from refEncBatch_any ⟨h, f, L⟩ ao cap W' (by dsimp only; omega) hf hs'))
  have CA := Lib.hid (fun W' => encA_l a W')
  have CQ := Lib.hid (fun W' => (show Calls Try.prog 13 #[.agg #[.int .i64 a.host, .int .i64 a.first, .int .i64 a.next]] W' fun e w' => e = .returned (.tuple #[.string (S (encAl a)), .int .i64 (M.errOf (M.aMay a))]) ∧ Below W'.heap.size W' w' from refEncAck_any a W'))
  have CS := Lib.hid (fun W' bo c1 hb1 hb2 => (sameBatch_any (w := W') (ao := bo) (bo := ao) ⟨h, f, L⟩ ⟨h, f, L⟩ c1 cap hb1 hb2 (by dsimp only; omega) (by dsimp only; omega)).mono fun e w' h => h.is rfl)
  dsimp only at CB CS
  generalize encBl ⟨h, f, L⟩ = s at *
  generalize encAl a = t at *
  generalize M.errOf (M.bOk ⟨h, f, L⟩) = e1 at *
  generalize M.errOf (M.aMay a) = e2 at *
  have HR1 := Lib.hid (HR0.out.below hb1)
  have HA1 := Lib.hid (HA0.out.below hb1)
  have HS1 := Lib.hid (HS0.out.below hb1)
  have HB1 := Lib.hid (below_step HB0.out hb1)
  clear hb1
  clear hsm hint hlen hcap hf HR0 HA0 HS0 HB0
  have r0 : w1.cell? ⟨W.heap.size, 0, none⟩ = some (.int .i64 h) := HR1.out.cell 0
  have r1 : w1.cell? ⟨W.heap.size, 1, none⟩ = some (.int .i64 f) := HR1.out.cell 1
  have r2 : w1.cell? ⟨W.heap.size, 2, none⟩ = some (.slice ao L.length cap) := HR1.out.cell 2
  have hw1 := HA1.out.lt
  go_wp2_with (refine wpList_store_hid rfl 24 _ _ rfl w1.heap.size _ rfl rfl 24 bz (rowIn_new bz 24 w1) ?_ rfl (btC_one h f ao L.length cap) ?_; kernel_rfl; intro w2 hr hbel hoth hsz; have hb := hbel w1.heap.size w1 (Nat.le_refl _) ((Below.refl _ _).alloc (Nat.le_refl _) _); have HR2 := Lib.hid (HR1.out.below hb); have HA2 := Lib.hid (HA1.out.below hb); have HS2 := Lib.hid (HS1.out.below hb); have HB2 := Lib.hid (below_step HB1.out hb); have HT2 := Lib.hid (show RowIn #[.int .i64 h, .int .i64 f, .slice ao L.length cap] 24 w2 w1.heap.size from hr); clear hr hbel hoth hsz hb)
  have hx2 := HT2.out.lt
  generalize w1.heap.size = X at *
  simp only [Act.put]
  clear r0 r1 r2
  go_cut [4] from 17 to 32 (fun c wx => c = .bool false ∧ PEnc W w2 h f L X wx)
  case first =>
    obtain ⟨C, hC, hmk⟩ := make_sps 22 Try.underlying22 (L.length + 1) (by omega) .i64 .i64
    simp only [Int.natCast_add, Int.natCast_one] at hmk
    have r2 : w2.cell? ⟨W.heap.size, 2, none⟩ = some (.slice ao L.length cap) := HR2.out.cell 2
    have k2 : w2.cell? ⟨X, 2, none⟩ = some (.slice ao L.length cap) := HT2.out.cell 2
    have f2 := HT2.out.free 2
    have ew : IntKind.i64.wrap ((L.length : Int) + 1) = (L.length : Int) + 1 := IntWalk.i64_in _ (by omega)
    have b1 : (0 : Int) ≤ (L.length : Int) := by omega
    have hne1 : ¬ (W.heap.size = X) := by omega
    have hne2 : ¬ (X = W.heap.size) := by omega
    have HMK := Lib.hid (World.ownsRow_made (base := w2.heap.size) w2 C (L.length + 1) (Nat.le_refl _) (by unfold maxLen; omega) hC (e := 29))
    have HMK2 := Lib.hid (World.ownsRow_made (base := w2.heap.size) (w2.alloc (.cells #[.int .i64 0, .int .i64 (-70), .int .i64 0, .string ⟨#[]⟩, .string ⟨#[]⟩, .int .i64 0, .int .i64 0, .string ⟨#[]⟩] 29)) C (L.length + 1) (by rw [szA]; exact Nat.le_succ _) (by unfold maxLen; omega) hC (e := 29))
    rw [szA] at HMK2
    go_region_held3 (fun W' => W'.cell? ⟨W.heap.size, 2, none⟩ = some (.slice ao L.length cap)) (go_keep) (first
      | (have _t := HOWN5; clear _t; refine step_append_sps (by rfl) _ _ 22 (by rfl) w2.heap.size i0 z0 Try.underlying22 hi hz0 hz1 hz2 hz3 (.slice so L.length sc) L.length (sps L) (by rfl) (HOWN5.out.alloc _) (some ⟨w5.heap.size, 0, none⟩) 1 [s70] (by rfl) (spsAt_one (T := 29) (rowIn_new (spC s70) 29 w5)) (by simp; omega) (by have := HB5.out.size; rw [szA]; omega) ?_; intro v6 w6 hown6 hgrow6; obtain ⟨g, hg6⟩ : ∃ g c6, v6 = .slice (some ⟨g, 0, none⟩) (L.length + 1) c6 ∧ L.length + 1 ≤ c6 := (by rcases hown6.2 with ⟨_, h9⟩ | ⟨g9, c9, _, h9, _, _, h8, _⟩; (exfalso; simp at h9); exact ⟨g9, c9, h9, h8⟩); obtain ⟨c6, rfl, hc6⟩ := hg6; have HB6 : Hid (Below w2.heap.size w2 w6) := Lib.hid ((HB5.out.alloc HB5.out.size (.cells (spC s70) 29)).grown hgrow6 ((by have := HB5.out.size; rw [szA]; omega)) (fun q hq => (HOWN5.out.lt q hq).1)); have HOWN6 : Hid (w6.ownsRow w2.heap.size 29 8 (.slice (some ⟨g, 0, none⟩) (L.length + 1) c6) (L.length + 1) (sps (L ++ [s70]))) := Lib.hid (by rw [sps_append]; exact hown6); have b2 : (L.length : Int) ≤ (c6 : Int) := (by omega); have c9 : w6.cell? ⟨W.heap.size, 2, none⟩ = some (.slice ao L.length cap) := (HR2.out.below HB6.out).cell 2; have k9 : w6.cell? ⟨X, 2, none⟩ = some (.slice ao L.length cap) := (HT2.out.below HB6.out).cell 2; have f9 := (HT2.out.below HB6.out).free 2; clear hown6 hgrow6)
      | (have _t := HOWN5; clear _t; refine step_append_sps (by rfl) _ _ 22 (by rfl) w2.heap.size i0 z0 Try.underlying22 hi hz0 hz1 hz2 hz3 (.slice so L.length sc) L.length (sps L) (by rfl) HOWN5.out (some ⟨w2.heap.size + 1, 0, none⟩) 1 [s70] (by rfl) (spsAt_one (T := 29) H70.out) (by simp; omega) HB5.out.size ?_; intro v6 w6 hown6 hgrow6; obtain ⟨g, hg6⟩ : ∃ g c6, v6 = .slice (some ⟨g, 0, none⟩) (L.length + 1) c6 ∧ L.length + 1 ≤ c6 := (by rcases hown6.2 with ⟨_, h9⟩ | ⟨g9, c9, _, h9, _, _, h8, _⟩; (exfalso; simp at h9); exact ⟨g9, c9, h9, h8⟩); obtain ⟨c6, rfl, hc6⟩ := hg6; have HB6 : Hid (Below w2.heap.size w2 w6) := Lib.hid (HB5.out.grown hgrow6 (HB5.out.size) (fun q hq => (HOWN5.out.lt q hq).1)); have HOWN6 : Hid (w6.ownsRow w2.heap.size 29 8 (.slice (some ⟨g, 0, none⟩) (L.length + 1) c6) (L.length + 1) (sps (L ++ [s70]))) := Lib.hid (by rw [sps_append]; exact hown6); have b2 : (L.length : Int) ≤ (c6 : Int) := (by omega); have c9 : w6.cell? ⟨W.heap.size, 2, none⟩ = some (.slice ao L.length cap) := (HR2.out.below HB6.out).cell 2; have k9 : w6.cell? ⟨X, 2, none⟩ = some (.slice ao L.length cap) := (HT2.out.below HB6.out).cell 2; have f9 := (HT2.out.below HB6.out).free 2; clear hown6 hgrow6)
      | (have _t := HOWN5; clear _t; refine step_append_sps (by rfl) _ _ 22 (by rfl) w2.heap.size i0 z0 Try.underlying22 hi hz0 hz1 hz2 hz3 (.slice so L.length sc) L.length (sps L) (by rfl) HOWN5.out (some ⟨w2.heap.size, 0, none⟩) 1 [s70] (by rfl) (spsAt_one (T := 29) H70.out) (by simp; omega) HB5.out.size ?_; intro v6 w6 hown6 hgrow6; obtain ⟨g, hg6⟩ : ∃ g c6, v6 = .slice (some ⟨g, 0, none⟩) (L.length + 1) c6 ∧ L.length + 1 ≤ c6 := (by rcases hown6.2 with ⟨_, h9⟩ | ⟨g9, c9, _, h9, _, _, h8, _⟩; (exfalso; simp at h9); exact ⟨g9, c9, h9, h8⟩); obtain ⟨c6, rfl, hc6⟩ := hg6; have HB6 : Hid (Below w2.heap.size w2 w6) := Lib.hid (HB5.out.grown hgrow6 (HB5.out.size) (fun q hq => (HOWN5.out.lt q hq).1)); have HOWN6 : Hid (w6.ownsRow w2.heap.size 29 8 (.slice (some ⟨g, 0, none⟩) (L.length + 1) c6) (L.length + 1) (sps (L ++ [s70]))) := Lib.hid (by rw [sps_append]; exact hown6); have b2 : (L.length : Int) ≤ (c6 : Int) := (by omega); have c9 : w6.cell? ⟨W.heap.size, 2, none⟩ = some (.slice ao L.length cap) := (HR2.out.below HB6.out).cell 2; have k9 : w6.cell? ⟨X, 2, none⟩ = some (.slice ao L.length cap) := (HT2.out.below HB6.out).cell 2; have f9 := (HT2.out.below HB6.out).free 2; clear hown6 hgrow6)
      | (refine step_append_sps (by rfl) _ _ 22 (by rfl) w2.heap.size i0 z0 Try.underlying22 hi hz0 hz1 hz2 hz3 (.slice (some ⟨w2.heap.size, 0, none⟩) 0 (L.length + 1)) 0 [] (by rfl) HMK.out ao cap L (by rfl) (HS2.out.below (((Below.refl w2.heap.size w2).alloc (Nat.le_refl _) _).drew)) (by omega) (by show w2.heap.size ≤ (w2.alloc _).heap.size; rw [szA]; exact Nat.le_succ _) ?_; intro v5 w5 hown5 hgrow5; rw [Nat.zero_add, List.nil_append] at hown5; obtain ⟨so, sc, rfl⟩ := ownP_shape hown5; have HB5 : Hid (Below w2.heap.size w2 w5) := Lib.hid ((((Below.refl w2.heap.size w2).alloc (Nat.le_refl _) _).drew).grown hgrow5 ((by show w2.heap.size ≤ (w2.alloc _).heap.size; rw [szA]; exact Nat.le_succ _)) (fun q hq => by cases hq; exact Nat.le_refl _)); have HOWN5 := Lib.hid hown5; have c5 : w5.cell? ⟨W.heap.size, 2, none⟩ = some (.slice ao L.length cap) := (HR2.out.below HB5.out).cell 2; clear hown5 hgrow5)
      | (refine step_append_sps (by rfl) _ _ 22 (by rfl) w2.heap.size i0 z0 Try.underlying22 hi hz0 hz1 hz2 hz3 (.slice (some ⟨w2.heap.size, 0, none⟩) 0 (L.length + 1)) 0 [] (by rfl) (HMK.out.alloc _) ao cap L (by rfl) (HS2.out.below ((((Below.refl w2.heap.size w2).alloc (Nat.le_refl _) _).alloc (by rw [szA]; exact Nat.le_succ _) _).drew)) (by omega) (by show w2.heap.size ≤ ((w2.alloc _).alloc _).heap.size; rw [szA, szA]; exact Nat.le_trans (Nat.le_succ _) (Nat.le_succ _)) ?_; intro v5 w5 hown5 hgrow5; rw [Nat.zero_add, List.nil_append] at hown5; obtain ⟨so, sc, rfl⟩ := ownP_shape hown5; have HB5 : Hid (Below w2.heap.size w2 w5) := Lib.hid (((((Below.refl w2.heap.size w2).alloc (Nat.le_refl _) _).alloc (by rw [szA]; exact Nat.le_succ _) _).drew).grown hgrow5 ((by show w2.heap.size ≤ ((w2.alloc _).alloc _).heap.size; rw [szA, szA]; exact Nat.le_trans (Nat.le_succ _) (Nat.le_succ _))) (fun q hq => by cases hq; exact Nat.le_refl _)); have HOWN5 := Lib.hid hown5; have H70 : Hid (RowIn (spC s70) 29 w5 (w2.heap.size + 1)) := Lib.hid (RowIn.grownP (w := ((w2.alloc (.cells C 29)).alloc (.cells (spC s70) 29)).drew) (rowIn_at (spC s70) 29 (w2.alloc (.cells C 29)) (w2.heap.size + 1) (by rw [szA])) hgrow5 (fun q hq => by cases hq; exact (Nat.succ_ne_self _).symm)); have c5 : w5.cell? ⟨W.heap.size, 2, none⟩ = some (.slice ao L.length cap) := (HR2.out.below HB5.out).cell 2; clear hown5 hgrow5)
      | (refine step_append_sps (by rfl) _ _ 22 (by rfl) w2.heap.size i0 z0 Try.underlying22 hi hz0 hz1 hz2 hz3 (.slice (some ⟨w2.heap.size + 1, 0, none⟩) 0 (L.length + 1)) 0 [] (by rfl) HMK2.out ao cap L (by rfl) (HS2.out.below ((((Below.refl w2.heap.size w2).alloc (Nat.le_refl _) _).alloc (by rw [szA]; exact Nat.le_succ _) _).drew)) (by omega) (by show w2.heap.size ≤ ((w2.alloc _).alloc _).heap.size; rw [szA, szA]; exact Nat.le_trans (Nat.le_succ _) (Nat.le_succ _)) ?_; intro v5 w5 hown5 hgrow5; rw [Nat.zero_add, List.nil_append] at hown5; obtain ⟨so, sc, rfl⟩ := ownP_shape hown5; have HB5 : Hid (Below w2.heap.size w2 w5) := Lib.hid (((((Below.refl w2.heap.size w2).alloc (Nat.le_refl _) _).alloc (by rw [szA]; exact Nat.le_succ _) _).drew).grown hgrow5 ((by show w2.heap.size ≤ ((w2.alloc _).alloc _).heap.size; rw [szA, szA]; exact Nat.le_trans (Nat.le_succ _) (Nat.le_succ _))) (fun q hq => by cases hq; exact Nat.le_succ _)); have HOWN5 := Lib.hid hown5; have H70 : Hid (RowIn (spC s70) 29 w5 w2.heap.size) := Lib.hid (RowIn.grownP (w := ((w2.alloc (.cells (spC s70) 29)).alloc (.cells C 29)).drew) ((rowIn_new (spC s70) 29 w2).more (.cells C 29)) hgrow5 (fun q hq => by cases hq; show w2.heap.size + 1 ≠ w2.heap.size; omega)); have c5 : w5.cell? ⟨W.heap.size, 2, none⟩ = some (.slice ao L.length cap) := (HR2.out.below HB5.out).cell 2; clear hown5 hgrow5))
    all_goals
      go_wp2_with fail
      go_meet
      case rel => exact ⟨rfl, g, c6, hc6, (HT2.out.below HB6.out).set 2 (.slice (some ⟨g, 0, none⟩) L.length c6), ownP_set HOWN6.out hx2 _ _, (HB6.out.mono (Nat.le_of_lt hx2)).setCell (Nat.le_refl _) _⟩
  case rest =>
  rename_i wc
  obtain ⟨rfl, g, c6, hc6, hT, hO, hB⟩ := hcut
  have HBc := Lib.hid (HB2.out.trans (hB.mono (by omega)))
  have HSc := Lib.hid (HSW.out.below HBc.out)
  have HRc := Lib.hid (show RowIn #[.int .i64 h, .int .i64 f, .slice ao L.length cap] 24 wc W.heap.size from (hB.block _ (by omega)).trans HR2.out)
  have HAc := Lib.hid (show RowIn #[.int .i64 a.host, .int .i64 a.first, .int .i64 a.next] 26 wc (W.heap.size + 1) from (hB.block _ (by omega)).trans HA2.out)
  have HTc := Lib.hid hT
  obtain ⟨g', off, hgo, hu, h7⟩ := spsAt_take (spsAt_own hO (by simp))
  cases hgo
  have HUc := Lib.hid hu
  have H7c := Lib.hid (show SpOff s70 wc g (L.length * 8) from by rw [Nat.zero_add] at h7; exact h7)
  clear hT hO hB hu h7 HR2 HA2 HS2 HB2 HT2 HR1 HA1 HS1 HB1 HSW CG
  have t0 : wc.cell? ⟨X, 0, none⟩ = some (.int .i64 h) := HTc.out.cell 0
  have t1 : wc.cell? ⟨X, 1, none⟩ = some (.int .i64 f) := HTc.out.cell 1
  have t2 : wc.cell? ⟨X, 2, none⟩ = some (.slice (some ⟨g, 0, none⟩) L.length c6) := HTc.out.cell 2
  go_wp2_with fail
  with_reducible refine (CB.out _ _ _ HUc.out).mono ?_
  rintro e w3 ⟨rfl, hb3⟩
  have HR3 := Lib.hid (HRc.out.below hb3)
  have HA3 := Lib.hid (HAc.out.below hb3)
  have HS3 := Lib.hid (HSc.out.below hb3)
  have HT3 := Lib.hid (HTc.out.below hb3)
  have HU3 := Lib.hid (HUc.out.below hb3)
  have H73 := Lib.hid (H7c.out.below hb3)
  have HB3 := Lib.hid (below_step HBc.out hb3)
  clear hb3
  clear t0 t1 t2
  have r0 : w3.cell? ⟨W.heap.size, 0, none⟩ = some (.int .i64 h) := HR3.out.cell 0
  have r1 : w3.cell? ⟨W.heap.size, 1, none⟩ = some (.int .i64 f) := HR3.out.cell 1
  have r2 : w3.cell? ⟨W.heap.size, 2, none⟩ = some (.slice ao L.length cap) := HR3.out.cell 2
  go_wp2_with fail
  with_reducible refine (CR.out _ HS3.out).mono ?_
  rintro e w4 ⟨rfl, hb4⟩
  have HR4 := Lib.hid (HR3.out.below hb4)
  have HA4 := Lib.hid (HA3.out.below hb4)
  have HS4 := Lib.hid (HS3.out.below hb4)
  have HT4 := Lib.hid (HT3.out.below hb4)
  have HU4 := Lib.hid (HU3.out.below hb4)
  have H74 := Lib.hid (H73.out.below hb4)
  have HB4 := Lib.hid (below_step HB3.out hb4)
  clear hb4
  clear r0 r1 r2
  have q0 : w4.cell? ⟨W.heap.size + 1, 0, none⟩ = some (.int .i64 a.host) := HA4.out.cell 0
  have q1 : w4.cell? ⟨W.heap.size + 1, 1, none⟩ = some (.int .i64 a.first) := HA4.out.cell 1
  have q2 : w4.cell? ⟨W.heap.size + 1, 2, none⟩ = some (.int .i64 a.next) := HA4.out.cell 2
  go_wp2_with fail
  with_reducible refine (CA.out _).mono ?_
  rintro e w5 ⟨rfl, hb5⟩
  have HR5 := Lib.hid (HR4.out.below hb5)
  have HA5 := Lib.hid (HA4.out.below hb5)
  have HS5 := Lib.hid (HS4.out.below hb5)
  have HT5 := Lib.hid (HT4.out.below hb5)
  have HU5 := Lib.hid (HU4.out.below hb5)
  have H75 := Lib.hid (H74.out.below hb5)
  have HB5 := Lib.hid (below_step HB4.out hb5)
  clear hb5
  clear q0 q1 q2
  have q0 : w5.cell? ⟨W.heap.size + 1, 0, none⟩ = some (.int .i64 a.host) := HA5.out.cell 0
  have q1 : w5.cell? ⟨W.heap.size + 1, 1, none⟩ = some (.int .i64 a.first) := HA5.out.cell 1
  have q2 : w5.cell? ⟨W.heap.size + 1, 2, none⟩ = some (.int .i64 a.next) := HA5.out.cell 2
  go_wp2_with fail
  with_reducible refine (CQ.out _).mono ?_
  rintro e w6 ⟨rfl, hb6⟩
  have HR6 := Lib.hid (HR5.out.below hb6)
  have HA6 := Lib.hid (HA5.out.below hb6)
  have HS6 := Lib.hid (HS5.out.below hb6)
  have HT6 := Lib.hid (HT5.out.below hb6)
  have HU6 := Lib.hid (HU5.out.below hb6)
  have H76 := Lib.hid (H75.out.below hb6)
  have HB6 := Lib.hid (below_step HB5.out hb6)
  clear hb6
  clear q0 q1 q2
  go_wp2_with fail
  have t0 : w6.cell? ⟨X, 0, none⟩ = some (.int .i64 h) := HT6.out.cell 0
  have t1 : w6.cell? ⟨X, 1, none⟩ = some (.int .i64 f) := HT6.out.cell 1
  have t2 : w6.cell? ⟨X, 2, none⟩ = some (.slice (some ⟨g, 0, none⟩) L.length c6) := HT6.out.cell 2
  have r0 : w6.cell? ⟨W.heap.size, 0, none⟩ = some (.int .i64 h) := HR6.out.cell 0
  have r1 : w6.cell? ⟨W.heap.size, 1, none⟩ = some (.int .i64 f) := HR6.out.cell 1
  have r2 : w6.cell? ⟨W.heap.size, 2, none⟩ = some (.slice ao L.length cap) := HR6.out.cell 2
  have c70 : w6.cell? ⟨g, L.length * 8 + 1, none⟩ = some (.int .i64 (-70)) := H76.out.2.1
  have ew : IntKind.i64.wrap ((L.length : Int) + 1) = (L.length : Int) + 1 := IntWalk.i64_in _ (by omega)
  have b0 : (0 : Int) ≤ (L.length : Int) + 1 := by omega
  have b1 : (0 : Int) ≤ (L.length : Int) := by omega
  have b2 : (L.length : Int) + 1 ≤ (c6 : Int) := by omega
  have b3 : (L.length : Int) < (L.length : Int) + 1 := by omega
  have b4 : ((L.length : Int) + 1).toNat = L.length + 1 := by omega
  go_region_held3 (fun W' => W'.cell? ⟨X, 0, none⟩ = some (.int .i64 h) ∧ W'.cell? ⟨X, 1, none⟩ = some (.int .i64 f) ∧ W'.cell? ⟨X, 2, none⟩ = some (.slice (some ⟨g, 0, none⟩) L.length c6) ∧ W'.cell? ⟨W.heap.size, 0, none⟩ = some (.int .i64 h) ∧ W'.cell? ⟨W.heap.size, 1, none⟩ = some (.int .i64 f) ∧ W'.cell? ⟨W.heap.size, 2, none⟩ = some (.slice ao L.length cap) ∧ W'.cell? ⟨g, L.length * 8 + 1, none⟩ = some (.int .i64 (-70))) (go_keep) (first
    | (go_at_call 14; refine (CS.out _ _ _ (HU6.out.same (w' := w6.drew) rfl) (HS6.out.same (w' := w6.drew) rfl)).mono ?_; rintro e w7 ⟨rfl, hb7⟩; have HT7 : Hid (RowIn _ _ w7 X) := Lib.hid (RowIn.below (show RowIn _ _ w6.drew X from HT6.out) hb7); have HR7 : Hid (RowIn _ _ w7 W.heap.size) := Lib.hid (RowIn.below (show RowIn _ _ w6.drew W.heap.size from HR6.out) hb7); have H77 : Hid (SpOff s70 w7 g (L.length * 8)) := Lib.hid (SpOff.below (show SpOff s70 w6.drew g (L.length * 8) from H76.out) hb7); have HB7 : Hid (Below W.heap.size W w7) := Lib.hid (below_step HB6.out.drew hb7); clear hb7 t0 t1 t2 r0 r1 r2 c70; have t0 : w7.cell? ⟨X, 0, none⟩ = some (.int .i64 h) := HT7.out.cell 0; have t1 : w7.cell? ⟨X, 1, none⟩ = some (.int .i64 f) := HT7.out.cell 1; have t2 : w7.cell? ⟨X, 2, none⟩ = some (.slice (some ⟨g, 0, none⟩) L.length c6) := HT7.out.cell 2; have r0 : w7.cell? ⟨W.heap.size, 0, none⟩ = some (.int .i64 h) := HR7.out.cell 0; have r1 : w7.cell? ⟨W.heap.size, 1, none⟩ = some (.int .i64 f) := HR7.out.cell 1; have r2 : w7.cell? ⟨W.heap.size, 2, none⟩ = some (.slice ao L.length cap) := HR7.out.cell 2; have c70 : w7.cell? ⟨g, L.length * 8 + 1, none⟩ = some (.int .i64 (-70)) := H77.out.2.1)
    | (go_at_call 15; have _t := HB7; clear _t; refine (does12 _).mono ?_; rintro e w8 ⟨rfl, hb8⟩; have HT8 : Hid (RowIn _ _ w8 X) := Lib.hid (HT7.out.below hb8); have HR8 : Hid (RowIn _ _ w8 W.heap.size) := Lib.hid (HR7.out.below hb8); have H78 : Hid (SpOff s70 w8 g (L.length * 8)) := Lib.hid (H77.out.below hb8); have HB8 : Hid (Below W.heap.size W w8) := Lib.hid (below_step HB7.out hb8); clear hb8 t0 t1 t2 r0 r1 r2 c70; have t0 : w8.cell? ⟨X, 0, none⟩ = some (.int .i64 h) := HT8.out.cell 0; have t1 : w8.cell? ⟨X, 1, none⟩ = some (.int .i64 f) := HT8.out.cell 1; have t2 : w8.cell? ⟨X, 2, none⟩ = some (.slice (some ⟨g, 0, none⟩) L.length c6) := HT8.out.cell 2; have r0 : w8.cell? ⟨W.heap.size, 0, none⟩ = some (.int .i64 h) := HR8.out.cell 0; have r1 : w8.cell? ⟨W.heap.size, 1, none⟩ = some (.int .i64 f) := HR8.out.cell 1; have r2 : w8.cell? ⟨W.heap.size, 2, none⟩ = some (.slice ao L.length cap) := HR8.out.cell 2; have c70 : w8.cell? ⟨g, L.length * 8 + 1, none⟩ = some (.int .i64 (-70)) := H78.out.2.1))
  go_wp2_with fail
  go_ret
  exact ⟨rfl, HB8.out⟩

end Go.Proofs.Ytblgfhljaafmhaa
