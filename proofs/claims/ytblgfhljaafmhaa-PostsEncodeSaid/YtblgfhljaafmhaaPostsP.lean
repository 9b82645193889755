/- Layer 12: the chapter's examples (spoorlaw12.does) come out true. -/
import Derived.Test.YtblgfhljaafmhaaPostsL
import Derived.Test.YtblgfhljaafmhaaPostsO
import Derived.Deep.RegionHeld3
namespace Go.Proofs.Ytblgfhljaafmhaa
set_option linter.unusedVariables false
open Go Go.RowKit
attribute [local go_sem ↓] run_index_S
attribute [local go_sem] S_append S_extract

theorem s1_fits : s1.fits := by constructor <;> decide
theorem p_e1 : M.encA ⟨2, 300, 305⟩ = [65, 2, 130, 44, 5] := by decide
theorem p_m1 : M.aMay ⟨2, 300, 305⟩ = true := by decide
theorem p_m2 : M.aMay ⟨0, 300, 299⟩ = false := by decide
theorem p_d1 : M.decA [65, 2, 130, 44, 5] = some ⟨2, 300, 305⟩ := by rfl
theorem p_d2 : M.decB [65, 2, 130, 44, 5] = none := by rfl
theorem p_e2 : M.encB ⟨0, 7, [s1]⟩ = [66, 0, 7, 1, 10, 1, 2, 0, 3, 0, 1, 115, 1, 104, 0] := by decide
theorem p_ok : M.bOk ⟨0, 7, [s1]⟩ = true := by decide
theorem p_d3 : M.decB [66, 0, 7, 1, 10, 1, 2, 0, 3, 0, 1, 115, 1, 104, 0] = some ⟨0, 7, [s1]⟩ := by rfl
theorem SameR.is {p : Prop} {w : World} {e : Ending} {w' : World} (h : SameR p w e w') (hp : p) : e = .returned (.bool true) ∧ Below w.heap.size w w' := ⟨h.1 hp, h.2.2⟩
theorem SpsAt.same {w w' : World} {ao : Option Addr} {L : List M.Sp} (h : SpsAt w ao L) (he : w'.heap = w.heap) : SpsAt w' ao L := by
  have e : ∀ a, w'.cell? a = w.cell? a := fun a => by unfold World.cell?; rw [he]
  intro hn
  obtain ⟨g, off, e1, hc⟩ := h hn
  refine ⟨g, off, e1, fun j hj => ?_⟩
  have := hc j hj
  unfold SpOff at *
  simp only [e]
  exact this

set_option maxHeartbeats 4000000 in
set_option maxRecDepth 100000 in
theorem does12 (w : World) : Calls Try.prog 15 #[] w fun e w' => e = .returned (.bool true) ∧ Below w.heap.size w w' := by
  have C1 : Hid (∀ W, Calls Try.prog 12 #[.agg #[.int .i64 2, .int .i64 300, .int .i64 305]] W fun e w' => e = .returned (.tuple #[.string ⟨#[65, 2, 130, 44, 5]⟩, .int .i64 0]) ∧ Below W.heap.size W w') := Lib.hid (fun W => by
    have := encAck_yes 2 300 305 p_m1 W
    rw [show M.encA ⟨(2 : Nat), (300 : Nat), (305 : Nat)⟩ = [65, 2, 130, 44, 5] from p_e1] at this; exact this)
  have C2 : Hid (∀ W, Calls Try.prog 18 #[.string ⟨#[65, 2, 130, 44, 5]⟩] W fun e w' => e = .returned (.tuple #[.agg #[.int .i64 2, .int .i64 300, .int .i64 305], .int .i64 0]) ∧ Below W.heap.size W w') := Lib.hid (fun W => by
    have := decAck_any [65, 2, 130, 44, 5] (by decide) W; rw [p_d1] at this; exact this)
  have C3 : Hid (∀ W, Calls Try.prog 12 #[.agg #[.int .i64 0, .int .i64 300, .int .i64 299]] W fun e w' => e = .returned (.tuple #[.string ⟨#[]⟩, .int .i64 2]) ∧ Below W.heap.size W w') := Lib.hid (fun W => encAck_no 0 300 299 p_m2 W)
  have C4 := Lib.hid some12_any
  have C5 : Hid (∀ W ao, SpsAt W ao [s1] → Calls Try.prog 10 #[.agg #[.int .i64 0, .int .i64 7, .slice ao 1 1]] W fun e w' => e = .returned (.tuple #[.string ⟨#[66, 0, 7, 1, 10, 1, 2, 0, 3, 0, 1, 115, 1, 104, 0]⟩, .int .i64 0]) ∧ Below W.heap.size W w') := Lib.hid (fun W ao hs => by
    have := encBatch_any ⟨0, 7, [s1]⟩ ao 1 W (by decide) (by intro x hx; obtain rfl : x = s1 := (by simpa using hx); exact s1_fits) hs
    rw [encBV_good p_ok, p_e2] at this; exact this)
  have C6 : Hid (∀ W, Calls Try.prog 16 #[.string ⟨#[66, 0, 7, 1, 10, 1, 2, 0, 3, 0, 1, 115, 1, 104, 0]⟩] W fun e w' => ∃ ao cap, e = .returned (.tuple #[.agg #[.int .i64 0, .int .i64 7, .slice ao 1 cap], .int .i64 0]) ∧ w'.ownsRow W.heap.size 29 8 (.slice ao 1 cap) 1 (sps [s1]) ∧ Below W.heap.size W w') := Lib.hid (fun W => by
    have := decBatch_any [66, 0, 7, 1, 10, 1, 2, 0, 3, 0, 1, 115, 1, 104, 0] (by decide) W; rw [p_d3] at this; exact this)
  have C7 : Hid (∀ W, Calls Try.prog 16 #[.string ⟨#[65, 2, 130, 44, 5]⟩] W fun e w' => e = .returned (.tuple #[.agg #[.int .i64 0, .int .i64 0, .slice none 0 0], .int .i64 30]) ∧ Below W.heap.size W w') := Lib.hid (fun W => by
    have := decBatch_any [65, 2, 130, 44, 5] (by decide) W; rw [p_d2] at this; exact this)
  have C8 : Hid (∀ W ao bo c1, SpsAt W ao [s1] → SpsAt W bo [s1] → Calls Try.prog 14 #[.agg #[.int .i64 0, .int .i64 7, .slice ao 1 c1], .agg #[.int .i64 0, .int .i64 7, .slice bo 1 1]] W fun e w' => e = .returned (.bool true) ∧ Below W.heap.size W w') := Lib.hid (fun W ao bo c1 ha hb => (sameBatch_any ⟨0, 7, [s1]⟩ ⟨0, 7, [s1]⟩ c1 1 ha hb (by decide) (by decide)).mono fun e w' h => h.is rfl)
  go_enter Try.func15, Try.ntmps15
  go_wp2_with fail
  with_reducible refine (C1.out _).mono ?_
  rintro e w1 ⟨rfl, hb1⟩
  go_wp2_with fail
  with_reducible refine (C2.out _).mono ?_
  rintro e w2 ⟨rfl, hb2⟩
  have HB2 := Lib.hid (below_step hb1 hb2)
  clear hb1 hb2
  go_wp2_with (refine wpList_store_hid rfl 26 _ _ rfl w2.heap.size _ rfl rfl 26 (akC ak0) (rowIn_new (akC ak0) 26 w2) ?_ rfl (akC_one ⟨2, 300, 305⟩) ?_; kernel_rfl; intro w3 hr3 hbel3 hoth3 hsz3; have hb3 := hbel3 w2.heap.size w2 (Nat.le_refl _) ((Below.refl _ _).alloc (Nat.le_refl _) _); have HR3 := Lib.hid hr3; have HB3 := Lib.hid (below_step HB2.out hb3); clear hr3 hbel3 hoth3 hsz3 hb3)
  with_reducible refine (C3.out _).mono ?_
  rintro e w4 ⟨rfl, hb4⟩
  have HR4 := Lib.hid (HR3.out.below hb4)
  have HB4 := Lib.hid (below_step HB3.out hb4)
  clear hb4
  go_wp2_with fail
  with_reducible refine (C4.out _).mono ?_
  rintro e w5 ⟨rfl, hs5, hb5⟩
  have HR5 := Lib.hid (HR4.out.below hb5)
  have HB5 := Lib.hid (below_step HB4.out hb5)
  have HS5 := Lib.hid hs5
  clear hb5 hs5
  go_wp2_with fail
  with_reducible refine (C5.out _ _ HS5.out).mono ?_
  rintro e w6 ⟨rfl, hb6⟩
  have HR6 := Lib.hid (HR5.out.below hb6)
  have HB6 := Lib.hid (below_step HB5.out hb6)
  clear hb6
  go_wp2_with fail
  with_reducible refine (C6.out _).mono ?_
  rintro e w7 ⟨ao, cap, rfl, ho7, hb7⟩
  have HR7 := Lib.hid (HR6.out.below hb7)
  have HB7 := Lib.hid (below_step HB6.out hb7)
  have HS7 := Lib.hid (spsAt_own ho7 rfl)
  clear hb7 ho7
  go_wp2_with (refine wpList_store_hid rfl 24 _ _ rfl w7.heap.size _ rfl rfl 24 bz (rowIn_new bz 24 w7) ?_ rfl (btC_one 0 7 ao 1 cap) ?_; kernel_rfl; intro w8 hr8 hbel8 hoth8 hsz8; have hb8 := hbel8 w7.heap.size w7 (Nat.le_refl _) ((Below.refl _ _).alloc (Nat.le_refl _) _); have HR8 := Lib.hid (HR7.out.below hb8); have HB8 := Lib.hid (below_step HB7.out hb8); have HS8 := Lib.hid (HS7.out.below hb8); have HT8 := Lib.hid hr8; clear hr8 hbel8 hoth8 hsz8 hb8)
  with_reducible refine (C7.out _).mono ?_
  rintro e w9 ⟨rfl, hb9⟩
  have HR9 := Lib.hid (HR8.out.below hb9)
  have HB9 := Lib.hid (below_step HB8.out hb9)
  have HS9 := Lib.hid (HS8.out.below hb9)
  have HT9 := Lib.hid (HT8.out.below hb9)
  clear hb9
  go_wp2_with (refine wpList_store_hid rfl 24 _ _ rfl w9.heap.size _ rfl rfl 24 bz (rowIn_new bz 24 w9) ?_ rfl (btC_one 0 0 none 0 0) ?_; kernel_rfl; intro wA hrA hbelA hothA hszA; have hbA := hbelA w9.heap.size w9 (Nat.le_refl _) ((Below.refl _ _).alloc (Nat.le_refl _) _); have HRA := Lib.hid (HR9.out.below hbA); have HBA := Lib.hid (below_step HB9.out hbA); have HSA := Lib.hid (HS9.out.below hbA); have HTA := Lib.hid (HT9.out.below hbA); clear hrA hbelA hothA hszA hbA)
  generalize w2.heap.size = X at *
  generalize w7.heap.size = Y at *
  have r0 : wA.cell? ⟨X, 0, none⟩ = some (.int .i64 2) := HRA.out.cell 0
  have r1 : wA.cell? ⟨X, 1, none⟩ = some (.int .i64 300) := HRA.out.cell 1
  have r2 : wA.cell? ⟨X, 2, none⟩ = some (.int .i64 305) := HRA.out.cell 2
  have t0 : wA.cell? ⟨Y, 0, none⟩ = some (.int .i64 0) := HTA.out.cell 0
  have t1 : wA.cell? ⟨Y, 1, none⟩ = some (.int .i64 7) := HTA.out.cell 1
  have t2 : wA.cell? ⟨Y, 2, none⟩ = some (.slice ao 1 cap) := HTA.out.cell 2
  go_region_held3 (fun W => W.cell? ⟨X, 0, none⟩ = some (.int .i64 2) ∧ W.cell? ⟨X, 1, none⟩ = some (.int .i64 300) ∧ W.cell? ⟨X, 2, none⟩ = some (.int .i64 305) ∧ W.cell? ⟨Y, 0, none⟩ = some (.int .i64 0) ∧ W.cell? ⟨Y, 1, none⟩ = some (.int .i64 7) ∧ W.cell? ⟨Y, 2, none⟩ = some (.slice ao 1 cap)) (go_keep) (first
    | (go_at_call 31; refine (C4.out _).mono ?_; rintro e wB ⟨rfl, hsB, hbB⟩; have HSB : Hid (SpsAt wB _ [s1]) := Lib.hid hsB; have HRB : Hid (RowIn _ _ wB X) := Lib.hid (RowIn.below (show RowIn _ _ wA.drew X from HRA.out) hbB); have HTB : Hid (RowIn _ _ wB Y) := Lib.hid (RowIn.below (show RowIn _ _ wA.drew Y from HTA.out) hbB); have HUB : Hid (SpsAt wB ao [s1]) := Lib.hid (SpsAt.below (HSA.out.same (w' := wA.drew) rfl) hbB); have HBB : Hid (Below w.heap.size w wB) := Lib.hid (below_step HBA.out.drew hbB); clear hsB hbB r0 r1 r2 t0 t1 t2; have r0 : wB.cell? ⟨X, 0, none⟩ = some (.int .i64 2) := HRB.out.cell 0; have r1 : wB.cell? ⟨X, 1, none⟩ = some (.int .i64 300) := HRB.out.cell 1; have r2 : wB.cell? ⟨X, 2, none⟩ = some (.int .i64 305) := HRB.out.cell 2; have t0 : wB.cell? ⟨Y, 0, none⟩ = some (.int .i64 0) := HTB.out.cell 0; have t1 : wB.cell? ⟨Y, 1, none⟩ = some (.int .i64 7) := HTB.out.cell 1; have t2 : wB.cell? ⟨Y, 2, none⟩ = some (.slice ao 1 cap) := HTB.out.cell 2)
    | (go_at_call 14; have _t := HUB; clear _t; refine (C8.out _ _ _ _ HUB.out HSB.out).mono ?_; rintro e wC ⟨rfl, hbC⟩; have HRC : Hid (RowIn _ _ wC X) := Lib.hid (HRB.out.below hbC); have HTC : Hid (RowIn _ _ wC Y) := Lib.hid (HTB.out.below hbC); have HBC : Hid (Below w.heap.size w wC) := Lib.hid (below_step HBB.out hbC); clear hbC r0 r1 r2 t0 t1 t2; have r0 : wC.cell? ⟨X, 0, none⟩ = some (.int .i64 2) := HRC.out.cell 0; have r1 : wC.cell? ⟨X, 1, none⟩ = some (.int .i64 300) := HRC.out.cell 1; have r2 : wC.cell? ⟨X, 2, none⟩ = some (.int .i64 305) := HRC.out.cell 2; have t0 : wC.cell? ⟨Y, 0, none⟩ = some (.int .i64 0) := HTC.out.cell 0; have t1 : wC.cell? ⟨Y, 1, none⟩ = some (.int .i64 7) := HTC.out.cell 1; have t2 : wC.cell? ⟨Y, 2, none⟩ = some (.slice ao 1 cap) := HTC.out.cell 2))
  go_wp2_with fail
  go_ret
  exact ⟨rfl, HBC.out⟩

end Go.Proofs.Ytblgfhljaafmhaa
