/- Layer 7: Send, Len, Look, Take, Double, Lose, by contracts. -/
import Derived.Test.YtggflkjdpibioaaNetsI
import Derived.Deep.RegionWith
namespace Go.Proofs.Ytggflkjdpibioaa
set_option linter.unusedVariables false
open Go Go.RowKit

/-- A net that lies in block b, and has these messages, in order. -/
def NetIn (w : World) (b : Nat) (L : List Ml) : Prop := ∃ nx ml us fs, NetS w b nx ml us.length ∧ Slots nx us fs ∧ L = us.map ml
theorem NetIn.lt {w : World} {b : Nat} {L : List Ml} (h : NetIn w b L) : b < w.heap.size := by obtain ⟨nx, ml, us, fs, h1, _⟩ := h; exact h1.lt
theorem NetIn.below {w w' : World} {b : Nat} {L : List Ml} (h : NetIn w b L) (hb : Below w.heap.size w w') : NetIn w' b L := by obtain ⟨nx, ml, us, fs, h1, h2⟩ := h; exact ⟨nx, ml, us, fs, h1.below hb, h2⟩
theorem NetIn.only {w w' : World} {b c : Nat} {L : List Ml} (h : NetIn w b L) (hb : Only c w w') (hn : b ≠ c) : NetIn w' b L := by obtain ⟨nx, ml, us, fs, h1, h2⟩ := h; exact ⟨nx, ml, us, fs, h1.only hb hn, h2⟩
theorem NetIn.le {w : World} {b : Nat} {L : List Ml} (h : NetIn w b L) : L.length ≤ 64 := by
  obtain ⟨nx, ml, us, fs, h1, h2, rfl⟩ := h
  have := h2.all
  simp
  omega
theorem map_upd (ml : Nat → Ml) (us : List Nat) (v : Nat) (m : Ml) (h : v ∉ us) : us.map (upd ml v m) = us.map ml := by
  apply List.map_congr_left
  intro u hu
  exact upd_ne _ _ (by rintro rfl; exact h hu)
theorem netIn_erase {w : World} {b : Nat} {nx : Nat → Int} {ml : Nat → Ml} {us fs : List Nat} {k : Nat} (hs : Slots nx us fs) (hk : k < us.length)
    (h : NetS w b (upd (upd (upd nx (node 64 us k) (nx (us.getD k 0))) (us.getD k 0) (nx 65)) 65 (us.getD k 0 : Int)) (upd ml (us.getD k 0) ml0) (us.length - 1)) : NetIn w b ((us.map ml).take k ++ (us.map ml).drop (k + 1)) := by
  have hp := (perm_erase us fs k hk).nodup_iff.2 hs.once
  have hno : us.getD k 0 ∉ us.take k ++ us.drop (k + 1) := fun hu => (List.nodup_append.1 hp).2.2 _ hu _ (by simp) rfl
  simp only [List.mem_append, not_or] at hno
  refine ⟨_, upd ml (us.getD k 0) ml0, us.take k ++ us.drop (k + 1), us.getD k 0 :: fs, ?_, hs.erase hk, ?_⟩
  · rw [show (us.take k ++ us.drop (k + 1)).length = us.length - 1 from by simp; omega]
    exact h
  · rw [List.map_append, map_upd _ _ _ _ hno.1, map_upd _ _ _ _ hno.2, List.map_take, List.map_drop]
theorem netIn_insert {w : World} {b : Nat} {nx : Nat → Int} {ml : Nat → Ml} {us ft : List Nat} {v k : Nat} {m : Ml} (hs : Slots nx us (v :: ft)) (hk : k ≤ us.length)
    (h : NetS w b (upd (upd (upd nx 65 (nx v)) v (nx (node 64 us k))) (node 64 us k) (v : Int)) (upd ml v m) (us.length + 1)) : NetIn w b ((us.map ml).take k ++ m :: (us.map ml).drop k) := by
  have hv : v ∉ us := fun hu => hs.parts.2.2.1 v hu (by simp)
  refine ⟨_, upd ml v m, us.take k ++ v :: us.drop k, ft, ?_, hs.insert hk, ?_⟩
  · rw [show (us.take k ++ v :: us.drop k).length = us.length + 1 from by simp; omega]
    exact h
  · rw [List.map_append, List.map_cons, upd_self, map_upd _ _ _ _ (fun h => hv (List.mem_of_mem_take h)), map_upd _ _ _ _ (fun h => hv (List.mem_of_mem_drop h)), List.map_take, List.map_drop]

theorem netLen_any {w : World} {b : Nat} {L : List Ml} (h : NetIn w b L) :
    Calls Try.prog 13 #[.pointer (some ⟨b, 0, none⟩)] w fun e w' => e = .returned (.int .i64 L.length) ∧ w = w' := by
  obtain ⟨nx, ml, us, fs, hN, hS, rfl⟩ := h
  have C1 := Lib.hid (netNone_any hN)
  have c2 := hN.cnt
  rw [show (us.map ml).length = us.length from by simp]
  clear hN hS
  go_enter Try.func13, Try.ntmps13
  go_wp2_with fail
  with_reducible refine (C1.out).mono ?_
  rintro e w1 ⟨rfl, rfl⟩
  go_wp2_with fail
  go_ret
  exact ⟨rfl, rfl⟩

set_option maxHeartbeats 2000000 in
theorem netSend_room {w : World} {b : Nat} {L : List Ml} (h : NetIn w b L) (hl : L.length < 64) (m : Ml) :
    Calls Try.prog 21 #[.pointer (some ⟨b, 0, none⟩), mlV m] w fun e w' => e = .returned (.bool true) ∧ NetIn w' b (L ++ [m]) ∧ Only b w w' := by
  obtain ⟨nx, ml, us, fs, hN, hS, rfl⟩ := h
  have hall := hS.all
  simp only [List.length_map] at hl
  cases fs with
  | nil => simp at hall; omega
  | cons v ft =>
    have cN := fun (W : World) (hW : NetS W b nx ml us.length) => netNone_any hW
    have cL := fun (W : World) (hW : NetS W b nx ml us.length) => netLink_any hW hS us.length (Nat.le_refl _)
    have cI := fun (W : World) (hW : NetS W b nx ml us.length) => netInsert_room hW hS (Nat.le_refl _) (by omega) m
    have hfin := fun (W : World) hW => netIn_insert (w := W) (b := b) (ml := ml) (m := m) hS (Nat.le_refl _) hW
    rw [List.take_of_length_le (by simp), List.drop_of_length_le (by simp)] at hfin
    have CN := Lib.hid cN
    have CL := Lib.hid cL
    have CI := Lib.hid cI
    have HF := Lib.hid hfin
    have HN := Lib.hid hN
    have hlt := hN.lt
    clear cN cL cI hN hS hfin
    go_enter Try.func21, Try.ntmps21
    go_wp2_with fail
    have hN1 := HN.out.more (.cells #[.int .i64 m.src, .int .i64 m.dst, .string (S m.dat)] 31)
    have hX1 : BlkIn #[.int .i64 m.src, .int .i64 m.dst, .string (S m.dat)] 31 (w.alloc (.cells #[.int .i64 m.src, .int .i64 m.dst, .string (S m.dat)] 31)) w.heap.size := heap_alloc_new w _
    have hO1 := (Only.refl b w).alloc (.cells #[.int .i64 m.src, .int .i64 m.dst, .string (S m.dat)] 31)
    generalize (w.alloc (.cells #[.int .i64 m.src, .int .i64 m.dst, .string (S m.dat)] 31)) = W1 at *
    have x0 : W1.cell? ⟨w.heap.size, 0, none⟩ = some (.int .i64 m.src) := hX1.cell 0
    have x1 : W1.cell? ⟨w.heap.size, 1, none⟩ = some (.int .i64 m.dst) := hX1.cell 1
    have x2 : W1.cell? ⟨w.heap.size, 2, none⟩ = some (.string (S m.dat)) := hX1.cell 2
    have c2 := hN1.cnt
    have HN1 := Lib.hid hN1
    have HX1 := Lib.hid hX1
    have HO1 := Lib.hid hO1
    clear hN1 hX1 hO1 HN
    go_region_with (first
      | (go_at_call 27; refine (CN.out _ (by exact HN1.out.drew)).mono ?_; rintro e w2 ⟨rfl, rfl⟩)
      | (go_at_call 29; refine (CL.out _ (by exact HN1.out.drew)).mono ?_; rintro e w2 ⟨rfl, hb2⟩; have hN2 := Lib.hid (HN1.out.drew.below hb2); have hO2 := Lib.hid (HO1.out.drew.trans (Only.ofBelow hb2)); have y0 : w2.cell? ⟨w.heap.size, 0, none⟩ = some (.int .i64 m.src) := ((HX1.out.drew.below hb2).cell 0); have y1 : w2.cell? ⟨w.heap.size, 1, none⟩ = some (.int .i64 m.dst) := ((HX1.out.drew.below hb2).cell 1); have y2 : w2.cell? ⟨w.heap.size, 2, none⟩ = some (.string (S m.dat)) := ((HX1.out.drew.below hb2).cell 2); clear hb2)
      | (go_at_call 30; refine (CI.out _ (by exact hN2.out)).mono ?_; rintro e w3 ⟨rfl, hN3, hO3⟩; replace hN3 := Lib.hid hN3; replace hO3 := Lib.hid hO3))
    all_goals
      go_wp2_with fail
      go_ret
      exact ⟨rfl, HF.out _ hN3.out, hO2.out.trans hO3.out⟩

set_option maxHeartbeats 2000000 in
theorem netSend_full {w : World} {b : Nat} {L : List Ml} (h : NetIn w b L) (hl : ¬ L.length < 64) (m : Ml) :
    Calls Try.prog 21 #[.pointer (some ⟨b, 0, none⟩), mlV m] w fun e w' => e = .returned (.bool false) ∧ NetIn w' b L ∧ Only b w w' := by
  have hI := Lib.hid h
  obtain ⟨nx, ml, us, fs, hN, hS, rfl⟩ := h
  have hall := hS.all
  simp only [List.length_map] at hl
  cases fs with
  | cons v ft => simp at hall; omega
  | nil =>
    have cN := fun (W : World) (hW : NetS W b nx ml us.length) => netNone_any hW
    have cL := fun (W : World) (hW : NetS W b nx ml us.length) => netLink_any hW hS us.length (Nat.le_refl _)
    have cI := fun (W : World) (hW : NetS W b nx ml us.length) => netInsert_full hW hS.free (cel (node 64 us us.length)) m
    have CN := Lib.hid cN
    have CL := Lib.hid cL
    have CI := Lib.hid cI
    have HN := Lib.hid hN
    have hlt := hN.lt
    clear cN cL cI hN hS
    go_enter Try.func21, Try.ntmps21
    go_wp2_with fail
    have hN1 := HN.out.more (.cells #[.int .i64 m.src, .int .i64 m.dst, .string (S m.dat)] 31)
    have hX1 : BlkIn #[.int .i64 m.src, .int .i64 m.dst, .string (S m.dat)] 31 (w.alloc (.cells #[.int .i64 m.src, .int .i64 m.dst, .string (S m.dat)] 31)) w.heap.size := heap_alloc_new w _
    have hb1 := (Below.refl w.heap.size w).alloc (Nat.le_refl _) (.cells #[.int .i64 m.src, .int .i64 m.dst, .string (S m.dat)] 31)
    generalize (w.alloc (.cells #[.int .i64 m.src, .int .i64 m.dst, .string (S m.dat)] 31)) = W1 at *
    have x0 : W1.cell? ⟨w.heap.size, 0, none⟩ = some (.int .i64 m.src) := hX1.cell 0
    have x1 : W1.cell? ⟨w.heap.size, 1, none⟩ = some (.int .i64 m.dst) := hX1.cell 1
    have x2 : W1.cell? ⟨w.heap.size, 2, none⟩ = some (.string (S m.dat)) := hX1.cell 2
    have c2 := hN1.cnt
    have HN1 := Lib.hid hN1
    have HX1 := Lib.hid hX1
    have HB1 := Lib.hid hb1
    clear hN1 hX1 hb1 HN
    go_region_with (first
      | (go_at_call 27; refine (CN.out _ (by exact HN1.out.drew)).mono ?_; rintro e w2 ⟨rfl, rfl⟩)
      | (go_at_call 29; refine (CL.out _ (by exact HN1.out.drew)).mono ?_; rintro e w2 ⟨rfl, hb2⟩; have hN2 := Lib.hid (HN1.out.drew.below hb2); have hB2 := Lib.hid (below_step HB1.out.drew hb2); have y0 : w2.cell? ⟨w.heap.size, 0, none⟩ = some (.int .i64 m.src) := ((HX1.out.drew.below hb2).cell 0); have y1 : w2.cell? ⟨w.heap.size, 1, none⟩ = some (.int .i64 m.dst) := ((HX1.out.drew.below hb2).cell 1); have y2 : w2.cell? ⟨w.heap.size, 2, none⟩ = some (.string (S m.dat)) := ((HX1.out.drew.below hb2).cell 2); clear hb2)
      | (go_at_call 30; refine (CI.out _ (by exact hN2.out)).mono ?_; rintro e w3 ⟨rfl, hb3⟩; replace hb3 := Lib.hid hb3))
    all_goals
      go_wp2_with fail
      go_ret
      have hb := below_step hB2.out hb3.out
      exact ⟨rfl, hI.out.below hb, Only.ofBelow hb⟩

end Go.Proofs.Ytggflkjdpibioaa
