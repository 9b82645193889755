/- Layer 12: SameBatch, great, some, by contracts. -/
import Derived.Test.YtblgfhljaafmhaaPostsN
namespace Go.Proofs.Ytblgfhljaafmhaa
set_option linter.unusedVariables false
open Go Go.RowKit

theorem M.Bt.ext' {b c : M.Bt} (h1 : b.host = c.host) (h2 : b.first = c.first) (h3 : b.sps = c.sps) : b = c := by
  cases b; cases c; simp_all

set_option maxHeartbeats 1000000 in
theorem sameBatch_any {w : World} {ao bo : Option Addr} (b c : M.Bt) (c1 c2 : Nat) (hb : SpsAt w ao b.sps) (hc : SpsAt w bo c.sps) (hl : b.sps.length ≤ 140737488351232) (hk : c.sps.length ≤ 140737488351232) :
    Calls Try.prog 14 #[.agg #[.int .i64 b.host, .int .i64 b.first, .slice ao b.sps.length c1], .agg #[.int .i64 c.host, .int .i64 c.first, .slice bo c.sps.length c2]] w fun e w' => SameR (b = c) w e w' := by
  have bw := ((Below.refl w.heap.size w).alloc (Nat.le_refl _) (.cells #[.int .i64 b.host, .int .i64 b.first, .slice ao b.sps.length c1] 24)).alloc (by rw [szA]; omega) (.cells #[.int .i64 c.host, .int .i64 c.first, .slice bo c.sps.length c2] 24)
  have BW := Lib.hid bw
  have C1 := Lib.hid (sameSpans_any c1 c2 (hb.below bw) (hc.below bw) hl hk)
  clear bw hb hc
  by_cases h1 : b.host = c.host
  · by_cases h2 : b.first = c.first
    · have HE := Lib.hid (show (b.sps = c.sps) ↔ (b = c) from ⟨fun h => M.Bt.ext' h1 h2 h, fun h => by rw [h]⟩)
      have e1 : (b.host == c.host) = true := by simpa using h1
      have e2 : (b.first == c.first) = true := by simpa using h2
      clear h1 h2
      go_enter Try.func14, Try.ntmps14
      go_wp2_with fail
      with_reducible refine (C1.out).mono ?_
      rintro e w3 ⟨ht, hf, hb3⟩
      by_cases hs : b.sps = c.sps
      · obtain rfl := ht hs
        have HX := Lib.hid (HE.out.1 hs)
        clear ht hf hs
        go_wp2_with fail
        go_ret
        exact SameR.yes HX.out (below_step BW.out hb3)
      · obtain rfl := hf hs
        have HX := Lib.hid (fun h => hs (HE.out.2 h))
        clear ht hf hs
        go_wp2_with fail
        go_ret
        exact SameR.no HX.out (below_step BW.out hb3)
    · have HX := Lib.hid (show ¬ b = c from fun h => h2 (by rw [h]))
      have e1 : (b.host == c.host) = true := by simpa using h1
      have e2 : (b.first == c.first) = false := by simpa using h2
      clear h1 h2
      go_enter Try.func14, Try.ntmps14
      go_wp2_with fail
      go_ret
      exact SameR.no HX.out BW.out
  · have HX := Lib.hid (show ¬ b = c from fun h => h1 (by rw [h]))
    go_enter Try.func14, Try.ntmps14
    go_wp2_with fail
    go_ret
    exact SameR.no HX.out BW.out

def SmallS (x : M.Sp) : Prop := x.svc.length ≤ 500 ∧ x.host.length ≤ 500 ∧ x.note.length ≤ 500
def SmallB (L : List M.Sp) : Prop := L.length ≤ 50 ∧ ∀ x ∈ L, SmallS x
theorem smallB_of {L : List M.Sp} (h : L.length ≤ 50) (hj : ∀ j, j < L.length → SmallS (L.getD j M.sp0)) : SmallB L := by
  refine ⟨h, fun x hx => ?_⟩
  obtain ⟨j, hj', rfl⟩ := List.getElem_of_mem hx
  simpa [List.getD, List.getElem?_eq_getElem hj'] using hj j hj'
def GreatR (L : List M.Sp) (w : World) (e : Ending) (w' : World) : Prop := (e = .returned (.bool true) ∨ (e = .returned (.bool false) ∧ SmallB L)) ∧ Below w.heap.size w w'

set_option maxHeartbeats 1000000 in
theorem great12_any {w : World} {ao : Option Addr} (h f : Int) (L : List M.Sp) (cap : Nat) (hs : SpsAt w ao L) (hl : L.length ≤ 9223372036854775807) :
    Calls Try.prog 9 #[.agg #[.int .i64 h, .int .i64 f, .slice ao L.length cap]] w fun e w' => GreatR L w e w' := by
  have bw := (Below.refl w.heap.size w).alloc (Nat.le_refl _) (.cells #[.int .i64 h, .int .i64 f, .slice ao L.length cap] 24)
  have BW := Lib.hid bw
  have HS := Lib.hid (hs.below bw)
  have HR := Lib.hid (rowIn_new #[.int .i64 h, .int .i64 f, .slice ao L.length cap] 24 w)
  clear bw hs
  go_enter Try.func9, Try.ntmps9
  go_wp2_with fail
  generalize w.alloc (.cells #[.int .i64 h, .int .i64 f, .slice ao L.length cap] 24) = w1 at *
  go_loop [3] (fun i => ∃ k : Nat, k ≤ L.length ∧ k ≤ 50 ∧ i = .int .i64 k ∧ (∀ j, j < k → SmallS (L.getD j M.sp0))) (fun i => 51 - (intOf i).toNat)
  case atStart => exact ⟨0, by omega, by omega, rfl, fun j hj => by omega⟩
  case round =>
    obtain ⟨k, hk, hk50, rfl, hj⟩ := hrel
    have HJ := Lib.hid hj
    clear hj
    have r2 : w1.cell? ⟨w.heap.size, 2, none⟩ = some (.slice ao L.length cap) := HR.out.cell 2
    by_cases hlt : k < L.length ∧ k < 50
    · obtain ⟨hlt, h50⟩ := hlt
      have d1 : decide ((k : Int) < (L.length : Int)) = true := by simp; omega
      have d2 : decide ((k : Int) < 50) = true := by simp; omega
      obtain ⟨g, off, rfl, hc⟩ := HS.out.off k hlt
      obtain ⟨x0, x1, x2, x3, x4, x5, x6, x7⟩ := hc
      generalize hxe : L.getD k M.sp0 = x at *
      have HXE := Lib.hid hxe
      clear hxe x0 x1 x2 x5 x6
      by_cases hx : SmallS x
      · obtain ⟨s1, s2, s3⟩ := hx
        have e1 : decide (500 < (x.svc.length : Int)) = false := by simp; omega
        have e2 : decide (500 < (x.host.length : Int)) = false := by simp; omega
        have e3 : decide (500 < (x.note.length : Int)) = false := by simp; omega
        have HSM := Lib.hid (show SmallS x from ⟨s1, s2, s3⟩)
        clear s1 s2 s3
        go_wp2_with fail
        go_round
        case rel => exact ⟨k + 1, by omega, by omega, by go_num, fun j hj => by
          by_cases e : j = k
          · rw [e, HXE.out]; exact HSM.out
          · exact HJ.out j (by omega)⟩
        case measure => simp [intOf]; omega
      · have hx' : 500 < x.svc.length ∨ 500 < x.host.length ∨ 500 < x.note.length := by unfold SmallS at hx; omega
        clear hx
        go_wp2_with fail
        all_goals first
          | (go_ret; exact ⟨.inl rfl, BW.out⟩)
          | (exfalso; omega)
    · by_cases hlen : L.length ≤ 50
      · obtain rfl : k = L.length := by omega
        have HSB := Lib.hid (smallB_of hlen HJ.out)
        have d1 : decide ((L.length : Int) < (L.length : Int)) = false := by simp
        have d2 : decide (50 < (L.length : Int)) = false := by simp; omega
        clear hlt
        go_wp2_with fail
        go_ret
        exact ⟨.inr ⟨rfl, HSB.out⟩, BW.out⟩
      · obtain rfl : k = 50 := by omega
        have d1 : decide ((50 : Int) < (L.length : Int)) = true := by simp; omega
        clear hlt
        go_wp2_with fail
        go_ret
        exact ⟨.inl rfl, BW.out⟩

def s1 : M.Sp := { trace := 1, id := 2, parent := 0, svc := [115], host := [104], start := 3, dur := 0, note := [] }
theorem spsAt_one {x : M.Sp} {T : TypeId} {w : World} {b : Nat} (h : RowIn (spC x) T w b) : SpsAt w (some ⟨b, 0, none⟩) [x] := fun _ => by
  refine ⟨b, 0, rfl, fun j hj => ?_⟩
  obtain rfl : j = 0 := by simpa using hj
  exact ⟨h.cell 0, h.cell 1, h.cell 2, h.cell 3, h.cell 4, h.cell 5, h.cell 6, h.cell 7⟩
set_option maxHeartbeats 1000000 in
theorem some12_any (w : World) : Calls Try.prog 31 #[] w fun e w' => e = .returned (.agg #[.int .i64 0, .int .i64 7, .slice (some ⟨w.heap.size + 1, 0, none⟩) 1 1]) ∧ SpsAt w' (some ⟨w.heap.size + 1, 0, none⟩) [s1] ∧ Below w.heap.size w w' := by
  have HR := Lib.hid ((rowIn_new bz 24 w).more (.cells (spC s1) 29))
  have HS := Lib.hid (rowIn_at (spC s1) 29 (w.alloc (.cells bz 24)) (w.heap.size + 1) (by rw [szA]))
  have HB := Lib.hid (((Below.refl w.heap.size w).alloc (Nat.le_refl _) (.cells bz 24)).alloc (by rw [szA]; omega) (.cells (spC s1) 29))
  go_enter Try.func31, Try.ntmps31
  go_wp2_with (refine wpList_store_row rfl 24 _ _ rfl w.heap.size _ rfl rfl 24 bz HR.out ?_ rfl (btC_one 0 7 (some ⟨w.heap.size + 1, 0, none⟩) 1 1) ?_; kernel_rfl)
  try simp only [Exit.inBlock, Exit.then]
  exact bodyPost_ret (ret_rowP1 rfl _ _ w.heap.size rfl (load_struct Try.underlying24 (by kernel_rfl) (RowIn.rowP HR.out))) rfl ⟨rfl, spsAt_one (T := 29) ((setRow_other _ _ _ _ (by omega)).trans HS.out), below_setRow HB.out (Nat.le_refl _) _⟩

end Go.Proofs.Ytblgfhljaafmhaa
