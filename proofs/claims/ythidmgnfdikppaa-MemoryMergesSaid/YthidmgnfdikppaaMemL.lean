/- Layer 15: lay, by a contract, also into a memory without pages; Put. -/
import Derived.Test.YthidmgnfdikppaaMemK
namespace Go.Proofs.Ythidmgnfdikppaa
set_option linter.unusedVariables false
set_option linter.unusedSimpArgs false
open Go Go.RowKit
attribute [local go_sem ↓] run_index_S
attribute [local go_sem] S_append S_extract

set_option maxHeartbeats 4000000 in
set_option maxRecDepth 100000 in
theorem layNil15_any (B b : Nat) (pa : Option Addr) (pc : Nat) (L : List M.Cl) (c : M.Cl) (w : World) (h : MemAt B b pa pc [] L w) (hBw : B ≤ w.heap.size) (hc : ClOk c ∧ M.mayC c = true) :
    Calls Try.prog 99 #[.pointer (some ⟨b, 0, none⟩), .agg (clA c)] w (LayR B b pa [] (M.insC c L) w) := by
  obtain rfl : L = [] := h.flat.symm
  have hal := (Below.refl w.heap.size w).alloc (Nat.le_refl _) (.cells (clA c) 38)
  have HB := Lib.hid hal
  have HM := Lib.hid (h.below hal)
  have HX := Lib.hid (rowIn_new (clA c) 38 w)
  have CS := Lib.hid (seek15_any B b _ pc [] [] c _ (h.below hal))
  have HBW := Lib.hid hBw
  have HBl := Lib.hid h.row.lt
  have HBB := Lib.hid h.bb
  have hxlt : w.heap.size < (w.alloc (.cells (clA c) 38)).heap.size := by rw [szA]; exact Nat.lt_succ_self _
  unfold SeekR at CS
  have e1 : M.seekA [] c = 0 := rfl
  have e2 : M.seekJ [] c = 0 := rfl
  rw [e1, e2] at CS
  clear h hal hBw e1 e2
  go_enter Try.func99, Try.ntmps99
  go_wp2_with fail
  refine (CS.out).mono ?_
  rintro e w1 ⟨rfl, hb⟩
  replace HB := carry hb HB
  replace HM := carry hb HM
  replace HX := carry hb HX
  have hxlt1 : w.heap.size < w1.heap.size := Nat.lt_of_lt_of_le hxlt hb.size
  clear hb CS hxlt
  obtain ⟨xb, hxb⟩ : ∃ x, x = w.heap.size := ⟨_, rfl⟩
  rw [← hxb] at HX hxlt1 ⊢
  have HXB := Lib.hid hxb
  have hbx : b < w1.heap.size := HM.out.row.lt
  clear hxb
  have hr := HM.out.row
  have r0 : w1.cell? ⟨b, 0, none⟩ = some (.slice pa 0 pc) := hr.cell 0
  have r1 : w1.cell? ⟨b, 1, none⟩ = some (.int .i64 0) := hr.cell 1
  have f0 := hr.free 0
  have f1 := hr.free 1
  have hne1 : ¬ (b = w1.heap.size) := by omega
  have hne2 : ¬ (w1.heap.size = b) := by omega
  go_wp2_with fail
  obtain ⟨PB, hPB⟩ : ∃ x, x = w1.heap.size := ⟨_, rfl⟩
  obtain ⟨W2, hW2⟩ : ∃ W, W = (w1.setCell ⟨b, 0, none⟩ (.slice (some ⟨PB, 0, none⟩) 1 1)).alloc (.cells #[.slice none 0 0] 136) := ⟨_, rfl⟩
  have HRb := Lib.hid (show RowIn #[.slice (some ⟨PB, 0, none⟩) 1 1, .int .i64 0, .bool true] 132 W2 b from by
    rw [hW2]; exact (hr.set 0 (.slice (some ⟨PB, 0, none⟩) 1 1)).more _)
  have HRp := Lib.hid (show RowIn #[.slice none 0 0] 136 W2 PB from by
    rw [hW2]; exact rowIn_at _ _ _ _ (by rw [hPB]; simp [World.setCell]))
  have HRx := Lib.hid (show RowIn (clA c) 38 W2 xb from by
    rw [hW2]; exact (HX.out.other (rowIn_ne HX.out hr (by decide)) 0 _).more _)
  have HO2 := Lib.hid (show OnlyS (fun k => k = b) w1 W2 from by
    rw [hW2]; exact (onlyS_set (A := fun k => k = b) w1 b 0 _ rfl).trans (onlyS_below ((Below.refl _ _).alloc (Nat.le_refl _) _)))
  have hbp : ¬ (b = PB) := by rw [hPB]; exact hne1
  have hpb : ¬ (PB = b) := by rw [hPB]; exact hne2
  have HPB := Lib.hid hPB
  have HC := Lib.hid hc
  clear hr r0 r1 f0 f1 hne1 hne2
  rw [← hPB, ← hW2]
  clear hPB hW2 hc
  obtain ⟨x0, x1, x2⟩ : W2.cell? ⟨xb, 0, none⟩ = some (.string (S c.key)) ∧ W2.cell? ⟨xb, 1, none⟩ = some (.int .i64 c.seq) ∧ W2.cell? ⟨xb, 2, none⟩ = some (.string (S c.val)) := ⟨HRx.out.cell 0, HRx.out.cell 1, HRx.out.cell 2⟩
  have r0 : W2.cell? ⟨b, 0, none⟩ = some (.slice (some ⟨PB, 0, none⟩) 1 1) := HRb.out.cell 0
  have p0 : W2.cell? ⟨PB, 0, none⟩ = some (.slice none 0 0) := HRp.out.cell 0
  have hal := ((Below.refl W2.heap.size W2).alloc (Nat.le_refl _) (.cells (clA c) 38)).drew
  have HAL := Lib.hid hal
  have CI := Lib.hid (insNil15 c W2.heap.size (W2.alloc (.cells (clA c) 38)).drew (rowIn_new _ _ _))
  clear hal
  go_region_held3 (fun W => W.cell? ⟨b, 0, none⟩ = some (.slice (some ⟨PB, 0, none⟩) 1 1) ∧ W.cell? ⟨PB, 0, none⟩ = some (.slice none 0 0) ∧ W.cell? ⟨xb, 0, none⟩ = some (.string (S c.key)) ∧ W.cell? ⟨xb, 1, none⟩ = some (.int .i64 c.seq) ∧ W.cell? ⟨xb, 2, none⟩ = some (.string (S c.val))) (go_keep) (first
    | (go_at_call 130; refine (CI.out).mono ?_; rintro e w3 ⟨c', rfl, ho, hb3⟩; have hb23 := HAL.out.trans (hb3.mono HAL.out.size); have hr1 := HRb.out.below hb23; have hr2 := HRp.out.below hb23; have hr3 := HRx.out.below hb23; have s0 : w3.cell? ⟨b, 0, none⟩ = some (.slice (some ⟨PB, 0, none⟩) 1 1) := hr1.cell 0; have s1 : w3.cell? ⟨b, 1, none⟩ = some (.int .i64 0) := hr1.cell 1; have f1 := hr1.free 1; have s2 : w3.cell? ⟨PB, 0, none⟩ = some (.slice none 0 0) := hr2.cell 0; have f2 := hr2.free 0; obtain ⟨s3, s4, s5⟩ : w3.cell? ⟨xb, 0, none⟩ = some (.string (S c.key)) ∧ w3.cell? ⟨xb, 1, none⟩ = some (.int .i64 c.seq) ∧ w3.cell? ⟨xb, 2, none⟩ = some (.string (S c.val)) := ⟨hr3.cell 0, hr3.cell 1, hr3.cell 2⟩; have HF := Lib.hid (And.intro ho (And.intro hb23 (And.intro hr1 hr2))); clear ho hb3 hb23 hr1 hr2 hr3))
  all_goals
    have hq0 : (W2.alloc (.cells (clA c) 38)).drew.heap.size = W2.heap.size + 1 := by show (W2.alloc _).heap.size = _; rw [szA]
    rw [hq0] at HF
    obtain ⟨Q, hQ⟩ : ∃ x, x = W2.heap.size + 1 := ⟨_, rfl⟩
    have hpk : PB < W2.heap.size := HRp.out.lt
    have hbk : b < W2.heap.size := HRb.out.lt
    rw [← hQ] at HF ⊢
    have HQ := Lib.hid hQ
    clear hQ hq0
    go_wp2_with fail
    go_end0
    obtain ⟨ho, hb23, hr1, hr2⟩ := HF.out
    have hQB : B ≤ Q := by rw [HQ.out]; have := HBW.out; have := HB.out.size; have := HO2.out.size; omega
    have hQb : Q ≠ b := by rw [HQ.out]; omega
    have hQp : Q ≠ PB := by rw [HQ.out]; omega
    have hPBB : B ≤ PB := by rw [HPB.out]; exact Nat.le_trans HBW.out HB.out.size
    have ho2 := ownsRow_setCell_other (a := ⟨b, 1, none⟩) (ownsRow_setCell_other (a := ⟨PB, 0, none⟩) ho (fun e => by injection e with e; exact hQp e) (.slice (some ⟨Q, 0, none⟩) 1 c')) (fun e => by injection e with e; exact hQb e) (.int .i64 1)
    have hrow := pgOwn_row (p := ⟨[c], Q, 0, c'⟩) ho2 (by simp)
    have hrp := (hr2.set 0 (.slice (some ⟨Q, 0, none⟩) 1 c')).other (c := b) hpb 1 (.int .i64 1)
    refine ⟨rfl, some ⟨PB, 0, none⟩, 1, [⟨[c], Q, 0, c'⟩], ⟨?_, ⟨?_, fun p hp => ?_⟩, rfl, List.pairwise_singleton _ _, fun p hp => ?_, fun p hp => ?_, fun i j hi hj hij => ?_, HBB.out, by show 1 ≤ 50000; omega, fun x hx => ?_⟩, fun p hp => ?_, ?_, ⟨fun k hk => ?_, fun k hk => ?_⟩⟩
    · exact (hr1.other (c := PB) hbp 0 _).set 1 (.int .i64 1)
    · refine ⟨rfl, .inr ⟨PB, 1, _, rfl, hPBB, hrp, Nat.le_refl _, by unfold maxLen; omega, rfl, rfl⟩⟩
    · rw [List.mem_singleton] at hp
      subst hp
      exact pgCl_own ho2 rfl
    · rw [List.mem_singleton] at hp
      subst hp
      refine ⟨hQB, hrow.2.2.1, ?_⟩
      rcases Nat.lt_or_ge 1 c' with q | q
      · exact .inr ⟨rfl, q, ownP_mono ho2 (by show B ≤ _; have := HBW.out; have := HB.out.size; have := HO2.out.size; have := HAL.out.size; omega)⟩
      · exact .inl (by have := hrow.2.2.2; show 1 = c'; simp at this; omega)
    · rw [List.mem_singleton] at hp
      subst hp
      exact ⟨by simp, by simp⟩
    · simp at hi hj; omega
    · rw [show M.insC c [] = [c] from rfl, List.mem_singleton] at hx
      subst hx
      exact HC.out
    · rw [List.mem_singleton] at hp
      subst hp
      simp
    · have k1 : OnlyS (WrS b pa []) w w1 := onlyS_below HB.out
      have k2 : OnlyS (fun k => k = b ∨ k = PB) w1 (((w3.setCell ⟨PB, 0, none⟩ (.slice (some ⟨Q, 0, none⟩) 1 c')).setCell ⟨b, 1, none⟩ (.int .i64 1))) :=
        ((HO2.out.mono (fun k hk => .inl hk)).trans (onlyS_below hb23)).trans ((onlyS_set _ PB 0 _ (.inr rfl)).trans (onlyS_set _ b 1 _ (.inl rfl)))
      exact k1.trans2 k2 (fun x hx => by
        rcases hx with rfl | rfl
        · exact .inl (.inl rfl)
        · exact .inr (by rw [HPB.out]; exact HB.out.size))
    · rcases hk with rfl | ⟨o, e⟩ | ⟨p, hp, hp1, rfl⟩
      · exact .inl (.inl rfl)
      · injection e with e
        injection e with e1 e2
        exact .inr (by rw [← e1, HPB.out]; exact HB.out.size)
      · rw [List.mem_singleton] at hp
        subst hp
        exact .inr (by show w.heap.size ≤ Q; rw [HQ.out]; have := HB.out.size; have := HO2.out.size; omega)
    · rcases hk with rfl | ⟨o, e⟩ | ⟨p, hp, rfl⟩
      · exact .inl (.inl rfl)
      · injection e with e
        injection e with e1 e2
        exact .inr (by rw [← e1, HPB.out]; exact HB.out.size)
      · rw [List.mem_singleton] at hp
        subst hp
        exact .inr (by show w.heap.size ≤ Q; rw [HQ.out]; have := HB.out.size; have := HO2.out.size; omega)
theorem lay15_any (B b : Nat) (pa : Option Addr) (pc : Nat) (Ps : List M.Pg) (L : List M.Cl) (c : M.Cl) (w : World) (h : MemAt B b pa pc Ps L w) (hsm : SmP Ps) (hBw : B ≤ w.heap.size) (hc : ClOk c ∧ M.mayC c = true) (hn : L.length < 50000) :
    Calls Try.prog 99 #[.pointer (some ⟨b, 0, none⟩), .agg (clA c)] w (LayR B b pa Ps (M.insC c L) w) := by
  cases Ps with
  | nil => exact layNil15_any B b pa pc L c w h hBw hc
  | cons p t => exact layCons15_any B b pa pc (p :: t) L c w h hsm hBw hc hn (by simp)

end Go.Proofs.Ythidmgnfdikppaa
