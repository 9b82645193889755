/- Layer 7: done with a net that is none. -/
import Derived.Test.YtggflkjdpibioaaNetsG
namespace Go.Proofs.Ytggflkjdpibioaa
set_option linter.unusedVariables false
open Go Go.RowKit

set_option maxRecDepth 100000 in
set_option maxHeartbeats 1000000 in
theorem done_no {w : World} {p : Option Addr} (h : NoneIn w p) (x : Ac) (hx : x.ok) :
    Calls Try.prog 11 #[.pointer p, acV x] w fun e w' => e = .returned (.tuple #[mlV ml0, .bool false]) ∧ Below w.heap.size w w' := by
  have hk1 := hx.k1
  have hk2 := hx.k2
  obtain ⟨k, m, i⟩ := x
  simp only at hk1 hk2
  unfold acV
  have HN := Lib.hid ((h.more (.cells #[.int .u8 k, .int .i64 m.src, .int .i64 m.dst, .string (S m.dat), .int .i64 i] 35)).more (.cells #[.int .i64 0, .int .i64 0, .string ⟨#[]⟩] 31))
  have HO := Lib.hid (((Below.refl w.heap.size w).alloc (Nat.le_refl _) (.cells #[.int .u8 k, .int .i64 m.src, .int .i64 m.dst, .string (S m.dat), .int .i64 i] 35)).alloc (by simp) (.cells #[.int .i64 0, .int .i64 0, .string ⟨#[]⟩] 31))
  have HR : Hid (BlkIn #[.int .i64 ml0.src, .int .i64 ml0.dst, .string (S ml0.dat)] 31 ((w.alloc (.cells #[.int .u8 k, .int .i64 m.src, .int .i64 m.dst, .string (S m.dat), .int .i64 i] 35)).alloc (.cells #[.int .i64 0, .int .i64 0, .string ⟨#[]⟩] 31)) (w.heap.size + 1)) := Lib.hid (by have h := heap_alloc_new (w.alloc (.cells #[.int .u8 k, .int .i64 m.src, .int .i64 m.dst, .string (S m.dat), .int .i64 i] 35)) (.cells #[.int .i64 0, .int .i64 0, .string ⟨#[]⟩] 31); rw [sz_alloc] at h; exact h)
  clear h hx
  by_cases h4 : k % 9 = 4
  · have d0 : True := trivial
    have C1 := Lib.hid (look_no HN.out i)
    go_enter Try.func11, Try.ntmps11
    go_wp2_with fail
    with_reducible refine (C1.out).mono ?_
    rintro e w3 ⟨rfl, hb⟩
    have HR3 := Lib.hid (HR.out.below hb)
    have HO3 := Lib.hid (below_step HO.out hb)
    clear hb
    have y0 := HR3.out.cell 0
    have y1 := HR3.out.cell 1
    have y2 := HR3.out.cell 2
    have yf := fun j => HR3.out.free j
    clear C1 HN HO HR
    go_wp2_with fail
    refine bodyPost_ret (ret_ml2 rfl _ _ (w.heap.size + 1) ml0 rfl (blk_row3 ml0 HR3.out)) rfl ⟨rfl, ((HO3.out.setCell (Nat.le_succ _) _).setCell (Nat.le_succ _) _).setCell (Nat.le_succ _) _⟩
  by_cases h5 : k % 9 = 5
  · have d0 : True := trivial
    have C1 := Lib.hid (take_no HN.out i)
    go_enter Try.func11, Try.ntmps11
    go_wp2_with fail
    with_reducible refine (C1.out).mono ?_
    rintro e w3 ⟨rfl, hb⟩
    have HR3 := Lib.hid (HR.out.below hb)
    have HO3 := Lib.hid (below_step HO.out hb)
    clear hb
    have y0 := HR3.out.cell 0
    have y1 := HR3.out.cell 1
    have y2 := HR3.out.cell 2
    have yf := fun j => HR3.out.free j
    clear C1 HN HO HR
    go_wp2_with fail
    refine bodyPost_ret (ret_ml2 rfl _ _ (w.heap.size + 1) ml0 rfl (blk_row3 ml0 HR3.out)) rfl ⟨rfl, ((HO3.out.setCell (Nat.le_succ _) _).setCell (Nat.le_succ _) _).setCell (Nat.le_succ _) _⟩
  by_cases h6 : k % 9 = 6
  · have d0 : True := trivial
    have C1 := Lib.hid (take_no HN.out i)
    go_enter Try.func11, Try.ntmps11
    go_wp2_with fail
    with_reducible refine (C1.out).mono ?_
    rintro e w3 ⟨rfl, hb⟩
    have HR3 := Lib.hid (HR.out.below hb)
    have HO3 := Lib.hid (below_step HO.out hb)
    clear hb
    have y0 := HR3.out.cell 0
    have y1 := HR3.out.cell 1
    have y2 := HR3.out.cell 2
    have yf := fun j => HR3.out.free j
    clear C1 HN HO HR
    go_wp2_with fail
    refine bodyPost_ret (ret_ml2 rfl _ _ (w.heap.size + 1) ml0 rfl (blk_row3 ml0 HR3.out)) rfl ⟨rfl, ((HO3.out.setCell (Nat.le_succ _) _).setCell (Nat.le_succ _) _).setCell (Nat.le_succ _) _⟩
  by_cases h7 : k % 9 = 7
  · have d0 : True := trivial
    have C1 := Lib.hid (double_no HN.out i)
    go_enter Try.func11, Try.ntmps11
    go_wp2_with fail
    with_reducible refine (C1.out).mono ?_
    rintro e w3 ⟨rfl, hb⟩
    have HR3 := Lib.hid (HR.out.below hb)
    have HO3 := Lib.hid (below_step HO.out hb)
    clear hb
    have y0 := HR3.out.cell 0
    have y1 := HR3.out.cell 1
    have y2 := HR3.out.cell 2
    have yf := fun j => HR3.out.free j
    clear C1 HN HO HR
    go_wp2_with fail
    refine bodyPost_ret (ret_ml2 rfl _ _ (w.heap.size + 1) ml0 rfl (blk_row3 ml0 HR3.out)) rfl ⟨rfl, ((HO3.out.setCell (Nat.le_succ _) _).setCell (Nat.le_succ _) _).setCell (Nat.le_succ _) _⟩
  by_cases h8 : k % 9 = 8
  · have d0 : True := trivial
    have C1 := Lib.hid (lose_no HN.out i)
    go_enter Try.func11, Try.ntmps11
    go_wp2_with fail
    with_reducible refine (C1.out).mono ?_
    rintro e w3 ⟨rfl, hb⟩
    have HR3 := Lib.hid (HR.out.below hb)
    have HO3 := Lib.hid (below_step HO.out hb)
    clear hb
    have y0 := HR3.out.cell 0
    have y1 := HR3.out.cell 1
    have y2 := HR3.out.cell 2
    have yf := fun j => HR3.out.free j
    clear C1 HN HO HR
    go_wp2_with fail
    refine bodyPost_ret (ret_ml2 rfl _ _ (w.heap.size + 1) ml0 rfl (blk_row3 ml0 HR3.out)) rfl ⟨rfl, ((HO3.out.setCell (Nat.le_succ _) _).setCell (Nat.le_succ _) _).setCell (Nat.le_succ _) _⟩
  have q4 : (k % 9 == 4) = false := by simp [h4]
  have q5 : (k % 9 == 5) = false := by simp [h5]
  have q6 : (k % 9 == 6) = false := by simp [h6]
  have q7 : (k % 9 == 7) = false := by simp [h7]
  have q8 : (k % 9 == 8) = false := by simp [h8]
  clear h4 h5 h6 h7 h8
  have C1 := Lib.hid (send_no HN.out m)
  go_enter Try.func11, Try.ntmps11
  go_wp2_with fail
  with_reducible refine (C1.out).mono ?_
  rintro e w3 ⟨rfl, hb⟩
  have HR3 := Lib.hid (HR.out.below hb)
  have HO3 := Lib.hid (below_step HO.out hb)
  clear hb
  have y0 := HR3.out.cell 0
  have y1 := HR3.out.cell 1
  have y2 := HR3.out.cell 2
  have yf := fun j => HR3.out.free j
  clear C1 HN HO HR
  go_wp2_with fail
  refine bodyPost_ret (ret_ml2 rfl _ _ (w.heap.size + 1) ml0 rfl (blk_row3 ml0 HR3.out)) rfl ⟨rfl, ((HO3.out.setCell (Nat.le_succ _) _).setCell (Nat.le_succ _) _).setCell (Nat.le_succ _) _⟩

theorem NoneIn.set {w : World} {p : Option Addr} (h : NoneIn w p) {X : Nat} (hX : ∀ a, p = some a → a.block ≠ X) (i : Nat) (v : Value) : NoneIn (w.setCell ⟨X, i, none⟩ v) p := fun a ha => by
  obtain ⟨b, e, hc⟩ := h a ha
  refine ⟨b, e, ?_⟩
  have hne := hX a ha
  rw [e] at hne
  rw [World.cell?_of_block (w := w) (Below.heap_setCell _ _ _ _ hne)]
  exact hc
theorem ac_blk {T : TypeId} {W : World} {X : Nat} {a : Ac} (h : BlkIn #[.int .u8 a.kind, .int .i64 a.m.src, .int .i64 a.m.dst, .string (S a.m.dat), .int .i64 a.i] T W X) (ha : a.ok) (cap : Nat) : AcRow W (.slice (some ⟨X, 0, none⟩) 1 cap) [a] := by
  refine ⟨_, cap, rfl, by simp [maxLen], fun x hx => by simp at hx; subst hx; exact ha, fun _ => ⟨X, 0, rfl, fun j hj => ?_⟩⟩
  obtain rfl : j = 0 := by simpa using hj
  exact ⟨h.cell 0, h.cell 1, h.cell 2, h.cell 3, h.cell 4⟩
set_option maxHeartbeats 4000000 in
set_option maxRecDepth 100000 in
theorem netsNone_calls (u : Value) (hu : UAc u) (w : World) :
    Calls Try.prog 4 #[u] w fun e w' => e = .returned (.bool true) ∧ Below w.heap.size w w' := by
  obtain ⟨x, rfl, hx⟩ := hu
  obtain ⟨C, hz, hC⟩ := zero_net
  have HC := Lib.hid hC
  have h1 : ¬ C.size < 257 := by have := hC.size; omega
  have h2 : ¬ C.size < 260 := by have := hC.size; omega
  clear hC
  have hX : BlkIn #[.int .u8 x.kind, .int .i64 x.m.src, .int .i64 x.m.dst, .string (S x.m.dat), .int .i64 x.i] 35 ((w.alloc (.cells #[.int .u8 x.kind, .int .i64 x.m.src, .int .i64 x.m.dst, .string (S x.m.dat), .int .i64 x.i] 35)).alloc (.cells #[.int .u8 x.kind, .int .i64 x.m.src, .int .i64 x.m.dst, .string (S x.m.dat), .int .i64 x.i] 35)) w.heap.size := BlkIn.more (heap_alloc_new w _) _
  have hR : BlkIn #[.int .u8 x.kind, .int .i64 x.m.src, .int .i64 x.m.dst, .string (S x.m.dat), .int .i64 x.i] 35 ((w.alloc (.cells #[.int .u8 x.kind, .int .i64 x.m.src, .int .i64 x.m.dst, .string (S x.m.dat), .int .i64 x.i] 35)).alloc (.cells #[.int .u8 x.kind, .int .i64 x.m.src, .int .i64 x.m.dst, .string (S x.m.dat), .int .i64 x.i] 35)) (w.heap.size + 1) := by
    have h := heap_alloc_new (w.alloc (.cells #[.int .u8 x.kind, .int .i64 x.m.src, .int .i64 x.m.dst, .string (S x.m.dat), .int .i64 x.i] 35)) (.cells #[.int .u8 x.kind, .int .i64 x.m.src, .int .i64 x.m.dst, .string (S x.m.dat), .int .i64 x.i] 35)
    rw [sz_alloc] at h
    exact h
  have hb := ((Below.refl w.heap.size w).alloc (Nat.le_refl _) (.cells #[.int .u8 x.kind, .int .i64 x.m.src, .int .i64 x.m.dst, .string (S x.m.dat), .int .i64 x.i] 35)).alloc (by simp) (.cells #[.int .u8 x.kind, .int .i64 x.m.src, .int .i64 x.m.dst, .string (S x.m.dat), .int .i64 x.i] 35)
  have C0 := Lib.hid (great7_any (ac_blk hR hx 1))
  have HX := Lib.hid hX
  have HB := Lib.hid hb
  clear hX hR hb
  go_enter Try.func4, Try.ntmps4
  go_wp2_with fail
  with_reducible refine (C0.out).mono ?_
  rintro e W1 ⟨rfl | ⟨rfl, hbd⟩, rfl⟩
  · go_wp2_with fail
    go_ret
    exact ⟨rfl, HB.out⟩
  · clear hbd
    have hi1 := hx.i1
    have hi2 := hx.i2
    obtain ⟨xk, m, i⟩ := x
    simp only at hi1 hi2 HX HB
    generalize ((w.alloc (.cells #[.int .u8 xk, .int .i64 m.src, .int .i64 m.dst, .string (S m.dat), .int .i64 i] 35)).alloc (.cells #[.int .u8 xk, .int .i64 m.src, .int .i64 m.dst, .string (S m.dat), .int .i64 i] 35)) = W1 at *
    clear C0 hx
    go_wp2_with fail
    go_loopw [3] (fun i' wr => ∃ (k : Nat) (kv : Int), k ≤ 2 ∧ i' = .int .i64 k ∧ BlkIn #[.int .u8 kv, .int .i64 m.src, .int .i64 m.dst, .string (S m.dat), .int .i64 i] 35 wr w.heap.size ∧ Below w.heap.size w wr) (fun i' _ => 2 - (intOf i').toNat)
    case atStart => exact ⟨0, xk, by omega, rfl, HX.out, HB.out⟩
    case round =>
      rename_i wr
      obtain ⟨k, kv, hk, rfl, hX, hB⟩ := hrel
      have hk3 : k = 0 ∨ k = 1 ∨ k = 2 := by omega
      rcases hk3 with rfl | rfl | rfl
      · go_wp2_with fail
        have HX0 := Lib.hid hX
        have HB0 := Lib.hid hB
        have HP0 : Hid (NoneIn wr none) := Lib.hid (fun a h => by cases h)
        have HPX : Hid (∀ a, (none : Option Addr) = some a → a.block ≠ w.heap.size) := Lib.hid (fun a h => by cases h)
        clear hX hB
        go_loopw [5] (fun k' wv => ∃ (k : Nat) (kv : Int), k ≤ 9 ∧ k' = .int .i64 k ∧ BlkIn #[.int .u8 kv, .int .i64 m.src, .int .i64 m.dst, .string (S m.dat), .int .i64 i] 35 wv w.heap.size ∧ NoneIn wv none ∧ Below w.heap.size w wv) (fun k' _ => 9 - (intOf k').toNat)
        case atStart => exact ⟨0, kv, by omega, rfl, HX0.out, HP0.out, HB0.out⟩
        case round =>
          rename_i wv
          obtain ⟨k, kv2, hk2, rfl, hX, hP, hB⟩ := hrel
          by_cases hlt : k < 9
          · have d2 : decide ((k : Int) < 9) = true := by simp; omega
            have x1 := hX.cell 1
            have x2 := hX.cell 2
            have x3 := hX.cell 3
            have x4 := hX.cell 4
            have x0 := hX.cell 0
            have xf := fun j => hX.free j
            have g0 : (0 : Int) ≤ (k : Int) := by omega
            have g1 : (k : Int) < 9 := by omega
            have C1 := Lib.hid (done_no (hP.set HPX.out 0 (.int .u8 (k : Int))) ⟨k, m, i⟩ ⟨g0, by simp only; omega, hi1, hi2⟩)
            have HX1 := Lib.hid (hX.set 0 (.int .u8 (k : Int)))
            have HP1 := Lib.hid (hP.set HPX.out 0 (.int .u8 (k : Int)))
            have HB1 := Lib.hid (hB.setCell (p := ⟨w.heap.size, 0, none⟩) (Nat.le_refl _) (.int .u8 (k : Int)))
            clear hX hP hB HX0 HP0 HB0
            go_wp2_with fail
            with_reducible refine (C1.out).mono ?_
            rintro e w3 ⟨rfl, hb⟩
            have HX3 := Lib.hid (HX1.out.below hb)
            have HP3 := Lib.hid (HP1.out.below hb)
            have HB3 := Lib.hid (below_step HB1.out hb)
            clear hb x0 x1 x2 x3 x4 xf C1
            go_wp2_with fail
            go_roundw
            case rel => exact ⟨_, _, _, _, _, _, _, _, _, _, _, _, _, _, _, _, _, _, _, _, _, _, _, ⟨k + 1, k, by omega, by go_num, HX3.out.more _, HP3.out.more _, HB3.out.alloc HB3.out.size _⟩, rfl⟩
            case measure => simp [intOf]; omega
          · obtain rfl : k = 9 := by omega
            have d2 : decide (((9 : Nat) : Int) < 9) = false := by simp
            have C1 := Lib.hid (len_no hP)
            have C2 := Lib.hid (all_no hP)
            have HX3 := Lib.hid hX
            have HB3 := Lib.hid hB
            clear hX hP hB HX0 HP0 HB0
            go_wp2_with fail
            with_reducible refine (C1.out).mono ?_
            rintro e w3 ⟨rfl, rfl⟩
            go_wp2_with fail
            with_reducible refine (C2.out).mono ?_
            rintro e w3 ⟨rfl, rfl⟩
            go_wp2_with fail
            go_roundw
            case rel => exact ⟨1, kv2, by omega, by go_num, HX3.out, HB3.out⟩
            case measure => simp [intOf]
      · go_wp2_with fail
        have HX0 := Lib.hid (hX.more (.cells C 45))
        have HB0 := Lib.hid (hB.alloc hB.size (.cells C 45))
        have HP0 : Hid (NoneIn (wr.alloc (.cells C 45)) (some ⟨wr.heap.size, 0, none⟩)) := Lib.hid (fun a h => by
          cases h
          exact ⟨_, rfl, by rw [(show BlkIn C _ _ wr.heap.size from heap_alloc_new wr _).cell 259]; exact HC.out.mad⟩)
        have HPX : Hid (∀ a, some (⟨wr.heap.size, 0, none⟩ : Addr) = some a → a.block ≠ w.heap.size) := Lib.hid (fun a h => by cases h; have := hX.lt; simp only; omega)
        clear hX hB
        generalize wr.alloc (.cells C 45) = W0 at *
        generalize wr.heap.size = bb at *
        go_loopw [5] (fun k' wv => ∃ (k : Nat) (kv : Int), k ≤ 9 ∧ k' = .int .i64 k ∧ BlkIn #[.int .u8 kv, .int .i64 m.src, .int .i64 m.dst, .string (S m.dat), .int .i64 i] 35 wv w.heap.size ∧ NoneIn wv (some ⟨bb, 0, none⟩) ∧ Below w.heap.size w wv) (fun k' _ => 9 - (intOf k').toNat)
        case atStart => exact ⟨0, kv, by omega, rfl, HX0.out, HP0.out, HB0.out⟩
        case round =>
          rename_i wv
          obtain ⟨k, kv2, hk2, rfl, hX, hP, hB⟩ := hrel
          by_cases hlt : k < 9
          · have d2 : decide ((k : Int) < 9) = true := by simp; omega
            have x1 := hX.cell 1
            have x2 := hX.cell 2
            have x3 := hX.cell 3
            have x4 := hX.cell 4
            have x0 := hX.cell 0
            have xf := fun j => hX.free j
            have g0 : (0 : Int) ≤ (k : Int) := by omega
            have g1 : (k : Int) < 9 := by omega
            have C1 := Lib.hid (done_no (hP.set HPX.out 0 (.int .u8 (k : Int))) ⟨k, m, i⟩ ⟨g0, by simp only; omega, hi1, hi2⟩)
            have HX1 := Lib.hid (hX.set 0 (.int .u8 (k : Int)))
            have HP1 := Lib.hid (hP.set HPX.out 0 (.int .u8 (k : Int)))
            have HB1 := Lib.hid (hB.setCell (p := ⟨w.heap.size, 0, none⟩) (Nat.le_refl _) (.int .u8 (k : Int)))
            clear hX hP hB HX0 HP0 HB0
            go_wp2_with fail
            with_reducible refine (C1.out).mono ?_
            rintro e w3 ⟨rfl, hb⟩
            have HX3 := Lib.hid (HX1.out.below hb)
            have HP3 := Lib.hid (HP1.out.below hb)
            have HB3 := Lib.hid (below_step HB1.out hb)
            clear hb x0 x1 x2 x3 x4 xf C1
            go_wp2_with fail
            go_roundw
            case rel => exact ⟨_, _, _, _, _, _, _, _, _, _, _, _, _, _, _, _, _, _, _, _, _, _, _, ⟨k + 1, k, by omega, by go_num, HX3.out.more _, HP3.out.more _, HB3.out.alloc HB3.out.size _⟩, rfl⟩
            case measure => simp [intOf]; omega
          · obtain rfl : k = 9 := by omega
            have d2 : decide (((9 : Nat) : Int) < 9) = false := by simp
            have C1 := Lib.hid (len_no hP)
            have C2 := Lib.hid (all_no hP)
            have HX3 := Lib.hid hX
            have HB3 := Lib.hid hB
            clear hX hP hB HX0 HP0 HB0
            go_wp2_with fail
            with_reducible refine (C1.out).mono ?_
            rintro e w3 ⟨rfl, rfl⟩
            go_wp2_with fail
            with_reducible refine (C2.out).mono ?_
            rintro e w3 ⟨rfl, rfl⟩
            go_wp2_with fail
            go_roundw
            case rel => exact ⟨2, kv2, by omega, by go_num, HX3.out, HB3.out⟩
            case measure => simp [intOf]
      · go_wp2_with fail
        with_reducible refine (does7 _).mono ?_
        rintro e w9 ⟨rfl, hb⟩
        have HB9 := Lib.hid (below_step hB hb)
        clear hb hX hB
        go_wp2_with fail
        go_ret
        exact ⟨rfl, HB9.out⟩

end Go.Proofs.Ytggflkjdpibioaa
