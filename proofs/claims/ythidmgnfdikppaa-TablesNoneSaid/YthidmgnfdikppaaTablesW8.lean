/- Layer 10: TablesNone, walked. -/
import Derived.Test.YthidmgnfdikppaaTablesZ
import Derived.Test.YthidmgnfdikppaaTablesW6
import Derived.Test.YthidmgnfdikppaaBlocksL
namespace Go.Proofs.Ythidmgnfdikppaa
set_option linter.unusedVariables false
open Go Go.RowKit
attribute [local go_sem ↓] run_index_S
attribute [local go_sem] S_append S_extract

theorem kD_cls {w : World} {g n : Nat} (h : ∀ j, j < n → ClOff ⟨[107], (n : Int) - (j : Int), []⟩ w g (j * 3)) : ClsAt w (some ⟨g, 0, none⟩) (kD n) := fun _ =>
  ⟨g, 0, rfl, fun j hj => by
    rw [kD_len] at hj
    rw [kD_get n j hj, Nat.zero_add]
    have := h j hj
    rwa [show (n : Int) - (j : Int) = ((n - j : Nat) : Int) from by omega] at this⟩
set_option maxHeartbeats 8000000 in
set_option maxRecDepth 100000 in
theorem tablesNone_calls (W : World) (key : List UInt8) (hkl : key.length ≤ 140737488351232) (over : Int) (wv : (Lit.int .u8 over).wf = true) :
    Calls Try.prog 10 #[.string (S key), .int .u8 over] W fun e w' => e = .returned (.bool true) ∧ Below W.heap.size W w' := by
  have hov : 0 ≤ over ∧ over ≤ 255 := by simpa [Lit.wf, IntKind.min, IntKind.max, IntKind.signed, IntKind.bits] using wv
  obtain ⟨m, rfl⟩ : ∃ m : Nat, over = (m : Int) := ⟨over.toNat, by omega⟩
  have CD := Lib.hid does10
  have HB := Lib.hid (Below.refl W.heap.size W)
  clear wv
  by_cases q1 : 1000 < key.length
  · have d1 : decide ((1000 : Int) < (key.length : Int)) = true := by simp; omega
    go_enter Try.func10, Try.ntmps10
    go_wp2_with fail
    go_ret
    exact ⟨rfl, HB.out⟩
  have d1 : decide ((1000 : Int) < (key.length : Int)) = false := by simp; omega
  have CGn : Hid (∀ V, Calls Try.prog 30 #[.pointer none, .string (S key)] V fun e w' => e = .returned (.tuple #[.agg #[.string (S []), .int .i64 0, .string (S [])], .bool false]) ∧ Below V.heap.size V w') := Lib.hid (fun V => get10_nil key V)
  have CRn : Hid (∀ V, Calls Try.prog 32 #[.pointer none, .string (S key), .string { data := #[] }] V fun e w' => e = .returned (.slice none 0 0) ∧ V = w') := Lib.hid (fun V => range10_nil key [] V)
  have CAn := Lib.hid (fun V => all10_nil V)
  have CLn := Lib.hid (fun V => len10_nil V)
  have CGe : Hid (∀ V p, TabAt [] p V → Calls Try.prog 30 #[.pointer (some ⟨p, 0, none⟩), .string (S key)] V fun e w' => e = .returned (.tuple #[.agg #[.string (S []), .int .i64 0, .string (S [])], .bool false]) ∧ Below V.heap.size V w') := Lib.hid (fun V p h => get10_any [] p key V h rfl (by simp) (by simp) (by omega))
  have CRe : Hid (∀ V p, TabAt [] p V → Calls Try.prog 32 #[.pointer (some ⟨p, 0, none⟩), .string (S key), .string { data := #[] }] V fun e w' => ∃ a c, e = .returned (.slice a 0 c) ∧ ClsAt w' a [] ∧ Below V.heap.size V w') := Lib.hid (fun V p h => rng_clsN (range10_any [] p key [] V h rfl (by simp) (by simp) (by omega) (by simp)))
  have CAe : Hid (∀ V p, TabAt [] p V → Calls Try.prog 33 #[.pointer (some ⟨p, 0, none⟩)] V fun e w' => ∃ a c, e = .returned (.slice a 0 c) ∧ ClsAt w' a [] ∧ Below V.heap.size V w') := Lib.hid (fun V p h => rng_clsN (all10_any [] p V h rfl (by simp) (by simp)))
  have CLe : Hid (∀ V p, TabAt [] p V → Calls Try.prog 34 #[.pointer (some ⟨p, 0, none⟩)] V fun e w' => e = .returned (.int .i64 0) ∧ V = w') := Lib.hid (fun V p h => len10_any [] p V h (by simp))
  obtain ⟨n, hn⟩ : ∃ n : Nat, n = 4094 + m % 4 := ⟨_, rfl⟩
  have hn1 : 4094 ≤ n := by omega
  have hn2 : n ≤ 4097 := by omega
  have CB := Lib.hid (fun V g (h : ClsAt V (some ⟨g, 0, none⟩) (kD n)) => by
    have := build10_any (kD n) (by rw [kD_len]; omega) (some ⟨g, 0, none⟩) n (by rw [kD_len]; omega) V h (kD_oks n (by omega))
    rw [kD_len] at this
    exact this)
  unfold BuildR at CB
  have CO := Lib.hid (fun (hn : n ≤ 4096) V => by
    have := open10_any (M.tableT (kD n)) (by have := kD_tab n hn; omega) V
    unfold OpenR10 at this
    rw [M.openT_some (isT_self (kD_srt0 n) (by rw [kD_len]; omega) (kD_ints n (by omega)))] at this
    exact this)
  simp only at CO
  have CLk : Hid (∀ (hn : n ≤ 4096) V p, TabAt (kD n) p V → Calls Try.prog 34 #[.pointer (some ⟨p, 0, none⟩)] V fun e w' => e = .returned (.int .i64 (n : Int)) ∧ V = w') := Lib.hid (fun hn V p h => by
    have := len10_any (kD n) p V h (by rw [kD_len]; omega)
    rwa [kD_len] at this)
  obtain ⟨C, hC, hmk⟩ := make_full 22 Try.underlying22 n (by omega) .i64 .i64
  have HC := Lib.hid hC
  have hr1 : (m : Int).tmod 4 = ((m % 4 : Nat) : Int) := by rw [Int.ofNat_tmod]; rfl
  obtain ⟨r, hr⟩ : ∃ r : Nat, r = m % 4 := ⟨_, rfl⟩
  have hr3 : r ≤ 3 := by omega
  have hr4 : (4094 : Int) + (r : Int) = (n : Int) := by omega
  rw [← hr] at hr1 hn
  clear hr hn hC hov
  go_enter Try.func10, Try.ntmps10
  go_wp2_with fail
  go_loopw [5] (fun i wr => ∃ k : Nat, k ≤ 2 ∧ i = .int .i64 k ∧ Hid (Below W.heap.size W wr)) (fun i _ => 2 - (intOf i).toNat)
  case atStart => exact ⟨0, by omega, rfl, HB⟩
  case round =>
    clear HB
    obtain ⟨k, hk, rfl, HB⟩ := hrel
    have hk3 : k = 0 ∨ k = 1 ∨ k = 2 := by omega
    rcases hk3 with rfl | rfl | rfl
    · go_wp2_with fail
      with_reducible refine (CGn.out _).mono ?_
      rintro e w1 ⟨rfl, hbq⟩
      replace HB := Lib.hid (below_step HB.out hbq)
      clear hbq
      have HY := Lib.hid (rowIn_new #[.string (S []), .int .i64 0, .string (S [])] 38 w1)
      replace HB := Lib.hid (below_step HB.out ((Below.refl w1.heap.size w1).alloc (Nat.le_refl _) (.cells #[.string (S []), .int .i64 0, .string (S [])] 38)))
      have y0 := HY.out.cell 0
      have y1 := HY.out.cell 1
      have y2 := HY.out.cell 2
      go_wp2_with fail
      with_reducible refine (CRn.out _).mono ?_
      rintro e wA ⟨rfl, rfl⟩
      go_wp2_with fail
      with_reducible refine (CAn.out _).mono ?_
      rintro e wA ⟨rfl, rfl⟩
      go_wp2_with fail
      with_reducible refine (CLn.out _).mono ?_
      rintro e wA ⟨rfl, rfl⟩
      clear y0 y1 y2
      go_wp2_with fail
      go_roundw
      case rel => exact ⟨1, by omega, rfl, HB⟩
      case measure => simp [intOf]
    · have HT0 := Lib.hid (rowIn_new #[.slice none 0 0, .slice none 0 0, .int .i64 0] 57 wr)
      replace HB := Lib.hid (below_step HB.out ((Below.refl wr.heap.size wr).alloc (Nat.le_refl _) (.cells #[.slice none 0 0, .slice none 0 0, .int .i64 0] 57)))
      have HT := Lib.hid (tabAt_empty _ _ HT0.out)
      clear HT0
      go_wp2_with fail
      with_reducible refine (CGe.out _ _ HT.out).mono ?_
      rintro e w1 ⟨rfl, hbq⟩
      replace HB := Lib.hid (below_step HB.out hbq)
      replace HT := Lib.hid (HT.out.below hbq)
      clear hbq
      have HY := Lib.hid (rowIn_new #[.string (S []), .int .i64 0, .string (S [])] 38 w1)
      have hal := (Below.refl w1.heap.size w1).alloc (Nat.le_refl _) (.cells #[.string (S []), .int .i64 0, .string (S [])] 38)
      replace HB := Lib.hid (below_step HB.out hal)
      replace HT := Lib.hid (HT.out.below hal)
      clear hal
      have y0 := HY.out.cell 0
      have y1 := HY.out.cell 1
      have y2 := HY.out.cell 2
      go_wp2_with fail
      with_reducible refine (CRe.out _ _ HT.out).mono ?_
      rintro e w2 ⟨a2, c2, rfl, -, hbq⟩
      replace HB := Lib.hid (below_step HB.out hbq)
      replace HT := Lib.hid (HT.out.below hbq)
      clear hbq y0 y1 y2
      go_wp2_with fail
      with_reducible refine (CAe.out _ _ HT.out).mono ?_
      rintro e w3 ⟨a3, c3, rfl, -, hbq⟩
      replace HB := Lib.hid (below_step HB.out hbq)
      replace HT := Lib.hid (HT.out.below hbq)
      clear hbq
      go_wp2_with fail
      with_reducible refine (CLe.out _ _ HT.out).mono ?_
      rintro e wA ⟨rfl, rfl⟩
      go_wp2_with fail
      go_roundw
      case rel => exact ⟨2, by omega, rfl, HB⟩
      case measure => simp [intOf]
    · go_wp2_with fail
      have hsz := HC.out
      have HRM := Lib.hid (show RoomC (n * 3) (wr.alloc (.cells C 38)) wr.heap.size from ⟨C, rowIn_new _ _ _, by omega⟩)
      have hb0 := HB.out.size
      replace HB := Lib.hid (below_step HB.out ((Below.refl wr.heap.size wr).alloc (Nat.le_refl _) (.cells C 38)))
      clear hsz
      obtain ⟨g, hg⟩ : ∃ g, g = wr.heap.size := ⟨_, rfl⟩
      rw [← hg] at HRM hb0 ⊢
      clear hg CGn CRn CAn CLn CGe CRe CAe CLe
      go_loopw [11] (fun i wr => ∃ k : Nat, k ≤ n ∧ i = .int .i64 k ∧ Hid (RoomC (n * 3) wr g) ∧ Hid (∀ j, j < k → ClOff ⟨[107], (n : Int) - (j : Int), []⟩ wr g (j * 3)) ∧ Hid (Below W.heap.size W wr)) (fun i _ => n - (intOf i).toNat)
      case atStart => exact ⟨0, by omega, rfl, HRM, Lib.hid (fun j hj => by omega), HB⟩
      case round =>
        clear HRM HB
        obtain ⟨k, hk, rfl, HRM, HF, HB⟩ := hrel
        by_cases hlt : k < n
        · have d2 : decide ((k : Int) < (n : Int)) = true := by simp; omega
          have hki : (k : Int) < (n : Int) := by omega
          have hw1 : IntKind.i64.wrap ((n : Int) - (k : Int)) = (n : Int) - (k : Int) := IntWalk.i64_in _ (by omega)
          obtain ⟨v0, c0⟩ := HRM.out.cell (k * 3) (by omega)
          obtain ⟨v1, c1⟩ := HRM.out.cell (k * 3 + 1) (by omega)
          obtain ⟨v2, c2⟩ := HRM.out.cell (k * 3 + 2) (by omega)
          have n0 := HRM.out.free (k * 3)
          have n1 := HRM.out.free (k * 3 + 1)
          have n2 := HRM.out.free (k * 3 + 2)
          have HF2 := Lib.hid (show ∀ j, j < k + 1 → ClOff ⟨[107], (n : Int) - (j : Int), []⟩ (store3 wr g (k * 3) ⟨[107], (n : Int) - (k : Int), []⟩) g (j * 3) from fun j hj => by
            by_cases e : j = k
            · subst e; exact store3_at HRM.out (by omega) _
            · exact store3_off HRM.out (by omega) _ (HF.out j (by omega)) (by omega))
          have HRM2 := Lib.hid (store3_room (o := k * 3) HRM.out ⟨[107], (n : Int) - (k : Int), []⟩)
          go_wp2_with fail
          go_roundw
          case rel => exact ⟨k + 1, by omega, by go_num, HRM2, HF2, Lib.hid (((HB.out.setCell (p := ⟨g, _, none⟩) hb0 _).setCell (p := ⟨g, _, none⟩) hb0 _).setCell (p := ⟨g, _, none⟩) hb0 _)⟩
          case measure => simp [intOf]; omega
        · obtain rfl : k = n := by omega
          have d2 : decide ((k : Int) < (k : Int)) = false := by simp
          have HC2 := Lib.hid (kD_cls HF.out)
          by_cases hle : k ≤ 4096
          · rw [bE_ok (kD_srt0 k) (by rw [kD_len]; omega)] at CB
            replace CO := Lib.hid (CO.out hle)
            replace CLk := Lib.hid (CLk.out hle)
            have d3 : decide ((4096 : Int) < (k : Int)) = false := by simp; omega
            generalize M.tableT (kD k) = t at *
            go_wp2_with fail
            with_reducible refine (CB.out _ _ HC2.out).mono ?_
            rintro e w1 ⟨rfl, hbq⟩
            replace HB := Lib.hid (below_step HB.out hbq)
            clear hbq CB
            go_wp2_with fail
            with_reducible refine (CO.out _).mono ?_
            rintro e w2 ⟨⟨p, rfl, ht⟩, hbq⟩
            replace HB := Lib.hid (below_step HB.out hbq)
            have HT := Lib.hid ht
            clear hbq ht CO
            go_wp2_with fail
            with_reducible refine (CLk.out _ p HT.out).mono ?_
            rintro e wA ⟨rfl, rfl⟩
            go_wp2_with fail
            with_reducible refine (CD.out _).mono ?_
            rintro e w3 ⟨rfl, hbq⟩
            replace HB := Lib.hid (below_step HB.out hbq)
            clear hbq
            go_wp2_with fail
            go_ret
            exact ⟨rfl, HB.out⟩
          · rw [bE_long (kD_srt0 k) (by rw [kD_len]; omega)] at CB
            have d3 : decide ((4096 : Int) < (k : Int)) = true := by simp; omega
            clear CO CLk
            go_wp2_with fail
            with_reducible refine (CB.out _ _ HC2.out).mono ?_
            rintro e w1 ⟨rfl, hbq⟩
            replace HB := Lib.hid (below_step HB.out hbq)
            clear hbq CB
            go_wp2_with fail
            with_reducible refine (CD.out _).mono ?_
            rintro e w3 ⟨rfl, hbq⟩
            replace HB := Lib.hid (below_step HB.out hbq)
            clear hbq
            go_wp2_with fail
            go_ret
            exact ⟨rfl, HB.out⟩

end Go.Proofs.Ythidmgnfdikppaa
