/- Layer 2: the laws' walks, continued: SumsWindow, SumsOne. -/
import Derived.Test.YtpbdmldooehafaaSumsL
import Derived.Deep.QuietTactic
import Derived.BigQuiet
import Derived.Lib.QuietBelow
namespace Go.Proofs.Ytpbdmldooehafaa
set_option linter.unusedVariables false
open Go Go.RowKit
attribute [local go_sem ↓] run_index_S
attribute [local go_sem] S_append S_extract

theorem piece_cons (l : List UInt8) (i j : Nat) (h : i < j) (hj : j ≤ l.length) : piece l i j = l[i] :: piece l (i + 1) j := by
  unfold piece
  rw [List.drop_eq_getElem_cons (by omega), show j - i = (j - (i + 1)) + 1 from by omega, List.take_succ_cons]
theorem piece_snoc (l : List UInt8) (i j : Nat) (h : i ≤ j) (hj : j < l.length) : piece l i (j + 1) = piece l i j ++ [l[j]] := by
  unfold piece
  rw [show j + 1 - i = (j - i) + 1 from by omega, List.take_succ_eq_append_getElem (by simp; omega)]
  congr 1
  simp
  congr 1
  omega

/-- The next window's sum. -/
theorem window_step (l : List UInt8) (k i : Nat) (hk : 1 ≤ k) (hki : k ≤ i) (hi : i < l.length) :
    rollS (M.sumP (piece l (i - k) i)) (k : Int) (B l (i - k)) (B l i) = M.sumP (piece l (i - k + 1) (i + 1)) := by
  rw [piece_cons l (i - k) i (by omega) (by omega), piece_snoc l (i - k + 1) i (by omega) hi, B_at l _ (by omega), B_at l i hi]
  unfold rollS
  simp only [Int.toNat_natCast]
  refine M.roll_window _ _ _ k ?_
  rw [piece_length _ _ _ (by omega) (by omega)]
  omega

set_option maxHeartbeats 1000000 in
set_option maxRecDepth 100000 in
theorem sumsWindow_calls (l : List UInt8) (hl : l.length ≤ 140737488351232) (n : Int) (wn : (Lit.int .u8 n).wf = true) (w : World) :
    Calls Try.prog 13 #[.string (S l), .int .u8 n] w fun e w' => e = .returned (.bool true) ∧ Below w.heap.size w w' := by
  have hn := u8_range wn
  by_cases h : 2000 < l.length
  · go_enter Try.func13, Try.ntmps13
    go_wp2_with fail
    with_reducible refine (does2 _).mono ?_
    rintro e w3 ⟨rfl, hb3⟩
    go_wp2_with fail
    go_ret
    exact ⟨rfl, hb3⟩
  · by_cases h1 : n < 1
    · go_enter Try.func13, Try.ntmps13
      go_wp2_with fail
      with_reducible refine (does2 _).mono ?_
      rintro e w3 ⟨rfl, hb3⟩
      go_wp2_with fail
      go_ret
      exact ⟨rfl, hb3⟩
    · obtain ⟨k, rfl⟩ := Int.eq_ofNat_of_zero_le hn.1
      by_cases h2 : l.length < k
      · have hd : decide (l.length < k) = true := by simpa using h2
        go_enter Try.func13, Try.ntmps13
        go_wp2_with fail
        with_reducible refine (does2 _).mono ?_
        rintro e w3 ⟨rfl, hb3⟩
        go_wp2_with fail
        go_ret
        exact ⟨rfl, hb3⟩
      · have hd : decide (l.length < k) = false := by simpa using h2
        have hd2000 : decide (2000 < (l.length : Int)) = false := by simp; omega
        have hd1 : decide ((k : Int) < 1) = false := by simp; omega
        have hkl : k ≤ l.length := by omega
        have hk1 : 1 ≤ k := by omega
        have hsl := run_piece_to (P := Try.prog) 9 Try.underlying9 l (k : Int) k rfl hkl
        have e0 : l.take k = piece l 0 k := by simp [piece]
        rw [e0] at hsl
        have hlt := fun x => M.sumP_lt x
        have HLT := Lib.hid hlt
        clear hlt e0
        go_enter Try.func13, Try.ntmps13
        go_wp2_with fail
        with_reducible refine (sum0_any _ (by rw [piece_length _ _ _ (by omega) hkl]; omega) _).mono ?_
        rintro e w1 ⟨rfl, hb1⟩
        clear hsl
        go_wp2_with fail
        go_loopw [6, 7] (fun s i wr => ∃ j : Nat, k ≤ j ∧ j ≤ l.length ∧ s = .int .u32 (M.sumP (piece l (j - k) j) : Nat) ∧ i = .int .i64 j ∧ Below w.heap.size w wr) (fun _ i _ => l.length - (intOf i).toNat)
        case atStart => exact ⟨k, Nat.le_refl _, hkl, by rw [Nat.sub_self], rfl, hb1⟩
        case round =>
          obtain ⟨j, hkj, hjl, rfl, rfl, hb⟩ := hrel
          by_cases hj : j < l.length
          · have hst := window_step l k j hk1 hkj hj
            have hlt1 := HLT.out (piece l (j - k) j)
            have hlt2 := HLT.out (piece l (j - k + 1) (j + 1))
            have hbx := B_range l (j - k)
            have hby := B_range l j
            have cr := fun W => roll_any (M.sumP (piece l (j - k) j)) hlt1 (k : Int) (by omega) (B l (j - k)) (B l j) (by omega) (by omega) W
            rw [hst] at cr
            have hpl : (piece l (j - k + 1) (j + 1)).length ≤ 9223372036854775807 := by rw [piece_length _ _ _ (by omega) (by omega)]; omega
            have cs := fun W => sum0_any (piece l (j - k + 1) (j + 1)) hpl W
            have hsl := run_piece (P := Try.prog) 9 Try.underlying9 l ((j : Int) - (k : Int) + 1) ((j : Int) + 1) (j - k + 1) (j + 1) (by omega) (by omega) (by omega) (by omega)
            have e2 : piece l (j + 1 - k) (j + 1) = piece l (j - k + 1) (j + 1) := by rw [show j + 1 - k = j - k + 1 from by omega]
            have ew : IntKind.i64.wrap ((j : Int) - (k : Int)) = (j : Int) - (k : Int) := IntWalk.i64_in _ (by omega)
            have et : ((j : Int) - (k : Int)).toNat = j - k := by omega
            have ex0 : 0 ≤ (j : Int) - (k : Int) := by omega
            have ex1 : (j : Int) - (k : Int) < (l.length : Int) := by omega
            generalize M.sumP (piece l (j - k) j) = x at *
            generalize piece l (j - k + 1) (j + 1) = q at *
            have CR := Lib.hid cr
            have CS := Lib.hid cs
            have E2 := Lib.hid e2
            clear cr cs e2 hst
            go_wp2_with fail
            refine wp_region_quiet_below (by kernel_rfl) (by kernel_rfl) ?_
            repeat (any_goals (first | go_big_quiet_step ((go_at_call 33; exact Calls.regrown_of (CR.out _))) | quiet_step ((go_at_call 33; exact Calls.regrown_of (CR.out _)))))
            refine wpQuiet_nil ?_
            intro _ hw1
            obtain ⟨⟨d1, o1⟩, hw1⟩ := hw1
            subst hw1
            go_wp2_with fail
            with_reducible refine (CS.out _).mono ?_
            rintro e w3 ⟨rfl, hb3⟩
            go_wp2_with fail
            go_roundw
            case rel => exact ⟨j + 1, by omega, by omega, by rw [E2.out], by go_num, below_step (below_step hb (below_regrown _ d1 o1)) hb3⟩
            case measure => simp [intOf]; omega
          · obtain rfl : j = l.length := by omega
            go_wp2_with fail
            with_reducible refine (does2 _).mono ?_
            rintro e w3 ⟨rfl, hb3⟩
            go_wp2_with fail
            go_ret
            exact ⟨rfl, below_step hb hb3⟩

/-- A byte by another one's bits. -/
theorem xor_byte (x y : Int) (hx : 0 ≤ x ∧ x ≤ 255) (hy : 0 ≤ y ∧ y ≤ 255) : ∃ v : UInt8, bits .xor .u8 x y = (v.toNat : Int) ∧ ((v.toNat : Int) = x ↔ y = 0) := by
  have h := u8_xor x y hx.1 (by omega) hy.1 (by omega)
  have hlt : x.toNat ^^^ y.toNat < 2 ^ 8 := Nat.xor_lt_two_pow (by omega) (by omega)
  refine ⟨UInt8.ofNat (x.toNat ^^^ y.toNat), ?_, ?_⟩
  · rw [h, UInt8.toNat_ofNat']; congr 1; omega
  · rw [UInt8.toNat_ofNat', Nat.mod_eq_of_lt (by omega)]
    constructor
    · intro e
      have e1 : x.toNat ^^^ y.toNat = x.toNat := by omega
      have e2 : x.toNat ^^^ (x.toNat ^^^ y.toNat) = y.toNat := by rw [← Nat.xor_assoc, Nat.xor_self, Nat.zero_xor]
      rw [e1, Nat.xor_self] at e2
      omega
    · intro e
      subst e
      simp; omega

set_option maxHeartbeats 1000000 in
set_option maxRecDepth 100000 in
theorem sumsOne_calls (l : List UInt8) (hl : l.length ≤ 140737488351232) (at_ : Int) (wa : (Lit.int .i64 at_).wf = true) (y : Int) (wy : (Lit.int .u8 y).wf = true) (w : World) :
    Calls Try.prog 14 #[.string (S l), .int .i64 at_, .int .u8 y] w fun e w' => e = .returned (.bool true) ∧ Below w.heap.size w w' := by
  have hy := u8_range wy
  by_cases h : 50000 < l.length
  · go_enter Try.func14, Try.ntmps14
    go_wp2_with fail
    with_reducible refine (does2 _).mono ?_
    rintro e w3 ⟨rfl, hb3⟩
    go_wp2_with fail
    go_ret
    exact ⟨rfl, hb3⟩
  · by_cases h1 : at_ < 0
    · go_enter Try.func14, Try.ntmps14
      go_wp2_with fail
      with_reducible refine (does2 _).mono ?_
      rintro e w3 ⟨rfl, hb3⟩
      go_wp2_with fail
      go_ret
      exact ⟨rfl, hb3⟩
    · obtain ⟨a, rfl⟩ := Int.eq_ofNat_of_zero_le (show 0 ≤ at_ by omega)
      by_cases h2 : l.length ≤ a
      · have hd : decide (l.length ≤ a) = true := by simpa using h2
        go_enter Try.func14, Try.ntmps14
        go_wp2_with fail
        with_reducible refine (does2 _).mono ?_
        rintro e w3 ⟨rfl, hb3⟩
        go_wp2_with fail
        go_ret
        exact ⟨rfl, hb3⟩
      · have hd : decide (l.length ≤ a) = false := by simpa using h2
        have hd5 : decide (50000 < (l.length : Int)) = false := by simp; omega
        have hd0 : decide ((a : Int) < 0) = false := by simp
        have hal : a < l.length := by omega
        obtain ⟨w1, cap, hrun, hat, hb1, hsz⟩ := bytes_conv (P := Try.prog) w 9 47 5 Try.underlying9 Try.underlying47 Try.underlying5 l
        have hbr := B_range l a
        obtain ⟨v, hxor, hv⟩ := xor_byte (B l a) y hbr hy
        have hcell := hat.cell a hal
        have hfree := hat.free a hal
        have hset := hat.set a hal v
        have hback := hset.back 47 9 Try.underlying47 Try.underlying5 Try.underlying9 (P := Try.prog) cap
        rw [List.length_set] at hback
        have hone := M.sum_one l a hal v
        have hv' : v = l[a] ↔ y = 0 := by
          rw [← hv, B_at l a hal]
          exact ⟨fun e => by rw [e], fun e => M.u8_ext (by omega)⟩
        have heq : (((M.sumP (l.set a v) : Nat) : Int) == ((M.sumP l : Nat) : Int)) = (y == 0) := by
          rw [Bool.eq_iff_iff, beq_iff_eq, beq_iff_eq, ← hv', ← hone]; omega
        have c1 := fun W => sum0_any (l.set a v) (by rw [List.length_set]; omega) W
        have c2 := fun W => sum0_any l (by omega) W
        have HB := Lib.hid hb1
        generalize l.set a v = u at *
        generalize M.sumP u = su at *
        generalize M.sumP l = sl at *
        have C1 := Lib.hid c1
        have C2 := Lib.hid c2
        have HSET := Lib.hid hset
        clear c1 c2 hv hv' hone hat hset hb1 hsz
        go_enter Try.func14, Try.ntmps14
        go_wp2_with fail
        with_reducible refine (C1.out _).mono ?_
        rintro e w2 ⟨rfl, hb2⟩
        go_wp2_with fail
        with_reducible refine (C2.out _).mono ?_
        rintro e w3 ⟨rfl, hb3⟩
        go_wp2_with fail
        with_reducible refine (does2 _).mono ?_
        rintro e w4 ⟨rfl, hb4⟩
        go_wp2_with fail
        go_ret
        exact ⟨rfl, below_step (below_step (below_step (HB.out.setCell (Nat.le_refl _) _) hb2) hb3) hb4⟩

end Go.Proofs.Ytpbdmldooehafaa
