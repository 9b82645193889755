/- Layer 1: the program's functions (ints), each by a contract. -/
import Derived.Test.YtekmnpmeienhhaaIntsR2
import Derived.Test.YtekmnpmeienhhaaShelf
import Derived.Handy
import Derived.Lib.BitFns
namespace Go.Proofs.Ytekmnpmeienhhaa
set_option linter.unusedVariables false
open Go Go.RowKit
attribute [local go_sem ↓] run_index_S
attribute [local go_sem] S_append S_extract

theorem bigN_eq (n : Nat) (h : n ≤ 9223372036854775807) : (⟨#[UInt8.ofNat (n / 72057594037927936), UInt8.ofNat (n / 281474976710656 % 256), UInt8.ofNat (n / 1099511627776 % 256), UInt8.ofNat (n / 4294967296 % 256), UInt8.ofNat (n / 16777216 % 256), UInt8.ofNat (n / 65536 % 256), UInt8.ofNat (n / 256 % 256), UInt8.ofNat (n % 256)]⟩ : ByteArray) = S (M.bigN n) := by
  have e : n / 72057594037927936 = n / 72057594037927936 % 256 := by omega
  rw [e]
  simp [M.bigN, M.big, M.u8]

theorem bitLen_c (n : Nat) (h : n ≤ 9223372036854775807) : Lib.bitLen n ≤ 63 := Lib.bitLen_le n 63 (by omega) (by omega)

theorem bitLenAux_at : ∀ (f x : Nat), x < 2 ^ f → x < 2 ^ Lib.bitLenAux f x ∧ (x ≠ 0 → 1 ≤ Lib.bitLenAux f x ∧ 2 ^ (Lib.bitLenAux f x - 1) ≤ x)
  | 0, x, h => by
    have : x = 0 := by simpa using h
    subst this; simp [Lib.bitLenAux]
  | f + 1, x, h => by
    by_cases h0 : x = 0
    · subst h0; simp [Lib.bitLenAux]
    · have ih := bitLenAux_at f (x / 2) (by rw [Nat.pow_succ] at h; omega)
      simp only [Lib.bitLenAux, if_neg h0]
      obtain ⟨h1, h2⟩ := ih
      have e : (2 : Nat) ^ (1 + Lib.bitLenAux f (x / 2)) = 2 * 2 ^ Lib.bitLenAux f (x / 2) := by rw [Nat.add_comm, Nat.pow_succ, Nat.mul_comm]
      refine ⟨by omega, fun _ => ⟨by omega, ?_⟩⟩
      rw [show 1 + Lib.bitLenAux f (x / 2) - 1 = Lib.bitLenAux f (x / 2) from by omega]
      by_cases h3 : x / 2 = 0
      · have h1' : x = 1 := by omega
        subst h1'
        have : Lib.bitLenAux f 0 = 0 := by cases f <;> simp [Lib.bitLenAux]
        simp [this]
      · obtain ⟨h4, h5⟩ := h2 h3
        have e2 : (2 : Nat) ^ Lib.bitLenAux f (x / 2) = 2 * 2 ^ (Lib.bitLenAux f (x / 2) - 1) := by
          rw [← Nat.pow_succ']; congr 1; omega
        omega

/-- By the bits that a number takes: how many digits of 7 bits. -/
theorem digits_of (n L c : Nat) (h : n ≤ 9223372036854775807) (hL : L = Lib.bitLen n) (hc : c = (L + 6) / 7) (hn : 1 ≤ L) : n < 128 ^ c ∧ 128 ^ (c - 1) ≤ n := by
  have h1 := bitLenAux_at 64 n (by omega)
  have h0 : n ≠ 0 := by
    intro e
    subst e
    rw [hL] at hn
    simp [Lib.bitLen, Lib.bitLenAux] at hn
  obtain ⟨h2, h3⟩ := h1
  obtain ⟨h4, h5⟩ := h3 h0
  change n < 2 ^ Lib.bitLen n at h2
  change 2 ^ (Lib.bitLen n - 1) ≤ n at h5
  rw [← hL] at h2 h5
  have e1 : (128 : Nat) ^ c = 2 ^ (7 * c) := by rw [Nat.pow_mul]
  have e2 : (128 : Nat) ^ (c - 1) = 2 ^ (7 * (c - 1)) := by rw [Nat.pow_mul]
  rw [e1, e2]
  exact ⟨Nat.lt_of_lt_of_le h2 (Nat.pow_le_pow_right (by decide) (by omega)), Nat.le_trans (Nat.pow_le_pow_right (by decide) (by omega)) h5⟩

theorem info5 : (Try.prog.info? 5).map (fun i => (i.zero, i.size, i.bytes)) = some (some (.int .u8 0), 1, 1) := by kernel_rfl

theorem or128_fin : ∀ y : Fin 256, bits .or .u8 (y.val : Int) 128 = ((y.val % 128 + 128 : Nat) : Int) := by decide +kernel
theorem or128 (x : Nat) : bits .or .u8 ((x : Int) % 256) 128 = (x : Int) % 128 + 128 := by
  have := or128_fin ⟨x % 256, by omega⟩
  simp only at this
  rw [show ((x : Int) % 256) = ((x % 256 : Nat) : Int) from by omega, this]
  omega
theorem clear128_fin : ∀ y : Fin 256, bits .andNot .u8 (y.val : Int) 128 = ((y.val % 128 : Nat) : Int) := by decide +kernel
theorem clear128 (x : Nat) : bits .andNot .u8 ((x : Int) % 128 + 128) 128 = (x : Int) % 128 := by
  have := clear128_fin ⟨x % 128 + 128, by omega⟩
  simp only at this
  rw [show ((x : Int) % 128 + 128) = ((x % 128 + 128 : Nat) : Int) from by omega, this]
  omega

/-- The cells behind k rounds. -/
def putCells (n c k : Nat) : List Value := (List.range c).map (fun i => if i < k then .int .u8 (((n / 128 ^ (c - 1 - i) : Nat) : Int) % 128 + 128) else .int .u8 0)
theorem putCells_at (n c k j : Nat) (hj : j < c) : (putCells n c k)[j]? = some (if j < k then .int .u8 (((n / 128 ^ (c - 1 - j) : Nat) : Int) % 128 + 128) else .int .u8 0) := by
  simp [putCells, hj]
theorem putCells_step (n c k : Nat) (hk : k < c) : (putCells n c k).set k (.int .u8 (((n / 128 ^ (c - 1 - k) : Nat) : Int) % 128 + 128)) = putCells n c (k + 1) := by
  apply List.ext_getElem?
  intro j
  rw [List.getElem?_set]
  by_cases hj : j < c
  · rw [putCells_at n c (k + 1) j hj]
    by_cases e : k = j
    · subst e; simp [putCells, hj]
    · rw [if_neg e, putCells_at n c k j hj]
      by_cases h1 : j < k
      · rw [if_pos h1, if_pos (by omega)]
      · rw [if_neg h1, if_neg (by omega)]
  · have e : ¬ k = j := by omega
    rw [if_neg e]
    simp [putCells, hj]
theorem putCells_zero (n c : Nat) : putCells n c 0 = (madeCells (Value.int IntKind.u8 0).cells (c * 1)).toList := by
  rw [show (Value.int IntKind.u8 0).cells = #[.int .u8 0] from rfl, toList_madeCells_one]
  apply List.ext_getElem?
  intro j
  by_cases hj : j < c
  · rw [putCells_at n c 0 j hj]; simp [hj]
  · simp [putCells, hj]
/-- The cells behind the last store are Put's bytes. -/
theorem putCells_end (n c : Nat) (hc : 1 ≤ c) (hc9 : c ≤ 9) (h : n < 128 ^ c) (hlo : c = 1 ∨ 128 ^ (c - 1) ≤ n) (j : Nat) (hj : j < (M.putN n).length) :
    ((putCells n c c).set (c - 1) (.int .u8 ((n : Int) % 128)))[j]? = some (.int .u8 ((M.putN n)[j].toNat : Int)) := by
  have he := M.putN_exact c n hc hc9 h hlo
  have hlen : (M.putN n).length = c := by rw [he]; simp
  have hjc : j < c := by omega
  have e1 : (M.putN n)[j] = if j + 1 < c then M.u8 (n / 128 ^ (c - 1 - j) % 128 + 128) else M.u8 (n % 128) := by simp [he]
  rw [e1, List.getElem?_set]
  by_cases h1 : c - 1 = j
  · rw [if_pos h1, if_pos (by simp [putCells]; omega), if_neg (by omega), M.u8_toNat _ (by omega)]; rfl
  · rw [if_neg h1, putCells_at n c c j hjc, if_pos hjc, if_pos (by omega), M.u8_toNat _ (by omega)]; rfl
theorem shift7 (n e : Nat) : (n : Int) / 2 ^ (7 * e) = ((n / 128 ^ e : Nat) : Int) := by
  rw [show (128 : Nat) = 2 ^ 7 from rfl, ← Nat.pow_mul]
  simp

set_option maxHeartbeats 1000000 in
theorem put_nat (n : Nat) (w : World) (h2 : n ≤ 9223372036854775807) :
    Calls Try.prog 78 #[.int .i64 n] w fun e w' => e = .returned (.string (S (M.putN n))) ∧ Below w.heap.size w w' := by
  have hneg : decide ((n : Int) < 0) = false := by simp
  have hL := bitLen_c n h2
  obtain ⟨L, hLL⟩ : ∃ L, L = Lib.bitLen n := ⟨_, rfl⟩
  rw [← hLL] at hL
  obtain ⟨c, hc⟩ : ∃ c, c = max 1 ((L + 6) / 7) := ⟨_, rfl⟩
  have hdig : n < 128 ^ c ∧ (c = 1 ∨ 128 ^ (c - 1) ≤ n) := by
    by_cases hn : 1 ≤ L
    · have := digits_of n L ((L + 6) / 7) h2 hLL rfl hn
      rw [show c = (L + 6) / 7 from by omega]
      exact ⟨this.1, .inr this.2⟩
    · have h1 := bitLenAux_at 64 n (by omega)
      have h3 : Lib.bitLenAux 64 n = 0 := by change Lib.bitLen n = 0; omega
      rw [h3] at h1
      have h4 := h1.1
      rw [show c = 1 from by omega]
      exact ⟨by omega, .inl rfl⟩
  have hmx : max (1 : Int) (((L : Int) + 7 - 1) / 7) = (c : Int) := by omega
  have hc1 : 1 ≤ c := by omega
  have hc9 : c ≤ 9 := by omega
  have HL := Lib.hid hLL
  have HD := Lib.hid hdig
  clear hLL hc hdig
  obtain ⟨i0, hi, hz0, hz1, hz2⟩ := info_parts info5
  go_enter Try.func78, Try.ntmps78
  go_wp2_with (first
    | (go_at_call 94; refine (Try.bits_Len n w (by omega) (by omega)).mono ?_; rintro e w' ⟨rfl, hw⟩; obtain rfl := hw.symm; rw [Int.toNat_natCast, ← HL.out])
    | (at_make; refine wpList_make_full _ rfl (.tmp 15) (.tmp 15) 68 rfl w.heap.size 5 i0 (.int .u8 0) 1 Try.underlying68 hi hz0 hz1 .i64 .i64 c c c rfl rfl rfl rfl (by rw [hz2]; omega) (by unfold maxLen; omega) (Nat.le_refl _) ?_; intro w1 hown1 hgrow1))
  go_loopw [18] (fun i wr => ∃ k : Nat, k ≤ c ∧ i = .int .i64 k ∧ wr.ownsRow w.heap.size 5 1 (.slice (some ⟨w.heap.size, 0, none⟩) c c) c (putCells n c k) ∧ Below w.heap.size w wr) (fun i _ => c - (intOf i).toNat)
  case atStart =>
    refine ⟨0, Nat.zero_le _, rfl, ?_, (Below.refl _ _).grown (by assumption) (Nat.le_refl _) (by intro k h; cases h)⟩
    rw [putCells_zero]
    assumption
  case round =>
    obtain ⟨k, hk, rfl, hown, hb⟩ := hrel
    by_cases hkc : k < c
    · have hcell : wr.cell? ⟨w.heap.size, k, none⟩ = some (.int .u8 0) := by rw [hown.cellAt k (by omega), putCells_at n c k k hkc, if_neg (by omega)]
      have hfz := hown.frozenAt k
      have hsh := shift7 n (c - 1 - k)
      have hor := or128 (n / 128 ^ (c - 1 - k))
      have hst := hown.stored k (.int .u8 (((n / 128 ^ (c - 1 - k) : Nat) : Int) % 128 + 128))
      rw [putCells_step n c k hkc] at hst
      generalize n / 128 ^ (c - 1 - k) = x at *
      have HST := Lib.hid hst
      clear hst
      go_wp2_with fail
      go_roundw
      case rel => exact ⟨k + 1, by omega, by go_num, HST.out.1, hb.setCell (Nat.le_refl _) _⟩
      case measure => simp [intOf]; omega
    · obtain rfl : k = c := by omega
      have hcell : wr.cell? ⟨w.heap.size, k - 1, none⟩ = some (.int .u8 ((n : Int) % 128 + 128)) := by rw [hown.cellAt (k - 1) (by omega), putCells_at n k k (k - 1) (by omega), if_pos (by omega)]; simp
      have hfz := hown.frozenAt (k - 1)
      have hcl := clear128 n
      have hst := hown.stored (k - 1) (.int .u8 ((n : Int) % 128))
      have hlen : (M.putN n).length = k := by rw [M.putN_exact k n hc1 hc9 HD.out.1 HD.out.2]; simp
      have hconv := run_convert_bytes_back (P := Try.prog) (wr.setCell ⟨w.heap.size, k - 1, none⟩ (.int .u8 ((n : Int) % 128))) 68 9 5 ⟨w.heap.size, 0, none⟩ k (M.putN n) Try.underlying68 Try.underlying5 Try.underlying9
        (fun j hj => by rw [Addr.add_lit, Nat.zero_add, hst.1.cellAt j (by omega)]; exact putCells_end n k hc1 hc9 HD.out.1 HD.out.2 j hj)
      rw [hlen] at hconv
      have HST := Lib.hid hst
      clear hst hlen
      go_wp2_with fail
      go_ret
      exact ⟨rfl, hb.setCell (Nat.le_refl _) _⟩

theorem put_neg (n : Int) (w : World) (h : n < 0) :
    Calls Try.prog 78 #[.int .i64 n] w fun e w' => e = .returned (.string ⟨#[]⟩) ∧ w = w' := by
  go_enter Try.func78, Try.ntmps78
  go_wp2_with fail
  go_ret
  exact ⟨rfl, rfl⟩

end Go.Proofs.Ytekmnpmeienhhaa
