/- Layer 3: which spans may be: the program's functions and the document's, each by a contract. -/
import Derived.Test.YtblgfhljaafmhaaSpansM
import Derived.Test.YtblgfhljaafmhaaKit
import Derived.Test.YtblgfhljaafmhaaChecked
namespace Go.Proofs.Ytblgfhljaafmhaa
set_option linter.unusedVariables false
open Go Go.RowKit
attribute [local go_sem ↓] run_index_S
attribute [local go_sem] S_append S_extract

/-- The first k bytes are a name's. -/
def GoodTo (l : List UInt8) (k : Nat) : Prop := ∀ j (hj : j < l.length), j < k → 33 ≤ l[j].toNat ∧ l[j].toNat ≤ 126
theorem GoodTo.step {l : List UInt8} {k : Nat} (h : GoodTo l k) (hk : k < l.length) (h1 : 33 ≤ B l k) (h2 : B l k ≤ 126) : GoodTo l (k + 1) := by
  intro j hj hjk
  by_cases e : j = k
  · subst e; rw [B_at l j hj] at h1 h2; omega
  · exact h j hj (by omega)

set_option maxHeartbeats 400000 in
theorem name_any (l : List UInt8) (hl : l.length ≤ 9223372036854775807) (w : World) :
    Calls Try.prog 39 #[.string (S l)] w fun e w' => e = .returned (.bool (M.nameB l)) ∧ w = w' := by
  by_cases h1 : l.length < 1
  · go_enter Try.func39, Try.ntmps39
    go_wp2_with fail
    go_ret
    exact ⟨ret_bool (M.nameB_short (by omega)).symm, rfl⟩
  · by_cases h2 : 12 < l.length
    · go_enter Try.func39, Try.ntmps39
      go_wp2_with fail
      go_ret
      exact ⟨ret_bool (M.nameB_short (by omega)).symm, rfl⟩
    · have d1 : decide ((l.length : Int) < 1) = false := by simp; omega
      have d2 : decide (12 < (l.length : Int)) = false := by simp; omega
      go_enter Try.func39, Try.ntmps39
      go_wp2_with fail
      go_loop [14] (fun i => ∃ k : Nat, k ≤ l.length ∧ i = .int .i64 k ∧ GoodTo l k) (fun i => l.length - (intOf i).toNat)
      case atStart => exact ⟨0, Nat.zero_le _, rfl, fun j hj h => by omega⟩
      case round =>
        obtain ⟨k, hk, rfl, hg⟩ := hrel
        by_cases hkl : k < l.length
        · have hr := B_range l k
          by_cases hlo : B l k < 33
          · go_wp2_with fail
            go_ret
            exact ⟨ret_bool (M.nameB_byte k hkl (by rw [B_at l k hkl] at hlo; omega)).symm, rfl⟩
          · have dl : decide (B l k < 33) = false := by simpa using hlo
            by_cases hhi : 126 < B l k
            · go_wp2_with fail
              go_ret
              exact ⟨ret_bool (M.nameB_byte k hkl (by rw [B_at l k hkl] at hhi; omega)).symm, rfl⟩
            · go_wp2_with fail
              go_round
              case rel => exact ⟨k + 1, by omega, by go_num, hg.step hkl (by omega) (by omega)⟩
              case measure => simp [intOf]; omega
        · obtain rfl : k = l.length := by omega
          go_wp2_with fail
          go_ret
          exact ⟨ret_bool (M.nameB_true (by omega) (by omega) (fun j hj => hg j hj hj)).symm, rfl⟩

set_option maxHeartbeats 400000 in
theorem refName_any (l : List UInt8) (hl : l.length ≤ 9223372036854775807) (w : World) :
    Calls Try.prog 49 #[.string (S l)] w fun e w' => e = .returned (.bool (M.nameB l)) ∧ w = w' := by
  by_cases h1 : l.length < 1
  · go_enter Try.func49, Try.ntmps49
    go_wp2_with fail
    go_ret
    exact ⟨ret_bool (M.nameB_short (by omega)).symm, rfl⟩
  · by_cases h2 : 12 < l.length
    · go_enter Try.func49, Try.ntmps49
      go_wp2_with fail
      go_ret
      exact ⟨ret_bool (M.nameB_short (by omega)).symm, rfl⟩
    · have d1 : decide ((l.length : Int) < 1) = false := by simp; omega
      have d2 : decide (12 < (l.length : Int)) = false := by simp; omega
      go_enter Try.func49, Try.ntmps49
      go_wp2_with fail
      go_loop [3] (fun i => ∃ k : Nat, k ≤ l.length ∧ i = .int .i64 k ∧ GoodTo l k) (fun i => l.length - (intOf i).toNat)
      case atStart => exact ⟨0, Nat.zero_le _, rfl, fun j hj h => by omega⟩
      case round =>
        obtain ⟨k, hk, rfl, hg⟩ := hrel
        by_cases hkl : k < l.length
        · have hr := B_range l k
          by_cases hlo : B l k < 33
          · go_wp2_with fail
            go_ret
            exact ⟨ret_bool (M.nameB_byte k hkl (by rw [B_at l k hkl] at hlo; omega)).symm, rfl⟩
          · have dl : decide (B l k < 33) = false := by simpa using hlo
            by_cases hhi : 126 < B l k
            · go_wp2_with fail
              go_ret
              exact ⟨ret_bool (M.nameB_byte k hkl (by rw [B_at l k hkl] at hhi; omega)).symm, rfl⟩
            · go_wp2_with fail
              go_round
              case rel => exact ⟨k + 1, by omega, by go_num, hg.step hkl (by omega) (by omega)⟩
              case measure => simp [intOf]; omega
        · obtain rfl : k = l.length := by omega
          go_wp2_with fail
          go_ret
          exact ⟨ret_bool (M.nameB_true (by omega) (by omega) (fun j hj => hg j hj hj)).symm, rfl⟩

theorem within_any (n a b : Int) (w : World) :
    Calls Try.prog 38 #[.int .i64 n, .int .i64 a, .int .i64 b] w fun e w' => e = .returned (.bool (M.win n a b)) ∧ w = w' := by
  by_cases h1 : a ≤ n
  · by_cases h2 : n ≤ b
    · go_enter Try.func38, Try.ntmps38
      go_wp2_with fail
      go_ret
      exact ⟨ret_bool (M.win_true.2 ⟨h1, h2⟩).symm, rfl⟩
    · go_enter Try.func38, Try.ntmps38
      go_wp2_with fail
      go_ret
      exact ⟨ret_bool (M.win_false.2 (by omega)).symm, rfl⟩
  · go_enter Try.func38, Try.ntmps38
    go_wp2_with fail
    go_ret
    exact ⟨ret_bool (M.win_false.2 (by omega)).symm, rfl⟩

theorem between_any (n a b : Int) (w : World) :
    Calls Try.prog 48 #[.int .i64 n, .int .i64 a, .int .i64 b] w fun e w' => e = .returned (.bool (M.win n a b)) ∧ w = w' := by
  by_cases h1 : a ≤ n
  · by_cases h2 : n ≤ b
    · go_enter Try.func48, Try.ntmps48
      go_wp2_with fail
      go_ret
      exact ⟨ret_bool (M.win_true.2 ⟨h1, h2⟩).symm, rfl⟩
    · go_enter Try.func48, Try.ntmps48
      go_wp2_with fail
      go_ret
      exact ⟨ret_bool (M.win_false.2 (by omega)).symm, rfl⟩
  · go_enter Try.func48, Try.ntmps48
    go_wp2_with fail
    go_ret
    exact ⟨ret_bool (M.win_false.2 (by omega)).symm, rfl⟩

set_option maxHeartbeats 400000 in
theorem check_t (x : M.Sp) (hx : x.fits) (w : World)
    (h_t : M.win x.trace 1 2147483647 = false) :
    Calls Try.prog 20 #[.agg #[.int .i64 x.trace, .int .i64 x.id, .int .i64 x.parent, .string (S x.svc), .string (S x.host), .int .i64 x.start, .int .i64 x.dur, .string (S x.note)]] w fun e w' => e = .returned (.int .i64 2) ∧ Below w.heap.size w w' := by
  have l1 := hx.l1
  have l2 := hx.l2
  have l3 := hx.l3
  go_enter Try.func20, Try.ntmps20
  go_wp2_with (first | (go_at_call 38; refine (within_any _ _ _ _).mono ?_; rintro e w' ⟨rfl, rfl⟩) | (go_at_call 39; refine (name_any _ (by omega) _).mono ?_; rintro e w' ⟨rfl, rfl⟩))
  go_ret
  exact ⟨rfl, (Below.refl _ _).alloc (Nat.le_refl _) _⟩

set_option maxHeartbeats 400000 in
theorem check_i (x : M.Sp) (hx : x.fits) (w : World)
    (h_t : M.win x.trace 1 2147483647 = true)
    (h_i : M.win x.id 1 2147483647 = false) :
    Calls Try.prog 20 #[.agg #[.int .i64 x.trace, .int .i64 x.id, .int .i64 x.parent, .string (S x.svc), .string (S x.host), .int .i64 x.start, .int .i64 x.dur, .string (S x.note)]] w fun e w' => e = .returned (.int .i64 2) ∧ Below w.heap.size w w' := by
  have l1 := hx.l1
  have l2 := hx.l2
  have l3 := hx.l3
  go_enter Try.func20, Try.ntmps20
  go_wp2_with (first | (go_at_call 38; refine (within_any _ _ _ _).mono ?_; rintro e w' ⟨rfl, rfl⟩) | (go_at_call 39; refine (name_any _ (by omega) _).mono ?_; rintro e w' ⟨rfl, rfl⟩))
  go_ret
  exact ⟨rfl, (Below.refl _ _).alloc (Nat.le_refl _) _⟩

set_option maxHeartbeats 400000 in
theorem check_p (x : M.Sp) (hx : x.fits) (w : World)
    (h_t : M.win x.trace 1 2147483647 = true)
    (h_i : M.win x.id 1 2147483647 = true)
    (h_p : M.win x.parent 0 2147483647 = false) :
    Calls Try.prog 20 #[.agg #[.int .i64 x.trace, .int .i64 x.id, .int .i64 x.parent, .string (S x.svc), .string (S x.host), .int .i64 x.start, .int .i64 x.dur, .string (S x.note)]] w fun e w' => e = .returned (.int .i64 2) ∧ Below w.heap.size w w' := by
  have l1 := hx.l1
  have l2 := hx.l2
  have l3 := hx.l3
  go_enter Try.func20, Try.ntmps20
  go_wp2_with (first | (go_at_call 38; refine (within_any _ _ _ _).mono ?_; rintro e w' ⟨rfl, rfl⟩) | (go_at_call 39; refine (name_any _ (by omega) _).mono ?_; rintro e w' ⟨rfl, rfl⟩))
  go_ret
  exact ⟨rfl, (Below.refl _ _).alloc (Nat.le_refl _) _⟩

set_option maxHeartbeats 400000 in
theorem check_s (x : M.Sp) (hx : x.fits) (w : World)
    (h_t : M.win x.trace 1 2147483647 = true)
    (h_i : M.win x.id 1 2147483647 = true)
    (h_p : M.win x.parent 0 2147483647 = true)
    (h_s : M.nameB x.svc = false) :
    Calls Try.prog 20 #[.agg #[.int .i64 x.trace, .int .i64 x.id, .int .i64 x.parent, .string (S x.svc), .string (S x.host), .int .i64 x.start, .int .i64 x.dur, .string (S x.note)]] w fun e w' => e = .returned (.int .i64 2) ∧ Below w.heap.size w w' := by
  have l1 := hx.l1
  have l2 := hx.l2
  have l3 := hx.l3
  go_enter Try.func20, Try.ntmps20
  go_wp2_with (first | (go_at_call 38; refine (within_any _ _ _ _).mono ?_; rintro e w' ⟨rfl, rfl⟩) | (go_at_call 39; refine (name_any _ (by omega) _).mono ?_; rintro e w' ⟨rfl, rfl⟩))
  go_ret
  exact ⟨rfl, (Below.refl _ _).alloc (Nat.le_refl _) _⟩

set_option maxHeartbeats 400000 in
theorem check_h (x : M.Sp) (hx : x.fits) (w : World)
    (h_t : M.win x.trace 1 2147483647 = true)
    (h_i : M.win x.id 1 2147483647 = true)
    (h_p : M.win x.parent 0 2147483647 = true)
    (h_s : M.nameB x.svc = true)
    (h_h : M.nameB x.host = false) :
    Calls Try.prog 20 #[.agg #[.int .i64 x.trace, .int .i64 x.id, .int .i64 x.parent, .string (S x.svc), .string (S x.host), .int .i64 x.start, .int .i64 x.dur, .string (S x.note)]] w fun e w' => e = .returned (.int .i64 2) ∧ Below w.heap.size w w' := by
  have l1 := hx.l1
  have l2 := hx.l2
  have l3 := hx.l3
  go_enter Try.func20, Try.ntmps20
  go_wp2_with (first | (go_at_call 38; refine (within_any _ _ _ _).mono ?_; rintro e w' ⟨rfl, rfl⟩) | (go_at_call 39; refine (name_any _ (by omega) _).mono ?_; rintro e w' ⟨rfl, rfl⟩))
  go_ret
  exact ⟨rfl, (Below.refl _ _).alloc (Nat.le_refl _) _⟩

set_option maxHeartbeats 400000 in
theorem check_n (x : M.Sp) (hx : x.fits) (w : World)
    (h_t : M.win x.trace 1 2147483647 = true)
    (h_i : M.win x.id 1 2147483647 = true)
    (h_p : M.win x.parent 0 2147483647 = true)
    (h_s : M.nameB x.svc = true)
    (h_h : M.nameB x.host = true)
    (h_n : ¬ x.note.length ≤ 24) :
    Calls Try.prog 20 #[.agg #[.int .i64 x.trace, .int .i64 x.id, .int .i64 x.parent, .string (S x.svc), .string (S x.host), .int .i64 x.start, .int .i64 x.dur, .string (S x.note)]] w fun e w' => e = .returned (.int .i64 2) ∧ Below w.heap.size w w' := by
  have l1 := hx.l1
  have l2 := hx.l2
  have l3 := hx.l3
  have dn : decide (24 < (x.note.length : Int)) = true := by simp; omega
  have dn2 : decide ((x.note.length : Int) ≤ 24) = false := by simp; omega
  go_enter Try.func20, Try.ntmps20
  go_wp2_with (first | (go_at_call 38; refine (within_any _ _ _ _).mono ?_; rintro e w' ⟨rfl, rfl⟩) | (go_at_call 39; refine (name_any _ (by omega) _).mono ?_; rintro e w' ⟨rfl, rfl⟩))
  go_ret
  exact ⟨rfl, (Below.refl _ _).alloc (Nat.le_refl _) _⟩

set_option maxHeartbeats 400000 in
theorem check_b (x : M.Sp) (hx : x.fits) (w : World)
    (h_t : M.win x.trace 1 2147483647 = true)
    (h_i : M.win x.id 1 2147483647 = true)
    (h_p : M.win x.parent 0 2147483647 = true)
    (h_s : M.nameB x.svc = true)
    (h_h : M.nameB x.host = true)
    (h_n : x.note.length ≤ 24)
    (h_b : M.win x.start 0 1073741824 = false) :
    Calls Try.prog 20 #[.agg #[.int .i64 x.trace, .int .i64 x.id, .int .i64 x.parent, .string (S x.svc), .string (S x.host), .int .i64 x.start, .int .i64 x.dur, .string (S x.note)]] w fun e w' => e = .returned (.int .i64 2) ∧ Below w.heap.size w w' := by
  have l1 := hx.l1
  have l2 := hx.l2
  have l3 := hx.l3
  have dn : decide (24 < (x.note.length : Int)) = false := by simp; omega
  have dn2 : decide ((x.note.length : Int) ≤ 24) = true := by simp; omega
  go_enter Try.func20, Try.ntmps20
  go_wp2_with (first | (go_at_call 38; refine (within_any _ _ _ _).mono ?_; rintro e w' ⟨rfl, rfl⟩) | (go_at_call 39; refine (name_any _ (by omega) _).mono ?_; rintro e w' ⟨rfl, rfl⟩))
  go_ret
  exact ⟨rfl, (Below.refl _ _).alloc (Nat.le_refl _) _⟩

set_option maxHeartbeats 400000 in
theorem check_d (x : M.Sp) (hx : x.fits) (w : World)
    (h_t : M.win x.trace 1 2147483647 = true)
    (h_i : M.win x.id 1 2147483647 = true)
    (h_p : M.win x.parent 0 2147483647 = true)
    (h_s : M.nameB x.svc = true)
    (h_h : M.nameB x.host = true)
    (h_n : x.note.length ≤ 24)
    (h_b : M.win x.start 0 1073741824 = true)
    (h_d : M.win x.dur 0 1073741824 = false) :
    Calls Try.prog 20 #[.agg #[.int .i64 x.trace, .int .i64 x.id, .int .i64 x.parent, .string (S x.svc), .string (S x.host), .int .i64 x.start, .int .i64 x.dur, .string (S x.note)]] w fun e w' => e = .returned (.int .i64 2) ∧ Below w.heap.size w w' := by
  have l1 := hx.l1
  have l2 := hx.l2
  have l3 := hx.l3
  have dn : decide (24 < (x.note.length : Int)) = false := by simp; omega
  have dn2 : decide ((x.note.length : Int) ≤ 24) = true := by simp; omega
  go_enter Try.func20, Try.ntmps20
  go_wp2_with (first | (go_at_call 38; refine (within_any _ _ _ _).mono ?_; rintro e w' ⟨rfl, rfl⟩) | (go_at_call 39; refine (name_any _ (by omega) _).mono ?_; rintro e w' ⟨rfl, rfl⟩))
  go_ret
  exact ⟨rfl, (Below.refl _ _).alloc (Nat.le_refl _) _⟩

set_option maxHeartbeats 400000 in
theorem check_ok (x : M.Sp) (hx : x.fits) (w : World)
    (h_t : M.win x.trace 1 2147483647 = true)
    (h_i : M.win x.id 1 2147483647 = true)
    (h_p : M.win x.parent 0 2147483647 = true)
    (h_s : M.nameB x.svc = true)
    (h_h : M.nameB x.host = true)
    (h_n : x.note.length ≤ 24)
    (h_b : M.win x.start 0 1073741824 = true)
    (h_d : M.win x.dur 0 1073741824 = true) :
    Calls Try.prog 20 #[.agg #[.int .i64 x.trace, .int .i64 x.id, .int .i64 x.parent, .string (S x.svc), .string (S x.host), .int .i64 x.start, .int .i64 x.dur, .string (S x.note)]] w fun e w' => e = .returned (.int .i64 0) ∧ Below w.heap.size w w' := by
  have l1 := hx.l1
  have l2 := hx.l2
  have l3 := hx.l3
  have dn : decide (24 < (x.note.length : Int)) = false := by simp; omega
  have dn2 : decide ((x.note.length : Int) ≤ 24) = true := by simp; omega
  go_enter Try.func20, Try.ntmps20
  go_wp2_with (first | (go_at_call 38; refine (within_any _ _ _ _).mono ?_; rintro e w' ⟨rfl, rfl⟩) | (go_at_call 39; refine (name_any _ (by omega) _).mono ?_; rintro e w' ⟨rfl, rfl⟩))
  go_ret
  exact ⟨rfl, (Below.refl _ _).alloc (Nat.le_refl _) _⟩

theorem check_any (x : M.Sp) (hx : x.fits) (w : World) :
    Calls Try.prog 20 #[.agg #[.int .i64 x.trace, .int .i64 x.id, .int .i64 x.parent, .string (S x.svc), .string (S x.host), .int .i64 x.start, .int .i64 x.dur, .string (S x.note)]] w fun e w' => e = .returned (.int .i64 (M.errOf (M.mayB x))) ∧ Below w.heap.size w w' := by
  cases h_t : M.win x.trace 1 2147483647
  case false =>
    have hm : M.mayB x = false := by simp only [M.mayB]; simp [h_t]
    rw [hm]
    exact check_t x hx w  h_t
  cases h_i : M.win x.id 1 2147483647
  case false =>
    have hm : M.mayB x = false := by simp only [M.mayB]; simp [h_i]
    rw [hm]
    exact check_i x hx w h_t h_i
  cases h_p : M.win x.parent 0 2147483647
  case false =>
    have hm : M.mayB x = false := by simp only [M.mayB]; simp [h_p]
    rw [hm]
    exact check_p x hx w h_t h_i h_p
  cases h_s : M.nameB x.svc
  case false =>
    have hm : M.mayB x = false := by simp only [M.mayB]; simp [h_s]
    rw [hm]
    exact check_s x hx w h_t h_i h_p h_s
  cases h_h : M.nameB x.host
  case false =>
    have hm : M.mayB x = false := by simp only [M.mayB]; simp [h_h]
    rw [hm]
    exact check_h x hx w h_t h_i h_p h_s h_h
  by_cases h_n : x.note.length ≤ 24
  case neg =>
    have hm : M.mayB x = false := by simp only [M.mayB]; simp [h_n]
    rw [hm]
    exact check_n x hx w h_t h_i h_p h_s h_h h_n
  cases h_b : M.win x.start 0 1073741824
  case false =>
    have hm : M.mayB x = false := by simp only [M.mayB]; simp [h_b]
    rw [hm]
    exact check_b x hx w h_t h_i h_p h_s h_h h_n h_b
  cases h_d : M.win x.dur 0 1073741824
  case false =>
    have hm : M.mayB x = false := by simp only [M.mayB]; simp [h_d]
    rw [hm]
    exact check_d x hx w h_t h_i h_p h_s h_h h_n h_b h_d
  have hm : M.mayB x = true := M.mayB_all h_t h_i h_p h_s h_h h_b h_d h_n
  rw [hm]
  exact check_ok x hx w h_t h_i h_p h_s h_h h_n h_b h_d

set_option maxHeartbeats 400000 in
theorem refMay_t (x : M.Sp) (hx : x.fits) (w : World)
    (h_t : M.win x.trace 1 2147483647 = false) :
    Calls Try.prog 42 #[.agg #[.int .i64 x.trace, .int .i64 x.id, .int .i64 x.parent, .string (S x.svc), .string (S x.host), .int .i64 x.start, .int .i64 x.dur, .string (S x.note)]] w fun e w' => e = .returned (.bool false) ∧ Below w.heap.size w w' := by
  have l1 := hx.l1
  have l2 := hx.l2
  have l3 := hx.l3
  go_enter Try.func42, Try.ntmps42
  go_wp2_with (first | (go_at_call 48; refine (between_any _ _ _ _).mono ?_; rintro e w' ⟨rfl, rfl⟩) | (go_at_call 49; refine (refName_any _ (by omega) _).mono ?_; rintro e w' ⟨rfl, rfl⟩))
  go_ret
  exact ⟨rfl, (Below.refl _ _).alloc (Nat.le_refl _) _⟩

set_option maxHeartbeats 400000 in
theorem refMay_i (x : M.Sp) (hx : x.fits) (w : World)
    (h_t : M.win x.trace 1 2147483647 = true)
    (h_i : M.win x.id 1 2147483647 = false) :
    Calls Try.prog 42 #[.agg #[.int .i64 x.trace, .int .i64 x.id, .int .i64 x.parent, .string (S x.svc), .string (S x.host), .int .i64 x.start, .int .i64 x.dur, .string (S x.note)]] w fun e w' => e = .returned (.bool false) ∧ Below w.heap.size w w' := by
  have l1 := hx.l1
  have l2 := hx.l2
  have l3 := hx.l3
  go_enter Try.func42, Try.ntmps42
  go_wp2_with (first | (go_at_call 48; refine (between_any _ _ _ _).mono ?_; rintro e w' ⟨rfl, rfl⟩) | (go_at_call 49; refine (refName_any _ (by omega) _).mono ?_; rintro e w' ⟨rfl, rfl⟩))
  go_ret
  exact ⟨rfl, (Below.refl _ _).alloc (Nat.le_refl _) _⟩

set_option maxHeartbeats 400000 in
theorem refMay_p (x : M.Sp) (hx : x.fits) (w : World)
    (h_t : M.win x.trace 1 2147483647 = true)
    (h_i : M.win x.id 1 2147483647 = true)
    (h_p : M.win x.parent 0 2147483647 = false) :
    Calls Try.prog 42 #[.agg #[.int .i64 x.trace, .int .i64 x.id, .int .i64 x.parent, .string (S x.svc), .string (S x.host), .int .i64 x.start, .int .i64 x.dur, .string (S x.note)]] w fun e w' => e = .returned (.bool false) ∧ Below w.heap.size w w' := by
  have l1 := hx.l1
  have l2 := hx.l2
  have l3 := hx.l3
  go_enter Try.func42, Try.ntmps42
  go_wp2_with (first | (go_at_call 48; refine (between_any _ _ _ _).mono ?_; rintro e w' ⟨rfl, rfl⟩) | (go_at_call 49; refine (refName_any _ (by omega) _).mono ?_; rintro e w' ⟨rfl, rfl⟩))
  go_ret
  exact ⟨rfl, (Below.refl _ _).alloc (Nat.le_refl _) _⟩

set_option maxHeartbeats 400000 in
theorem refMay_s (x : M.Sp) (hx : x.fits) (w : World)
    (h_t : M.win x.trace 1 2147483647 = true)
    (h_i : M.win x.id 1 2147483647 = true)
    (h_p : M.win x.parent 0 2147483647 = true)
    (h_s : M.nameB x.svc = false) :
    Calls Try.prog 42 #[.agg #[.int .i64 x.trace, .int .i64 x.id, .int .i64 x.parent, .string (S x.svc), .string (S x.host), .int .i64 x.start, .int .i64 x.dur, .string (S x.note)]] w fun e w' => e = .returned (.bool false) ∧ Below w.heap.size w w' := by
  have l1 := hx.l1
  have l2 := hx.l2
  have l3 := hx.l3
  go_enter Try.func42, Try.ntmps42
  go_wp2_with (first | (go_at_call 48; refine (between_any _ _ _ _).mono ?_; rintro e w' ⟨rfl, rfl⟩) | (go_at_call 49; refine (refName_any _ (by omega) _).mono ?_; rintro e w' ⟨rfl, rfl⟩))
  go_ret
  exact ⟨rfl, (Below.refl _ _).alloc (Nat.le_refl _) _⟩

set_option maxHeartbeats 400000 in
theorem refMay_h (x : M.Sp) (hx : x.fits) (w : World)
    (h_t : M.win x.trace 1 2147483647 = true)
    (h_i : M.win x.id 1 2147483647 = true)
    (h_p : M.win x.parent 0 2147483647 = true)
    (h_s : M.nameB x.svc = true)
    (h_h : M.nameB x.host = false) :
    Calls Try.prog 42 #[.agg #[.int .i64 x.trace, .int .i64 x.id, .int .i64 x.parent, .string (S x.svc), .string (S x.host), .int .i64 x.start, .int .i64 x.dur, .string (S x.note)]] w fun e w' => e = .returned (.bool false) ∧ Below w.heap.size w w' := by
  have l1 := hx.l1
  have l2 := hx.l2
  have l3 := hx.l3
  go_enter Try.func42, Try.ntmps42
  go_wp2_with (first | (go_at_call 48; refine (between_any _ _ _ _).mono ?_; rintro e w' ⟨rfl, rfl⟩) | (go_at_call 49; refine (refName_any _ (by omega) _).mono ?_; rintro e w' ⟨rfl, rfl⟩))
  go_ret
  exact ⟨rfl, (Below.refl _ _).alloc (Nat.le_refl _) _⟩

set_option maxHeartbeats 400000 in
theorem refMay_b (x : M.Sp) (hx : x.fits) (w : World)
    (h_t : M.win x.trace 1 2147483647 = true)
    (h_i : M.win x.id 1 2147483647 = true)
    (h_p : M.win x.parent 0 2147483647 = true)
    (h_s : M.nameB x.svc = true)
    (h_h : M.nameB x.host = true)
    (h_b : M.win x.start 0 1073741824 = false) :
    Calls Try.prog 42 #[.agg #[.int .i64 x.trace, .int .i64 x.id, .int .i64 x.parent, .string (S x.svc), .string (S x.host), .int .i64 x.start, .int .i64 x.dur, .string (S x.note)]] w fun e w' => e = .returned (.bool false) ∧ Below w.heap.size w w' := by
  have l1 := hx.l1
  have l2 := hx.l2
  have l3 := hx.l3
  go_enter Try.func42, Try.ntmps42
  go_wp2_with (first | (go_at_call 48; refine (between_any _ _ _ _).mono ?_; rintro e w' ⟨rfl, rfl⟩) | (go_at_call 49; refine (refName_any _ (by omega) _).mono ?_; rintro e w' ⟨rfl, rfl⟩))
  go_ret
  exact ⟨rfl, (Below.refl _ _).alloc (Nat.le_refl _) _⟩

set_option maxHeartbeats 400000 in
theorem refMay_d (x : M.Sp) (hx : x.fits) (w : World)
    (h_t : M.win x.trace 1 2147483647 = true)
    (h_i : M.win x.id 1 2147483647 = true)
    (h_p : M.win x.parent 0 2147483647 = true)
    (h_s : M.nameB x.svc = true)
    (h_h : M.nameB x.host = true)
    (h_b : M.win x.start 0 1073741824 = true)
    (h_d : M.win x.dur 0 1073741824 = false) :
    Calls Try.prog 42 #[.agg #[.int .i64 x.trace, .int .i64 x.id, .int .i64 x.parent, .string (S x.svc), .string (S x.host), .int .i64 x.start, .int .i64 x.dur, .string (S x.note)]] w fun e w' => e = .returned (.bool false) ∧ Below w.heap.size w w' := by
  have l1 := hx.l1
  have l2 := hx.l2
  have l3 := hx.l3
  go_enter Try.func42, Try.ntmps42
  go_wp2_with (first | (go_at_call 48; refine (between_any _ _ _ _).mono ?_; rintro e w' ⟨rfl, rfl⟩) | (go_at_call 49; refine (refName_any _ (by omega) _).mono ?_; rintro e w' ⟨rfl, rfl⟩))
  go_ret
  exact ⟨rfl, (Below.refl _ _).alloc (Nat.le_refl _) _⟩

set_option maxHeartbeats 400000 in
theorem refMay_n (x : M.Sp) (hx : x.fits) (w : World)
    (h_t : M.win x.trace 1 2147483647 = true)
    (h_i : M.win x.id 1 2147483647 = true)
    (h_p : M.win x.parent 0 2147483647 = true)
    (h_s : M.nameB x.svc = true)
    (h_h : M.nameB x.host = true)
    (h_b : M.win x.start 0 1073741824 = true)
    (h_d : M.win x.dur 0 1073741824 = true)
    (h_n : ¬ x.note.length ≤ 24) :
    Calls Try.prog 42 #[.agg #[.int .i64 x.trace, .int .i64 x.id, .int .i64 x.parent, .string (S x.svc), .string (S x.host), .int .i64 x.start, .int .i64 x.dur, .string (S x.note)]] w fun e w' => e = .returned (.bool false) ∧ Below w.heap.size w w' := by
  have l1 := hx.l1
  have l2 := hx.l2
  have l3 := hx.l3
  have dn : decide (24 < (x.note.length : Int)) = true := by simp; omega
  have dn2 : decide ((x.note.length : Int) ≤ 24) = false := by simp; omega
  go_enter Try.func42, Try.ntmps42
  go_wp2_with (first | (go_at_call 48; refine (between_any _ _ _ _).mono ?_; rintro e w' ⟨rfl, rfl⟩) | (go_at_call 49; refine (refName_any _ (by omega) _).mono ?_; rintro e w' ⟨rfl, rfl⟩))
  go_ret
  exact ⟨rfl, (Below.refl _ _).alloc (Nat.le_refl _) _⟩

set_option maxHeartbeats 400000 in
theorem refMay_ok (x : M.Sp) (hx : x.fits) (w : World)
    (h_t : M.win x.trace 1 2147483647 = true)
    (h_i : M.win x.id 1 2147483647 = true)
    (h_p : M.win x.parent 0 2147483647 = true)
    (h_s : M.nameB x.svc = true)
    (h_h : M.nameB x.host = true)
    (h_b : M.win x.start 0 1073741824 = true)
    (h_d : M.win x.dur 0 1073741824 = true)
    (h_n : x.note.length ≤ 24) :
    Calls Try.prog 42 #[.agg #[.int .i64 x.trace, .int .i64 x.id, .int .i64 x.parent, .string (S x.svc), .string (S x.host), .int .i64 x.start, .int .i64 x.dur, .string (S x.note)]] w fun e w' => e = .returned (.bool true) ∧ Below w.heap.size w w' := by
  have l1 := hx.l1
  have l2 := hx.l2
  have l3 := hx.l3
  have dn : decide (24 < (x.note.length : Int)) = false := by simp; omega
  have dn2 : decide ((x.note.length : Int) ≤ 24) = true := by simp; omega
  go_enter Try.func42, Try.ntmps42
  go_wp2_with (first | (go_at_call 48; refine (between_any _ _ _ _).mono ?_; rintro e w' ⟨rfl, rfl⟩) | (go_at_call 49; refine (refName_any _ (by omega) _).mono ?_; rintro e w' ⟨rfl, rfl⟩))
  go_ret
  exact ⟨rfl, (Below.refl _ _).alloc (Nat.le_refl _) _⟩

theorem refMay_any (x : M.Sp) (hx : x.fits) (w : World) :
    Calls Try.prog 42 #[.agg #[.int .i64 x.trace, .int .i64 x.id, .int .i64 x.parent, .string (S x.svc), .string (S x.host), .int .i64 x.start, .int .i64 x.dur, .string (S x.note)]] w fun e w' => e = .returned (.bool (M.mayB x)) ∧ Below w.heap.size w w' := by
  cases h_t : M.win x.trace 1 2147483647
  case false =>
    have hm : M.mayB x = false := by simp only [M.mayB]; simp [h_t]
    rw [hm]
    exact refMay_t x hx w  h_t
  cases h_i : M.win x.id 1 2147483647
  case false =>
    have hm : M.mayB x = false := by simp only [M.mayB]; simp [h_i]
    rw [hm]
    exact refMay_i x hx w h_t h_i
  cases h_p : M.win x.parent 0 2147483647
  case false =>
    have hm : M.mayB x = false := by simp only [M.mayB]; simp [h_p]
    rw [hm]
    exact refMay_p x hx w h_t h_i h_p
  cases h_s : M.nameB x.svc
  case false =>
    have hm : M.mayB x = false := by simp only [M.mayB]; simp [h_s]
    rw [hm]
    exact refMay_s x hx w h_t h_i h_p h_s
  cases h_h : M.nameB x.host
  case false =>
    have hm : M.mayB x = false := by simp only [M.mayB]; simp [h_h]
    rw [hm]
    exact refMay_h x hx w h_t h_i h_p h_s h_h
  cases h_b : M.win x.start 0 1073741824
  case false =>
    have hm : M.mayB x = false := by simp only [M.mayB]; simp [h_b]
    rw [hm]
    exact refMay_b x hx w h_t h_i h_p h_s h_h h_b
  cases h_d : M.win x.dur 0 1073741824
  case false =>
    have hm : M.mayB x = false := by simp only [M.mayB]; simp [h_d]
    rw [hm]
    exact refMay_d x hx w h_t h_i h_p h_s h_h h_b h_d
  by_cases h_n : x.note.length ≤ 24
  case neg =>
    have hm : M.mayB x = false := by simp only [M.mayB]; simp [h_n]
    rw [hm]
    exact refMay_n x hx w h_t h_i h_p h_s h_h h_b h_d h_n
  have hm : M.mayB x = true := M.mayB_all h_t h_i h_p h_s h_h h_b h_d h_n
  rw [hm]
  exact refMay_ok x hx w h_t h_i h_p h_s h_h h_b h_d h_n

end Go.Proofs.Ytblgfhljaafmhaa
