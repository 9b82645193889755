/- Layer 1: the document's answers (spoorref01), each function by a contract. -/
import Derived.Test.YtekmnpmeienhhaaKit
import Derived.Test.YtekmnpmeienhhaaIntsM
import Derived.Test.YtekmnpmeienhhaaChecked
import Derived.Deep.RegionWith
import Derived.BigRegion
namespace Go.Proofs.Ytekmnpmeienhhaa
set_option linter.unusedVariables false
open Go Go.RowKit
attribute [local go_sem ↓] run_index_S
attribute [local go_sem] S_append S_extract

/-- A step of the document's Put: digits that are still to come, ahead of those that have. -/
def PutRel (n m : Nat) (acc : List UInt8) : Prop := ∃ k, k + acc.length = 10 ∧ m < 128 ^ k ∧ M.pre k m ++ acc = M.putN n

theorem PutRel.start (n : Nat) (h : n ≤ 9223372036854775807) : PutRel n (n / 128) [UInt8.ofNat (n % 128)] :=
  ⟨9, rfl, by omega, rfl⟩

theorem PutRel.step {n m : Nat} {acc : List UInt8} (h : PutRel n m acc) (hm : 0 < m) : PutRel n (m / 128) ((UInt8.ofNat (m % 128) + 128) :: acc) := by
  obtain ⟨k, h1, h2, h3⟩ := h
  rcases k with _ | k
  · simp at h2; omega
  · refine ⟨k, by simp; omega, by rw [Nat.pow_succ] at h2; omega, ?_⟩
    rw [← h3, M.pre_step k m hm, List.append_assoc, M.u8, UInt8.ofNat_add]; rfl

theorem PutRel.done {n : Nat} {acc : List UInt8} (h : PutRel n 0 acc) : acc = M.putN n := by
  obtain ⟨k, h1, h2, h3⟩ := h
  simpa [M.pre_zero] using h3

theorem PutRel.length {n m : Nat} {acc : List UInt8} (h : PutRel n m acc) : acc.length ≤ 10 := by
  obtain ⟨k, h1, _⟩ := h; omega

theorem refPut_neg (n : Int) (w : World) (h : n < 0) :
    Calls Try.prog 80 #[.int .i64 n] w fun e w' => e = .returned (.string ⟨#[]⟩) ∧ w = w' := by
  go_enter Try.func80, Try.ntmps80
  go_wp2_with fail
  go_ret
  exact ⟨rfl, rfl⟩

set_option maxHeartbeats 400000 in
theorem refPut_nat (n : Nat) (w : World) (h2 : n ≤ 9223372036854775807) :
    Calls Try.prog 80 #[.int .i64 n] w fun e w' => e = .returned (.string (S (M.putN n))) ∧ Below w.heap.size w w' := by
  have kone := @run_string_one Try.prog 68 9 5 Try.underlying68 Try.underlying5 Try.underlying9
  have hneg : decide ((n : Int) < 0) = false := by simp
  go_enter Try.func80, Try.ntmps80
  go_wp2_with fail
  go_loopw [0, 3] (fun v s wr => ∃ m : Nat, ∃ acc : List UInt8, v = .int .i64 m ∧ s = .string ⟨acc.toArray⟩ ∧ PutRel n m acc ∧ m ≤ 9223372036854775807 ∧ Below w.heap.size w wr) (fun v _ _ => (intOf v).toNat)
  case atStart => exact ⟨n / 128, [UInt8.ofNat (n % 128)], rfl, rfl, PutRel.start n h2, by omega, (Below.refl _ _).alloc (Nat.le_refl _) _⟩
  case round =>
    obtain ⟨m, acc, rfl, rfl, hr, hm2, hb⟩ := hrel
    have hl := hr.length
    by_cases hm : 0 < m
    · go_wp2_with fail
      go_roundw
      case rel => exact ⟨m / 128, (UInt8.ofNat (m % 128) + 128) :: acc, rfl, rfl, hr.step hm, by omega, hb.alloc hb.size _⟩
      case measure => simp [intOf]; omega
    · obtain rfl : m = 0 := by omega
      go_wp2_with fail
      go_ret
      exact ⟨ret_str hr.done, hb⟩
theorem refGet_out (l : List UInt8) (at_ : Int) (w : World) (hl : l.length ≤ 9223372036854775807) (h : at_ < 0 ∨ (l.length : Int) ≤ at_) :
    Calls Try.prog 82 #[.string (S l), .int .i64 at_] w fun e w' => e = .returned (.tuple #[.int .i64 0, .int .i64 0, .bool false]) ∧ w = w' := by
  by_cases h1 : at_ < 0
  · go_enter Try.func82, Try.ntmps82
    go_wp2_with fail
    go_ret3
    exact ⟨rfl, rfl⟩
  · have h2 : (l.length : Int) ≤ at_ := by omega
    clear h
    go_enter Try.func82, Try.ntmps82
    go_wp2_with fail
    go_ret3
    exact ⟨rfl, rfl⟩

/-- What the call comes to, as its three results. -/
def tri (r : Option (Nat × Nat)) : Value := match r with
  | some (n, next) => .tuple #[.int .i64 n, .int .i64 next, .bool true]
  | none => .tuple #[.int .i64 0, .int .i64 0, .bool false]

/-- The bytes of 128 or more at a place, one by one. -/
theorem ld_at_high {l : List UInt8} {a j : Nat} (h : j < M.ld (l.drop a)) : a + j < l.length ∧ 128 ≤ B l (a + j) := by
  have h1 := M.ld_le (l.drop a)
  have h2 : (l.drop a).length = l.length - a := List.length_drop
  refine ⟨by omega, ?_⟩
  have := M.ld_high (l.drop a) j h (by omega)
  rw [B_at l (a + j) (by omega)]
  simp at this
  omega
theorem ld_at_low {l : List UInt8} {a : Nat} (h : a + M.ld (l.drop a) < l.length) : B l (a + M.ld (l.drop a)) < 128 := by
  have := M.ld_low (l.drop a) (by rw [List.length_drop]; omega)
  rw [B_at l _ h]
  simp at this
  omega

/-- One digit more. -/
theorem val_next (l : List UInt8) (a c : Nat) (h : a + c < l.length) : (M.val ((l.drop a).take c) : Int) * 128 + B l (a + c) % 128 = (M.val ((l.drop a).take (c + 1)) : Nat) := by
  rw [M.val_take (l.drop a) c (by rw [List.length_drop]; omega), B_at l _ h]
  simp
theorem val_small (t : List UInt8) (c : Nat) (h : c ≤ 8) : M.val (t.take c) ≤ 72057594037927935 := by
  have h1 := M.val_lt (t.take c)
  have h2 : (t.take c).length ≤ 8 := by rw [List.length_take]; omega
  have h3 : 128 ^ (t.take c).length ≤ 128 ^ 8 := Nat.pow_le_pow_right (by decide) h2
  omega
theorem val_nine (t : List UInt8) (c : Nat) (h : c ≤ 9) : M.val (t.take c) ≤ 9223372036854775807 := by
  have h1 := M.val_lt (t.take c)
  have h2 : (t.take c).length ≤ 9 := by rw [List.length_take]; omega
  have h3 : 128 ^ (t.take c).length ≤ 128 ^ 9 := Nat.pow_le_pow_right (by decide) h2
  omega

theorem gets_some {l : List UInt8} {a k v : Nat} {q : List UInt8} (hk : M.ld (l.drop a) = k) (h : a + k < l.length) (h8 : k ≤ 8) (hv : M.val ((l.drop a).take (k + 1)) = v) (hq : q = (l.drop a).take (k + 1)) (hp : M.putN v = q) :
    M.gets l a = some (v, a + k + 1) := by
  have h1 : k < (l.drop a).length := by rw [List.length_drop]; omega
  subst hv hq
  simp only [M.gets, Int.toNat_natCast, hk]
  rw [if_neg (by omega), if_pos ⟨h1, h8, hp⟩]
theorem gets_none {l : List UInt8} {a k v : Nat} {q : List UInt8} (hk : M.ld (l.drop a) = k) (hv : M.val ((l.drop a).take (k + 1)) = v) (hq : q = (l.drop a).take (k + 1)) (h : ¬ (a + k < l.length ∧ k ≤ 8 ∧ M.putN v = q)) :
    M.gets l a = none := by
  have h1 : (l.drop a).length = l.length - a := List.length_drop
  subst hv hq
  simp only [M.gets, Int.toNat_natCast, hk]
  rw [if_neg (by omega), if_neg (by rw [h1]; intro ⟨x, y, z⟩; exact h ⟨by omega, y, z⟩)]
theorem tri_some {l : List UInt8} {a n m : Nat} {v : Int} {k : Int} (h : M.gets l a = some (n, m)) (hv : v = n) (hk : k = m) : Ending.returned (.tuple #[.int .i64 v, .int .i64 k, .bool true]) = .returned (tri (M.gets l a)) := by
  rw [h, hv, hk]; rfl
theorem tri_none {l : List UInt8} {a : Nat} (h : M.gets l a = none) : Ending.returned (.tuple #[.int .i64 0, .int .i64 0, .bool false]) = .returned (tri (M.gets l a)) := by
  rw [h]; rfl

set_option maxHeartbeats 1000000 in
set_option maxRecDepth 100000 in
theorem refGet_in (l : List UInt8) (a : Nat) (w : World) (hl : l.length ≤ 9223372036854775807) (h : a < l.length) :
    Calls Try.prog 82 #[.string (S l), .int .i64 a] w fun e w' => e = .returned (tri (M.gets l a)) ∧ Below w.heap.size w w' := by
  have hneg : decide ((a : Int) < 0) = false := by simp
  have hout : decide (l.length ≤ a) = false := by simp; omega
  have hle := M.ld_le (l.drop a)
  have hdl : (l.drop a).length = l.length - a := List.length_drop
  have hhi : ∀ j, j < M.ld (l.drop a) → a + j < l.length ∧ 128 ≤ B l (a + j) := fun j hj => ld_at_high hj
  have hlo : a + M.ld (l.drop a) < l.length → B l (a + M.ld (l.drop a)) < 128 := fun h => ld_at_low h
  rw [hdl] at hle
  clear hdl
  generalize hk : M.ld (l.drop a) = k at *
  have HK := Lib.hid hk
  have HHI := Lib.hid hhi
  have HLO := Lib.hid hlo
  clear hk hhi hlo
  go_enter Try.func82, Try.ntmps82
  go_wp2_with fail
  go_loop [7] (fun e => ∃ j : Nat, j ≤ k ∧ e = .int .i64 (a + j : Nat)) (fun e => l.length - (intOf e).toNat)
  case atStart => exact ⟨0, Nat.zero_le _, rfl⟩
  case round =>
    obtain ⟨j, hj, rfl⟩ := hrel
    by_cases hjk : j < k
    · obtain ⟨hb1, hb2⟩ := HHI.out j hjk
      go_wp2_with fail
      go_round
      case rel => exact ⟨j + 1, by omega, by go_num⟩
      case measure => simp [intOf]; omega
    · obtain rfl : j = k := by omega
      by_cases hend : a + j < l.length
      · have hlow := HLO.out hend
        have hne : ((a : Int) + (j : Int) == (l.length : Int)) = false := by simp; omega
        by_cases h8 : j ≤ 8
        · have hd8 : decide (8 < (a : Int) + (j : Int) - (a : Int)) = false := by simp; omega
          go_wp2_with fail
          go_loop [8, 9] (fun n i => ∃ c : Nat, c ≤ j + 1 ∧ n = .int .i64 (M.val ((l.drop a).take c) : Nat) ∧ i = .int .i64 (a + c : Nat)) (fun _ i => l.length - (intOf i).toNat)
          case atStart => exact ⟨0, Nat.zero_le _, rfl, rfl⟩
          case round =>
            obtain ⟨c, hc, rfl, rfl⟩ := hrel
            by_cases hcj : c < j + 1
            · have hv := val_small (l.drop a) c (by omega)
              have hst := val_next l a c (by omega)
              have hbr := B_range l (a + c)
              generalize M.val ((l.drop a).take c) = v at *
              have HST := Lib.hid hst
              clear hst
              go_wp2_with fail
              go_round
              case rel => exact ⟨c + 1, by omega, by rw [← HST.out], by go_num⟩
              case measure => simp [intOf]; omega
            · obtain rfl : c = j + 1 := by omega
              have hv := val_nine (l.drop a) (j + 1) (by omega)
              have hsl := run_piece (P := Try.prog) 9 Try.underlying9 l (a : Int) ((a : Int) + (j : Int) + 1) a (a + j + 1) rfl rfl (by omega) (by omega)
              have ew : IntKind.i64.wrap ((a : Int) + (j : Int) + 1) = (a : Int) + (j : Int) + 1 := IntWalk.i64_in _ (by omega)
              have hpc : piece l a (a + j + 1) = (l.drop a).take (j + 1) := by unfold piece; rw [show a + j + 1 - a = j + 1 from by omega]
              generalize hvv : M.val ((l.drop a).take (j + 1)) = v at *
              generalize hpp : piece l a (a + j + 1) = q at *
              have HV := Lib.hid hvv
              have HQ := Lib.hid hpc
              clear hvv hpp hpc
              by_cases hput : M.putN v = q
              · have HP := Lib.hid hput
                have hbq : (M.putN v == q) = true := by simpa using hput
                clear hput
                go_wp2_with fail
                go_region_with (go_at_call 80; refine (refPut_nat _ _ hv).mono ?_; rintro e w' ⟨rfl, hb⟩)
                all_goals go_wp2_with fail
                go_ret3
                exact ⟨tri_some (gets_some HK.out hend h8 HV.out HQ.out HP.out) rfl (by omega), (Below.refl _ _).drew.trans (by assumption)⟩
              · have HP := Lib.hid hput
                have hbq : (M.putN v == q) = false := by simpa using hput
                clear hput
                go_wp2_with fail
                go_region_with (go_at_call 80; refine (refPut_nat _ _ hv).mono ?_; rintro e w' ⟨rfl, hb⟩)
                all_goals go_wp2_with fail
                go_ret3
                exact ⟨tri_none (gets_none HK.out HV.out HQ.out (fun x => HP.out x.2.2)), (Below.refl _ _).drew.trans (by assumption)⟩
        · have hd8 : decide (8 < (a : Int) + (j : Int) - (a : Int)) = true := by simp; omega
          go_wp2_with fail
          go_ret3
          exact ⟨tri_none (gets_none HK.out rfl rfl (fun x => h8 x.2.1)), Below.refl _ _⟩
      · have hne : ((a : Int) + (j : Int) == (l.length : Int)) = true := by simp; omega
        go_wp2_with fail
        go_ret3
        exact ⟨tri_none (gets_none HK.out rfl rfl (fun x => hend x.1)), Below.refl _ _⟩

end Go.Proofs.Ytekmnpmeienhhaa
