/- Layer 10: where in a table a key may begin, by contracts. -/
import Derived.Test.YthidmgnfdikppaaTablesF
import Derived.BigQuiet
namespace Go.Proofs.Ythidmgnfdikppaa
set_option linter.unusedVariables false
open Go Go.RowKit
attribute [local go_sem ↓] run_index_S
attribute [local go_sem] S_append S_extract

theorem own_slice10 {w : World} {B n sz : Nat} {e : TypeId} {v : Value} {xs : List Value} (h : w.ownsRow B e sz v n xs) (hn : 0 < n) : ∃ g cap, v = .slice (some ⟨g, 0, none⟩) n cap ∧ n ≤ cap ∧ ∀ j u, xs[j]? = some u → w.cell? ⟨g, j, none⟩ = some u := by
  rcases h.2 with ⟨_, h0⟩ | ⟨g, cap, cur, rfl, hB, hg, hc, _⟩
  · omega
  · refine ⟨g, cap, rfl, hc, fun j u hu => ?_⟩
    have := h.cells (g := g) rfl j u hu
    rwa [Addr.add_lit, Nat.zero_add] at this
theorem txs10_get {ps : List (List UInt8)} {i : Nat} (h : i < ps.length) : (txs10 ps)[i]? = some (.string (S (ps.getD i []))) := by
  simp [txs10, List.getD, h]
/-- Does a block begin at the key, or behind it? -/
def M.beg (F : List (List UInt8)) (key : List UInt8) (i : Nat) : Bool := !Op.bytesLess (F.getD i []) key
set_option maxHeartbeats 2000000 in
set_option maxRecDepth 100000 in
theorem begins10_any (B p : Nat) (vB vF : Value) (Bk F : List (List UInt8)) (n : Int) (key : List UInt8) (i : Nat) (w : World) (h : TabRow B p vB vF Bk F n w) (hi : i < F.length) (hF : F.length ≤ 1000000) :
    Calls Try.prog 119 #[.agg #[.pointer (some ⟨p, 0, none⟩), .string (S key)], .int .i64 i] w fun e w' => e = .returned (.bool (M.beg F key i)) ∧ Below w.heap.size w w' := by
  obtain ⟨g, cap, rfl, hc, hcell⟩ := own_slice10 h.f (by omega)
  have hb := (Below.refl w.heap.size w).alloc (Nat.le_refl _) (.cells #[.pointer (some ⟨p, 0, none⟩), .string (S key)] 150)
  have hn := rowIn_new #[.pointer (some ⟨p, 0, none⟩), .string (S key)] 150 w
  have c0 : (w.alloc (.cells #[.pointer (some ⟨p, 0, none⟩), .string (S key)] 150)).cell? ⟨w.heap.size, 0, none⟩ = some (.pointer (some ⟨p, 0, none⟩)) := hn.cell 0
  have c1 : (w.alloc (.cells #[.pointer (some ⟨p, 0, none⟩), .string (S key)] 150)).cell? ⟨w.heap.size, 1, none⟩ = some (.string (S key)) := hn.cell 1
  have c2 : (w.alloc (.cells #[.pointer (some ⟨p, 0, none⟩), .string (S key)] 150)).cell? ⟨p, 1, none⟩ = some (.slice (some ⟨g, 0, none⟩) F.length cap) := (h.row.below hb).cell 1
  have c3 : (w.alloc (.cells #[.pointer (some ⟨p, 0, none⟩), .string (S key)] 150)).cell? ⟨g, i, none⟩ = some (.string (S (F.getD i []))) := by
    have k := hcell i _ (txs10_get hi)
    exact (hb.cell (p := ⟨g, i, none⟩) (block_lt_of_cell k)).trans k
  have hii : (i : Int) < (F.length : Int) := by omega
  have HB := Lib.hid hb
  have HE : Hid (M.beg F key i = !Op.bytesLess (F.getD i []) key) := Lib.hid rfl
  clear hb hn h hcell
  generalize F.getD i [] = f at *
  go_enter Try.func119, Try.ntmps119
  go_wp2_with fail
  go_quiet (fail)
  go_wp2_with fail
  go_ret
  exact ⟨by rw [HE.out]; rfl, below_drewN HB.out _⟩
/-- The least place from which on it says yes. -/
def SearchR (q : Nat → Bool) (n : Nat) (w : World) (e : Ending) (w' : World) : Prop := ∃ r : Nat, e = .returned (.int .i64 r) ∧ r ≤ n ∧ (∀ k, k < r → q k = false) ∧ (∀ k, r ≤ k → k < n → q k = true) ∧ Below w.heap.size w w'
set_option maxHeartbeats 2000000 in
set_option maxRecDepth 100000 in
theorem search10_any (B p : Nat) (vB vF : Value) (Bk F : List (List UInt8)) (n : Int) (key : List UInt8) (w : World) (h : TabRow B p vB vF Bk F n w) (hF : F.length ≤ 1000000) (hm : ∀ a b, a ≤ b → b < F.length → M.beg F key a = true → M.beg F key b = true) :
    Calls Try.prog 102 #[.int .i64 F.length, .func (.func 119) #[.agg #[.pointer (some ⟨p, 0, none⟩), .string (S key)]] #[]] w fun e w' => SearchR (M.beg F key) F.length w e w' := by
  have HT := Lib.hid h
  have HB := Lib.hid (Below.refl w.heap.size w)
  have HM := Lib.hid hm
  clear h hm
  go_enter Try.func102, Try.ntmps102
  go_wp2_with fail
  go_loopw [5, 6] (fun vi vj wr => ∃ i j : Nat, i ≤ j ∧ j ≤ F.length ∧ vi = .int .i64 i ∧ vj = .int .i64 j ∧ Hid (∀ k, k < i → M.beg F key k = false) ∧ Hid (∀ k, j ≤ k → k < F.length → M.beg F key k = true) ∧ Hid (Below w.heap.size w wr)) (fun vi vj _ => (intOf vj).toNat - (intOf vi).toNat)
  case atStart => exact ⟨0, F.length, Nat.zero_le _, Nat.le_refl _, rfl, rfl, Lib.hid (fun k hk => by omega), Lib.hid (fun k h1 h2 => by omega), HB⟩
  case round =>
    obtain ⟨i, j, hij, hj, rfl, rfl, H1, H2, HBr⟩ := hrel
    clear HB
    by_cases hlt : i < j
    · have d1 : decide ((i : Int) < (j : Int)) = true := by simp; omega
      have d2 : decide (i < j) = true := by simp; omega
      obtain ⟨h, hh⟩ : ∃ h, h = (i + j) / 2 := ⟨_, rfl⟩
      have h1 : i ≤ h := by omega
      have h2 : h < j := by omega
      have hc : ((i : Int) + (j : Int)) / 2 = (h : Int) := by omega
      have CB := Lib.hid (begins10_any B p vB vF Bk F n key h wr (HT.out.below HBr.out) (by omega) hF)
      clear hh
      go_wp2_with fail
      with_reducible refine (CB.out).mono ?_
      rintro e w1 ⟨rfl, hb⟩
      have HB1 := Lib.hid (below_step HBr.out hb)
      clear hb CB hc
      cases hq : M.beg F key h with
      | true =>
        have HQ := Lib.hid hq
        clear hq
        go_wp2_with fail
        go_roundw
        case rel => exact ⟨i, h, h1, by omega, rfl, rfl, H1, Lib.hid (fun k k1 k2 => HM.out h k k1 k2 HQ.out), HB1⟩
        case measure => simp [intOf]; omega
      | false =>
        have HQ := Lib.hid hq
        clear hq
        go_wp2_with fail
        go_roundw
        case rel => exact ⟨h + 1, j, by omega, hj, by go_num, rfl, Lib.hid (fun k k1 => by
          cases hk : M.beg F key k with
          | false => rfl
          | true => have := HM.out k h (by omega) (by omega) hk; rw [HQ.out] at this; cases this), H2, HB1⟩
        case measure => simp [intOf]; omega
    · obtain rfl : i = j := by omega
      have d1 : decide ((i : Int) < (i : Int)) = false := by simp
      have d2 : decide (i < i) = false := by simp
      go_wp2_with fail
      go_ret
      exact ⟨i, rfl, hj, H1.out, H2.out, HBr.out⟩
theorem M.firsts_mono {L : List M.Cl} (h : M.srt none L = true) (key : List UInt8) : ∀ a b, a ≤ b → b < (M.firsts L (M.many L)).length → M.beg (M.firsts L (M.many L)) key a = true → M.beg (M.firsts L (M.many L)) key b = true := fun a b hab hb ha => by
  rw [M.firsts_len] at hb
  unfold M.beg at *
  rw [M.firsts_get L (by omega)] at ha
  rw [M.firsts_get L hb]
  have hbl : 4 * b < L.length := by unfold M.many at hb; omega
  have k := M.key_mono h (i := 4 * a) (j := 4 * b) (by omega) hbl
  cases q : Op.bytesLess (L.getD (4 * b) M.cl0).key key with
  | false => rfl
  | true => rw [M.le_less k q] at ha; cases ha
/-- The block at which one begins. -/
def M.startOk (L : List M.Cl) (key : List UInt8) (s : Nat) : Prop := s ≤ M.many L ∧ (s = 0 ∨ (4 * s < L.length ∧ Op.bytesLess (L.getD (4 * s) M.cl0).key key = true))
def StartR (L : List M.Cl) (key : List UInt8) (w : World) (e : Ending) (w' : World) : Prop := ∃ s : Nat, e = .returned (.int .i64 s) ∧ M.startOk L key s ∧ Below w.heap.size w w'
set_option maxHeartbeats 2000000 in
set_option maxRecDepth 100000 in
theorem start10_any (L : List M.Cl) (p : Nat) (key : List UInt8) (w : World) (h : TabAt L p w) (hs : M.srt none L = true) (hl : L.length ≤ 4096) :
    Calls Try.prog 87 #[.pointer (some ⟨p, 0, none⟩), .string (S key)] w fun e w' => StartR L key w e w' := by
  obtain ⟨B, vB, vF, hr⟩ := h
  have hm : M.many L ≤ 1024 := by unfold M.many; omega
  have CS := Lib.hid (search10_any B p vB vF (M.blksB L (M.many L)) (M.firsts L (M.many L)) L.length key w hr (by rw [M.firsts_len]; omega) (M.firsts_mono hs key))
  rw [M.firsts_len] at CS
  obtain ⟨ao, cap, rfl⟩ := ownP_shape hr.f
  have c1 : w.cell? ⟨p, 1, none⟩ = some (.slice ao (M.firsts L (M.many L)).length cap) := hr.row.cell 1
  rw [M.firsts_len] at c1
  have hmf : ∀ (fn : Fn) (first cap : Array Value) (w : World), (Instr.makeFunc fn first cap).run Try.prog w = .ok (.func fn first cap) w := fun _ _ _ _ => rfl
  have HF := Lib.hid (show ∀ k, k < M.many L → M.beg (M.firsts L (M.many L)) key k = false → 4 * k < L.length ∧ Op.bytesLess (L.getD (4 * k) M.cl0).key key = true from fun k hk hb => by
    unfold M.beg at hb
    rw [M.firsts_get L hk] at hb
    exact ⟨by unfold M.many at hk; omega, by simpa using hb⟩)
  clear hr
  go_enter Try.func87, Try.ntmps87
  go_wp2_with fail
  with_reducible refine (CS.out).mono ?_
  rintro e w1 ⟨r, rfl, hr, h1, h2, hb⟩
  have HB := Lib.hid hb
  have H1 := Lib.hid h1
  clear hb h1 h2 CS
  have hmx : max (0 : Int) ((r : Int) - 1) = ((r - 1 : Nat) : Int) := by omega
  go_wp2_with fail
  go_ret
  refine ⟨r - 1, rfl, ⟨by omega, ?_⟩, HB.out⟩
  by_cases h0 : r ≤ 1
  · exact .inl (by omega)
  · exact .inr (HF.out (r - 1) (by omega) (H1.out (r - 1) (by omega)))

end Go.Proofs.Ythidmgnfdikppaa
