/- Layer 16: the document's in, put, by contracts. -/
import Derived.Test.YtfcmjgcjmldpcaaEditsU
namespace Go.Proofs.Ytfcmjgcjmldpcaa
set_option linter.unusedVariables false
set_option linter.unusedSimpArgs false
open Go Go.RowKit
attribute [local go_sem ↓] run_index_S
attribute [local go_sem] S_append S_extract

set_option maxHeartbeats 4000000 in
theorem refIn16_any (l : List Int) (hl : l.length ≤ 9223372036854775807) (o : Option Addr) (c : Nat) (x : Int) (w : World) (h : NsAt w o l) :
    Calls Try.prog 53 #[.slice o l.length c, .int .i64 x] w fun e w' => e = .returned (.bool (l.contains x)) ∧ w' = w := by
  have HA := Lib.hid h
  clear h
  go_enter Try.func53, Try.ntmps53
  go_wp2_with fail
  go_loopw [5] (fun i wr => ∃ k : Nat, k ≤ l.length ∧ i = .int .i64 k ∧ Hid (∀ y ∈ l.take k, y ≠ x) ∧ w = wr) (fun i _ => l.length - (intOf i).toNat)
  case atStart => exact ⟨0, Nat.zero_le _, rfl, Lib.hid (fun y hy => by simp at hy), rfl⟩
  case round =>
    obtain ⟨k, hk, rfl, HS, rfl⟩ := hrel
    by_cases hlt : k < l.length
    · have hki : (k : Int) < (l.length : Int) := by omega
      obtain ⟨g, off, rfl, hc⟩ := HA.out.off k hlt
      have HT := Lib.hid (Ed.take_snoc l k 0 hlt)
      have HM := Lib.hid (Ed.gD_mem (d := 0) hlt)
      have HLT := Lib.hid hlt
      generalize l.getD k 0 = n at *
      clear hlt
      by_cases hx : n = x
      · have HC := Lib.hid (show l.contains x = true from by rw [← hx]; simpa using HM.out)
        have d1 : (n == x) = true := by simpa using hx
        clear hx HM HT
        go_wp2_with fail
        go_ret
        exact ⟨by rw [HC.out]; rfl, rfl⟩
      · have d1 : (n == x) = false := by simpa using hx
        have HS1 := Lib.hid (show ∀ y ∈ l.take (k + 1), y ≠ x from fun y hy => by
          rw [HT.out, List.mem_append, List.mem_singleton] at hy
          rcases hy with hy | rfl
          · exact HS.out y hy
          · exact hx)
        clear hx HM HT HS
        go_wp2_with fail
        go_roundw
        case rel => exact ⟨k + 1, by have := HLT.out; omega, by go_num, HS1, trivial⟩
        case measure => have := HLT.out; simp [intOf]; omega
    · obtain rfl : k = l.length := by omega
      rw [List.take_length] at HS
      have HC := Lib.hid (show l.contains x = false from by
        cases q : l.contains x with
        | false => rfl
        | true => exact absurd rfl (HS.out x (by simpa using q)))
      clear HS
      go_wp2_with fail
      go_ret
      exact ⟨by rw [HC.out]; rfl, rfl⟩
/-- Where a number stands in a list that rises. -/
def Ed.pos (n : Int) (l : List Int) : Nat := (l.takeWhile (fun y => decide (y < n))).length
theorem Ed.pos_le (n : Int) (l : List Int) : Ed.pos n l ≤ l.length := (List.takeWhile_prefix _).length_le
theorem Ed.pos_lt (n : Int) : ∀ (l : List Int) (k : Nat), k < Ed.pos n l → l.getD k 0 < n
  | [], k, h => by simp [Ed.pos] at h
  | y :: l, k, h => by
    unfold Ed.pos at h
    by_cases q : y < n
    · simp [q] at h
      cases k with
      | zero => exact q
      | succ k => exact Ed.pos_lt n l k (by unfold Ed.pos; simpa using h)
    · simp [q] at h
theorem Ed.pos_at (n : Int) : ∀ (l : List Int), Ed.pos n l < l.length → ¬ l.getD (Ed.pos n l) 0 < n
  | [], h => by simp [Ed.pos] at h
  | y :: l, h => by
    unfold Ed.pos at h ⊢
    by_cases q : y < n
    · simp [q] at h ⊢
      have := Ed.pos_at n l (by unfold Ed.pos; omega)
      unfold Ed.pos at this
      simpa [List.getD] using this
    · simp [q]
theorem Ed.put_pos (n : Int) : ∀ (l : List Int), l.Pairwise (· < ·) → n ∉ l → l.take (Ed.pos n l) ++ [n] ++ l.drop (Ed.pos n l) = Ed.put n l
  | [], _, _ => rfl
  | y :: l, hs, hn => by
    have h1 : ¬ n = y := fun e => hn (by simp [e])
    have h2 : n ∉ l := fun e => hn (by simp [e])
    unfold Ed.pos Ed.put
    by_cases q : y < n
    · have := Ed.put_pos n l (List.pairwise_cons.1 hs).2 h2
      unfold Ed.pos at this
      simp only [List.takeWhile_cons, q, decide_true, if_true, List.length_cons, List.take_succ_cons, List.drop_succ_cons, List.cons_append]
      rw [if_neg (by omega), if_neg h1, ← this]
    · have hc : n < y := by omega
      simp [List.takeWhile_cons, q, hc]
theorem Ed.put_in (n : Int) : ∀ (l : List Int), l.Pairwise (· < ·) → n ∈ l → Ed.put n l = l
  | [], _, h => by simp at h
  | y :: l, hs, h => by
    unfold Ed.put
    by_cases e : n = y
    · rw [if_neg (by omega), if_pos e]
    · have h2 : n ∈ l := by
        rcases List.mem_cons.1 h with h | h
        · exact absurd h e
        · exact h
      have := (List.pairwise_cons.1 hs).1 n h2
      rw [if_neg (by omega), if_neg e, Ed.put_in n l (List.pairwise_cons.1 hs).2 h2]
theorem nsAt_take {w : World} {o : Option Addr} {l : List Int} (h : NsAt w o l) (k : Nat) : NsAt w o (l.take k) := fun hn => by
  have hl : l ≠ [] := fun e => hn (by rw [e]; simp)
  obtain ⟨g, off, e, hc⟩ := h hl
  refine ⟨g, off, e, fun j hj => ?_⟩
  rw [List.length_take] at hj
  rw [show (l.take k).getD j 0 = l.getD j 0 from by simp [List.getD, List.getElem?_take, show j < k by omega]]
  exact hc j (by omega)
theorem nsAt_drop {w : World} {g off : Nat} {l : List Int} (h : NsAt w (some ⟨g, off, none⟩) l) (k : Nat) : NsAt w (some ⟨g, off + k, none⟩) (l.drop k) := fun hn => by
  have hl : l ≠ [] := fun e => hn (by rw [e]; simp)
  obtain ⟨g', off', e, hc⟩ := h hl
  cases e
  refine ⟨g, off + k, rfl, fun j hj => ?_⟩
  rw [List.length_drop] at hj
  rw [show (l.drop k).getD j 0 = l.getD (k + j) 0 from by simp [List.getD, List.getElem?_drop], Nat.add_assoc]
  exact hc (k + j) (by omega)
theorem wpList_append_numsm {w : World} {ops : Array Oper} {rest : List Oper} {o : Oper} {a : Act} {Q : Exit → Act → World → Prop} (hgd : o.guard = none) (s x : Operand) (t : TypeId)
    (hop : o.op = .call { callee := .builtin .append, args := #[s, x], argTypes := #[t, t] })
    (base : Nat) (i : TypeInfo) (z : Value) (ht : Try.prog.underlying t = some (.slice 3)) (hi : Try.prog.info? 3 = some i) (hz : i.zero = some z) (h1 : i.size = 1) (h2 : i.bytes = 8) (h3 : z.cells.size = 1)
    (v : Value) (n : Nat) (xs : List Value) (hv : a.eval s = v) (ho : w.ownsRow base 3 1 v n xs) (ao : Option Addr) (c m : Nat) (L : List Int) (hx : a.eval x = .slice ao m c) (hm : m = L.length) (hs : NsAt w ao L) (h63 : n + m ≤ 1000000) (hbase : base ≤ w.heap.size)
    (h : ∀ v' w', w'.ownsRow base 3 1 v' (n + m) (xs ++ nsL L) → w.grownBy w' v.ownBlock → wpList Try.prog ops Q rest (a.put o.dst v') w') :
    wpList Try.prog ops Q (o :: rest) a w := by
  subst hm
  exact wpList_append_nums hgd s x t hop base i z ht hi hz h1 h2 h3 v n xs hv ho ao c L hx hs h63 hbase h
theorem nsAt_cell {w : World} {q : Nat} {x : Int} (h : BkIn #[.int .i64 x] 3 w q) : NsAt w (some ⟨q, 0, none⟩) [x] := fun _ => ⟨q, 0, rfl, fun j hj => by
  have : j = 0 := by simp at hj; exact hj
  subst this
  exact h.cell 0⟩
theorem own_cap16 {w : World} {B sz n cap : Nat} {e : TypeId} {a : Option Addr} {xs : List Value} (h : w.ownsRow B e sz (.slice a n cap) n xs) : n ≤ cap := by
  rcases h.2 with ⟨h1, h0⟩ | ⟨g, cap', cur, h1, _, _, h2, _⟩
  · omega
  · injection h1 with _ _ h3
    omega
def RefPutR (n : Int) (l : List Int) (w : World) (e : Ending) (w' : World) : Prop := ∃ ao c, e = .returned (.slice ao (Ed.put n l).length c) ∧ NsAt w' ao (Ed.put n l) ∧ (Ed.put n l).length ≤ c ∧ Below w.heap.size w w'
set_option maxHeartbeats 4000000 in
set_option maxRecDepth 100000 in
theorem refPut16_any (l : List Int) (hl : l.length ≤ 100000) (hs : l.Pairwise (· < ·)) (o : Option Addr) (c : Nat) (hc : l.length ≤ c) (n : Int) (w : World) (h : NsAt w o l) :
    Calls Try.prog 38 #[.slice o l.length c, .int .i64 n] w (RefPutR n l w) := by
  have HA := Lib.hid h
  have CI := Lib.hid (refIn16_any l (by omega) o c n w h)
  obtain ⟨i0, zz, hi0, hz0, h01, h02, h03⟩ := infoN_parts
  clear h
  have HS := Lib.hid hs
  clear hs
  go_enter Try.func38, Try.ntmps38
  cases q : l.contains n with
  | true =>
    rw [q] at CI
    have HP := Lib.hid (Ed.put_in n l HS.out (by simpa using q))
    clear q
    go_wp2_with fail
    with_reducible refine (CI.out).mono ?_
    rintro e w1 ⟨rfl, rfl⟩
    go_wp2_with fail
    go_ret
    exact ⟨o, c, by rw [HP.out]; rfl, by rw [HP.out]; exact HA.out, by rw [HP.out]; exact hc, Below.refl _ _⟩
  | false =>
    rw [q] at CI
    have HP := Lib.hid (Ed.put_pos n l HS.out (by simpa using q))
    have hp := Ed.pos_le n l
    have HL := Lib.hid (Ed.pos_lt n l)
    have HQ := Lib.hid (Ed.pos_at n l)
    clear q
    generalize Ed.pos n l = p at *
    go_wp2_with fail
    with_reducible refine (CI.out).mono ?_
    rintro e w1 ⟨rfl, rfl⟩
    go_wp2_with fail
    go_loopw [5] (fun i wr => ∃ k : Nat, k ≤ p ∧ i = .int .i64 k ∧ w1 = wr) (fun i _ => p - (intOf i).toNat)
    case atStart => exact ⟨0, Nat.zero_le _, rfl, rfl⟩
    case round =>
      obtain ⟨k, hk, rfl, rfl⟩ := hrel
      by_cases hlt : k < p
      · have hkl : k < l.length := by omega
        have hki : (k : Int) < (l.length : Int) := by omega
        obtain ⟨g, off, rfl, x0⟩ := HA.out.off k hkl
        have d1 : decide (l.getD k 0 < n) = true := decide_eq_true (HL.out k hlt)
        have HLT := Lib.hid hlt
        generalize l.getD k 0 = y at *
        clear hlt
        go_wp2_with fail
        go_roundw
        case rel => exact ⟨k + 1, by have := HLT.out; omega, by go_num, trivial⟩
        case measure => have := HLT.out; simp [intOf]; omega
      · obtain rfl : k = p := by omega
        have HLP := Lib.hid (show k = (l.take k).length from by rw [List.length_take]; omega)
        have HLD := Lib.hid (show l.length - k = (l.drop k).length from by rw [List.length_drop])
        have HT := Lib.hid (nsAt_take HA.out k)
        have hkc : (k : Int) ≤ (c : Int) := by omega
        have hkl : (k : Int) ≤ (l.length : Int) := by omega
        have FIN := Lib.hid (show ∀ (a5 : Option Addr) (c5 : Nat) (w5 : World), w5.ownsRow w1.heap.size 3 1 (.slice a5 (k + 1 + (l.length - k)) c5) (k + 1 + (l.length - k)) (nsL (l.take k) ++ nsL [n] ++ nsL (l.drop k)) → Below w1.heap.size w1 w5 → RefPutR n l w1 (.returned (.slice a5 (k + 1 + (l.length - k)) c5)) w5 from fun a5 c5 w5 h hb => by
          rw [← nsL_append, ← nsL_append, HP.out] at h
          have hle : (Ed.put n l).length = k + 1 + (l.length - k) := by
            have := congrArg List.length HP.out
            simp only [List.length_append, List.length_take, List.length_drop, List.length_cons, List.length_nil] at this
            omega
          exact ⟨a5, c5, by rw [hle], nsAt_own (by rw [hle]; exact h), by rw [hle]; exact own_cap16 h, hb⟩)
        by_cases hlast : k < l.length
        · have hki : (k : Int) < (l.length : Int) := by omega
          obtain ⟨g, off, rfl, x0⟩ := HA.out.off k hlast
          have d1 : decide (l.getD k 0 < n) = false := decide_eq_false (by have := HQ.out hlast; omega)
          have HD := Lib.hid (nsAt_drop HA.out k)
          have q0 : ¬ (c = k) := by omega
          generalize l.getD k 0 = y at *
          go_wp2_with (first
            | (have _t := HO3; clear _t; at_builtin; refine wpList_append_numsm rfl _ _ 25 rfl w1.heap.size i0 zz Try.underlying25 hi0 hz0 h01 h02 h03 (.slice a3 (k + 1) c3) (k + 1) _ rfl HO3.out (some ⟨g, off + k, none⟩) (c - k) (l.length - k) (l.drop k) rfl HLD.out (HD.out.below HB3.out) (by omega) HB3.out.size ?_; intro v4 w4 ho4 hg4; obtain ⟨a4, c4, rfl⟩ := own_shape16 ho4; have HF := Lib.hid (FIN.out a4 c4 w4 ho4 (HB3.out.grown hg4 HB3.out.size (fun q hq => (HO3.out.lt q hq).1))); clear ho4 hg4)
            | (have _t := HO2; clear _t; at_builtin; refine wpList_append_numsm rfl _ _ 25 rfl w1.heap.size i0 zz Try.underlying25 hi0 hz0 h01 h02 h03 (.slice a2 k c2) k _ rfl (HO2.out.alloc _) (some ⟨w2.heap.size, 0, none⟩) 1 1 [n] rfl rfl (nsAt_cell (bkIn_new _ _ w2)) (by omega) (HB2.out.alloc HB2.out.size _).size ?_; intro v3 w3 ho3 hg3; obtain ⟨a3, c3, rfl⟩ := own_shape16 ho3; have HO3 := Lib.hid ho3; have HB3 := Lib.hid ((HB2.out.alloc HB2.out.size (.cells #[.int .i64 n] 3)).grown hg3 (HB2.out.alloc HB2.out.size _).size (fun q hq => (HO2.out.lt q hq).1)); clear ho3 hg3)
            | (at_builtin; refine wpList_append_numsm rfl _ _ 25 rfl w1.heap.size i0 zz Try.underlying25 hi0 hz0 h01 h02 h03 (.slice none 0 0) 0 [] rfl (World.ownsRow_nil _ _ _ _) (some ⟨g, off, none⟩) c k (l.take k) rfl HLP.out HT.out (by omega) (Nat.le_refl _) ?_; intro v2 w2 ho2 hg2; rw [Nat.zero_add, List.nil_append] at ho2; obtain ⟨a2, c2, rfl⟩ := own_shape16 ho2; have HO2 := Lib.hid ho2; have HB2 := Lib.hid ((Below.refl w1.heap.size w1).grown hg2 (Nat.le_refl _) (fun q hq => by cases hq)); clear ho2 hg2))
          go_ret
          exact HF.out
        · have e0 : decide ((k : Int) < (l.length : Int)) = false := decide_eq_false (by omega)
          have e1 : decide (k < l.length) = false := decide_eq_false hlast
          have e2 : l.length - k = 0 := by omega
          have hkl' : l.length = k := by omega
          clear hlast
          go_wp2_with (first
            | (have _t := HO3; clear _t; at_builtin; refine wpList_append_numsm rfl _ _ 25 rfl w1.heap.size i0 zz Try.underlying25 hi0 hz0 h01 h02 h03 (.slice a3 (k + 1) c3) (k + 1) _ rfl HO3.out _ _ _ [] rfl (by simp) (nsAt_nil _ _) (by omega) HB3.out.size ?_; intro v4 w4 ho4 hg4; obtain ⟨a4, c4, rfl⟩ := own_shape16 ho4; have HF := Lib.hid (FIN.out a4 c4 w4 (by have e9 : l.drop k = [] := List.drop_eq_nil_of_le (by omega); rw [e9]; have e8 : l.length - k = 0 := (by omega); rw [e8]; first | exact ho4 | simpa using ho4) (HB3.out.grown hg4 HB3.out.size (fun q hq => (HO3.out.lt q hq).1))); clear ho4 hg4)
            | (have _t := HO2; clear _t; at_builtin; refine wpList_append_numsm rfl _ _ 25 rfl w1.heap.size i0 zz Try.underlying25 hi0 hz0 h01 h02 h03 (.slice a2 k c2) k _ rfl (HO2.out.alloc _) (some ⟨w2.heap.size, 0, none⟩) 1 1 [n] rfl rfl (nsAt_cell (bkIn_new _ _ w2)) (by omega) (HB2.out.alloc HB2.out.size _).size ?_; intro v3 w3 ho3 hg3; obtain ⟨a3, c3, rfl⟩ := own_shape16 ho3; have HO3 := Lib.hid ho3; have HB3 := Lib.hid ((HB2.out.alloc HB2.out.size (.cells #[.int .i64 n] 3)).grown hg3 (HB2.out.alloc HB2.out.size _).size (fun q hq => (HO2.out.lt q hq).1)); clear ho3 hg3)
            | (at_builtin; refine wpList_append_numsm rfl _ _ 25 rfl w1.heap.size i0 zz Try.underlying25 hi0 hz0 h01 h02 h03 (.slice none 0 0) 0 [] rfl (World.ownsRow_nil _ _ _ _) o c k (l.take k) rfl HLP.out HT.out (by omega) (Nat.le_refl _) ?_; intro v2 w2 ho2 hg2; rw [Nat.zero_add, List.nil_append] at ho2; obtain ⟨a2, c2, rfl⟩ := own_shape16 ho2; have HO2 := Lib.hid ho2; have HB2 := Lib.hid ((Below.refl w1.heap.size w1).grown hg2 (Nat.le_refl _) (fun q hq => by cases hq)); clear ho2 hg2))
          all_goals (go_ret; have h := HF.out; rw [show l.length - k = 0 from by omega] at h; exact h)

end Go.Proofs.Ytfcmjgcjmldpcaa
