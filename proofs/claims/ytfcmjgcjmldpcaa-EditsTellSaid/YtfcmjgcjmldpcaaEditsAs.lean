/- Layer 16: Files; the document's Find and Files, by contracts. -/
import Derived.Test.YtfcmjgcjmldpcaaEditsAh
import Derived.Test.YtfcmjgcjmldpcaaEditsAi
import Derived.Test.YtfcmjgcjmldpcaaEditsE
import Derived.Test.YtfcmjgcjmldpcaaEditsO
namespace Go.Proofs.Ytfcmjgcjmldpcaa
set_option linter.unusedVariables false
set_option linter.unusedSimpArgs false
open Go Go.RowKit
attribute [local go_sem ↓] run_index_S
attribute [local go_sem] S_append S_extract

/-- The numbers of whatever state: those of all tablets, if it may be. -/
def FlsR (Rs : List Rt) (log next : Int) (w : World) (e : Ending) (w' : World) : Prop :=
  ∃ ao c l, e = .returned (.slice ao (l : List Int).length c) ∧ NsAt w' ao l ∧ Below w.heap.size w w' ∧ (Ed.Ok ⟨tbs Rs, log, next⟩ → l = Ed.uni (catL Rs)) ∧ (¬ Ed.Ok ⟨tbs Rs, log, next⟩ → l = [])
theorem ok_sizes {Rs : List Rt} {log next : Int} (h : Ed.Ok ⟨tbs Rs, log, next⟩) : Rs ≠ [] ∧ Rs.length ≤ 16 ∧ (∀ r, r ∈ Rs → r.l.length ≤ 256) := by
  have h1 := h.n1
  have h2 := h.n16
  simp only [tbs_length] at h1 h2
  refine ⟨fun e => by rw [e] at h1; simp at h1, h2, fun r hr => ?_⟩
  obtain ⟨j, hj, rfl⟩ := List.getElem_of_mem hr
  have := h.each j (by simp only [tbs_length]; exact hj)
  unfold Ed.okAt at this
  simp only [tbs_at, Rt.tb, show Rs.getD j rt0 = Rs[j] from by simp [List.getD, hj]] at this
  exact this.2.2.2
set_option maxHeartbeats 4000000 in
theorem files16_any (Rs : List Rt) (hR : RtsOk Rs) (ao : Option Addr) (cap : Nat) (log next : Int) (w : World) (h : TbsAt w ao Rs) :
    Calls Try.prog 20 #[.agg #[.slice ao Rs.length cap, .int .i64 log, .int .i64 next]] w (FlsR Rs log next w) := by
  obtain ⟨w2, hw2⟩ : ∃ x, x = w.alloc (.cells (stA ao Rs.length cap log next) 24) := ⟨_, rfl⟩
  have hb2 : Below w.heap.size w w2 := by rw [hw2]; exact (Below.refl _ _).alloc (Nat.le_refl _) _
  have HS := Lib.hid (show BkIn (stA ao Rs.length cap log next) 24 w2 w.heap.size from by rw [hw2]; exact bkIn_new _ _ w)
  have CK := Lib.hid (check16_any Rs hR ao cap log next w2 (h.below hb2))
  have HB := Lib.hid hb2
  have HA := Lib.hid h
  unfold stV at CK
  unfold stA at hw2
  clear h hb2
  go_enter Try.func20, Try.ntmps20
  go_wp2_with fail
  rw [← hw2]
  clear hw2
  with_reducible refine (CK.out).mono ?_
  rintro e w3 ⟨bb, rfl, hbb, hb3⟩
  have HB3 := Lib.hid (HB.out.trans (hb3.mono HB.out.size))
  have s0 : w3.cell? ⟨w.heap.size, 0, none⟩ = some (.slice ao Rs.length cap) := (HS.out.below hb3).cell 0
  clear hb3 CK HS HB
  cases bb with
  | false =>
    have HNO := Lib.hid (show ¬ Ed.Ok ⟨tbs Rs, log, next⟩ from fun h => nomatch hbb.2 h)
    clear hbb
    go_wp2_with fail
    go_ret
    exact ⟨none, 0, [], rfl, nsAt_nil _ _, HB3.out, fun h => absurd h HNO.out, fun _ => rfl⟩
  | true =>
    have ho := hbb.1 rfl
    have hsz := ok_sizes ho
    have HO := Lib.hid ho
    have CU := Lib.hid (union16_any Rs hsz.2.1 (fun r hr => by have := hsz.2.2 r hr; omega) ao cap w3 (HA.out.below HB3.out))
    unfold UnionR at CU
    rw [compact_uni] at CU
    clear hbb ho hsz
    go_wp2_with fail
    with_reducible refine (CU.out).mono ?_
    rintro e w4 ⟨a4, c4, rfl, hown, hb4⟩
    have HN := Lib.hid (nsAt_own hown)
    have HB4 := Lib.hid (below_step HB3.out hb4)
    clear hown hb4 CU
    go_wp2_with fail
    go_ret
    exact ⟨a4, c4, _, rfl, HN.out, HB4.out, fun _ => rfl, fun h => absurd HO.out h⟩
theorem le_of_below {s : Ed.St} (h : Ed.Ok s) {key : List UInt8} {k : Nat} (hk : k < s.T.length) : (Op.bytesLess (s.T.getD k Ed.tb0).f key || ((s.T.getD k Ed.tb0).f == key)) = decide (k < Ed.below s.T key) := by
  by_cases hb : k < Ed.below s.T key
  · rw [decide_eq_true hb]
    have h1 := Ed.below_lt k hb
    by_cases e : (s.T.getD k Ed.tb0).f = key
    · rw [e]; simp
    · have := Ed.less_flip key (s.T.getD k Ed.tb0).f (fun h => e h.symm)
      rw [h1] at this
      rw [this]; rfl
  · rw [decide_eq_false hb]
    have hl := Ed.below_le s.T key
    have hat := Ed.below_at (T := s.T) (key := key) (by omega)
    have h1 : Op.bytesLess key (s.T.getD k Ed.tb0).f = true := by
      by_cases e : k = Ed.below s.T key
      · rw [e]; exact hat
      · exact Ed.less_trans _ _ _ hat (h.less k _ (by omega) hk)
    have h2 : Op.bytesLess (s.T.getD k Ed.tb0).f key = false := by
      cases q : Op.bytesLess (s.T.getD k Ed.tb0).f key with
      | false => rfl
      | true => have := Ed.less_trans _ _ _ h1 q; rw [Ed.less_irr] at this; cases this
    have h3 : ((s.T.getD k Ed.tb0).f == key) = false := by
      cases q : ((s.T.getD k Ed.tb0).f == key) with
      | false => rfl
      | true => rw [(beq_iff_eq.1 q : (s.T.getD k Ed.tb0).f = key), Ed.less_irr] at h1; cases h1
    rw [h2, h3]; rfl
def RFindR (Rs : List Rt) (log next : Int) (key : List UInt8) (w : World) (e : Ending) (w' : World) : Prop :=
  ∃ i : Int, e = .returned (.int .i64 i) ∧ (Ed.Ok ⟨tbs Rs, log, next⟩ → i = Ed.find ⟨tbs Rs, log, next⟩ key) ∧ (¬ Ed.Ok ⟨tbs Rs, log, next⟩ → i = -1) ∧ Below w.heap.size w w'
set_option maxHeartbeats 4000000 in
set_option maxRecDepth 100000 in
theorem refFind16_any (Rs : List Rt) (hR : RtsOk Rs) (ao : Option Addr) (cap : Nat) (log next : Int) (key : List UInt8) (hkl : key.length ≤ 140737488351232) (w : World) (h : TbsAt w ao Rs) :
    Calls Try.prog 18 #[.agg #[.slice ao Rs.length cap, .int .i64 log, .int .i64 next], .string (S key)] w (RFindR Rs log next key w) := by
  obtain ⟨w2, hw2⟩ : ∃ x, x = w.alloc (.cells (stA ao Rs.length cap log next) 24) := ⟨_, rfl⟩
  have hb2 : Below w.heap.size w w2 := by rw [hw2]; exact (Below.refl _ _).alloc (Nat.le_refl _) _
  have HS := Lib.hid (show BkIn (stA ao Rs.length cap log next) 24 w2 w.heap.size from by rw [hw2]; exact bkIn_new _ _ w)
  have CK := Lib.hid (refCheck16_any Rs hR ao cap log next w2 (h.below hb2))
  have HB := Lib.hid hb2
  have HA := Lib.hid h
  unfold stV at CK
  unfold stA at hw2
  clear h hb2
  go_enter Try.func18, Try.ntmps18
  go_wp2_with fail
  rw [← hw2]
  clear hw2
  with_reducible refine (CK.out).mono ?_
  rintro e w3 ⟨bb, rfl, hbb, hb3⟩
  have HB3 := Lib.hid (HB.out.trans (hb3.mono HB.out.size))
  have HS3 := Lib.hid (HS.out.below hb3)
  clear hb3 CK HS HB
  cases bb with
  | false =>
    have HNO := Lib.hid (show ¬ Ed.Ok ⟨tbs Rs, log, next⟩ from fun h => nomatch hbb.2 h)
    clear hbb
    go_wp2_with fail
    go_ret
    exact ⟨-1, rfl, fun h => absurd h HNO.out, fun _ => rfl, HB3.out⟩
  | true =>
    have ho := hbb.1 rfl
    have HO := Lib.hid ho
    have hp := ho.below_pos key
    have hle := Ed.below_le (tbs Rs) key
    have hn := (ok_sizes ho).2.1
    rw [tbs_length] at hle
    simp only at hp
    have HLB := Lib.hid (show ∀ k, k < Rs.length → (Op.bytesLess (Rs.getD k rt0).f key || ((Rs.getD k rt0).f == key)) = decide (k < Ed.below (tbs Rs) key) from fun k hk => by
      have := le_of_below ho (key := key) (k := k) (by simp only [tbs_length]; exact hk)
      simp only [tbs_at, Rt.tb] at this
      exact this)
    have HFD := Lib.hid (show Ed.find ⟨tbs Rs, log, next⟩ key = (Ed.below (tbs Rs) key : Int) - 1 from rfl)
    generalize Ed.below (tbs Rs) key = B at *
    have s0 : w3.cell? ⟨w.heap.size, 0, none⟩ = some (.slice ao Rs.length cap) := HS3.out.cell 0
    clear hbb ho
    go_wp2_with fail
    go_loopw [5, 6] (fun av i wr => ∃ (k : Nat) (aa : Int), k ≤ Rs.length ∧ i = .int .i64 k ∧ av = .int .i64 aa ∧ Hid ((k = 0 ∧ aa = 0) ∨ (0 < k ∧ k ≤ B ∧ aa = (k : Int) - 1) ∨ (B < k ∧ aa = (B : Int) - 1)) ∧ w3 = wr) (fun av i _ => Rs.length - (intOf i).toNat)
    case atStart => exact ⟨0, 0, Nat.zero_le _, rfl, rfl, Lib.hid (.inl ⟨rfl, rfl⟩), rfl⟩
    case round =>
      obtain ⟨k, aa, hk, rfl, rfl, HQ, rfl⟩ := hrel
      by_cases hlt : k < Rs.length
      · have hki : (k : Int) < (Rs.length : Int) := by omega
        obtain ⟨g, off, rfl, hc⟩ := (HA.out.below HB3.out).off k hlt
        have x0 := hc.1
        have l1 := HLB.out k hlt
        have HLT := Lib.hid hlt
        clear hc
        generalize (Rs.getD k rt0).f = f at *
        by_cases hb : k < B
        · rw [decide_eq_true hb] at l1
          have HQ2 := Lib.hid (show (k + 1 = 0 ∧ (k : Int) = 0) ∨ (0 < k + 1 ∧ k + 1 ≤ B ∧ (k : Int) = ((k + 1 : Nat) : Int) - 1) ∨ (B < k + 1 ∧ (k : Int) = (B : Int) - 1) from by omega)
          clear hb hlt HQ
          go_wp2_with fail
          go_roundw
          case rel => exact ⟨k + 1, k, by have := HLT.out; omega, by go_num, rfl, HQ2, trivial⟩
          case measure => have := HLT.out; simp [intOf]; omega
        · rw [decide_eq_false hb] at l1
          have HQ2 := Lib.hid (show (k + 1 = 0 ∧ aa = 0) ∨ (0 < k + 1 ∧ k + 1 ≤ B ∧ aa = ((k + 1 : Nat) : Int) - 1) ∨ (B < k + 1 ∧ aa = (B : Int) - 1) from by have := HQ.out; omega)
          clear hb hlt HQ
          go_wp2_with fail
          go_roundw
          case rel => exact ⟨k + 1, aa, by have := HLT.out; omega, by go_num, rfl, HQ2, trivial⟩
          case measure => have := HLT.out; simp [intOf]; omega
      · obtain rfl : k = Rs.length := by omega
        have HE := Lib.hid (show aa = Ed.find ⟨tbs Rs, log, next⟩ key from by rw [HFD.out]; have := HQ.out; omega)
        clear HQ
        go_wp2_with fail
        go_ret
        exact ⟨aa, rfl, fun _ => HE.out, fun h => absurd HO.out h, HB3.out⟩
theorem puts16_len' (l : List Int) : ∀ k : List Int, (k.foldl (fun a n => Ed.put n a) l).length ≤ l.length + k.length := fun k => by
  induction k generalizing l with
  | nil => simp
  | cons x k ih =>
    have h1 := ih (Ed.put x l)
    have h2 : (Ed.put x l).length ≤ l.length + 1 := by
      clear h1 ih
      induction l with
      | nil => simp [Ed.put]
      | cons y t ih2 =>
        unfold Ed.put
        split
        · simp
        · split
          · simp
          · simp only [List.length_cons]; omega
    simp only [List.foldl_cons, List.length_cons]
    omega
theorem uni_snoc (l : List Int) (n : Int) : Ed.uni (l ++ [n]) = Ed.put n (Ed.uni l) := by unfold Ed.uni; rw [List.foldl_append]; rfl
set_option maxHeartbeats 8000000 in
set_option maxRecDepth 100000 in
theorem refFiles16_any (Rs : List Rt) (hR : RtsOk Rs) (ao : Option Addr) (cap : Nat) (log next : Int) (w : World) (h : TbsAt w ao Rs) :
    Calls Try.prog 21 #[.agg #[.slice ao Rs.length cap, .int .i64 log, .int .i64 next]] w (FlsR Rs log next w) := by
  obtain ⟨w2, hw2⟩ : ∃ x, x = w.alloc (.cells (stA ao Rs.length cap log next) 24) := ⟨_, rfl⟩
  have hb2 : Below w.heap.size w w2 := by rw [hw2]; exact (Below.refl _ _).alloc (Nat.le_refl _) _
  have HS := Lib.hid (show BkIn (stA ao Rs.length cap log next) 24 w2 w.heap.size from by rw [hw2]; exact bkIn_new _ _ w)
  have CK := Lib.hid (fun (x : World) (hx : Below w.heap.size w x) => refCheck16_any Rs hR ao cap log next x (h.below hx))
  have HB := Lib.hid hb2
  have HA := Lib.hid h
  unfold stV at CK
  unfold stA at hw2
  clear h hb2
  go_enter Try.func21, Try.ntmps21
  go_wp2_with fail
  rw [← hw2]
  clear hw2
  go_loopw [3, 4] (fun lv i wr => ∃ (k : Nat) (a3 : Option Addr) (c3 : Nat), k ≤ Rs.length ∧ i = .int .i64 k ∧ lv = .slice a3 (Ed.uni (catL (Rs.take k))).length c3 ∧ Hid (0 < k → Ed.Ok ⟨tbs Rs, log, next⟩) ∧ Hid (NsAt wr a3 (Ed.uni (catL (Rs.take k)))) ∧ Hid ((Ed.uni (catL (Rs.take k))).length ≤ c3) ∧ Hid (BkIn (stA ao Rs.length cap log next) 24 wr w.heap.size) ∧ Hid (Below w.heap.size w wr)) (fun lv i _ => Rs.length - (intOf i).toNat)
  case atStart => exact ⟨0, none, 0, Nat.zero_le _, rfl, rfl, Lib.hid (fun h => absurd h (by omega)), Lib.hid (nsAt_nil _ _), Lib.hid (Nat.le_refl _), HS, HB⟩
  case round =>
    obtain ⟨k, a3, c3, hk, rfl, rfl, HKO, HN, HC, HSr, HBr⟩ := hrel
    clear HS HB
    have s0 : wr.cell? ⟨w.heap.size, 0, none⟩ = some (.slice ao Rs.length cap) := HSr.out.cell 0
    have s1 : wr.cell? ⟨w.heap.size, 1, none⟩ = some (.int .i64 log) := HSr.out.cell 1
    have s2 : wr.cell? ⟨w.heap.size, 2, none⟩ = some (.int .i64 next) := HSr.out.cell 2
    have CK1 := Lib.hid (CK.out wr HBr.out)
    go_wp2_with fail
    with_reducible refine (CK1.out).mono ?_
    rintro e w3 ⟨bb, rfl, hbb, hb3⟩
    replace HN := Lib.hid (HN.out.below hb3)
    replace HSr := Lib.hid (HSr.out.below hb3)
    replace HBr := Lib.hid (HBr.out.trans (hb3.mono HBr.out.size))
    clear hb3 CK1 s0 s1 s2
    have s0 : w3.cell? ⟨w.heap.size, 0, none⟩ = some (.slice ao Rs.length cap) := HSr.out.cell 0
    cases bb with
    | false =>
      have HNO := Lib.hid (show ¬ Ed.Ok ⟨tbs Rs, log, next⟩ from fun h => nomatch hbb.2 h)
      have hk0 : k = 0 := by
        rcases Nat.eq_zero_or_pos k with h | h
        · exact h
        · exact absurd (HKO.out h) HNO.out
      subst hk0
      clear hbb
      go_wp2_with fail
      go_ret
      exact ⟨a3, c3, _, rfl, HN.out, HBr.out, fun h => absurd h HNO.out, fun _ => rfl⟩
    | true =>
      have ho := hbb.1 rfl
      have HO := Lib.hid ho
      have hsz := ok_sizes ho
      have hr16 : Rs.length ≤ 16 := hsz.2.1
      by_cases hlt : k < Rs.length
      · have hki : (k : Int) < (Rs.length : Int) := by omega
        have HCT := Lib.hid (catL_snoc hlt)
        have HLT := Lib.hid hlt
        have hl256 := hsz.2.2 _ (Ed.gD_mem (d := rt0) hlt)
        have hcl := catL_len (Rs := Rs.take k) (m := 256) (fun r hr => hsz.2.2 r (List.mem_of_mem_take hr))
        have htl : (Rs.take k).length * 256 ≤ 16 * 256 := Nat.mul_le_mul_right _ (by rw [List.length_take]; omega)
        obtain ⟨g, off, rfl, hc⟩ := HA.out.off k hlt
        have HR := Lib.hid hc
        generalize Rs.getD k rt0 = r at *
        obtain ⟨f, l, o, kc⟩ := r
        simp only at HR hl256 HCT
        generalize catL (Rs.take k) = A at *
        have hA : A.length ≤ 4096 := by omega
        clear hbb ho hsz hlt hc hcl htl
        go_wp2_with fail
        go_loopw [3, 5] (fun lv j wr => ∃ (q : Nat) (a3 : Option Addr) (c3 : Nat), q ≤ l.length ∧ j = .int .i64 q ∧ lv = .slice a3 (Ed.uni (A ++ l.take q)).length c3 ∧ Hid (NsAt wr a3 (Ed.uni (A ++ l.take q))) ∧ Hid ((Ed.uni (A ++ l.take q)).length ≤ c3) ∧ Hid (BkIn (stA (some ⟨g, off, none⟩) Rs.length cap log next) 24 wr w.heap.size) ∧ Hid (Below w.heap.size w wr)) (fun lv j _ => l.length - (intOf j).toNat)
        case atStart => exact ⟨0, a3, c3, Nat.zero_le _, rfl, by rw [List.take_zero, List.append_nil], by rw [List.take_zero, List.append_nil]; exact HN, by rw [List.take_zero, List.append_nil]; exact HC, HSr, HBr⟩
        case round =>
          obtain ⟨q, b3, d3, hq, rfl, rfl, HN2, HC2, HS2, HB2⟩ := hrel
          clear HN HC HSr HBr
          have s0 : wr.cell? ⟨w.heap.size, 0, none⟩ = some (.slice (some ⟨g, off, none⟩) Rs.length cap) := HS2.out.cell 0
          have o1 : wr.cell? ⟨g, off + k * 2 + 1, none⟩ = some (.slice o l.length kc) := (HR.out.below HB2.out).2.1
          by_cases hqn : q < l.length
          · have hqi : (q : Int) < (l.length : Int) := by omega
            obtain ⟨gn, on, e, x0⟩ := (HR.out.below HB2.out).2.2.off q hqn
            try simp only at e
            subst e
            have HTK := Lib.hid (Ed.take_snoc l q 0 hqn)
            have HQN := Lib.hid hqn
            have hlen := puts16_len' [] (A ++ l.take q)
            have htk : (l.take q).length ≤ 256 := by rw [List.length_take]; omega
            simp only [List.length_append, List.length_nil] at hlen
            generalize l.getD q 0 = n at *
            have CP := Lib.hid (refPut16_any (Ed.uni (A ++ l.take q)) (by show (Ed.uni (A ++ l.take q)).length ≤ 100000; unfold Ed.uni; omega) (Ed.uni_spec _).1 b3 d3 HC2.out n wr HN2.out)
            have HP := Lib.hid (show Ed.put n (Ed.uni (A ++ l.take q)) = Ed.uni (A ++ l.take (q + 1)) from by rw [HTK.out, ← List.append_assoc, uni_snoc])
            unfold RefPutR at CP
            rw [HP.out] at CP
            clear hlen htk hqn
            go_wp2_with fail
            with_reducible refine (CP.out).mono ?_
            rintro e w5 ⟨a5, c5, rfl, h3, h4, hb5⟩
            have HN5 := Lib.hid h3
            have HC5 := Lib.hid h4
            have HS5 := Lib.hid (HS2.out.below hb5)
            have HB5 := Lib.hid (below_step HB2.out hb5)
            clear h3 h4 hb5 CP HN2 HC2 HS2 HB2 s0 o1 x0
            go_wp2_with fail
            go_roundw
            case rel => exact ⟨q + 1, a5, c5, by have := HQN.out; omega, by go_num, rfl, HN5, HC5, HS5, HB5⟩
            case measure => have := HQN.out; simp [intOf]; omega
          · obtain rfl : q = l.length := by omega
            rw [List.take_length] at HN2 HC2 ⊢
            rw [← HCT.out] at HN2 HC2 ⊢
            go_wp2_with fail
            go_roundw
            case rel => exact ⟨k + 1, b3, d3, by have := HLT.out; omega, by go_num, rfl, Lib.hid (fun _ => HO.out), HN2, HC2, HS2, HB2⟩
            case measure => have := HLT.out; simp [intOf]; omega
      · obtain rfl : k = Rs.length := by omega
        rw [List.take_length] at HN HC ⊢
        clear hbb ho hsz
        go_wp2_with fail
        go_ret
        exact ⟨a3, c3, _, rfl, HN.out, HBr.out, fun _ => rfl, fun h => absurd HO.out h⟩

end Go.Proofs.Ytfcmjgcjmldpcaa
