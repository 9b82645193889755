/- Layer 16: the document's Check, by a contract (genrefcheck.py). -/
import Derived.Test.YtfcmjgcjmldpcaaEditsF
namespace Go.Proofs.Ytfcmjgcjmldpcaa
set_option linter.unusedVariables false
set_option linter.unusedSimpArgs false
open Go Go.RowKit
attribute [local go_sem ↓] run_index_S
attribute [local go_sem] S_append S_extract

/-- While the document looks at a tablet's numbers. -/
structure RcB (w : World) (tb : Nat) (ao : Option Addr) (n cap : Nat) (log next : Int) (f : List UInt8) (l : List Int) (o : Option Addr) (kc : Nat) (x : World) : Prop where
  s : BkIn (stA ao n cap log next) 24 x w.heap.size
  t : BkIn #[.string (S f), .slice o l.length kc] 41 x tb
  ns : NsAt x o l
  bel : Below w.heap.size w x
theorem RcB.below {w : World} {tb : Nat} {ao : Option Addr} {n cap : Nat} {log next : Int} {f : List UInt8} {l : List Int} {o : Option Addr} {kc : Nat} {x y : World} (h : RcB w tb ao n cap log next f l o kc x) (hb : Below x.heap.size x y) : RcB w tb ao n cap log next f l o kc y :=
  ⟨h.s.below hb, h.t.below hb, h.ns.below hb, h.bel.trans (hb.mono h.bel.size)⟩
theorem lastOf_take {l : List Int} {q : Nat} (hq : q < l.length) (h0 : 0 < q) : Ed.lastOf 0 (l.take q) = l.getD (q - 1) 0 := by
  unfold Ed.lastOf
  rw [List.getLast?_eq_getElem?, List.length_take, Nat.min_eq_left (by omega), List.getElem?_take, if_pos (by omega)]
  simp [List.getD, show q - 1 < l.length by omega]
theorem up_prefix {next : Int} {l : List Int} {q : Nat} (h : Ed.up 0 next l) : Ed.up 0 next (l.take q) := by
  have := Ed.up_app (l := l.take q) (k := l.drop q) (last := 0) (next := next)
  rw [List.take_append_drop] at this
  exact this h
set_option maxHeartbeats 8000000 in
set_option maxRecDepth 100000 in
theorem refCheck16_any (Rs : List Rt) (hR : RtsOk Rs) (ao : Option Addr) (cap : Nat) (log next : Int) (w : World) (h : TbsAt w ao Rs) :
    Calls Try.prog 15 #[stV ao Rs.length cap log next] w (CheckR ⟨tbs Rs, log, next⟩ w) := by
  have HA := Lib.hid h
  have HR := Lib.hid hR
  clear h hR
  unfold stV
  go_enter Try.func15, Try.ntmps15
  have HS := Lib.hid (bkIn_new (stA ao Rs.length cap log next) 24 w)
  have HB := Lib.hid ((Below.refl w.heap.size w).alloc (Nat.le_refl _) (.cells (stA ao Rs.length cap log next) 24))
  by_cases a1 : Rs.length < 1
  · have d1 : decide ((Rs.length : Int) < 1) = true := decide_eq_true (by omega)
    have d2 : decide (Rs.length < 1) = true := decide_eq_true (by omega)
    have HF := Lib.hid (show ¬ Ed.Ok ⟨tbs Rs, log, next⟩ from fun h => by have := h.n1; simp only [tbs_length] at this; omega)
    go_wp2_with fail
    go_ret
    exact ⟨false, rfl, iff_no HF.out, HB.out⟩
  have d1 : decide ((Rs.length : Int) < 1) = false := decide_eq_false (by omega)
  have d2 : decide (Rs.length < 1) = false := decide_eq_false (by omega)
  by_cases a2 : 16 < Rs.length
  · have d3 : decide ((16 : Int) < (Rs.length : Int)) = true := decide_eq_true (by omega)
    have d4 : decide (16 < Rs.length) = true := decide_eq_true (by omega)
    have HF := Lib.hid (show ¬ Ed.Ok ⟨tbs Rs, log, next⟩ from fun h => by have := h.n16; simp only [tbs_length] at this; omega)
    go_wp2_with fail
    go_ret
    exact ⟨false, rfl, iff_no HF.out, HB.out⟩
  have d3 : decide ((16 : Int) < (Rs.length : Int)) = false := decide_eq_false (by omega)
  have d4 : decide (16 < Rs.length) = false := decide_eq_false (by omega)
  by_cases a3 : log < 1
  · have d5 : decide (log < 1) = true := decide_eq_true (by omega)
    have HF := Lib.hid (show ¬ Ed.Ok ⟨tbs Rs, log, next⟩ from fun h => by have := h.log1; simp only at this; omega)
    go_wp2_with fail
    go_ret
    exact ⟨false, rfl, iff_no HF.out, HB.out⟩
  have d5 : decide (log < 1) = false := decide_eq_false (by omega)
  by_cases a4 : next ≤ log
  · have d6 : decide (next ≤ log) = true := decide_eq_true (by omega)
    have HF := Lib.hid (show ¬ Ed.Ok ⟨tbs Rs, log, next⟩ from fun h => by have := h.logN; simp only at this; omega)
    go_wp2_with fail
    go_ret
    exact ⟨false, rfl, iff_no HF.out, HB.out⟩
  have d6 : decide (next ≤ log) = false := decide_eq_false (by omega)
  by_cases a5 : 2147483647 < next
  · have d7 : decide (2147483647 < next) = true := decide_eq_true (by omega)
    have HF := Lib.hid (show ¬ Ed.Ok ⟨tbs Rs, log, next⟩ from fun h => by have := h.nextM; simp only at this; omega)
    go_wp2_with fail
    go_ret
    exact ⟨false, rfl, iff_no HF.out, HB.out⟩
  have d7 : decide (2147483647 < next) = false := decide_eq_false (by omega)
  obtain ⟨g, off, rfl, hc⟩ := (HA.out.below HB.out) (fun e => by rw [e] at a1; simp at a1)
  have c0 := (hc 0 (by omega)).1
  rw [Nat.zero_mul, Nat.add_zero] at c0
  clear hc
  have HF0 := Lib.hid (tbs_at Rs 0)
  have hlen : (0 : Int) < (Rs.length : Int) := by omega
  generalize Rs.getD 0 rt0 = r0 at *
  cases q : r0.f.isEmpty with
  | false =>
    have HF := Lib.hid (show ¬ Ed.Ok ⟨tbs Rs, log, next⟩ from fun h => by
      have := h.fst
      simp only [HF0.out, Rt.tb] at this
      rw [this] at q
      cases q)
    go_wp2_with fail
    go_ret
    exact ⟨false, rfl, iff_no HF.out, HB.out⟩
  | true =>
    have HF1 := Lib.hid (show ((tbs Rs).getD 0 Ed.tb0).f = [] from by rw [HF0.out]; exact List.isEmpty_iff.1 q)
    clear HF0
    have HH := Lib.hid (show 1 ≤ log ∧ log < next ∧ next ≤ 2147483647 ∧ 1 ≤ Rs.length ∧ Rs.length ≤ 16 from ⟨by omega, by omega, by omega, by omega, by omega⟩)
    go_wp2_with fail
    clear c0 q d1 d2 d3 d4 d5 d6 d7 a1 a2 a3 a4 a5
    go_loopw [3] (fun i wr => ∃ k : Nat, k ≤ Rs.length ∧ i = .int .i64 k ∧ Hid (∀ j, j < k → Ed.okAt (tbs Rs) next j) ∧ Hid (Below w.heap.size w wr) ∧ Hid (BkIn (stA (some ⟨g, off, none⟩) Rs.length cap log next) 24 wr w.heap.size)) (fun i _ => Rs.length - (intOf i).toNat)
    case atStart => exact ⟨0, Nat.zero_le _, rfl, Lib.hid (fun j hj => absurd hj (by omega)), HB, HS⟩
    case round =>
      obtain ⟨k, hk, rfl, HK, HBr, HSr⟩ := hrel
      clear HB HS
      have zr0 : wr.cell? ⟨w.heap.size, 0, none⟩ = some (.slice (some ⟨g, off, none⟩) Rs.length cap) := HSr.out.cell 0
      by_cases hlt : k < Rs.length
      · have hki : (k : Int) < (Rs.length : Int) := by omega
        obtain ⟨g', off', e, hc⟩ := (HA.out.below HBr.out).off k hlt
        cases e
        have HTb := Lib.hid (tbs_at Rs k)
        have HMem := Lib.hid (Ed.gD_mem (d := rt0) hlt)
        have HTA := Lib.hid hc
        obtain ⟨x0, x1, _⟩ := hc
        generalize Rs.getD k rt0 = r at *
        obtain ⟨f, l, o, kc⟩ := r
        simp only at x0 x1
        go_wp2_with fail
        obtain ⟨w1, hw1⟩ : ∃ x, x = wr.alloc (.cells #[.string (S f), .slice o l.length kc] 41) := ⟨_, rfl⟩
        rw [← hw1]
        have hB1 : Below wr.heap.size wr w1 := by rw [hw1]; exact (Below.refl _ _).alloc (Nat.le_refl _) _
        have HB1 := Lib.hid (HBr.out.trans (hB1.mono HBr.out.size))
        have HX1 := Lib.hid (show RcB w wr.heap.size (some ⟨g, off, none⟩) Rs.length cap log next f l o kc w1 from ⟨HSr.out.below hB1, by rw [hw1]; exact bkIn_new _ _ wr, HTA.out.2.2.below hB1, HB1.out⟩)
        generalize htb : wr.heap.size = tb at *
        have t0 : w1.cell? ⟨tb, 0, none⟩ = some (.string (S f)) := HX1.out.t.cell 0
        have t1 : w1.cell? ⟨tb, 1, none⟩ = some (.slice o l.length kc) := HX1.out.t.cell 1
        have z0 : w1.cell? ⟨w.heap.size, 0, none⟩ = some (.slice (some ⟨g, off, none⟩) Rs.length cap) := HX1.out.s.cell 0
        have z2 : w1.cell? ⟨w.heap.size, 2, none⟩ = some (.int .i64 next) := HX1.out.s.cell 2
        have hlf := HR.out.f _ HMem.out
        have hll := HR.out.l _ HMem.out
        simp only at hlf hll
        have HNO := Lib.hid (show Ed.Ok ⟨tbs Rs, log, next⟩ → (0 < k → Op.bytesLess ((tbs Rs).getD (k - 1) Ed.tb0).f f = true) ∧ f.length ≤ 64 ∧ Ed.rise l next from fun h => by have := h.each k (by simp only [tbs_length]; exact hlt); unfold Ed.okAt at this; simp only [HTb.out, Rt.tb] at this; exact this)
        have HYES := Lib.hid (show (0 < k → Op.bytesLess ((tbs Rs).getD (k - 1) Ed.tb0).f f = true) → ¬ 64 < f.length → Ed.up 0 next l → ¬ 256 < l.length → ∀ j, j < k + 1 → Ed.okAt (tbs Rs) next j from fun h1 h2 h3 h4 j hj => by
            by_cases e : j = k
            · subst e; unfold Ed.okAt; simp only [HTb.out, Rt.tb]; exact ⟨h1, by omega, h3, by omega⟩
            · exact HK.out j (by omega))
        have HLT1 := Lib.hid hlt
        have hB1' := Lib.hid hB1
        clear htb hw1 hB1 HTb HMem HK x0 x1 hlen HTA zr0 HSr
        by_cases h64 : 64 < f.length
        · have e1 : decide ((64 : Int) < (f.length : Int)) = true := decide_eq_true (by omega)
          have e2 : decide (64 < f.length) = true := decide_eq_true h64
          have HF := Lib.hid (show ¬ Ed.Ok ⟨tbs Rs, log, next⟩ from fun h => by have := (HNO.out h).2.1; omega)
          go_quiet (fail)
          have HB2 := Lib.hid (below_drewN HB1.out nq)
          generalize w1.drewN nq = w2 at *
          go_wp2_with fail
          go_ret
          exact ⟨false, rfl, iff_no HF.out, HB2.out⟩
        have HL64 := Lib.hid h64
        have e1 : decide ((64 : Int) < (f.length : Int)) = false := decide_eq_false (by omega)
        have e2 : decide (64 < f.length) = false := decide_eq_false h64
        rcases Nat.eq_zero_or_pos k with hk0 | hk0
        · subst hk0
          have g1 : decide ((0 : Int) < ((0 : Nat) : Int)) = false := rfl
          have HORD := Lib.hid (show 0 < 0 → Op.bytesLess ((tbs Rs).getD (0 - 1) Ed.tb0).f f = true from fun h => absurd h (by omega))
          clear hB1' HBr
          by_cases h256 : 256 < l.length
          · have e3 : decide ((256 : Int) < (l.length : Int)) = true := decide_eq_true (by omega)
            have e4 : decide (256 < l.length) = true := decide_eq_true h256
            have HF := Lib.hid (show ¬ Ed.Ok ⟨tbs Rs, log, next⟩ from fun h => by have := (HNO.out h).2.2.2; omega)
            go_quiet (fail)
            have HB2 := Lib.hid (below_drewN HB1.out nq)
            generalize w1.drewN nq = w2 at *
            go_wp2_with fail
            go_ret
            exact ⟨false, rfl, iff_no HF.out, HB2.out⟩
          have HL256 := Lib.hid h256
          have e3 : decide ((256 : Int) < (l.length : Int)) = false := decide_eq_false (by omega)
          have e4 : decide (256 < l.length) = false := decide_eq_false h256
          go_quiet (fail)
          have HX0 := Lib.hid (HX1.out.below (below_drewN (Below.refl w1.heap.size w1) nq))
          generalize w1.drewN nq = w2 at *
          clear HX1 HB1 t0 t1 z0 z2 e1 e2 e3 e4 h64 h256
          go_wp2_with fail
          go_loopw [5] (fun j wx => ∃ q : Nat, q ≤ l.length ∧ j = .int .i64 q ∧ Hid (Ed.up 0 next (l.take q)) ∧ Hid (RcB w tb (some ⟨g, off, none⟩) Rs.length cap log next f l o kc wx)) (fun j _ => l.length - (intOf j).toNat)
          case atStart => exact ⟨0, Nat.zero_le _, rfl, Lib.hid trivial, HX0⟩
          case round =>
            rename World => wx
            obtain ⟨q, hq, rfl, HU, HX⟩ := hrel
            clear HX0
            have t1 : wx.cell? ⟨tb, 1, none⟩ = some (.slice o l.length kc) := HX.out.t.cell 1
            have z2 : wx.cell? ⟨w.heap.size, 2, none⟩ = some (.int .i64 next) := HX.out.s.cell 2
            have hl256 : l.length ≤ 256 := by have := HL256.out; omega
            by_cases hqn : q < l.length
            · have hqi : (q : Int) < (l.length : Int) := by omega
              obtain ⟨gn, on, e, x0⟩ := HX.out.ns.off q hqn
              subst e
              have HSN := Lib.hid (Ed.take_snoc l q 0 hqn)
              have HUP := Lib.hid (fun (h : Ed.up 0 next l) => (And.intro (Ed.up_take h _ (Ed.gD_mem (d := 0) hqn)) (up_prefix (q := q + 1) h)))
              have HQN := Lib.hid hqn
              obtain ⟨n, hn⟩ : ∃ n, n = l.getD q 0 := ⟨_, rfl⟩
              rw [← hn] at x0 HSN HUP
              clear hn
              by_cases c1 : n < 1
              · have d1 : decide (n < 1) = true := decide_eq_true c1
                have HF := Lib.hid (show ¬ Ed.Ok ⟨tbs Rs, log, next⟩ from fun h => by have := (HUP.out (HNO.out h).2.2.1).1; omega)
                clear HUP HSN HU
                go_wp2_with fail
                go_quiet (fail)
                have HB2 := Lib.hid (below_drewN HX.out.bel nq)
                generalize wx.drewN nq = w3 at *
                go_wp2_with fail
                go_ret
                exact ⟨false, rfl, iff_no HF.out, HB2.out⟩
              have d1 : decide (n < 1) = false := decide_eq_false c1
              by_cases c2 : next ≤ n
              · have d2 : decide (next ≤ n) = true := decide_eq_true c2
                have HF := Lib.hid (show ¬ Ed.Ok ⟨tbs Rs, log, next⟩ from fun h => by have := (HUP.out (HNO.out h).2.2.1).1; omega)
                clear HUP HSN HU
                go_wp2_with fail
                go_quiet (fail)
                have HB2 := Lib.hid (below_drewN HX.out.bel nq)
                generalize wx.drewN nq = w3 at *
                go_wp2_with fail
                go_ret
                exact ⟨false, rfl, iff_no HF.out, HB2.out⟩
              have d2 : decide (next ≤ n) = false := decide_eq_false c2
              rcases Nat.eq_zero_or_pos q with hq0 | hq0
              · subst hq0
                rw [Nat.add_zero] at x0
                have g1 : decide ((0 : Int) < ((0 : Nat) : Int)) = false := rfl
                have HU1 := Lib.hid (show Ed.up 0 next (l.take (0 + 1)) from by rw [HSN.out]; exact ⟨by omega, by omega, trivial⟩)
                clear HUP HSN HU c1 c2
                go_wp2_with fail
                go_quiet (fail)
                have HX3 := Lib.hid (HX.out.below (below_drewN (Below.refl wx.heap.size wx) nq))
                clear HX t1 z2 x0
                generalize wx.drewN nq = w3 at *
                go_wp2_with fail
                go_roundw
                case rel => exact ⟨0 + 1, by have := HQN.out; omega, by go_num, HU1, HX3⟩
                case measure => have := HQN.out; simp [intOf]; omega
              · have g1 : decide ((0 : Int) < (q : Int)) = true := decide_eq_true (by omega)
                have g2 : decide (0 < q) = true := decide_eq_true hq0
                obtain ⟨m, hm⟩ : ∃ m, m = q - 1 := ⟨_, rfl⟩
                obtain ⟨gn', on', e, x1⟩ := HX.out.ns.off m (by omega)
                cases e
                have HLT := Lib.hid (lastOf_take HQN.out hq0)
                rw [← hm] at HLT
                have hm0 : ((q : Int) - 1) = (m : Int) := by omega
                have hm1 : IntKind.i64.wrap (m : Int) = (m : Int) := IntWalk.i64_in _ (by omega)
                have hmi : (m : Int) < (l.length : Int) := by omega
                clear hm
                generalize l.getD m 0 = p at *
                by_cases c3 : n ≤ p
                · have d3 : decide (n ≤ p) = true := decide_eq_true c3
                  have HF := Lib.hid (show ¬ Ed.Ok ⟨tbs Rs, log, next⟩ from fun h => by
                    have h1 := (HUP.out (HNO.out h).2.2.1).2
                    rw [HSN.out, Ed.up_snoc, HLT.out] at h1
                    omega)
                  clear HUP HSN HU HLT
                  go_wp2_with fail
                  go_quiet (fail)
                  have HB2 := Lib.hid (below_drewN HX.out.bel nq)
                  generalize wx.drewN nq = w3 at *
                  go_wp2_with fail
                  go_ret
                  exact ⟨false, rfl, iff_no HF.out, HB2.out⟩
                have d3 : decide (n ≤ p) = false := decide_eq_false c3
                have HU1 := Lib.hid (show Ed.up 0 next (l.take (q + 1)) from by rw [HSN.out, Ed.up_snoc, HLT.out]; exact ⟨HU.out, by omega, by omega⟩)
                clear HUP HSN HU HLT c1 c2 c3
                go_wp2_with fail
                go_quiet (fail)
                have HX3 := Lib.hid (HX.out.below (below_drewN (Below.refl wx.heap.size wx) nq))
                clear HX t1 z2 x0 x1
                generalize wx.drewN nq = w3 at *
                go_wp2_with fail
                go_roundw
                case rel => exact ⟨q + 1, by have := HQN.out; omega, by go_num, HU1, HX3⟩
                case measure => have := HQN.out; simp [intOf]; omega
            · obtain rfl : q = l.length := by omega
              have HK2 := Lib.hid (HYES.out HORD.out HL64.out (by have := HU.out; rwa [List.take_length] at this) HL256.out)
              have HSr := Lib.hid HX.out.s
              have HBr := Lib.hid HX.out.bel
              clear HU
              go_wp2_with fail
              go_roundw
              case rel => exact ⟨0 + 1, by have := HLT1.out; omega, by go_num, HK2, HBr, HSr⟩
              case measure => have := HLT1.out; simp [intOf]; omega
        · obtain ⟨m, hm⟩ : ∃ m, k = m + 1 := ⟨k - 1, by omega⟩
          have g1 : decide ((0 : Int) < (k : Int)) = true := decide_eq_true (by omega)
          have g2 : decide (0 < k) = true := decide_eq_true (by omega)
          obtain ⟨g', off', e, hc⟩ := (HA.out.below HB1.out).off m (by have := HLT1.out; omega)
          cases e
          have c0 := hc.1
          have HTm := Lib.hid (tbs_at Rs m)
          clear hc HBr
          generalize Rs.getD m rt0 = r at *
          obtain ⟨pf, pl, po, pk⟩ := r
          simp only at c0
          have hk16 : k < 16 := by have := HH.out; have := HLT1.out; omega
          have hmk : (m : Int) < (Rs.length : Int) := by omega
          have hm0 : ((k : Int) - 1) = (m : Int) := by omega
          have hm1 : IntKind.i64.wrap (m : Int) = (m : Int) := IntWalk.i64_in _ (by have := HH.out; omega)
          have HP := Lib.hid (show ((tbs Rs).getD (k - 1) Ed.tb0).f = pf from by rw [show k - 1 = m from by omega, HTm.out]; rfl)
          clear HTm hm
          cases hlq : Op.bytesLess pf f with
          | false =>
            have HF := Lib.hid (show ¬ Ed.Ok ⟨tbs Rs, log, next⟩ from fun h => by
                have := (HNO.out h).1 (by omega)
                rw [HP.out, hlq] at this
                cases this)
            go_quiet (fail)
            have HB2 := Lib.hid (below_drewN HB1.out nq)
            generalize w1.drewN nq = w2 at *
            go_wp2_with fail
            go_ret
            exact ⟨false, rfl, iff_no HF.out, HB2.out⟩
          | true =>
          have HORD := Lib.hid (show 0 < k → Op.bytesLess ((tbs Rs).getD (k - 1) Ed.tb0).f f = true from fun _ => by rw [HP.out]; exact hlq)
          by_cases h256 : 256 < l.length
          · have e3 : decide ((256 : Int) < (l.length : Int)) = true := decide_eq_true (by omega)
            have e4 : decide (256 < l.length) = true := decide_eq_true h256
            have HF := Lib.hid (show ¬ Ed.Ok ⟨tbs Rs, log, next⟩ from fun h => by have := (HNO.out h).2.2.2; omega)
            go_quiet (fail)
            have HB2 := Lib.hid (below_drewN HB1.out nq)
            generalize w1.drewN nq = w2 at *
            go_wp2_with fail
            go_ret
            exact ⟨false, rfl, iff_no HF.out, HB2.out⟩
          have HL256 := Lib.hid h256
          have e3 : decide ((256 : Int) < (l.length : Int)) = false := decide_eq_false (by omega)
          have e4 : decide (256 < l.length) = false := decide_eq_false h256
          go_quiet (fail)
          have HX0 := Lib.hid (HX1.out.below (below_drewN (Below.refl w1.heap.size w1) nq))
          generalize w1.drewN nq = w2 at *
          clear HX1 HB1 t0 t1 z0 z2 e1 e2 e3 e4 h64 h256 c0 hlq
          go_wp2_with fail
          go_loopw [5] (fun j wx => ∃ q : Nat, q ≤ l.length ∧ j = .int .i64 q ∧ Hid (Ed.up 0 next (l.take q)) ∧ Hid (RcB w tb (some ⟨g, off, none⟩) Rs.length cap log next f l o kc wx)) (fun j _ => l.length - (intOf j).toNat)
          case atStart => exact ⟨0, Nat.zero_le _, rfl, Lib.hid trivial, HX0⟩
          case round =>
            rename World => wx
            obtain ⟨q, hq, rfl, HU, HX⟩ := hrel
            clear HX0
            have t1 : wx.cell? ⟨tb, 1, none⟩ = some (.slice o l.length kc) := HX.out.t.cell 1
            have z2 : wx.cell? ⟨w.heap.size, 2, none⟩ = some (.int .i64 next) := HX.out.s.cell 2
            have hl256 : l.length ≤ 256 := by have := HL256.out; omega
            by_cases hqn : q < l.length
            · have hqi : (q : Int) < (l.length : Int) := by omega
              obtain ⟨gn, on, e, x0⟩ := HX.out.ns.off q hqn
              subst e
              have HSN := Lib.hid (Ed.take_snoc l q 0 hqn)
              have HUP := Lib.hid (fun (h : Ed.up 0 next l) => (And.intro (Ed.up_take h _ (Ed.gD_mem (d := 0) hqn)) (up_prefix (q := q + 1) h)))
              have HQN := Lib.hid hqn
              obtain ⟨n, hn⟩ : ∃ n, n = l.getD q 0 := ⟨_, rfl⟩
              rw [← hn] at x0 HSN HUP
              clear hn
              by_cases c1 : n < 1
              · have d1 : decide (n < 1) = true := decide_eq_true c1
                have HF := Lib.hid (show ¬ Ed.Ok ⟨tbs Rs, log, next⟩ from fun h => by have := (HUP.out (HNO.out h).2.2.1).1; omega)
                clear HUP HSN HU
                go_wp2_with fail
                go_quiet (fail)
                have HB2 := Lib.hid (below_drewN HX.out.bel nq)
                generalize wx.drewN nq = w3 at *
                go_wp2_with fail
                go_ret
                exact ⟨false, rfl, iff_no HF.out, HB2.out⟩
              have d1 : decide (n < 1) = false := decide_eq_false c1
              by_cases c2 : next ≤ n
              · have d2 : decide (next ≤ n) = true := decide_eq_true c2
                have HF := Lib.hid (show ¬ Ed.Ok ⟨tbs Rs, log, next⟩ from fun h => by have := (HUP.out (HNO.out h).2.2.1).1; omega)
                clear HUP HSN HU
                go_wp2_with fail
                go_quiet (fail)
                have HB2 := Lib.hid (below_drewN HX.out.bel nq)
                generalize wx.drewN nq = w3 at *
                go_wp2_with fail
                go_ret
                exact ⟨false, rfl, iff_no HF.out, HB2.out⟩
              have d2 : decide (next ≤ n) = false := decide_eq_false c2
              rcases Nat.eq_zero_or_pos q with hq0 | hq0
              · subst hq0
                rw [Nat.add_zero] at x0
                have g1 : decide ((0 : Int) < ((0 : Nat) : Int)) = false := rfl
                have HU1 := Lib.hid (show Ed.up 0 next (l.take (0 + 1)) from by rw [HSN.out]; exact ⟨by omega, by omega, trivial⟩)
                clear HUP HSN HU c1 c2
                go_wp2_with fail
                go_quiet (fail)
                have HX3 := Lib.hid (HX.out.below (below_drewN (Below.refl wx.heap.size wx) nq))
                clear HX t1 z2 x0
                generalize wx.drewN nq = w3 at *
                go_wp2_with fail
                go_roundw
                case rel => exact ⟨0 + 1, by have := HQN.out; omega, by go_num, HU1, HX3⟩
                case measure => have := HQN.out; simp [intOf]; omega
              · have g1 : decide ((0 : Int) < (q : Int)) = true := decide_eq_true (by omega)
                have g2 : decide (0 < q) = true := decide_eq_true hq0
                obtain ⟨m, hm⟩ : ∃ m, m = q - 1 := ⟨_, rfl⟩
                obtain ⟨gn', on', e, x1⟩ := HX.out.ns.off m (by omega)
                cases e
                have HLT := Lib.hid (lastOf_take HQN.out hq0)
                rw [← hm] at HLT
                have hm0 : ((q : Int) - 1) = (m : Int) := by omega
                have hm1 : IntKind.i64.wrap (m : Int) = (m : Int) := IntWalk.i64_in _ (by omega)
                have hmi : (m : Int) < (l.length : Int) := by omega
                clear hm
                generalize l.getD m 0 = p at *
                by_cases c3 : n ≤ p
                · have d3 : decide (n ≤ p) = true := decide_eq_true c3
                  have HF := Lib.hid (show ¬ Ed.Ok ⟨tbs Rs, log, next⟩ from fun h => by
                    have h1 := (HUP.out (HNO.out h).2.2.1).2
                    rw [HSN.out, Ed.up_snoc, HLT.out] at h1
                    omega)
                  clear HUP HSN HU HLT
                  go_wp2_with fail
                  go_quiet (fail)
                  have HB2 := Lib.hid (below_drewN HX.out.bel nq)
                  generalize wx.drewN nq = w3 at *
                  go_wp2_with fail
                  go_ret
                  exact ⟨false, rfl, iff_no HF.out, HB2.out⟩
                have d3 : decide (n ≤ p) = false := decide_eq_false c3
                have HU1 := Lib.hid (show Ed.up 0 next (l.take (q + 1)) from by rw [HSN.out, Ed.up_snoc, HLT.out]; exact ⟨HU.out, by omega, by omega⟩)
                clear HUP HSN HU HLT c1 c2 c3
                go_wp2_with fail
                go_quiet (fail)
                have HX3 := Lib.hid (HX.out.below (below_drewN (Below.refl wx.heap.size wx) nq))
                clear HX t1 z2 x0 x1
                generalize wx.drewN nq = w3 at *
                go_wp2_with fail
                go_roundw
                case rel => exact ⟨q + 1, by have := HQN.out; omega, by go_num, HU1, HX3⟩
                case measure => have := HQN.out; simp [intOf]; omega
            · obtain rfl : q = l.length := by omega
              have HK2 := Lib.hid (HYES.out HORD.out HL64.out (by have := HU.out; rwa [List.take_length] at this) HL256.out)
              have HSr := Lib.hid HX.out.s
              have HBr := Lib.hid HX.out.bel
              clear HU
              go_wp2_with fail
              go_roundw
              case rel => exact ⟨k + 1, by have := HLT1.out; omega, by go_num, HK2, HBr, HSr⟩
              case measure => have := HLT1.out; simp [intOf]; omega
      · obtain rfl : k = Rs.length := by omega
        have HO := Lib.hid (show Ed.Ok ⟨tbs Rs, log, next⟩ from by
          obtain ⟨h1, h2, h3, h4, h5⟩ := HH.out
          exact ⟨by simp only [tbs_length]; exact h4, by simp only [tbs_length]; exact h5, h1, h2, h3, HF1.out, fun i hi => HK.out i (by simp only [tbs_length] at hi; exact hi)⟩)
        go_wp2_with fail
        go_ret
        exact ⟨true, rfl, ⟨fun _ => HO.out, fun _ => rfl⟩, HBr.out⟩

end Go.Proofs.Ytfcmjgcjmldpcaa
