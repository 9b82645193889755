/- Layer 15: Cut, by a contract. -/
import Derived.Test.YthidmgnfdikppaaMemR
import Derived.Deep.RegionHeld3
namespace Go.Proofs.Ythidmgnfdikppaa
set_option linter.unusedVariables false
set_option linter.unusedSimpArgs false
open Go Go.RowKit
attribute [local go_sem ↓] run_index_S
attribute [local go_sem] S_append S_extract

theorem OfIn.below {B q o : Nat} {ao : Option Addr} {L : List M.Cl} {w w' : World} (h : OfIn B q o ao L w) (hb : Below w.heap.size w w') : OfIn B q o ao L w' := fun k => by
  obtain ⟨a, b, ⟨C, c⟩, d⟩ := h k
  exact ⟨a, b, ⟨C, c.below hb⟩, fun j hj => (d j hj).below hb⟩
theorem OfIn.take {B q o : Nat} {ao : Option Addr} {L : List M.Cl} {w : World} (h : OfIn B q o ao L w) (n : Nat) : OfIn B q o ao (L.take n) w := fun k => by
  rw [List.length_take] at k
  obtain ⟨a, b, c, d⟩ := h (by omega)
  refine ⟨a, b, c, fun j hj => ?_⟩
  rw [List.length_take] at hj
  have := d j (by omega)
  rw [show (L.take n).getD j M.cl0 = L.getD j M.cl0 from by simp [List.getD, List.getElem?_take, show j < n from by omega]]
  exact this
theorem OfIn.drop {B q o : Nat} {ao ao' : Option Addr} {L : List M.Cl} {w : World} (h : OfIn B q o ao L w) (n : Nat) (ha : 0 < L.length - n → ao' = some ⟨q, o + n * 3, none⟩) : OfIn B q (o + n * 3) ao' (L.drop n) w := fun k => by
  rw [List.length_drop] at k
  obtain ⟨a, b, c, d⟩ := h (by omega)
  refine ⟨ha k, b, c, fun j hj => ?_⟩
  rw [List.length_drop] at hj
  have := d (n + j) (by omega)
  rw [show (L.drop n).getD j M.cl0 = L.getD (n + j) M.cl0 from by simp [List.getD], show o + n * 3 + j * 3 = o + (n + j) * 3 from by omega]
  exact this
theorem M.strict_filter {L : List M.Cl} (h : M.Stt L) (f : M.Cl → Bool) : M.Stt (L.filter f) := List.Pairwise.sublist List.filter_sublist h
def CutR (L : List M.Cl) (key : List UInt8) (w : World) (e : Ending) (w' : World) : Prop :=
  ∃ b1 pa1 pc1 P1 b2 pa2 pc2 P2, e = .returned (.tuple #[.pointer (some ⟨b1, 0, none⟩), .pointer (some ⟨b2, 0, none⟩)]) ∧ MemAt w.heap.size b1 pa1 pc1 P1 (L.filter (M.below key)) w' ∧ MemAt w.heap.size b2 pa2 pc2 P2 (L.filter (fun c => !M.below key c)) w' ∧ SmP P1 ∧ SmP P2 ∧ (∀ k, WrS b1 pa1 P1 k → ¬ FtS b2 pa2 P2 k) ∧ (∀ k, WrS b2 pa2 P2 k → ¬ FtS b1 pa1 P1 k) ∧ Below w.heap.size w w'
set_option maxHeartbeats 4000000 in
set_option maxRecDepth 100000 in
theorem cut15_any (B b : Nat) (pa : Option Addr) (pc : Nat) (Ps : List M.Pg) (L : List M.Cl) (key : List UInt8) (w : World) (h : MemAt B b pa pc Ps L w) :
    Calls Try.prog 60 #[.pointer (some ⟨b, 0, none⟩), .string (S key)] w (CutR L key w) := by
  have hal := (Below.refl w.heap.size w).alloc (Nat.le_refl _) (.cells #[.string (S key)] 9)
  have HB := Lib.hid hal
  have HK := Lib.hid (rowIn_new #[.string (S key)] 9 w)
  have CA := Lib.hid (range15_any B b pa pc Ps L [] [] _ (h.below hal) (by simp) (by simp))
  rw [M.range_nil] at CA
  unfold RangeR10 at CA
  have hnl := h.nL
  have HST := Lib.hid h.st
  have HOK := Lib.hid h.okc
  have hmf : ∀ (fn : Fn) (first cap : Array Value) (w : World), (Instr.makeFunc fn first cap).run Try.prog w = .ok (.func fn first cap) w := fun _ _ _ _ => rfl
  clear h hal
  go_enter Try.func60, Try.ntmps60
  go_wp2_with fail
  refine (CA.out).mono ?_
  rintro e w1 ⟨ao, cap, rfl, hown, hbel⟩
  replace HB := Lib.hid (HB.out.trans (hbel.mono HB.out.size))
  replace HK := carry hbel HK
  have HO := Lib.hid (show w1.ownsRow w.heap.size 38 3 (.slice ao L.length cap) L.length (cls L) from ownP_mono hown (by rw [szA]; exact Nat.le_succ _))
  clear hown hbel CA
  obtain ⟨kb, hkb⟩ : ∃ x, x = w.heap.size := ⟨_, rfl⟩
  rw [← hkb] at HK ⊢
  clear hkb
  go_wp2_with fail
  obtain ⟨q, hq1, hq2, hqw⟩ : ∃ q, OfIn w.heap.size q 0 ao L w1 ∧ L.length ≤ cap ∧ q ≤ w1.heap.size := by
    obtain ⟨q, a, b, c⟩ := ofIn_own HO.out
    rcases Nat.eq_zero_or_pos L.length with e | e
    · exact ⟨0, fun k => absurd k (by omega), b, Nat.zero_le _⟩
    · obtain ⟨_, _, ⟨C, hC⟩, _⟩ := a e
      exact ⟨q, a, b, Nat.le_of_lt hC.lt⟩
  have HAO := Lib.hid (show (ao = none ∧ cap = 0) ∨ ∃ g, ao = some ⟨g, 0, none⟩ ∧ (0 < L.length → g = q) from by
    rcases HO.out.2 with ⟨e, _⟩ | ⟨g, c', cur, e, _⟩
    · injection e with e1 e2 e3
      exact .inl ⟨e1, e3⟩
    · injection e with e1 e2 e3
      refine .inr ⟨g, e1, fun k => ?_⟩
      have := (hq1 k).1
      rw [e1] at this
      injection this with this
      injection this with this)
  have HB2 := carryA (w := w1) (.cells #[.slice ao L.length cap] 22) HB
  have HLB := Lib.hid (rowIn_new #[.slice ao L.length cap] 22 w1)
  have HIN := Lib.hid (hq1.below ((Below.refl w1.heap.size w1).alloc (Nat.le_refl _) (.cells #[.slice ao L.length cap] 22)))
  have HKB := carryA (w := w1) (.cells #[.slice ao L.length cap] 22) HK
  have CS := Lib.hid (cutS15_any ao cap q w1.heap.size kb L key HST.out (by omega) (w1.alloc (.cells #[.slice ao L.length cap] 22)) ⟨HLB.out, HKB.out, fun k => (HIN.out k).1, fun j hj => by
    have := (HIN.out (by omega)).2.2.2 j hj
    rw [Nat.zero_add] at this
    exact this⟩)
  obtain ⟨W1, hW1⟩ : ∃ W, W = w1.alloc (.cells #[.slice ao L.length cap] 22) := ⟨_, rfl⟩
  obtain ⟨lb, hlb⟩ : ∃ x, x = w1.heap.size := ⟨_, rfl⟩
  rw [← hW1] at HLB HIN CS HB2 ⊢
  rw [← hlb] at HLB CS ⊢
  rw [← hlb] at hqw
  clear hW1 hlb HK HB hq1 HKB
  refine (CS.out).mono ?_
  rintro e w2 ⟨rfl, hb⟩
  replace HB2 := carry hb HB2
  replace HLB := carry hb HLB
  replace HIN := Lib.hid (HIN.out.below hb)
  have HQ := Lib.hid (Nat.lt_of_le_of_lt hqw HLB.out.lt)
  clear hb CS HO hqw
  have e1 : (L.filter (M.below key)).length = M.cutN L key := rfl
  obtain ⟨ct1, ct2⟩ := M.cut_take HST.out key
  have hnl2 : M.cutN L key ≤ L.length := List.length_filter_le _ _
  have CO1 := Lib.hid (fun W (hW : Below w.heap.size w W) (hI : OfIn w.heap.size q 0 ao L W) => of15_any w.heap.size q 0 ao cap (L.filter (M.below key)) W (by rw [← ct1]; exact hI.take _) (by rw [e1]; omega) (M.strict_filter HST.out _) (fun c hc => HOK.out c ((List.mem_filter.1 hc).1)) (by rw [e1]; omega) hW.size)
  have CO2 := Lib.hid (fun W ao2 (ha : 0 < L.length - M.cutN L key → ao2 = some ⟨q, 0 + M.cutN L key * 3, none⟩) (hW : Below w.heap.size w W) (hI : OfIn w.heap.size q 0 ao L W) => of15_any w.heap.size q (0 + M.cutN L key * 3) ao2 (cap - M.cutN L key) (L.filter (fun c => !M.below key c)) W (by rw [← ct2]; exact hI.drop _ ha) (by rw [← ct2, List.length_drop]; omega) (M.strict_filter HST.out _) (fun c hc => HOK.out c ((List.mem_filter.1 hc).1)) (by rw [← ct2, List.length_drop]; omega) hW.size)
  have HE2 : (L.filter (fun c => !M.below key c)).length = L.length - M.cutN L key := by rw [← ct2, List.length_drop]
  rw [HE2] at CO2
  rw [e1] at CO1
  have HCR : Hid (CutR L key w = fun e w' => ∃ b1 pa1 pc1 P1 b2 pa2 pc2 P2, e = .returned (.tuple #[.pointer (some ⟨b1, 0, none⟩), .pointer (some ⟨b2, 0, none⟩)]) ∧ MemAt w.heap.size b1 pa1 pc1 P1 (L.filter (M.below key)) w' ∧ MemAt w.heap.size b2 pa2 pc2 P2 (L.filter (fun c => !M.below key c)) w' ∧ SmP P1 ∧ SmP P2 ∧ (∀ k, WrS b1 pa1 P1 k → ¬ FtS b2 pa2 P2 k) ∧ (∀ k, WrS b2 pa2 P2 k → ¬ FtS b1 pa1 P1 k) ∧ Below w.heap.size w w') := Lib.hid rfl
  unfold OfQ at CO1 CO2
  clear ct1 ct2 e1 HE2 HST HOK
  generalize L.filter (M.below key) = LA at *
  generalize L.filter (fun c => !M.below key c) = LB at *
  generalize M.cutN L key = n at *
  have z0 : w2.cell? ⟨lb, 0, none⟩ = some (.slice ao L.length cap) := HLB.out.cell 0
  have HCO := Lib.hid (And.intro CO1.out CO2.out)
  clear CO1 CO2
  by_cases hcn : cap = n
  · obtain rfl : cap = L.length := by omega
    obtain rfl : n = L.length := by omega
    have CO1 := Lib.hid (fun W hW hI => HCO.out.1 W hW hI)
    have CO2 := Lib.hid (fun W hW hI => HCO.out.2 W ao (fun k => absurd k (by omega)) hW hI)
    rw [Nat.sub_self] at CO2
    clear HCO hnl2 hq2 hcn
    have CA := Lib.hid (CO1.out w2.drew HB2.out.drew (HIN.out.below (Below.refl _ _).drew))
    go_wp2_with fail
    go_region_held3 (fun W => W.cell? ⟨lb, 0, none⟩ = some (.slice ao L.length L.length)) (go_keep) (first
      | (go_at_call 104; (with_reducible refine (CA.out).mono ?_); rintro e w3 ⟨b1, pa1, pc1, P1, rfl, hm1, hs1, hw1, hf1, hb1⟩; have hbx : Below w2.heap.size w2 w3 := ((Below.refl _ w2).drew).trans hb1; have HM1 := Lib.hid (And.intro hm1 (And.intro hs1 (And.intro hf1 (HB2.out.trans (hbx.mono HB2.out.size))))); have HW1 := Lib.hid hw1; have z3 : w3.cell? ⟨lb, 0, none⟩ = some (.slice ao L.length L.length) := (HLB.out.below hbx).cell 0; have CB := Lib.hid (And.intro (CO2.out w3 HM1.out.2.2.2 (HIN.out.below hbx)) (CO2.out w3.drew HM1.out.2.2.2.drew (HIN.out.below hbx.drew))); have HLB3 := Lib.hid (HLB.out.below hbx); clear hm1 hs1 hw1 hf1 hb1 hbx)
      | (go_at_call 104; (with_reducible refine (CB.out.1).mono ?_); rintro e w4 ⟨b2, pa2, pc2, P2, rfl, hm2, hs2, hw2, hf2, hb2⟩; have HM2 := Lib.hid (And.intro hm2 (And.intro hs2 (And.intro hw2 (And.intro hf2 hb2)))); have z4 : w4.cell? ⟨lb, 0, none⟩ = some (.slice ao L.length L.length) := (HLB3.out.below HM2.out.2.2.2.2).cell 0; clear hm2 hs2 hw2 hf2 hb2)
      | (go_at_call 104; (with_reducible refine (CB.out.2).mono ?_); rintro e w4 ⟨b2, pa2, pc2, P2, rfl, hm2, hs2, hw2, hf2, hb2⟩; have HM2 := Lib.hid (And.intro hm2 (And.intro hs2 (And.intro hw2 (And.intro hf2 (((Below.refl _ w3).drew).trans hb2))))); have z4 : w4.cell? ⟨lb, 0, none⟩ = some (.slice ao L.length L.length) := (HLB3.out.below HM2.out.2.2.2.2).cell 0; clear hm2 hs2 hw2 hf2 hb2))
    all_goals
      go_wp2_with fail
      go_ret2
      obtain ⟨m1, s1, f1, bl1⟩ := HM1.out
      obtain ⟨m2, s2, wr2, f2, bl2⟩ := HM2.out
      have hqq := HQ.out
      show CutR L key w _ _
      rw [HCR.out]
      exact ⟨b1, pa1, pc1, P1, b2, pa2, pc2, P2, rfl, m1.below bl2, m2, s1, s2, fun k h1 h2 => by
        have k1 : w2.heap.size ≤ k := HW1.out k h1
        have k2 := (m1.wr h1).2
        rcases f2 k h2 with e | e
        · omega
        · omega, fun k h1 h2 => by
        have k1 := wr2 k h1
        have k2 := (m1.ft h2).2
        omega, bl1.trans (bl2.mono bl1.size)⟩
  · rcases HAO.out with ⟨_, e⟩ | ⟨g, rfl, hg⟩
    · exact absurd (show cap = n by omega) hcn
    have CO1 := Lib.hid (fun W hW hI => HCO.out.1 W hW hI)
    have CO2 := Lib.hid (fun W hW hI => HCO.out.2 W (some ⟨g, n * 3, none⟩) (fun k => by rw [hg (by omega), Nat.zero_add]) hW hI)
    have hnc : n ≤ cap := by omega
    clear HCO hg
    have CA := Lib.hid (CO1.out w2.drew HB2.out.drew (HIN.out.below (Below.refl _ _).drew))
    go_wp2_with fail
    go_region_held3 (fun W => W.cell? ⟨lb, 0, none⟩ = some (.slice (some ⟨g, 0, none⟩) L.length cap)) (go_keep) (first
      | (go_at_call 104; (with_reducible refine (CA.out).mono ?_); rintro e w3 ⟨b1, pa1, pc1, P1, rfl, hm1, hs1, hw1, hf1, hb1⟩; have hbx : Below w2.heap.size w2 w3 := ((Below.refl _ w2).drew).trans hb1; have HM1 := Lib.hid (And.intro hm1 (And.intro hs1 (And.intro hf1 (HB2.out.trans (hbx.mono HB2.out.size))))); have HW1 := Lib.hid hw1; have z3 : w3.cell? ⟨lb, 0, none⟩ = some (.slice (some ⟨g, 0, none⟩) L.length cap) := (HLB.out.below hbx).cell 0; have CB := Lib.hid (And.intro (CO2.out w3 HM1.out.2.2.2 (HIN.out.below hbx)) (CO2.out w3.drew HM1.out.2.2.2.drew (HIN.out.below hbx.drew))); have HLB3 := Lib.hid (HLB.out.below hbx); clear hm1 hs1 hw1 hf1 hb1 hbx)
      | (go_at_call 104; (with_reducible refine (CB.out.1).mono ?_); rintro e w4 ⟨b2, pa2, pc2, P2, rfl, hm2, hs2, hw2, hf2, hb2⟩; have HM2 := Lib.hid (And.intro hm2 (And.intro hs2 (And.intro hw2 (And.intro hf2 hb2)))); have z4 : w4.cell? ⟨lb, 0, none⟩ = some (.slice (some ⟨g, 0, none⟩) L.length cap) := (HLB3.out.below HM2.out.2.2.2.2).cell 0; clear hm2 hs2 hw2 hf2 hb2)
      | (go_at_call 104; (with_reducible refine (CB.out.2).mono ?_); rintro e w4 ⟨b2, pa2, pc2, P2, rfl, hm2, hs2, hw2, hf2, hb2⟩; have HM2 := Lib.hid (And.intro hm2 (And.intro hs2 (And.intro hw2 (And.intro hf2 (((Below.refl _ w3).drew).trans hb2))))); have z4 : w4.cell? ⟨lb, 0, none⟩ = some (.slice (some ⟨g, 0, none⟩) L.length cap) := (HLB3.out.below HM2.out.2.2.2.2).cell 0; clear hm2 hs2 hw2 hf2 hb2))
    all_goals
      go_wp2_with fail
      go_ret2
      obtain ⟨m1, s1, f1, bl1⟩ := HM1.out
      obtain ⟨m2, s2, wr2, f2, bl2⟩ := HM2.out
      have hqq := HQ.out
      show CutR L key w _ _
      rw [HCR.out]
      exact ⟨b1, pa1, pc1, P1, b2, pa2, pc2, P2, rfl, m1.below bl2, m2, s1, s2, fun k h1 h2 => by
        have k1 : w2.heap.size ≤ k := HW1.out k h1
        have k2 := (m1.wr h1).2
        rcases f2 k h2 with e | e
        · omega
        · omega, fun k h1 h2 => by
        have k1 := wr2 k h1
        have k2 := (m1.ft h2).2
        omega, bl1.trans (bl2.mono bl1.size)⟩

end Go.Proofs.Ythidmgnfdikppaa
