/- Layer 5: DiskRoom, walked. -/
import Derived.Test.YtekmnpmeienhhaaDiskH
namespace Go.Proofs.Ytekmnpmeienhhaa
set_option linter.unusedVariables false
open Go Go.RowKit Go.Maps

/-- An act's cells, read. -/
theorem names_up5 {L : List Dk.Fl} (h : Dk.OkL L) {k : Nat} (hk : k + 1 < (Dk.names L).length) : Op.bytesLess ((Dk.names L).getD k []) ((Dk.names L).getD (k + 1) []) = true := by
  have hl : (Dk.names L).length = L.length := by simp [Dk.names]
  have h1 : (Dk.names L).Pairwise (fun a b => Op.bytesLess a b = true) := List.pairwise_map.2 h.up
  have h2 := List.pairwise_iff_getElem.1 h1 k (k + 1) (by omega) hk (by omega)
  simpa [List.getD, hk, show k < (Dk.names L).length from by omega] using h2
theorem names_ok5 {L : List Dk.Fl} (h : Dk.OkL L) {k : Nat} (hk : k < (Dk.names L).length) : 1 ≤ ((Dk.names L).getD k []).length ∧ ((Dk.names L).getD k []).length ≤ 16 := by
  have hm : (Dk.names L).getD k [] ∈ Dk.names L := by simp [List.getD, hk]
  unfold Dk.names at hm
  obtain ⟨f, hf, e⟩ := List.mem_map.1 hm
  have h1 := h.named f hf
  unfold Dk.names
  rw [← e]
  unfold Dk.named at h1
  simp at h1
  omega
/-- What the law of room carries from act to act. -/
def RmI (L : List Ra) (n d : Nat) (w wr : World) (k : Nat) : Prop := DkX (fun _ => False) w.heap.size d (Dk.acts (L.take k) (Dk.new n)) wr ∧ Below w.heap.size w wr
set_option maxRecDepth 100000 in
set_option maxHeartbeats 4000000 in
theorem diskRoom_calls (W : World) (room : Int) (hroom : (Lit.int .u16 room).wf = true) (v : Value) (hv : URas W v) : Calls Try.prog 7 #[.int .u16 room, v] W fun e w' => e = .returned (.bool true) ∧ Below W.heap.size W w' := by
  obtain ⟨L, ao, cap, rfl, hI, hA⟩ := hv
  have hr0 : 0 ≤ room ∧ room ≤ 65535 := by
    simp [Lit.wf, IntKind.min, IntKind.max, IntKind.signed, IntKind.bits] at hroom
    omega
  obtain ⟨n, hn⟩ : ∃ n : Nat, (1 : Int) + room % 4000 = (n : Int) ∧ 1 ≤ n ∧ n ≤ 4000 := ⟨(1 + room % 4000).toNat, by omega, by omega, by omega⟩
  have hn1 := hn.2
  have CG := Lib.hid (great5 L ao cap W hI hA)
  have CN := Lib.hid (newXd5 n W hn1.1 (by omega))
  have HN := Lib.hid hn.1
  have HI := Lib.hid hI
  have HA := Lib.hid hA
  have CD := Lib.hid does5
  clear hI hA hroom hn
  go_enter Try.func7, Try.ntmps7
  go_wp2_with fail
  with_reducible refine CG.out.mono ?_
  rintro e w1 (⟨rfl, rfl⟩ | ⟨rfl, hF, rfl⟩)
  · go_wp2_with fail
    go_ret
    exact ⟨rfl, Below.refl _ _⟩
  · have HF := Lib.hid hF
    have hL := hF.n
    clear hF
    go_wp2_with fail
    rw [HN.out]
    with_reducible refine CN.out.mono ?_
    rintro e w1 ⟨d, rfl, hd, hb, -⟩
    have H0 := Lib.hid (show RmI L n d W w1 0 from ⟨by rw [List.take_zero]; exact hd, hb⟩)
    clear hd hb CN
    go_wp2_with fail
    go_loopw [8] (fun i wr => ∃ k : Nat, k ≤ L.length ∧ i = .int .i64 k ∧ Hid (RmI L n d W wr k)) (fun i _ => L.length - (intOf i).toNat)
    case atStart => exact ⟨0, Nat.zero_le _, rfl, H0⟩
    case round =>
      rename_i wr
      obtain ⟨k, hk, rfl, HH⟩ := hrel
      by_cases hlt : k < L.length
      · have d1 : decide (k < L.length) = true := by simpa using hlt
        have HD := Lib.hid HH.out.1
        have HB := Lib.hid HH.out.2
        have HAT := Lib.hid (Dk.acts_take hlt (Dk.new n))
        have HKN := Lib.hid (Dk.kin_act (L.getD k ra0) (Dk.acts (L.take k) (Dk.new n)))
        have HST := Lib.hid (show (Dk.acts (L.take k) (Dk.new n)).starts ≤ 1000000000 from by have h1 := (Dk.acts_kin (L.take k) (Dk.new n)).2; have h2 : (Dk.new n).starts = 0 := rfl; rw [List.length_take] at h1; omega)
        have HRM := Lib.hid (show (Dk.acts (L.take (k + 1)) (Dk.new n)).room = n from (Dk.acts_kin _ _).1)
        rw [HAT.out] at HRM
        have HRI := Lib.hid (show RaIn (L.getD k ra0) from ra_in5 (HI.out.each _ (by rw [show L.getD k ra0 = L[k] from by simp [List.getD, hlt]]; exact List.getElem_mem hlt)) (HF.out.each k hlt))
        obtain ⟨g, off, hao, hra⟩ := actAt_of HA.out hlt
        subst hao
        have HRA := Lib.hid (hra.below HB.out)
        clear hra HH H0
        generalize L.getD k ra0 = r at *
        generalize Dk.acts (L.take k) (Dk.new n) = D at *
        have CZ := Lib.hid (sizeX HD.out)
        have CM := Lib.hid (namesX HD.out)
        go_wp2_with fail
        with_reducible refine CZ.out.mono ?_
        rintro e w2 ⟨rfl, rfl⟩
        go_wp2_with fail
        with_reducible refine CM.out.mono ?_
        rintro e w3 ⟨no, nc, rfl, hrow, hb3⟩
        -- the names' row lies in new blocks
        have HX := Lib.hid (show ∀ a, Dk.names D.L ≠ [] → no = some a → wr.heap.size ≤ a.block ∧ a.block < w3.heap.size from fun a _ ha => hrow.lt a.block (by rw [ha]; rfl))
        have HT := Lib.hid (tsA_row5 hrow)
        have HD3 := Lib.hid (HD.out.newrow hb3)
        have HB3 := Lib.hid (below_step HB.out hb3)
        have HR3 := Lib.hid (HRA.out.below (hb3.mono HB.out.size))
        have CA := Lib.hid (HR3.out.done HD3.out (fun q hq => hq.elim (fun e => e.elim) (fun e => e.2)) HB3.out.size HRI.out HST.out)
        obtain ⟨⟨c0, c1, c2, c3, c4, c5, -⟩, -, -⟩ := HR3.out
        clear hrow hb3 CZ CM HRA
        go_wp2_with fail
        with_reducible refine CA.out.mono ?_
        rintro e w4 ⟨rfl, hd, hw⟩
        have HW4 := Lib.hid hw
        have HD4 := Lib.hid (hd.less (X' := fun _ => False) (fun _ q => q.elim))
        have HB4 := Lib.hid (HB3.out.trans (hw.below (fun q hq => hq.1) HB3.out.size))
        have HT4 := Lib.hid (HT.out.wr hw (fun a hn ha hq => hq.2 (.inr (HX.out a hn ha))))
        have HOK := Lib.hid hd.ok
        clear hd hw c0 c1 c2 c3 c4 c5 CA HD3 HR3
        have CM := Lib.hid (namesX HD4.out)
        have CZ := Lib.hid (sizeX HD4.out)
        go_wp2_with fail
        with_reducible refine CM.out.mono ?_
        rintro e w5 ⟨no2, nc2, rfl, hrow, hb5⟩
        have HT5 := Lib.hid (tsA_row5 hrow)
        have HO5 := Lib.hid (HT4.out.below hb5)
        have HD5 := Lib.hid (HD4.out.below hb5)
        have HB5 := Lib.hid (below_step HB4.out hb5)
        clear hrow hb5 CM CZ HT HX HT4
        generalize hE : (Dk.act r D).1 = er at *
        have HE := Lib.hid hE
        have CZ := Lib.hid (sizeX HD5.out)
        have hz := HOK.out.room
        rw [HRM.out] at hz
        have hfew := HOK.out.few
        have hnl : (Dk.names (Dk.act r D).2.L).length = (Dk.act r D).2.L.length := by simp [Dk.names]
        have d3 : decide ((n : Int) < (Dk.size (Dk.act r D).2.L : Int)) = false := by simp; omega
        have d4 : decide ((1024 : Int) < ((Dk.names (Dk.act r D).2.L).length : Int)) = false := by simp; omega
        have hnl2 : (Dk.names (Dk.act r D).2.L).length ≤ 1024 := by omega
        clear hE hnl
        by_cases h50 : er = 50
        · have heq := HKN.out.2 h50
          subst h50
          have CT := Lib.hid (sameTexts5_any (Dk.names (Dk.act r D).2.L) (Dk.names D.L) (by omega) (by rw [heq] at hfew; simp [Dk.names]; omega) no2 no nc2 nc w5 HT5.out HO5.out)
          have hdt : decide (Dk.names (Dk.act r D).2.L = Dk.names D.L) = true := by rw [heq]; simp
          rw [hdt] at CT
          have hse : ((Dk.size (Dk.act r D).2.L : Int) != (Dk.size D.L : Int)) = false := by rw [heq]; simp
          have hse2 : ((Dk.size (Dk.act r D).2.L : Int) == (Dk.size D.L : Int)) = true := by rw [heq]; simp
          clear heq hdt
          go_wp2_with fail
          with_reducible refine CZ.out.mono ?_
          rintro e w6 ⟨rfl, rfl⟩
          go_wp2_with fail
          with_reducible refine CT.out.mono ?_
          rintro e wf ⟨rfl, hbf⟩
          have HTf := Lib.hid (HT5.out.below hbf)
          have HDf := Lib.hid (HD5.out.below hbf)
          have HBf := Lib.hid (below_step HB5.out hbf)
          have CZ2 := Lib.hid (sizeX HDf.out)
          clear hbf CT CZ
          go_wp2_with fail
          with_reducible refine CZ2.out.mono ?_
          rintro e w7 ⟨rfl, rfl⟩
          clear CZ2
          go_wp2_with fail
          generalize hns : Dk.names (Dk.act r D).2.L = ns at *
          have HNS := Lib.hid hns
          clear hns
          go_loopw [13] (fun j wq => ∃ m : Nat, m ≤ ns.length ∧ j = .int .i64 m ∧ Hid (Below wf.heap.size wf wq)) (fun j _ => ns.length - (intOf j).toNat)
          case atStart => exact ⟨0, Nat.zero_le _, rfl, Lib.hid (Below.refl _ _)⟩
          case round =>
            obtain ⟨m, hm, rfl, HQ⟩ := hrel
            by_cases hmt : m < ns.length
            · have e1 : decide (m < ns.length) = true := by simpa using hmt
              have hT := HTf.out.below HQ.out
              obtain ⟨g2, o2, rfl, hc⟩ := hT (fun e => by rw [e] at hmt; simp at hmt)
              have hk1 := hc m hmt
              have hlen : 1 ≤ (ns.getD m []).length ∧ (ns.getD m []).length ≤ 16 := by
                rw [← HNS.out]; exact names_ok5 HOK.out.l (by rw [HNS.out]; exact hmt)
              have hup : 0 < m → Op.bytesLess (ns.getD (m - 1) []) (ns.getD m []) = true := fun h0 => by
                obtain ⟨m', rfl⟩ : ∃ m', m = m' + 1 := ⟨m - 1, by omega⟩
                have h9 := names_up5 HOK.out.l (k := m') (by rw [HNS.out]; exact hmt)
                rw [HNS.out] at h9
                exact h9
              have hk0 : 0 < m → wr.cell? ⟨g2, o2 + (m - 1), none⟩ = some (.string (S (ns.getD (m - 1) []))) := fun h0 => hc (m - 1) (by omega)
              generalize ns.getD m [] = u at *
              generalize ns.getD (m - 1) [] = u0 at *
              have q1 : (u == []) = false := by cases u with | nil => simp at hlen | cons _ _ => rfl
              have q2 : u.isEmpty = false := by cases u with | nil => simp at hlen | cons _ _ => rfl
              have q3 : decide ((16 : Int) < (u.length : Int)) = false := by simp; omega
              have hi1 : (0 : Int) ≤ (m : Int) := by omega
              have hi2 : (m : Int) < (ns.length : Int) := by omega
              have HNE := Lib.hid hc
              clear hT hc
              by_cases h0 : 0 < m
              · have e2 : decide (0 < m) = true := by simpa using h0
                have e2' : decide ((0 : Int) < (m : Int)) = true := by simp; omega
                have hl1 := hup h0
                have hl2 : Op.bytesLess u u0 = false := by
                  have h9 : u0 ≠ u := fun e => by rw [e, Dk.less_irr5] at hl1; cases hl1
                  rw [Dk.less_flip5 u0 u h9, hl1]; rfl
                have hl3 : (u == u0) = false := by
                  cases hx : (u == u0) with
                  | false => rfl
                  | true =>
                    have h9 : u = u0 := by simpa using hx
                    rw [h9, Dk.less_irr5] at hl1; cases hl1
                have hk3 := hk0 h0
                have em : IntKind.i64.wrap ((m : Int) - 1) = (m : Int) - 1 := IntWalk.i64_in _ (by omega)
                have em2 : ((m : Int) - 1).toNat = m - 1 := by omega
                have hi3 : (0 : Int) ≤ (m : Int) - 1 := by omega
                have hi4 : (m : Int) - 1 < (ns.length : Int) := by omega
                clear hup hk0
                go_wp2_with fail
                go_quiet (fail)
                clear em em2
                go_wp2_with fail
                go_roundw
                case rel => exact ⟨m + 1, by omega, by go_num, Lib.hid (below_drewN HQ.out _)⟩
                case measure => simp [intOf]; omega
              · have e2 : decide (0 < m) = false := by simpa using h0
                have e2' : decide ((0 : Int) < (m : Int)) = false := by simp; omega
                clear hup hk0
                go_wp2_with fail
                go_quiet (fail)
                go_wp2_with fail
                go_roundw
                case rel => exact ⟨m + 1, by omega, by go_num, Lib.hid (below_drewN HQ.out _)⟩
                case measure => simp [intOf]; omega
            · have e1 : decide (m < ns.length) = false := by simpa using hmt
              go_wp2_with fail
              go_roundw
              case rel => exact ⟨k + 1, by omega, by go_num, Lib.hid ⟨by rw [HAT.out]; exact HDf.out.below HQ.out, below_step HBf.out HQ.out⟩⟩
              case measure => simp [intOf]; omega
        · have h51 : (er == 50) = false := by simpa using h50
          go_wp2_with fail
          with_reducible refine CZ.out.mono ?_
          rintro e wf ⟨rfl, rfl⟩
          have HTf := HT5
          have HDf := HD5
          have HBf := HB5
          clear CZ
          go_wp2_with fail
          generalize hns : Dk.names (Dk.act r D).2.L = ns at *
          have HNS := Lib.hid hns
          clear hns
          go_loopw [13] (fun j wq => ∃ m : Nat, m ≤ ns.length ∧ j = .int .i64 m ∧ Hid (Below w5.heap.size w5 wq)) (fun j _ => ns.length - (intOf j).toNat)
          case atStart => exact ⟨0, Nat.zero_le _, rfl, Lib.hid (Below.refl _ _)⟩
          case round =>
            obtain ⟨m, hm, rfl, HQ⟩ := hrel
            by_cases hmt : m < ns.length
            · have e1 : decide (m < ns.length) = true := by simpa using hmt
              have hT := HTf.out.below HQ.out
              obtain ⟨g2, o2, rfl, hc⟩ := hT (fun e => by rw [e] at hmt; simp at hmt)
              have hk1 := hc m hmt
              have hlen : 1 ≤ (ns.getD m []).length ∧ (ns.getD m []).length ≤ 16 := by
                rw [← HNS.out]; exact names_ok5 HOK.out.l (by rw [HNS.out]; exact hmt)
              have hup : 0 < m → Op.bytesLess (ns.getD (m - 1) []) (ns.getD m []) = true := fun h0 => by
                obtain ⟨m', rfl⟩ : ∃ m', m = m' + 1 := ⟨m - 1, by omega⟩
                have h9 := names_up5 HOK.out.l (k := m') (by rw [HNS.out]; exact hmt)
                rw [HNS.out] at h9
                exact h9
              have hk0 : 0 < m → wr.cell? ⟨g2, o2 + (m - 1), none⟩ = some (.string (S (ns.getD (m - 1) []))) := fun h0 => hc (m - 1) (by omega)
              generalize ns.getD m [] = u at *
              generalize ns.getD (m - 1) [] = u0 at *
              have q1 : (u == []) = false := by cases u with | nil => simp at hlen | cons _ _ => rfl
              have q2 : u.isEmpty = false := by cases u with | nil => simp at hlen | cons _ _ => rfl
              have q3 : decide ((16 : Int) < (u.length : Int)) = false := by simp; omega
              have hi1 : (0 : Int) ≤ (m : Int) := by omega
              have hi2 : (m : Int) < (ns.length : Int) := by omega
              have HNE := Lib.hid hc
              clear hT hc
              by_cases h0 : 0 < m
              · have e2 : decide (0 < m) = true := by simpa using h0
                have e2' : decide ((0 : Int) < (m : Int)) = true := by simp; omega
                have hl1 := hup h0
                have hl2 : Op.bytesLess u u0 = false := by
                  have h9 : u0 ≠ u := fun e => by rw [e, Dk.less_irr5] at hl1; cases hl1
                  rw [Dk.less_flip5 u0 u h9, hl1]; rfl
                have hl3 : (u == u0) = false := by
                  cases hx : (u == u0) with
                  | false => rfl
                  | true =>
                    have h9 : u = u0 := by simpa using hx
                    rw [h9, Dk.less_irr5] at hl1; cases hl1
                have hk3 := hk0 h0
                have em : IntKind.i64.wrap ((m : Int) - 1) = (m : Int) - 1 := IntWalk.i64_in _ (by omega)
                have em2 : ((m : Int) - 1).toNat = m - 1 := by omega
                have hi3 : (0 : Int) ≤ (m : Int) - 1 := by omega
                have hi4 : (m : Int) - 1 < (ns.length : Int) := by omega
                clear hup hk0
                go_wp2_with fail
                go_quiet (fail)
                clear em em2
                go_wp2_with fail
                go_roundw
                case rel => exact ⟨m + 1, by omega, by go_num, Lib.hid (below_drewN HQ.out _)⟩
                case measure => simp [intOf]; omega
              · have e2 : decide (0 < m) = false := by simpa using h0
                have e2' : decide ((0 : Int) < (m : Int)) = false := by simp; omega
                clear hup hk0
                go_wp2_with fail
                go_quiet (fail)
                go_wp2_with fail
                go_roundw
                case rel => exact ⟨m + 1, by omega, by go_num, Lib.hid (below_drewN HQ.out _)⟩
                case measure => simp [intOf]; omega
            · have e1 : decide (m < ns.length) = false := by simpa using hmt
              go_wp2_with fail
              go_roundw
              case rel => exact ⟨k + 1, by omega, by go_num, Lib.hid ⟨by rw [HAT.out]; exact HDf.out.below HQ.out, below_step HBf.out HQ.out⟩⟩
              case measure => simp [intOf]; omega
      · have d1 : decide (k < L.length) = false := by simpa using hlt
        go_wp2_with fail
        with_reducible refine (CD.out _).mono ?_
        rintro e w2 ⟨rfl, hb⟩
        have HB := Lib.hid (below_step HH.out.2 hb)
        clear hb
        go_wp2_with fail
        go_ret
        exact ⟨rfl, HB.out⟩

end Go.Proofs.Ytekmnpmeienhhaa
