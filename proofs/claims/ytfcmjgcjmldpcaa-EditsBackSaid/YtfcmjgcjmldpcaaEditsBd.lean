/- Layer 16: EncodeState: a state as bytes. -/
import Derived.Test.YtfcmjgcjmldpcaaEditsBc
namespace Go.Proofs.Ytfcmjgcjmldpcaa
set_option linter.unusedVariables false
set_option linter.unusedSimpArgs false
open Go Go.RowKit
attribute [local go_sem ↓] run_index_S
attribute [local go_sem] S_append S_extract

/-- A tablet's bytes, a state's. -/
def Ed.pb (t : Ed.Tb) : List UInt8 := Ed.pt t.f ++ Ed.pl t.l
def Ed.pbs (l : List Ed.Tb) : List UInt8 := l.flatMap Ed.pb
def Ed.encS (s : Ed.St) : List UInt8 := Ed.pns [s.log, s.next, s.T.length] ++ Ed.pbs s.T
theorem Ed.pbs_app (a b : List Ed.Tb) : Ed.pbs (a ++ b) = Ed.pbs a ++ Ed.pbs b := by simp [Ed.pbs]
theorem Ed.pbs_one (y : Ed.Tb) : Ed.pbs [y] = Ed.pb y := by simp [Ed.pbs]
theorem pbs_len : ∀ (L : List Rt), (∀ r ∈ L, r.f.length ≤ 64 ∧ r.l.length ≤ 256) → (Ed.pbs (tbs L)).length ≤ 3000 * L.length
  | [], _ => by simp [tbs, Ed.pbs]
  | r :: t, h => by
    have h1 := h r (by simp)
    have h2 := pbs_len t (fun x hx => h x (by simp [hx]))
    have h3 := Ed.pl_len r.l
    have h4 := Ed.pt_len r.f
    simp only [tbs, Ed.pbs, Ed.pb, Rt.tb, List.map_cons, List.flatMap_cons, List.length_append, List.length_cons] at *
    omega
theorem ok_at16 {Rs : List Rt} {log next : Int} (h : Ed.Ok ⟨tbs Rs, log, next⟩) (i : Nat) (hi : i < Rs.length) : (Rs.getD i rt0).f.length ≤ 64 ∧ (Rs.getD i rt0).l.length ≤ 256 ∧ ∀ n ∈ (Rs.getD i rt0).l, 0 < n ∧ n ≤ 9223372036854775807 := by
  have h1 := h.each i (by simpa [tbs_length] using hi)
  have h2 := h.nextM
  unfold Ed.okAt at h1
  simp only [tbs_at] at h1 h2
  refine ⟨h1.2.1, h1.2.2.2, fun n hn => ?_⟩
  have h3 := Ed.up_take h1.2.2.1 n hn
  omega
theorem ok_mem16 {Rs : List Rt} {log next : Int} (h : Ed.Ok ⟨tbs Rs, log, next⟩) : ∀ r ∈ Rs, r.f.length ≤ 64 ∧ r.l.length ≤ 256 := fun r hr => by
  obtain ⟨i, hi, rfl⟩ := List.mem_iff_getElem.1 hr
  have := ok_at16 h i hi
  simp only [List.getD_eq_getElem?_getD, List.getElem?_eq_getElem hi, Option.getD_some] at this
  exact ⟨this.1, this.2.1⟩
def EncSR (s : Ed.St) (w : World) (e : Ending) (w' : World) : Prop := Below w.heap.size w w' ∧
  ((Ed.Ok s ∧ e = .returned (.tuple #[.string (S (Ed.encS s)), .int .i64 0])) ∨ (¬ Ed.Ok s ∧ e = .returned (.tuple #[.string (S []), .int .i64 2])))
set_option maxHeartbeats 8000000 in
set_option maxRecDepth 100000 in
theorem encodeState16_any (Rs : List Rt) (hR : RtsOk Rs) (ao : Option Addr) (cap : Nat) (log next : Int) (w : World) (h : TbsAt w ao Rs) :
    Calls Try.prog 26 #[.agg #[.slice ao Rs.length cap, .int .i64 log, .int .i64 next]] w (EncSR ⟨tbs Rs, log, next⟩ w) := by
  have HA := Lib.hid h
  have HR := Lib.hid hR
  clear h hR
  have hb1 := (Below.refl w.heap.size w).alloc (Nat.le_refl _) (.cells (stA ao Rs.length cap log next) 24)
  have HS := Lib.hid (bkIn_new (stA ao Rs.length cap log next) 24 w)
  have CC := Lib.hid (check16_any Rs HR.out ao cap log next (w.alloc (.cells (stA ao Rs.length cap log next) 24)) (HA.out.below hb1))
  have HB1 := Lib.hid hb1
  clear hb1
  unfold stV at CC
  go_enter Try.func26, Try.ntmps26
  go_wp2_with fail
  generalize w.alloc (.cells (stA ao Rs.length cap log next) 24) = w1 at *
  with_reducible refine (CC.out).mono ?_
  rintro e w2 ⟨b, rfl, hok, hb2⟩
  have HS2 := Lib.hid (HS.out.below hb2)
  have HB2 := Lib.hid (below_step HB1.out hb2)
  clear CC HS hb2 HB1
  cases b with
  | false =>
    have HNO := Lib.hid (show ¬ Ed.Ok ⟨tbs Rs, log, next⟩ from fun h => nomatch hok.2 h)
    clear hok
    go_wp2_with fail
    go_ret2
    exact ⟨HB2.out, .inr ⟨HNO.out, rfl⟩⟩
  | true =>
    have HOK := Lib.hid (hok.1 rfl)
    clear hok
    have HLT := Lib.hid HS2.out.lt
    have hl16 := (Ok.small HOK.out).2.1
    have hbw := (Below.refl w2.heap.size w2).alloc (Nat.le_refl _) (.cells #[.pointer none, .slice none 0 0] 71)
    have HS3 := Lib.hid (HS2.out.below hbw)
    have HW0 := Lib.hid (show WrK w2.heap.size w2.heap.size [] w2 (w2.alloc (.cells #[.pointer none, .slice none 0 0] 71)) from ⟨wr_new w2, hbw, KeptW.of_below hbw⟩)
    have s0 : (w2.alloc (.cells #[.pointer none, .slice none 0 0] 71)).cell? ⟨w.heap.size, 0, none⟩ = some (.slice ao Rs.length cap) := HS3.out.cell 0
    have s1 : (w2.alloc (.cells #[.pointer none, .slice none 0 0] 71)).cell? ⟨w.heap.size, 1, none⟩ = some (.int .i64 log) := HS3.out.cell 1
    have s2 : (w2.alloc (.cells #[.pointer none, .slice none 0 0] 71)).cell? ⟨w.heap.size, 2, none⟩ = some (.int .i64 next) := HS3.out.cell 2
    have hsz : (w2.alloc (.cells #[.pointer none, .slice none 0 0] 71)).heap.size = w2.heap.size + 1 := by simp
    clear hbw HS2
    go_wp2_with fail
    have hb2 := (Below.refl (w2.alloc (.cells #[.pointer none, .slice none 0 0] 71)).heap.size (w2.alloc (.cells #[.pointer none, .slice none 0 0] 71))).alloc (Nat.le_refl _) (.cells #[.int .i64 log, .int .i64 next, .int .i64 Rs.length] 3)
    have HX := Lib.hid (bkIn_new #[.int .i64 log, .int .i64 next, .int .i64 Rs.length] 3 (w2.alloc (.cells #[.pointer none, .slice none 0 0] 71)))
    rw [hsz] at HX
    have HS4 := Lib.hid (HS3.out.below hb2)
    have HW1 := Lib.hid (HW0.out.below (by simp) hb2)
    clear hb2 HW0 HS3 s0 s1 s2 hsz
    generalize (w2.alloc (.cells #[.pointer none, .slice none 0 0] 71)).alloc (.cells #[.int .i64 log, .int .i64 next, .int .i64 Rs.length] 3) = w3 at *
    have HNS := Lib.hid (show NsSt w2.heap.size w2.heap.size w3 (some ⟨w2.heap.size + 1, 0, none⟩) [log, next, (Rs.length : Int)] from fun w' _ hk => nsAt_three (hk _ _ _ (by decide) (by omega) HX.out))
    have HO3 := Lib.hid (show ∀ n ∈ [log, next, (Rs.length : Int)], n ≤ 9223372036854775807 from fun n hn => by
      have h1 := HOK.out.logN
      have h2 := HOK.out.nextM
      have h3 := HR.out.n
      simp only at h1 h2
      simp at hn
      rcases hn with rfl | rfl | rfl <;> omega)
    with_reducible refine (numbers16_m _ _ [] [log, next, (Rs.length : Int)] 3 rfl HO3.out (by simp) _ _ w3 HW1.out.at_ HW1.out.bel.size HNS.out).mono ?_
    rintro e w4 ⟨rfl, hw4⟩
    have HS5 := Lib.hid (hw4.kept _ _ _ (by decide) (by have := HLT.out; omega) HS4.out)
    have HW4 := Lib.hid (show WrK w2.heap.size w2.heap.size (Ed.pns [log, next, (Rs.length : Int)] ++ Ed.pbs (tbs (Rs.take 0))) w2 w4 from by
      have := HW1.out.step hw4
      simpa [tbs, Ed.pbs] using this)
    have s0 : w4.cell? ⟨w.heap.size, 0, none⟩ = some (.slice ao Rs.length cap) := HS5.out.cell 0
    clear hw4 HX HNS HW1 HS4 HO3
    go_wp2_with fail
    clear s0 HS5
    go_loopw [22] (fun i wr => ∃ (k : Nat), k ≤ Rs.length ∧ i = .int .i64 k ∧ Hid (WrK w2.heap.size w2.heap.size (Ed.pns [log, next, (Rs.length : Int)] ++ Ed.pbs (tbs (Rs.take k))) w2 wr)) (fun i _ => Rs.length - (intOf i).toNat)
    case atStart => exact ⟨0, Nat.zero_le _, rfl, HW4⟩
    case round =>
      obtain ⟨k, hk, rfl, HW⟩ := hrel
      clear HW4
      by_cases hlt : k < Rs.length
      · have hki : (k : Int) < (Rs.length : Int) := by omega
        obtain ⟨gl, oy0, rfl, hc⟩ := (HA.out.below (HB2.out.trans (HW.out.bel.mono HB2.out.size))).off k hlt
        have HT := Lib.hid (tbs_snoc hlt)
        have HO := Lib.hid (ok_at16 HOK.out k hlt)
        have HN := Lib.hid (show ∀ x, Below w2.heap.size w2 x → NsAt x (Rs.getD k rt0).o (Rs.getD k rt0).l from fun x hx => by
          obtain ⟨g', o', e, h⟩ := (HA.out.below (HB2.out.trans (hx.mono HB2.out.size))).off k hlt
          exact h.2.2)
        have HLn := Lib.hid (show (Ed.pns [log, next, (Rs.length : Int)] ++ Ed.pbs (tbs (Rs.take k))).length ≤ 1200000100 from by
          have h1 := pbs_len (Rs.take k) (fun r hr => ok_mem16 HOK.out r (List.mem_of_mem_take hr))
          have h2 := Ed.pns_len [log, next, (Rs.length : Int)]
          have h3 := (Ok.small HOK.out).2.1
          simp only [List.length_append, List.length_take, List.length_cons, List.length_nil] at *
          omega)
        have HB := Lib.hid (show w2.heap.size < wr.heap.size from HW.out.at_.lt)
        generalize Rs.getD k rt0 = y at *
        obtain ⟨lw, hlw⟩ : ∃ x, x = Ed.pns [log, next, (Rs.length : Int)] ++ Ed.pbs (tbs (Rs.take k)) := ⟨_, rfl⟩
        have HLW := Lib.hid hlw.symm
        rw [← hlw] at HW HLn
        clear hlw
        obtain ⟨f, rl, ro, rk⟩ := y
        obtain ⟨c0, c1, _⟩ := hc
        simp only at c0 c1
        go_wp2_with fail
        have hb1 := (Below.refl wr.heap.size wr).alloc (Nat.le_refl _) (.cells #[.string (S f), .slice ro rl.length rk] 41)
        have HE := Lib.hid (bkIn_new #[.string (S f), .slice ro rl.length rk] 41 wr)
        have HW1 := Lib.hid (HW.out.below (by have := HB.out; omega) hb1)
        clear hb1 c0 c1 HW
        generalize wr.alloc (.cells #[.string (S f), .slice ro rl.length rk] 41) = w5 at *
        with_reducible refine (textW16_any _ _ lw f (by
          have h0 := HLn.out
          have h1 : f.length ≤ 64 := HO.out.1
          omega) w5 HW1.out.at_ HW1.out.bel.size).mono ?_
        rintro e w6 ⟨rfl, hw6⟩
        have HW6 := Lib.hid (HW1.out.step hw6)
        have HE6 := Lib.hid (hw6.kept _ _ _ (by decide) (by have := HB.out; omega) HE.out)
        clear hw6 HW1 HE
        have c1 : w6.cell? ⟨wr.heap.size, 1, none⟩ = some (.slice ro rl.length rk) := HE6.out.cell 1
        go_wp2_with fail
        have HNS := Lib.hid (show NsSt w2.heap.size w2.heap.size w6 ro rl from fun w' hb _ => HN.out w' (HW6.out.bel.trans hb))
        with_reducible refine (listW16_any _ _ (lw ++ Ed.pt f) rl (fun n hn => (HO.out.2.2 n hn).2) (by
          have h0 := HLn.out
          have h1 : f.length ≤ 64 := HO.out.1
          have h2 : rl.length ≤ 256 := HO.out.2.1
          have h3 := Ed.pt_len f
          simp only [List.length_append] at *
          omega) ro rk w6 HW6.out.at_ HW6.out.bel.size HNS.out).mono ?_
        rintro e w7 ⟨rfl, hw7⟩
        have HW7 := Lib.hid (show WrK w2.heap.size w2.heap.size (Ed.pns [log, next, (Rs.length : Int)] ++ Ed.pbs (tbs (Rs.take (k + 1)))) w2 w7 from by
          have := HW6.out.step hw7
          rw [HT.out, Ed.pbs_app, Ed.pbs_one, ← List.append_assoc, HLW.out]
          simpa [Ed.pb, Rt.tb, List.append_assoc] using this)
        clear hw7 HW6 HE6 c1 HO HN HT HLn HLW HB HNS
        go_wp2_with fail
        go_roundw
        case rel => exact ⟨k + 1, by omega, by go_num, HW7⟩
        case measure => simp [intOf]; omega
      · obtain rfl : k = Rs.length := by omega
        have HWE := Lib.hid (show WrK w2.heap.size w2.heap.size (Ed.encS ⟨tbs Rs, log, next⟩) w2 wr from by
          have := HW.out
          rw [List.take_length] at this
          simpa [Ed.encS, tbs_length] using this)
        clear HW
        go_wp2_with fail
        with_reducible refine (stringW_any _ _ _ wr HWE.out.at_ HWE.out.bel.size).mono ?_
        rintro e w7 ⟨rfl, hb7⟩
        have HB7 := Lib.hid (hb7 _ HWE.out.bel)
        go_wp2_with fail
        go_ret2
        exact ⟨HB2.out.trans (HB7.out.mono HB2.out.size), .inl ⟨HOK.out, rfl⟩⟩

end Go.Proofs.Ytfcmjgcjmldpcaa
