/- Layer 9: cells told one by one, by a contract. -/
import Derived.Test.YtppkecilbkgbdaaBlocksG
import Derived.Test.YtppkecilbkgbdaaBlocksH
namespace Go.Proofs.Ytppkecilbkgbdaa
set_option linter.unusedVariables false
open Go Go.RowKit
attribute [local go_sem ↓] run_index_S
attribute [local go_sem] S_append S_extract

/-- What telling comes to: J of all cells, or nothing. -/
def TellR (J : Nat → List M.Cl → World → Prop) (B : Nat) (r : Option (List M.Cl)) (w : World) (e : Ending) (w' : World) : Prop := (match r with
  | some L => e = .returned (.bool true) ∧ ∃ m, m ≤ w'.heap.size ∧ J m L w'
  | none => e = .returned (.bool false)) ∧ Below B w w'
theorem M.lastK_srt {L : List M.Cl} (h : M.srt none L = true) : (M.lastK [] L).length ≤ 64 := by
  have hm := M.srt_may h
  have go : ∀ (L : List M.Cl) (k : List UInt8), k.length ≤ 64 → (∀ c ∈ L, M.mayC c = true) → (M.lastK k L).length ≤ 64 := by
    intro L
    induction L with
    | nil => intro k hk _; exact hk
    | cons c L ih => intro k hk hc; exact ih c.key (M.mayC_true.1 (hc c (by simp))).2.1 (fun x hx => hc x (by simp [hx]))
  exact go L [] (by simp) hm
theorem read_ok {s last : List UInt8} {at_ nx : Nat} {c : M.Cl} (hs : s.length ≤ 1000000) (hl : last.length ≤ 64) (h : M.readC true s at_ last = some (c, nx)) : ClOk c ∧ nx ≤ s.length := by
  obtain ⟨n, q, hn, hq, hsq, ⟨rest, hk, hd⟩, hc, hnx, _⟩ := M.readC_drop h
  have hdl := congrArg List.length hd
  simp only [List.length_drop, List.length_append, M.putT] at hdl
  refine ⟨⟨?_, by omega, ⟨by omega, by omega⟩⟩, hnx⟩
  rw [hk]; simp only [List.length_append, List.length_take]; omega
set_option maxHeartbeats 4000000 in
set_option maxRecDepth 100000 in
theorem tell9_any (J : Nat → List M.Cl → World → Prop) (B x y : Nat) (s : List UInt8) (hs : s.length ≤ 1000000)
    (hkeep : ∀ m pre W W', J m pre W → Below m W W' → J m pre W')
    (hcall : ∀ m pre c W, ClOk c → pre.length ≤ 1000000 → J m pre W → B ≤ m → m ≤ W.heap.size → Calls Try.prog 51 #[.agg (clA c), .pointer (some ⟨x, 0, none⟩), .pointer (some ⟨y, 0, none⟩)] W fun e W' => E1R (M.nextB (M.lastO none pre) c) (fun W' => J W'.heap.size (pre ++ [c]) W') B m W e W')
    (w : World) (hB : B ≤ w.heap.size) (h0 : J w.heap.size [] w) :
    Calls Try.prog 50 #[.string (S s), .func (.func 51) #[] #[.pointer (some ⟨x, 0, none⟩), .pointer (some ⟨y, 0, none⟩)]] w fun e w' => TellR J B (M.decC s) w e w' := by
  have HK := Lib.hid hkeep
  have HC := Lib.hid hcall
  have HJ := Lib.hid h0
  have C1 := Lib.hid (fun W => get_any s 0 W (by omega))
  clear hkeep hcall h0
  cases h1 : M.gets s 0 with
  | none =>
    rw [h1] at C1
    simp only [tri] at C1
    have HE := Lib.hid (M.decC_nogets h1)
    clear h1
    go_enter Try.func50, Try.ntmps50
    go_wp2_with fail
    with_reducible refine (C1.out _).mono ?_
    rintro e w1 ⟨rfl, rfl⟩
    go_wp2_with fail
    refine wp_loop_rounds 1 ?_
    rw [rounds_succ]
    go_wp2_with fail
    go_ret
    exact HE.out ▸ ⟨rfl, Below.refl _ _⟩
  | some z =>
    obtain ⟨n, a0⟩ := z
    rw [h1] at C1
    simp only [tri] at C1
    have HST := Lib.hid (M.stG_start (chk := true) h1)
    have hn9 := (M.gets_bounds h1).2.2.2.1
    have hale : a0 ≤ s.length := (M.gets_bounds h1).2.2.1
    clear h1
    go_enter Try.func50, Try.ntmps50
    go_wp2_with fail
    with_reducible refine (C1.out _).mono ?_
    rintro e w1 ⟨rfl, rfl⟩
    go_wp2_with fail
    go_loopw [5, 6, 7, 8] (fun cnt at' ok lk wr => ∃ (k a : Nat) (pre : List M.Cl) (m : Nat), cnt = .int .i64 k ∧ at' = .int .i64 a ∧ ok = .bool true ∧ lk = .string (S (M.lastK [] pre)) ∧ k ≤ 9223372036854775807 ∧ 4 * pre.length ≤ a ∧ a ≤ s.length ∧ Hid (M.StG true s pre a k) ∧ Hid (M.srt none pre = true) ∧ Hid (J m pre wr ∧ B ≤ m ∧ m ≤ wr.heap.size ∧ Below B w wr)) (fun cnt _ _ _ _ => (intOf cnt).toNat)
    case atStart => exact ⟨n, a0, [], w.heap.size, rfl, rfl, rfl, rfl, hn9, by simp, hale, HST, Lib.hid rfl, Lib.hid ⟨HJ.out, hB, Nat.le_refl _, Below.refl _ _⟩⟩
    case round =>
      obtain ⟨k, a, pre, m, rfl, rfl, rfl, rfl, hk9, hpl, hal, HS, HSR, HH⟩ := hrel
      have hlk := M.lastK_srt HSR.out
      by_cases hk0 : k = 0
      · have HE := Lib.hid (M.decC_end (by have := HS.out; rwa [hk0] at this) HSR.out)
        have hk00 : ¬ 0 < k := by omega
        have hd : decide (0 < k) = false := decide_eq_false hk00
        clear hk0
        by_cases hz : a = s.length
        · have hq : ((a : Int) == (s.length : Int)) = true := by simp; omega
          rw [if_pos hz] at HE
          clear hz
          go_wp2_with fail
          go_ret
          exact HE.out ▸ ⟨⟨rfl, m, HH.out.2.2.1, HH.out.1⟩, HH.out.2.2.2⟩
        · have hq : ((a : Int) == (s.length : Int)) = false := by simp; omega
          rw [if_neg hz] at HE
          clear hz
          go_wp2_with fail
          go_ret
          exact HE.out ▸ ⟨rfl, HH.out.2.2.2⟩
      · have hd : decide ((0 : Int) < (k : Int)) = true := by simp; omega
        have hS2 : M.StG true s pre a (k - 1 + 1) := by rw [show k - 1 + 1 = k from by omega]; exact HS.out
        have hk1 : 1 ≤ k := by omega
        clear hk0
        generalize hlke : M.lastK [] pre = lk at *
        have HLK := Lib.hid hlke
        clear hlke
        have CR := Lib.hid (fun W => read9_any s lk a hs (by omega) W)
        unfold ReadR at CR
        cases hr : M.readC true s a lk with
        | none =>
          rw [hr] at CR
          simp only at CR
          have HE := Lib.hid (M.decC_none1 hS2 (by rw [HLK.out]; exact hr))
          clear hr hS2
          go_wp2_with fail
          with_reducible refine (CR.out _).mono ?_
          rintro e w2 ⟨⟨c, rfl⟩, hb2⟩
          have HX := Lib.hid ((rowIn_new clZ9 32 wr).below hb2)
          have HBW := Lib.hid (below_step ((Below.refl wr.heap.size wr).alloc (Nat.le_refl _) _) hb2)
          clear hb2 CR
          go_wp2_with (refine wpList_store_hid rfl 32 _ _ rfl wr.heap.size _ rfl rfl 32 clZ9 HX.out ?_ rfl (clA_one c) ?_; kernel_rfl; intro w3 hrQ hbelQ hothQ hszQ; have HX3 := Lib.hid (show RowIn (clA c) 32 w3 wr.heap.size from hrQ); have HB3 := Lib.hid (hbelQ wr.heap.size wr (Nat.le_refl _) HBW.out); clear hrQ hbelQ hothQ hszQ)
          go_ret
          exact HE.out ▸ ⟨rfl, HH.out.2.2.2.trans (HB3.out.mono (Nat.le_trans HH.out.2.1 HH.out.2.2.1))⟩
        | some z =>
          obtain ⟨c, nx⟩ := z
          rw [hr] at CR
          simp only at CR
          obtain ⟨hok, hnx⟩ := read_ok hs hlk hr
          have hadv : a + 4 ≤ nx := by obtain ⟨_, _, _, _, _, _, _, _, h⟩ := M.readC_drop hr; exact h
          have HSS := Lib.hid (M.stG_step hS2 (by rw [HLK.out]; exact hr))
          have HNO := Lib.hid (fun h => M.decC_none2 hS2 (by rw [HLK.out]; exact hr) h)
          have HOK := Lib.hid hok
          clear hr hS2 hok
          go_wp2_with fail
          with_reducible refine (CR.out _).mono ?_
          rintro e w2 ⟨rfl, hb2⟩
          have HX := Lib.hid ((rowIn_new clZ9 32 wr).below hb2)
          have HBW := Lib.hid (below_step ((Below.refl wr.heap.size wr).alloc (Nat.le_refl _) _) hb2)
          clear hb2 CR
          go_wp2_with (refine wpList_store_hid rfl 32 _ _ rfl wr.heap.size _ rfl rfl 32 clZ9 HX.out ?_ rfl (clA_one c) ?_; kernel_rfl; intro w3 hrQ hbelQ hothQ hszQ; have HX3 := Lib.hid (show RowIn (clA c) 32 w3 wr.heap.size from hrQ); have HB3 := Lib.hid (hbelQ wr.heap.size wr (Nat.le_refl _) HBW.out); clear hrQ hbelQ hothQ hszQ; have z0 : w3.cell? ⟨wr.heap.size, 0, none⟩ = some (.string (S c.key)) := HX3.out.cell 0; have z1 : w3.cell? ⟨wr.heap.size, 1, none⟩ = some (.int .i64 c.seq) := HX3.out.cell 1; have z2 : w3.cell? ⟨wr.heap.size, 2, none⟩ = some (.string (S c.val)) := HX3.out.cell 2)
          have hJ3 := HK.out m pre wr w3 HH.out.1 (HB3.out.mono HH.out.2.2.1)
          have hm3 : m ≤ w3.heap.size := Nat.le_trans HH.out.2.2.1 HB3.out.size
          with_reducible refine (HC.out m pre c w3 HOK.out (by omega) hJ3 HH.out.2.1 hm3).mono ?_
          rintro e w4 ⟨rfl, hj4, hf4⟩
          have HB4 := Lib.hid (show Below B w w4 from (HH.out.2.2.2.trans (HB3.out.mono (Nat.le_trans HH.out.2.1 HH.out.2.2.1))).trans (hf4.below (fun k hk => hk.1) (Nat.le_trans HH.out.2.1 hm3)))
          have HX4 := Lib.hid (hf4.row HX3.out (fun h => by have := HH.out.2.2.1; omega))
          have HM4 := Lib.hid (show B ≤ w4.heap.size from Nat.le_trans (Nat.le_trans HH.out.2.1 hm3) hf4.size)
          clear hJ3 hm3 hf4 z0 z1 z2
          cases hnb : M.nextB (M.lastO none pre) c with
          | false =>
            have HE := Lib.hid (HNO.out hnb)
            clear hj4 hnb
            go_wp2_with fail
            go_ret
            exact HE.out ▸ ⟨rfl, HB4.out⟩
          | true =>
            have HJ4 := Lib.hid (hj4 hnb)
            have HSR4 := Lib.hid (show M.srt none (pre ++ [c]) = true from by rw [M.srt_snoc, HSR.out, hnb]; rfl)
            clear hj4 hnb
            have y0 : w4.cell? ⟨wr.heap.size, 0, none⟩ = some (.string (S c.key)) := HX4.out.cell 0
            go_wp2_with fail
            go_roundw
            case rel => exact ⟨k - 1, nx, pre ++ [c], w4.heap.size, by rw [show ((k - 1 : Nat) : Int) = (k : Int) - 1 from by omega], rfl, rfl, by rw [M.lastK_snoc], by omega, by simp; omega, hnx, HSS, HSR4, Lib.hid ⟨HJ4.out, HM4.out, Nat.le_refl _, HB4.out⟩⟩
            case measure => simp [intOf]; omega

end Go.Proofs.Ytppkecilbkgbdaa
