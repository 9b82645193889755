/- Layer 13: CursorsPlay, walked. -/
import Derived.Test.YtekmnpmeienhhaaZR
import Derived.Test.YtekmnpmeienhhaaDkrM
namespace Go.Proofs.Ytekmnpmeienhhaa
set_option linter.unusedVariables false
open Go Go.RowKit Go.Maps

namespace Dk
theorem struck_starts13 (D : St) : (struck D).2.starts = D.starts := by
  rcases struck_cases D with ⟨_, e⟩ | ⟨_, _, e⟩ | ⟨_, _, _, e⟩ <;> rw [e] <;> rfl
theorem append_starts13 (nm s : List UInt8) (D : St) : (append nm s D).2.starts = D.starts := by
  unfold append
  split
  · rfl
  · split
    · rfl
    · split
      · rfl
      · exact struck_starts13 _
theorem sync_starts13 (nm : List UInt8) (D : St) : (sync nm D).2.starts = D.starts := by
  unfold sync
  split
  · rfl
  · split
    · rfl
    · dsimp only
      split <;> exact struck_starts13 _
theorem remove_starts13 (nm : List UInt8) (D : St) : (remove nm D).2.starts = D.starts := by
  unfold remove
  split
  · rfl
  · split
    · rfl
    · dsimp only
      split <;> exact struck_starts13 _
theorem rename_starts13 (a b : List UInt8) (D : St) : (rename a b D).2.starts = D.starts := by
  unfold rename
  split
  · rfl
  · split
    · rfl
    · split
      · rfl
      · dsimp only
        split <;> exact struck_starts13 _
theorem next_starts13 {n : Nat} {a : Int × St} {f : St → Int × St} (h : a.2.starts = n) (hf : ∀ D : St, (f D).2.starts = D.starts) : (next_ a f).2.starts = n := by
  unfold next_
  split
  · rw [hf]; exact h
  · exact h
theorem run_starts13 : ∀ (l : List (St → Int × St)) (D : St), (∀ f ∈ l, ∀ D : St, (f D).2.starts = D.starts) → (run l D).2.starts = D.starts
  | [], D, _ => rfl
  | f :: r, D, h => next_starts13 (h f (List.mem_cons_self ..) D) (fun D => run_starts13 r D (fun g hg => h g (List.mem_cons_of_mem _ hg)))
theorem lay_starts13 (dr nm s : List UInt8) (D : St) : (lay dr nm s D).2.starts = D.starts :=
  run_starts13 _ D (fun f hf => by
    simp only [List.mem_cons, List.not_mem_nil, or_false] at hf
    rcases hf with rfl | rfl | rfl
    · exact append_starts13 _ _
    · exact sync_starts13 _
    · exact rename_starts13 _ _)
theorem renew_starts13 (dr nm s : List UInt8) (D : St) : (renew dr nm s D).2.starts = D.starts :=
  next_starts13 (by unfold clear; split; exact remove_starts13 _ _; rfl) (fun D => lay_starts13 dr nm s D)
end Dk
theorem Cu.save_starts (c : Cu.C) (D : Dk.St) : (Cu.save c D).2.starts = D.starts := by
  unfold Cu.save
  split
  · rfl
  · split
    · rfl
    · exact Dk.renew_starts13 _ _ _ _
theorem rNewNo13 (n : Int) (w : World) (h : n < 1 ∨ 1048576 < n) : Calls Try.prog 18 #[.int .i64 n] w fun e w' => e = .returned (.tuple #[.pointer none, .int .i64 2]) ∧ w = w' := by
  by_cases h1 : n < 1
  · have d1 : decide (n < (1 : Int)) = true := decide_eq_true h1
    go_enter Try.func18, Try.ntmps18
    go_wp2_with fail
    go_ret2
    exact ⟨rfl, rfl⟩
  · have d1 : decide (n < (1 : Int)) = false := decide_eq_false h1
    have d2 : decide ((1048576 : Int) < n) = true := decide_eq_true (by omega)
    go_enter Try.func18, Try.ntmps18
    go_wp2_with fail
    go_ret2
    exact ⟨rfl, rfl⟩
section
variable {P P' : Nat → Prop} {B a r : Nat} {D Dr : Dk.St} {w w' : World}
theorem Pl5.base (h : Pl5 P B a r D Dr w) : B ≤ r := by obtain ⟨_, _, _, _, q, _⟩ := h; exact q
theorem Pl5.wr13 {A : Nat → Prop} (h : Pl5 P B a r D Dr w) (hw : Wr A w w') (hA : ∀ k, A k → P k) : Pl5 P B a r D Dr w' := by
  obtain ⟨F, c, h1, h2, h3, h4, h5, h6, h7⟩ := h
  exact ⟨F, c, h1.wr hw (fun b hb ha => h5 b (hA b ha) hb), h2.wr hw (fun b hb ha => (h4 b hb).2 (hA b ha)), h3, h4, h5, fun k hk => Nat.lt_of_lt_of_le (h6 k hk) hw.size, Nat.le_trans h7 hw.size⟩
def AB13 (P : Nat → Prop) (B a r : Nat) (n : Int) (D Dr : Dk.St) (w : World) (e : Ending) (w' : World) : Prop := e = .returned (.int .i64 n) ∧ Pl5 P B a r D Dr w' ∧ Wr (fun k => B ≤ k ∧ ¬ P k) w w'
theorem Pl5.fail (h : Pl5 P B a r D Dr w) (n : Int) (hn : n ≤ 9223372036854775807) (ks : List Int) (ao : Option Addr) (cap : Nat) (hK : Dk.KsOk ks) (hk : NsA5 w ao ks) : Calls Try.prog 39 #[.pointer (some ⟨a, 0, none⟩), .int .i64 n, .slice ao ks.length cap] w (AB13 P B a r (Dk.fail n ks D).1 (Dk.fail n ks D).2 Dr w) :=
  h.liftA fun X hx hl _ hB => failX hx hl hB n ks ao cap hn hK hk
theorem Pl5.rfail (h : Pl5 P B a r D Dr w) (n : Int) (hn : n ≤ 9223372036854775807) (ks : List Int) (ao : Option Addr) (cap : Nat) (hK : Dk.KsOk ks) (hk : NsA5 w ao ks) (hb : ∀ x, ks ≠ [] → ao = some x → x.block < B) : Calls Try.prog 52 #[.pointer (some ⟨r, 0, none⟩), .int .i64 n, .slice ao ks.length cap] w (AB13 P B a r (Dk.fail n ks Dr).1 D (Dk.fail n ks Dr).2 w) :=
  h.liftR fun _ hi hB => rFail5 hi hB n hn ks ao cap hK hk (fun x hx ha e => by have := hb x hx ha; have := h.base; omega)
theorem Pl5.crash (h : Pl5 P B a r D Dr w) (ks : List Int) (ao : Option Addr) (cap : Nat) (hK : Dk.KsOk ks) (hk : NsA5 w ao ks) (hb : ∀ x, ks ≠ [] → ao = some x → x.block < B) : Calls Try.prog 37 #[.pointer (some ⟨a, 0, none⟩), .slice ao ks.length cap] w (AB13 P B a r (Dk.crash ks D).1 (Dk.crash ks D).2 Dr w) :=
  h.liftA fun X hx hl _ hB => crashX hx hl hB ks ao cap hK hk (fun x hn hx => .inr (hb x hn hx))
theorem Pl5.rcrash (h : Pl5 P B a r D Dr w) (ks : List Int) (ao : Option Addr) (cap : Nat) (hK : Dk.KsOk ks) (hk : NsA5 w ao ks) (hb : ∀ x, ks ≠ [] → ao = some x → x.block < B) : Calls Try.prog 53 #[.pointer (some ⟨r, 0, none⟩), .slice ao ks.length cap] w (AB13 P B a r (Dk.crash ks Dr).1 D (Dk.crash ks Dr).2 w) :=
  h.liftR fun c hi hB => rCrash5 hi ks ao cap hK hk (fun x hx ha => ⟨fun e => by have := hb x hx ha; have := h.base; omega, fun z hz e => by
    have h1 := hb x hx ha
    have h2 := (hi.fr z.block (.inr (.inl ⟨z, hz, rfl⟩))).1
    have := h.base
    rcases h2 with q | q <;> omega⟩)
theorem Pl5.start (h : Pl5 P B a r D Dr w) (hs : D.starts ≤ 1000000000) : Calls Try.prog 35 #[.pointer (some ⟨a, 0, none⟩)] w (AB13 P B a r (Dk.start D).1 (Dk.start D).2 Dr w) :=
  h.liftA fun X hx hl _ hB => startX hx hl hB hs
theorem Pl5.rstart (h : Pl5 P B a r D Dr w) (hs : Dr.starts ≤ 1000000000) : Calls Try.prog 54 #[.pointer (some ⟨r, 0, none⟩)] w (AB13 P B a r (Dk.start Dr).1 D (Dk.start Dr).2 w) :=
  h.liftR fun c hi hB => rStart5 hi hs
theorem Pl5.append (h : Pl5 P B a r D Dr w) (nm s : List UInt8) (h1 : nm.length ≤ 140737488351232) (h2 : s.length ≤ 140737488351232) : Calls Try.prog 32 #[.pointer (some ⟨a, 0, none⟩), .string (S nm), .string (S s)] w (AB13 P B a r (Dk.append nm s D).1 (Dk.append nm s D).2 Dr w) :=
  h.liftA fun X hx hl _ hB => appendX hx hl hB nm s h1 h2
theorem Pl5.rappend (h : Pl5 P B a r D Dr w) (hO : Dk.Ok Dr) (nm s : List UInt8) (h1 : nm.length ≤ 140737488351232) (h2 : s.length ≤ 140737488351232) : Calls Try.prog 55 #[.pointer (some ⟨r, 0, none⟩), .string (S nm), .string (S s)] w (AB13 P B a r (Dk.append nm s Dr).1 D (Dk.append nm s Dr).2 w) :=
  h.liftR fun c hi hB => rAppend5 hi hB nm s h1 h2 hO.most hO.n hO.k
end
/-- What the law carries from act to act. -/
structure Py13 (V : World) (P : Nat → Prop) (B a r i : Nat) (D : Dk.St) (w : World) : Prop where
  two : Pl5 P B a r D D w
  starts : D.starts ≤ i
  bel : Below B V w
set_option maxRecDepth 100000 in
set_option maxHeartbeats 16000000 in
theorem cursorsPlay_calls (W : World) (cp : Int) (hcp : (Lit.int .i64 cp).wf = true) (v : Value) (hv : UCas W v) : Calls Try.prog 11 #[.int .i64 cp, v] W fun e w' => e = .returned (.bool true) ∧ Below W.heap.size W w' := by
  obtain ⟨L, ao, cap, rfl, hI, hA⟩ := hv
  have CG := Lib.hid (great13 L ao cap W hI hA)
  have CD := Lib.hid does13
  have hi : (Try.prog.info? 71).map (·.size) = some 2 := by kernel_rfl
  have HII := Lib.hid hi
  have HI := Lib.hid hI
  have HA := Lib.hid hA
  clear hI hA hi
  by_cases hc : 1 ≤ cp ∧ cp ≤ 1048576
  · obtain ⟨n, rfl⟩ : ∃ n : Nat, cp = (n : Int) := ⟨cp.toNat, by omega⟩
    have CN := Lib.hid (newXd5 n W (by omega) (by omega))
    have CR := Lib.hid (fun w1 => rNew5 n w1 (by omega) (by omega))
    clear hc hcp
    go_enter Try.func11, Try.ntmps11
    go_wp2_with fail
    with_reducible refine CG.out.mono ?_
    rintro e w1 (⟨rfl, rfl⟩ | ⟨rfl, hF, rfl⟩)
    · go_wp2_with fail
      go_ret
      exact ⟨rfl, Below.refl _ _⟩
    have HF := Lib.hid hF
    have hL := hF.n
    clear hF CG
    go_wp2_with fail
    with_reducible refine CN.out.mono ?_
    rintro e w1 ⟨a, rfl, hd, hb, hda⟩
    have HD := Lib.hid hd
    have HB := Lib.hid hb
    clear hd hb CN hda
    go_wp2_with fail
    with_reducible refine (CR.out _).mono ?_
    rintro e w2 ⟨rfl, hr, hb2⟩
    have H0 := Lib.hid (show ∃ D, Py13 W (fun _ => False) W.heap.size a w1.heap.size 0 D w2 from by
      obtain ⟨F, h1, _⟩ := HD.out
      have f1 := h1.fp
      have hr' : RfIn W.heap.size w1.heap.size rc0 (Dk.new n) w2 := ⟨hr.box, row_base5 hr.row HB.out.size, row_base5 hr.krow HB.out.size, hr.set, hr.ok, hr.few, hr.small⟩
      refine ⟨Dk.new n, ⟨F, rc0, h1.below hb2, hr', HB.out.size, fun k hk => ⟨fun hf => ?_, fun q => q⟩, fun k q => q.elim, fun k q => q.elim, Nat.le_trans HB.out.size hb2.size⟩, Nat.le_refl _, HB.out.trans (hb2.mono HB.out.size)⟩
      rcases hk with rfl | ⟨x, hx, _⟩ | ⟨x, hx, _⟩
      · have := (f1 _ hf).2; omega
      · cases hx
      · cases hx)
    obtain ⟨r, hr9⟩ : ∃ x, x = w1.heap.size := ⟨_, rfl⟩
    rw [← hr9] at H0 ⊢
    clear hr hb2 CR HD HB hr9
    go_wp2_with fail
    go_loopw [9] (fun v wr => ∃ i : Nat, i ≤ L.length ∧ v = .int .i64 i ∧ Hid (∃ D, Py13 W (fun _ => False) W.heap.size a r i D wr)) (fun v _ => L.length - (intOf v).toNat)
    case atStart => exact ⟨0, Nat.zero_le _, rfl, H0⟩
    case round =>
      clear H0
      obtain ⟨w3, rfl⟩ : ∃ x, x = wr := ⟨_, rfl⟩
      obtain ⟨i, hi, rfl, HH⟩ := hrel
      obtain ⟨D, hP⟩ := HH.out
      have HP := Lib.hid hP
      clear HH hP
      by_cases hlt : i < L.length
      · have d1 : decide (i < L.length) = true := by simpa using hlt
        have HRI := Lib.hid (HI.out.each (L.getD i ca0) (by rw [show L.getD i ca0 = L[i] from by simp [List.getD, hlt]]; exact List.getElem_mem hlt))
        have HRF := Lib.hid (HF.out.each i hlt)
        obtain ⟨g, off, rfl, hcell⟩ := HA.out.off hlt
        have HNA0 := Lib.hid (hcell.2.2.2.2.2.2.2)
        have kk : ∀ j v, W.cell? ⟨g, j, none⟩ = some v → w3.cell? ⟨g, j, none⟩ = some v := fun j v hv => (HP.out.bel.cell (p := ⟨g, j, none⟩) (cell_lt5 hv)).trans hv
        have c0 := kk _ _ hcell.1
        have c1 := kk _ _ hcell.2.1
        have c2 := kk _ _ hcell.2.2.1
        have c3 := kk _ _ hcell.2.2.2.1
        have c4 := kk _ _ hcell.2.2.2.2.1
        have c5 := kk _ _ hcell.2.2.2.2.2.1
        have c6 := kk _ _ hcell.2.2.2.2.2.2.1
        have hi1 : (0 : Int) ≤ (i : Int) := by omega
        have hi2 : (i : Int) < (L.length : Int) := by omega
        clear hcell kk
        have hkb := HRI.out.kind
        have hkeepI := HRI.out.keep
        have hnI := HRI.out.n.2
        have hkeepF := HRF.out.keep
        have hnmF := HRF.out.name
        have hdtF := HRF.out.data
        generalize L.getD i ca0 = x at *
        obtain ⟨xk, ⟨p, q⟩, xn, xkp, xnm, xdt, xo, xc⟩ := x
        simp only at c0 c1 c2 c3 c4 c5 c6 hkb hkeepI hnI hkeepF HNA0 hnmF hdtF
        obtain ⟨hk0, hk1⟩ := hkb
        have HKS := Lib.hid (hkeepI.ks (by omega))
        have HNN := Lib.hid hnI
        have HTL := Lib.hid (show xnm.length ≤ 140737488351232 ∧ xdt.length ≤ 140737488351232 from ⟨by omega, by omega⟩)
        have HKB := Lib.hid (show ∀ a, xkp ≠ [] → xo = some a → a.block < W.heap.size from fun a hn ha => by
          obtain ⟨g', off', e, hc⟩ := HNA0.out hn
          rw [ha] at e
          cases e
          exact cell_lt5 (hc 0 (List.length_pos_iff.2 hn)))
        have HNA := Lib.hid (fun (w9 : World) (hb : Below W.heap.size W w9) => HNA0.out.below hb)
        have HS := Lib.hid (show D.starts ≤ 1000000000 from by have := HP.out.starts; omega)
        clear HRI HRF hkeepI hkeepF hnI hnmF hdtF HNA0
        obtain ⟨m, hm, hm11⟩ : ∃ m : Nat, xk % 11 = (m : Int) ∧ m < 11 := ⟨(xk % 11).toNat, by omega, by omega⟩
        have hb1 := (Below.refl w3.heap.size w3).alloc (Nat.le_refl _) (.cells #[.int .u8 xk, .int .i64 p, .int .i64 q, .int .i64 xn, .slice xo xkp.length xc, .string (S xnm), .string (S xdt)] 79)
        have hb2 := hb1.alloc hb1.size (.cells #[.int .i64 0, .int .i64 0] 71)
        have hb3 := hb2.alloc hb2.size (.cells #[.int .i64 0, .int .i64 0] 71)
        have HX := Lib.hid (((bk_new #[.int .u8 xk, .int .i64 p, .int .i64 q, .int .i64 xn, .slice xo xkp.length xc, .string (S xnm), .string (S xdt)] 79 w3).more (.cells #[.int .i64 0, .int .i64 0] 71)).more (.cells #[.int .i64 0, .int .i64 0] 71))
        have HYA := Lib.hid ((bk_new #[.int .i64 0, .int .i64 0] 71 (w3.alloc (.cells #[.int .u8 xk, .int .i64 p, .int .i64 q, .int .i64 xn, .slice xo xkp.length xc, .string (S xnm), .string (S xdt)] 79))).more (.cells #[.int .i64 0, .int .i64 0] 71))
        have HYB := Lib.hid (bk_new #[.int .i64 0, .int .i64 0] 71 ((w3.alloc (.cells #[.int .u8 xk, .int .i64 p, .int .i64 q, .int .i64 xn, .slice xo xkp.length xc, .string (S xnm), .string (S xdt)] 79)).alloc (.cells #[.int .i64 0, .int .i64 0] 71)))
        simp only [sz5] at HYA HYB
        have HP4 := Lib.hid (HP.out.two.newrow hb3)
        have HB4 := Lib.hid (HP.out.bel.trans (hb3.mono HP.out.two.size))
        have HSZ := Lib.hid (show (((w3.alloc (.cells #[.int .u8 xk, .int .i64 p, .int .i64 q, .int .i64 xn, .slice xo xkp.length xc, .string (S xnm), .string (S xdt)] 79)).alloc (.cells #[.int .i64 0, .int .i64 0] 71)).alloc (.cells #[.int .i64 0, .int .i64 0] 71)).heap.size = w3.heap.size + 3 from by simp only [sz5])
        have HST := Lib.hid HP.out.starts
        have HXWz := Lib.hid (show W.heap.size ≤ w3.heap.size from HP.out.two.size)
        clear hb1 hb2 hb3 HP
        go_upto_region 15 with fail
        obtain ⟨xb, hxb⟩ : ∃ x, x = w3.heap.size := ⟨_, rfl⟩
        obtain ⟨w4, hw4⟩ : ∃ x, x = ((w3.alloc (.cells #[.int .u8 xk, .int .i64 p, .int .i64 q, .int .i64 xn, .slice xo xkp.length xc, .string (S xnm), .string (S xdt)] 79)).alloc (.cells #[.int .i64 0, .int .i64 0] 71)).alloc (.cells #[.int .i64 0, .int .i64 0] 71) := ⟨_, rfl⟩
        rw [← hw4] at HX HYA HYB HP4 HB4 HSZ
        have HXW := Lib.hid (show W.heap.size ≤ xb from by rw [hxb]; exact Nat.le_trans (Nat.le_refl _) HXWz.out)
        rw [← hxb] at HX HYA HYB HP4 HSZ
        simp only [← hw4, ← hxb]
        clear hw4 hxb c0 c1 c2 c3 c4 c5 c6
        obtain ⟨PP, hPP⟩ : ∃ P : Nat → Prop, P = fun q => False ∨ (xb ≤ q ∧ q < w4.heap.size) := ⟨_, rfl⟩
        have HPX := Lib.hid (show PP xb ∧ PP (xb + 1) ∧ PP (xb + 1 + 1) from by rw [hPP]; have := HSZ.out; exact ⟨.inr (by omega), .inr (by omega), .inr (by omega)⟩)
        rw [← hPP] at HP4
        have HWX := Lib.hid (show W.heap.size ≤ xb + 1 ∧ W.heap.size ≤ xb + 1 + 1 from by have := HXW.out; omega)
        clear hPP HSZ HXW
        have x0 : w4.cell? ⟨xb, 0, none⟩ = some (.int .u8 xk) := HX.out.cell 0
        rcases (show m = 7 ∨ m = 8 ∨ m = 9 ∨ m = 10 ∨ (m = 5 ∨ m = 6) ∨ m < 5 by omega) with rfl | rfl | rfl | rfl | h56 | h5
        · skip
          go_upto_region 22 with fail
          clear x0
          refine wp_region_held_drew (S := fun V => V.cell? ⟨xb, 3, none⟩ = some (.int .i64 xn) ∧ V.cell? ⟨xb, 4, none⟩ = some (.slice xo xkp.length xc)) (by kernel_rfl) ?_ (fun hHeld => ?_)
          · exact ⟨HX.out.cell 3, HX.out.cell 4⟩
          replace HX := Lib.hid HX.out.drew
          replace HYA := Lib.hid HYA.out.drew
          replace HYB := Lib.hid HYB.out.drew
          replace HP4 := Lib.hid (HP4.out.below (Below.refl _ _).drew)
          replace HB4 := Lib.hid HB4.out.drew
          obtain ⟨wg, hwg⟩ : ∃ x, x = World.drew w4 := ⟨_, rfl⟩
          rw [← hwg] at HX HYA HYB HP4 HB4 hHeld ⊢
          clear hwg
          have CJ := Lib.hid (HP4.out.fail xn HNN.out xkp xo xc HKS.out (HNA.out _ HB4.out))
          refine wpAnyH_take (i := 0) (oi := { dst := some 69, op := Op.move (Operand.tmp 5), type := 24, pos := "law.go:75", after := #[], guard := none }) (v := ?_) rfl (by kernel_rfl) (by kernel_rfl) (by kernel_rfl) (fun _ _ _ h => h) (Or.inl ⟨by rfl, ?_⟩) (by assumption) ?_
          rotate_left
          · (intro w hSw; (try dsimp only at hSw); go_simp); (first | done | with_reducible rfl)
          try simp only [Act.put, List.setIfInBounds_toArray, List.set_cons_zero, List.set_cons_succ]
          refine wpAnyH_take (i := 1) (oi := { dst := some 70, op := Op.fieldAddr 79 (Operand.tmp 10) 2, type := 0, pos := "law.go:75", after := #[], guard := none }) (v := ?_) rfl (by kernel_rfl) (by kernel_rfl) (by kernel_rfl) (fun _ _ _ h => h) (Or.inl ⟨by rfl, ?_⟩) (by assumption) ?_
          rotate_left
          · (intro w hSw; (try dsimp only at hSw); go_simp); (first | done | with_reducible rfl)
          try simp only [Act.put, List.setIfInBounds_toArray, List.set_cons_zero, List.set_cons_succ]
          refine wpAnyH_take (i := 2) (oi := { dst := some 71, op := Op.load 3 (Operand.tmp 70), type := 3, pos := "law.go:75", after := #[{ on := 1, ground := Ground.data }], guard := none }) (v := ?_) rfl (by kernel_rfl) (by kernel_rfl) (by kernel_rfl) (fun _ _ _ h => h) (Or.inl ⟨by rfl, ?_⟩) (by assumption) ?_
          rotate_left
          · (intro w hSw; (try dsimp only at hSw); go_simp); (first | done | with_reducible rfl)
          try simp only [Act.put, List.setIfInBounds_toArray, List.set_cons_zero, List.set_cons_succ]
          refine wpAnyH_take (i := 3) (oi := { dst := some 72, op := Op.fieldAddr 79 (Operand.tmp 10) 3, type := 0, pos := "law.go:75", after := #[], guard := none }) (v := ?_) rfl (by kernel_rfl) (by kernel_rfl) (by kernel_rfl) (fun _ _ _ h => h) (Or.inl ⟨by rfl, ?_⟩) (by assumption) ?_
          rotate_left
          · (intro w hSw; (try dsimp only at hSw); go_simp); (first | done | with_reducible rfl)
          try simp only [Act.put, List.setIfInBounds_toArray, List.set_cons_zero, List.set_cons_succ]
          refine wpAnyH_take (i := 4) (oi := { dst := some 73, op := Op.load 32 (Operand.tmp 72), type := 32, pos := "law.go:75", after := #[{ on := 3, ground := Ground.data }], guard := none }) (v := ?_) rfl (by kernel_rfl) (by kernel_rfl) (by kernel_rfl) (fun _ _ _ h => h) (Or.inl ⟨by rfl, ?_⟩) (by assumption) ?_
          rotate_left
          · (intro w hSw; (try dsimp only at hSw); go_simp); (first | done | with_reducible rfl)
          try simp only [Act.put, List.setIfInBounds_toArray, List.set_cons_zero, List.set_cons_succ]
          refine wpAnyH_take (i := 6) (oi := { dst := some 75, op := Op.move (Operand.tmp 7), type := 28, pos := "law.go:75", after := #[], guard := none }) (v := ?_) rfl (by kernel_rfl) (by kernel_rfl) (by kernel_rfl) (fun _ _ _ h => h) (Or.inl ⟨by rfl, ?_⟩) (by assumption) ?_
          rotate_left
          · (intro w hSw; (try dsimp only at hSw); go_simp); (first | done | with_reducible rfl)
          try simp only [Act.put, List.setIfInBounds_toArray, List.set_cons_zero, List.set_cons_succ]
          refine wpAnyH_take (i := 7) (oi := { dst := some 76, op := Op.fieldAddr 79 (Operand.tmp 10) 2, type := 0, pos := "law.go:75", after := #[], guard := none }) (v := ?_) rfl (by kernel_rfl) (by kernel_rfl) (by kernel_rfl) (fun _ _ _ h => h) (Or.inl ⟨by rfl, ?_⟩) (by assumption) ?_
          rotate_left
          · (intro w hSw; (try dsimp only at hSw); go_simp); (first | done | with_reducible rfl)
          try simp only [Act.put, List.setIfInBounds_toArray, List.set_cons_zero, List.set_cons_succ]
          refine wpAnyH_take (i := 8) (oi := { dst := some 77, op := Op.load 3 (Operand.tmp 76), type := 3, pos := "law.go:75", after := #[{ on := 7, ground := Ground.data }], guard := none }) (v := ?_) rfl (by kernel_rfl) (by kernel_rfl) (by kernel_rfl) (fun _ _ _ h => h) (Or.inl ⟨by rfl, ?_⟩) (by assumption) ?_
          rotate_left
          · (intro w hSw; (try dsimp only at hSw); go_simp); (first | done | with_reducible rfl)
          try simp only [Act.put, List.setIfInBounds_toArray, List.set_cons_zero, List.set_cons_succ]
          refine wpAnyH_take (i := 9) (oi := { dst := some 78, op := Op.fieldAddr 79 (Operand.tmp 10) 3, type := 0, pos := "law.go:75", after := #[], guard := none }) (v := ?_) rfl (by kernel_rfl) (by kernel_rfl) (by kernel_rfl) (fun _ _ _ h => h) (Or.inl ⟨by rfl, ?_⟩) (by assumption) ?_
          rotate_left
          · (intro w hSw; (try dsimp only at hSw); go_simp); (first | done | with_reducible rfl)
          try simp only [Act.put, List.setIfInBounds_toArray, List.set_cons_zero, List.set_cons_succ]
          refine wpAnyH_take (i := 10) (oi := { dst := some 79, op := Op.load 32 (Operand.tmp 78), type := 32, pos := "law.go:75", after := #[{ on := 9, ground := Ground.data }], guard := none }) (v := ?_) rfl (by kernel_rfl) (by kernel_rfl) (by kernel_rfl) (fun _ _ _ h => h) (Or.inl ⟨by rfl, ?_⟩) (by assumption) ?_
          rotate_left
          · (intro w hSw; (try dsimp only at hSw); go_simp); (first | done | with_reducible rfl)
          try simp only [Act.put, List.setIfInBounds_toArray, List.set_cons_zero, List.set_cons_succ]
          refine wpAnyH_ready (rs := [5]) (by kernel_rfl) (by simp) ?_
          refine AllReadyH.cons (o := { dst := some 74, op := Op.call { callee := Callee.value (Operand.func 39), args := #[Operand.tmp 69, Operand.tmp 71, Operand.tmp 73], argTypes := #[24, 3, 32] }, type := 25, pos := "law.go:75", after := #[{ on := 0, ground := Ground.data }, { on := 2, ground := Ground.data }, { on := 4, ground := Ground.data }], guard := none }) rfl (fun K hK => ?_) AllReadyH.nil
          go_simp
          go_simp
          go_at_call 39
          with_reducible refine (CJ.out).mono ?_
          rintro e w7 ⟨rfl, ht, hw⟩
          replace HB4 := Lib.hid (HB4.out.trans (hw.below (fun q hq => hq.1) HP4.out.size))
          replace HX := Lib.hid (HX.out.wr hw (fun q => q.2 HPX.out.1))
          replace HYA := Lib.hid (HYA.out.wr hw (fun q => q.2 HPX.out.2.1))
          replace HYB := Lib.hid (HYB.out.wr hw (fun q => q.2 HPX.out.2.2))
          have HP7 := Lib.hid ht
          replace CJ := Lib.hid (HP7.out.rfail xn HNN.out xkp xo xc HKS.out (HNA.out _ HB4.out) HKB.out)
          clear ht hw HP4
          go_wp2_with fail
          refine hK.out _ _ ?_ (fun hHeld => ?_)
          · exact ⟨HX.out.cell 3, HX.out.cell 4⟩
          clear hK K
          try simp only [Act.put, List.setIfInBounds_toArray, List.set_cons_zero, List.set_cons_succ]
          refine wpAnyH_ready (rs := [11]) (by kernel_rfl) (by simp) ?_
          refine AllReadyH.cons (o := { dst := some 80, op := Op.call { callee := Callee.value (Operand.func 52), args := #[Operand.tmp 75, Operand.tmp 77, Operand.tmp 79], argTypes := #[28, 3, 32] }, type := 25, pos := "law.go:75", after := #[{ on := 6, ground := Ground.data }, { on := 8, ground := Ground.data }, { on := 10, ground := Ground.data }, { on := 5, ground := Ground.chain }], guard := none }) rfl (fun K hK => ?_) AllReadyH.nil
          go_simp
          go_simp
          go_at_call 52
          with_reducible refine (CJ.out).mono ?_
          rintro e wz ⟨rfl, ht, hw⟩
          have HB8 := Lib.hid (HB4.out.trans (hw.below (fun q hq => hq.1) HP7.out.size))
          replace HX := Lib.hid (HX.out.wr hw (fun q => q.2 HPX.out.1))
          replace HYA := Lib.hid (HYA.out.wr hw (fun q => q.2 HPX.out.2.1))
          replace HYB := Lib.hid (HYB.out.wr hw (fun q => q.2 HPX.out.2.2))
          have HP8 := Lib.hid ht
          clear ht hw CJ HP7 HB4
          go_wp2_with fail
          refine hK.out _ _ ?_ (fun hHeld => ?_)
          · exact ⟨HX.out.cell 3, HX.out.cell 4⟩
          clear hK K
          try simp only [Act.put, List.setIfInBounds_toArray, List.set_cons_zero, List.set_cons_succ]
          refine wpAnyH_take (i := 12) (oi := { dst := some 11, op := Op.assign (Operand.tmp 74), type := 25, pos := "law.go:75", after := #[{ on := 5, ground := Ground.data }, { on := 11, ground := Ground.chain }, { on := 0, ground := Ground.phase }, { on := 1, ground := Ground.phase }, { on := 2, ground := Ground.phase }, { on := 3, ground := Ground.phase }, { on := 4, ground := Ground.phase }, { on := 5, ground := Ground.phase }, { on := 6, ground := Ground.textOnly Departure.lateStores }, { on := 7, ground := Ground.textOnly Departure.lateStores }, { on := 8, ground := Ground.textOnly Departure.lateStores }, { on := 9, ground := Ground.textOnly Departure.lateStores }, { on := 10, ground := Ground.textOnly Departure.lateStores }, { on := 11, ground := Ground.textOnly Departure.lateStoresUnsure }], guard := none }) (v := ?_) rfl (by kernel_rfl) (by kernel_rfl) (by kernel_rfl) (fun _ _ _ h => h) (Or.inl ⟨by rfl, ?_⟩) (by assumption) ?_
          rotate_left
          · (intro w hSw; (try dsimp only at hSw); go_simp); (first | done | with_reducible rfl)
          try simp only [Act.put, List.setIfInBounds_toArray, List.set_cons_zero, List.set_cons_succ]
          refine wpAnyH_take (i := 13) (oi := { dst := some 12, op := Op.assign (Operand.tmp 80), type := 25, pos := "law.go:75", after := #[{ on := 11, ground := Ground.data }, { on := 12, ground := Ground.chain }, { on := 0, ground := Ground.phase }, { on := 1, ground := Ground.phase }, { on := 2, ground := Ground.phase }, { on := 3, ground := Ground.phase }, { on := 4, ground := Ground.phase }, { on := 5, ground := Ground.phase }, { on := 6, ground := Ground.phase }, { on := 7, ground := Ground.phase }, { on := 8, ground := Ground.phase }, { on := 9, ground := Ground.phase }, { on := 10, ground := Ground.phase }, { on := 11, ground := Ground.phase }, { on := 12, ground := Ground.phase }], guard := none }) (v := ?_) rfl (by kernel_rfl) (by kernel_rfl) (by kernel_rfl) (fun _ _ _ h => h) (Or.inl ⟨by rfl, ?_⟩) (by assumption) ?_
          rotate_left
          · (intro w hSw; (try dsimp only at hSw); go_simp); (first | done | with_reducible rfl)
          refine wpAnyH_done (by kernel_rfl) ?_ _
          have HS9 := Lib.hid (show ((Dk.fail xn xkp D).2).starts ≤ i + 1 from by have := (Dk.kin_fail xn xkp D).1.starts; have := HST.out; omega)
          clear hHeld HX
          generalize (Dk.fail xn xkp D) = rr at *
          obtain ⟨vv, D9⟩ := rr
          have vn : (vv != vv) = false := by simp
          simp only at HP8 HS9 ⊢

          go_upto_region 29 with fail
          have CS := Lib.hid (same5 HP8.out)
          have y0 : wz.cell? ⟨xb + 1, 0, none⟩ = some (.int .i64 0) := HYA.out.cell 0
          have y1 : wz.cell? ⟨xb + 1, 1, none⟩ = some (.int .i64 0) := HYA.out.cell 1
          have y2 : wz.cell? ⟨xb + 1 + 1, 0, none⟩ = some (.int .i64 0) := HYB.out.cell 0
          have y3 : wz.cell? ⟨xb + 1 + 1, 1, none⟩ = some (.int .i64 0) := HYB.out.cell 1
          go_wp2_with fail
          with_reducible refine CS.out.mono ?_
          rintro e wy ⟨rfl, hb⟩
          have HFIN := Lib.hid (show ∃ D, Py13 W (fun _ => False) W.heap.size a r (i + 1) D wy from ⟨_, (HP8.out.below hb).less (fun _ q => q.elim), HS9.out, HB8.out.trans (hb.mono HP8.out.size)⟩)
          clear hb CS HP8 y0 y1 y2 y3
          go_wp2_with fail
          go_roundw
          case rel => exact ⟨i + 1, by omega, by go_num, HFIN⟩
          case measure => simp [intOf]; omega
        · skip
          go_upto_region 24 with fail
          clear x0
          refine wp_region_held_drew (S := fun V => V.cell? ⟨xb, 4, none⟩ = some (.slice xo xkp.length xc)) (by kernel_rfl) ?_ (fun hHeld => ?_)
          · exact HX.out.cell 4
          replace HX := Lib.hid HX.out.drew
          replace HYA := Lib.hid HYA.out.drew
          replace HYB := Lib.hid HYB.out.drew
          replace HP4 := Lib.hid (HP4.out.below (Below.refl _ _).drew)
          replace HB4 := Lib.hid HB4.out.drew
          obtain ⟨wg, hwg⟩ : ∃ x, x = World.drew w4 := ⟨_, rfl⟩
          rw [← hwg] at HX HYA HYB HP4 HB4 hHeld ⊢
          clear hwg
          have CJ := Lib.hid (HP4.out.crash xkp xo xc HKS.out (HNA.out _ HB4.out) HKB.out)
          refine wpAnyH_take (i := 0) (oi := { dst := some 83, op := Op.move (Operand.tmp 5), type := 24, pos := "law.go:77", after := #[], guard := none }) (v := ?_) rfl (by kernel_rfl) (by kernel_rfl) (by kernel_rfl) (fun _ _ _ h => h) (Or.inl ⟨by rfl, ?_⟩) (by assumption) ?_
          rotate_left
          · (intro w hSw; (try dsimp only at hSw); go_simp); (first | done | with_reducible rfl)
          try simp only [Act.put, List.setIfInBounds_toArray, List.set_cons_zero, List.set_cons_succ]
          refine wpAnyH_take (i := 1) (oi := { dst := some 84, op := Op.fieldAddr 79 (Operand.tmp 10) 3, type := 0, pos := "law.go:77", after := #[], guard := none }) (v := ?_) rfl (by kernel_rfl) (by kernel_rfl) (by kernel_rfl) (fun _ _ _ h => h) (Or.inl ⟨by rfl, ?_⟩) (by assumption) ?_
          rotate_left
          · (intro w hSw; (try dsimp only at hSw); go_simp); (first | done | with_reducible rfl)
          try simp only [Act.put, List.setIfInBounds_toArray, List.set_cons_zero, List.set_cons_succ]
          refine wpAnyH_take (i := 2) (oi := { dst := some 85, op := Op.load 32 (Operand.tmp 84), type := 32, pos := "law.go:77", after := #[{ on := 1, ground := Ground.data }], guard := none }) (v := ?_) rfl (by kernel_rfl) (by kernel_rfl) (by kernel_rfl) (fun _ _ _ h => h) (Or.inl ⟨by rfl, ?_⟩) (by assumption) ?_
          rotate_left
          · (intro w hSw; (try dsimp only at hSw); go_simp); (first | done | with_reducible rfl)
          try simp only [Act.put, List.setIfInBounds_toArray, List.set_cons_zero, List.set_cons_succ]
          refine wpAnyH_take (i := 4) (oi := { dst := some 87, op := Op.move (Operand.tmp 7), type := 28, pos := "law.go:77", after := #[], guard := none }) (v := ?_) rfl (by kernel_rfl) (by kernel_rfl) (by kernel_rfl) (fun _ _ _ h => h) (Or.inl ⟨by rfl, ?_⟩) (by assumption) ?_
          rotate_left
          · (intro w hSw; (try dsimp only at hSw); go_simp); (first | done | with_reducible rfl)
          try simp only [Act.put, List.setIfInBounds_toArray, List.set_cons_zero, List.set_cons_succ]
          refine wpAnyH_take (i := 5) (oi := { dst := some 88, op := Op.fieldAddr 79 (Operand.tmp 10) 3, type := 0, pos := "law.go:77", after := #[], guard := none }) (v := ?_) rfl (by kernel_rfl) (by kernel_rfl) (by kernel_rfl) (fun _ _ _ h => h) (Or.inl ⟨by rfl, ?_⟩) (by assumption) ?_
          rotate_left
          · (intro w hSw; (try dsimp only at hSw); go_simp); (first | done | with_reducible rfl)
          try simp only [Act.put, List.setIfInBounds_toArray, List.set_cons_zero, List.set_cons_succ]
          refine wpAnyH_take (i := 6) (oi := { dst := some 89, op := Op.load 32 (Operand.tmp 88), type := 32, pos := "law.go:77", after := #[{ on := 5, ground := Ground.data }], guard := none }) (v := ?_) rfl (by kernel_rfl) (by kernel_rfl) (by kernel_rfl) (fun _ _ _ h => h) (Or.inl ⟨by rfl, ?_⟩) (by assumption) ?_
          rotate_left
          · (intro w hSw; (try dsimp only at hSw); go_simp); (first | done | with_reducible rfl)
          try simp only [Act.put, List.setIfInBounds_toArray, List.set_cons_zero, List.set_cons_succ]
          refine wpAnyH_ready (rs := [3]) (by kernel_rfl) (by simp) ?_
          refine AllReadyH.cons (o := { dst := some 86, op := Op.call { callee := Callee.value (Operand.func 37), args := #[Operand.tmp 83, Operand.tmp 85], argTypes := #[24, 32] }, type := 25, pos := "law.go:77", after := #[{ on := 0, ground := Ground.data }, { on := 2, ground := Ground.data }], guard := none }) rfl (fun K hK => ?_) AllReadyH.nil
          go_simp
          go_simp
          go_at_call 37
          with_reducible refine (CJ.out).mono ?_
          rintro e w7 ⟨rfl, ht, hw⟩
          replace HB4 := Lib.hid (HB4.out.trans (hw.below (fun q hq => hq.1) HP4.out.size))
          replace HX := Lib.hid (HX.out.wr hw (fun q => q.2 HPX.out.1))
          replace HYA := Lib.hid (HYA.out.wr hw (fun q => q.2 HPX.out.2.1))
          replace HYB := Lib.hid (HYB.out.wr hw (fun q => q.2 HPX.out.2.2))
          have HP7 := Lib.hid ht
          replace CJ := Lib.hid (HP7.out.rcrash xkp xo xc HKS.out (HNA.out _ HB4.out) HKB.out)
          clear ht hw HP4
          go_wp2_with fail
          refine hK.out _ _ ?_ (fun hHeld => ?_)
          · exact HX.out.cell 4
          clear hK K
          try simp only [Act.put, List.setIfInBounds_toArray, List.set_cons_zero, List.set_cons_succ]
          refine wpAnyH_ready (rs := [7]) (by kernel_rfl) (by simp) ?_
          refine AllReadyH.cons (o := { dst := some 90, op := Op.call { callee := Callee.value (Operand.func 53), args := #[Operand.tmp 87, Operand.tmp 89], argTypes := #[28, 32] }, type := 25, pos := "law.go:77", after := #[{ on := 4, ground := Ground.data }, { on := 6, ground := Ground.data }, { on := 3, ground := Ground.chain }], guard := none }) rfl (fun K hK => ?_) AllReadyH.nil
          go_simp
          go_simp
          go_at_call 53
          with_reducible refine (CJ.out).mono ?_
          rintro e wz ⟨rfl, ht, hw⟩
          have HB8 := Lib.hid (HB4.out.trans (hw.below (fun q hq => hq.1) HP7.out.size))
          replace HX := Lib.hid (HX.out.wr hw (fun q => q.2 HPX.out.1))
          replace HYA := Lib.hid (HYA.out.wr hw (fun q => q.2 HPX.out.2.1))
          replace HYB := Lib.hid (HYB.out.wr hw (fun q => q.2 HPX.out.2.2))
          have HP8 := Lib.hid ht
          clear ht hw CJ HP7 HB4
          go_wp2_with fail
          refine hK.out _ _ ?_ (fun hHeld => ?_)
          · exact HX.out.cell 4
          clear hK K
          try simp only [Act.put, List.setIfInBounds_toArray, List.set_cons_zero, List.set_cons_succ]
          refine wpAnyH_take (i := 8) (oi := { dst := some 11, op := Op.assign (Operand.tmp 86), type := 25, pos := "law.go:77", after := #[{ on := 3, ground := Ground.data }, { on := 7, ground := Ground.chain }, { on := 0, ground := Ground.phase }, { on := 1, ground := Ground.phase }, { on := 2, ground := Ground.phase }, { on := 3, ground := Ground.phase }, { on := 4, ground := Ground.textOnly Departure.lateStores }, { on := 5, ground := Ground.textOnly Departure.lateStores }, { on := 6, ground := Ground.textOnly Departure.lateStores }, { on := 7, ground := Ground.textOnly Departure.lateStoresUnsure }], guard := none }) (v := ?_) rfl (by kernel_rfl) (by kernel_rfl) (by kernel_rfl) (fun _ _ _ h => h) (Or.inl ⟨by rfl, ?_⟩) (by assumption) ?_
          rotate_left
          · (intro w hSw; (try dsimp only at hSw); go_simp); (first | done | with_reducible rfl)
          try simp only [Act.put, List.setIfInBounds_toArray, List.set_cons_zero, List.set_cons_succ]
          refine wpAnyH_take (i := 9) (oi := { dst := some 12, op := Op.assign (Operand.tmp 90), type := 25, pos := "law.go:77", after := #[{ on := 7, ground := Ground.data }, { on := 8, ground := Ground.chain }, { on := 0, ground := Ground.phase }, { on := 1, ground := Ground.phase }, { on := 2, ground := Ground.phase }, { on := 3, ground := Ground.phase }, { on := 4, ground := Ground.phase }, { on := 5, ground := Ground.phase }, { on := 6, ground := Ground.phase }, { on := 7, ground := Ground.phase }, { on := 8, ground := Ground.phase }], guard := none }) (v := ?_) rfl (by kernel_rfl) (by kernel_rfl) (by kernel_rfl) (fun _ _ _ h => h) (Or.inl ⟨by rfl, ?_⟩) (by assumption) ?_
          rotate_left
          · (intro w hSw; (try dsimp only at hSw); go_simp); (first | done | with_reducible rfl)
          refine wpAnyH_done (by kernel_rfl) ?_ _
          have HS9 := Lib.hid (show ((Dk.crash xkp D).2).starts ≤ i + 1 from by have := (Dk.kin_crash xkp D).1.starts; have := HST.out; omega)
          clear hHeld HX
          generalize (Dk.crash xkp D) = rr at *
          obtain ⟨vv, D9⟩ := rr
          have vn : (vv != vv) = false := by simp
          simp only at HP8 HS9 ⊢

          go_upto_region 29 with fail
          have CS := Lib.hid (same5 HP8.out)
          have y0 : wz.cell? ⟨xb + 1, 0, none⟩ = some (.int .i64 0) := HYA.out.cell 0
          have y1 : wz.cell? ⟨xb + 1, 1, none⟩ = some (.int .i64 0) := HYA.out.cell 1
          have y2 : wz.cell? ⟨xb + 1 + 1, 0, none⟩ = some (.int .i64 0) := HYB.out.cell 0
          have y3 : wz.cell? ⟨xb + 1 + 1, 1, none⟩ = some (.int .i64 0) := HYB.out.cell 1
          go_wp2_with fail
          with_reducible refine CS.out.mono ?_
          rintro e wy ⟨rfl, hb⟩
          have HFIN := Lib.hid (show ∃ D, Py13 W (fun _ => False) W.heap.size a r (i + 1) D wy from ⟨_, (HP8.out.below hb).less (fun _ q => q.elim), HS9.out, HB8.out.trans (hb.mono HP8.out.size)⟩)
          clear hb CS HP8 y0 y1 y2 y3
          go_wp2_with fail
          go_roundw
          case rel => exact ⟨i + 1, by omega, by go_num, HFIN⟩
          case measure => simp [intOf]; omega
        · skip
          go_upto_region 26 with fail
          clear x0
          have CJ := Lib.hid (HP4.out.start HS.out)
          go_wp2_with fail
          with_reducible refine CJ.out.mono ?_
          rintro e w7 ⟨rfl, ht, hw⟩
          replace HB4 := Lib.hid (HB4.out.trans (hw.below (fun q hq => hq.1) HP4.out.size))
          replace HYA := Lib.hid (HYA.out.wr hw (fun q => q.2 HPX.out.2.1))
          replace HYB := Lib.hid (HYB.out.wr hw (fun q => q.2 HPX.out.2.2))
          have HP7 := Lib.hid ht
          replace CJ := Lib.hid (HP7.out.rstart HS.out)
          clear ht hw HP4
          go_wp2_with fail
          with_reducible refine CJ.out.mono ?_
          rintro e wz ⟨rfl, ht, hw⟩
          have HB8 := Lib.hid (HB4.out.trans (hw.below (fun q hq => hq.1) HP7.out.size))
          replace HYA := Lib.hid (HYA.out.wr hw (fun q => q.2 HPX.out.2.1))
          replace HYB := Lib.hid (HYB.out.wr hw (fun q => q.2 HPX.out.2.2))
          have HP8 := Lib.hid ht
          clear ht hw CJ HP7 HB4 HX
          have HS9 := Lib.hid (show (Dk.start D).2.starts ≤ i + 1 from by have := (Dk.kin_start D).1.starts; have := HST.out; omega)
          generalize Dk.start D = rr at *
          obtain ⟨vv, D9⟩ := rr
          have vn : (vv != vv) = false := by simp
          simp only at HP8 HS9 ⊢

          go_upto_region 29 with fail
          have CS := Lib.hid (same5 HP8.out)
          have y0 : wz.cell? ⟨xb + 1, 0, none⟩ = some (.int .i64 0) := HYA.out.cell 0
          have y1 : wz.cell? ⟨xb + 1, 1, none⟩ = some (.int .i64 0) := HYA.out.cell 1
          have y2 : wz.cell? ⟨xb + 1 + 1, 0, none⟩ = some (.int .i64 0) := HYB.out.cell 0
          have y3 : wz.cell? ⟨xb + 1 + 1, 1, none⟩ = some (.int .i64 0) := HYB.out.cell 1
          go_wp2_with fail
          with_reducible refine CS.out.mono ?_
          rintro e wy ⟨rfl, hb⟩
          have HFIN := Lib.hid (show ∃ D, Py13 W (fun _ => False) W.heap.size a r (i + 1) D wy from ⟨_, (HP8.out.below hb).less (fun _ q => q.elim), HS9.out, HB8.out.trans (hb.mono HP8.out.size)⟩)
          clear hb CS HP8 y0 y1 y2 y3
          go_wp2_with fail
          go_roundw
          case rel => exact ⟨i + 1, by omega, by go_num, HFIN⟩
          case measure => simp [intOf]; omega
        · skip
          have HOK := Lib.hid HP4.out.ok
          go_upto_region 28 with fail
          clear x0
          refine wp_region_held_drew (S := fun V => V.cell? ⟨xb, 5, none⟩ = some (.string (S xnm)) ∧ V.cell? ⟨xb, 6, none⟩ = some (.string (S xdt))) (by kernel_rfl) ?_ (fun hHeld => ?_)
          · exact ⟨HX.out.cell 5, HX.out.cell 6⟩
          replace HX := Lib.hid HX.out.drew
          replace HYA := Lib.hid HYA.out.drew
          replace HYB := Lib.hid HYB.out.drew
          replace HP4 := Lib.hid (HP4.out.below (Below.refl _ _).drew)
          replace HB4 := Lib.hid HB4.out.drew
          obtain ⟨wg, hwg⟩ : ∃ x, x = World.drew w4 := ⟨_, rfl⟩
          rw [← hwg] at HX HYA HYB HP4 HB4 hHeld ⊢
          clear hwg
          have CJ := Lib.hid (HP4.out.append xnm xdt HTL.out.1 HTL.out.2)
          refine wpAnyH_take (i := 0) (oi := { dst := some 99, op := Op.move (Operand.tmp 5), type := 24, pos := "law.go:81", after := #[], guard := none }) (v := ?_) rfl (by kernel_rfl) (by kernel_rfl) (by kernel_rfl) (fun _ _ _ h => h) (Or.inl ⟨by rfl, ?_⟩) (by assumption) ?_
          rotate_left
          · (intro w hSw; (try dsimp only at hSw); go_simp); (first | done | with_reducible rfl)
          try simp only [Act.put, List.setIfInBounds_toArray, List.set_cons_zero, List.set_cons_succ]
          refine wpAnyH_take (i := 1) (oi := { dst := some 100, op := Op.fieldAddr 79 (Operand.tmp 10) 4, type := 0, pos := "law.go:81", after := #[], guard := none }) (v := ?_) rfl (by kernel_rfl) (by kernel_rfl) (by kernel_rfl) (fun _ _ _ h => h) (Or.inl ⟨by rfl, ?_⟩) (by assumption) ?_
          rotate_left
          · (intro w hSw; (try dsimp only at hSw); go_simp); (first | done | with_reducible rfl)
          try simp only [Act.put, List.setIfInBounds_toArray, List.set_cons_zero, List.set_cons_succ]
          refine wpAnyH_take (i := 2) (oi := { dst := some 101, op := Op.load 9 (Operand.tmp 100), type := 9, pos := "law.go:81", after := #[{ on := 1, ground := Ground.data }], guard := none }) (v := ?_) rfl (by kernel_rfl) (by kernel_rfl) (by kernel_rfl) (fun _ _ _ h => h) (Or.inl ⟨by rfl, ?_⟩) (by assumption) ?_
          rotate_left
          · (intro w hSw; (try dsimp only at hSw); go_simp); (first | done | with_reducible rfl)
          try simp only [Act.put, List.setIfInBounds_toArray, List.set_cons_zero, List.set_cons_succ]
          refine wpAnyH_take (i := 3) (oi := { dst := some 102, op := Op.fieldAddr 79 (Operand.tmp 10) 5, type := 0, pos := "law.go:81", after := #[], guard := none }) (v := ?_) rfl (by kernel_rfl) (by kernel_rfl) (by kernel_rfl) (fun _ _ _ h => h) (Or.inl ⟨by rfl, ?_⟩) (by assumption) ?_
          rotate_left
          · (intro w hSw; (try dsimp only at hSw); go_simp); (first | done | with_reducible rfl)
          try simp only [Act.put, List.setIfInBounds_toArray, List.set_cons_zero, List.set_cons_succ]
          refine wpAnyH_take (i := 4) (oi := { dst := some 103, op := Op.load 9 (Operand.tmp 102), type := 9, pos := "law.go:81", after := #[{ on := 3, ground := Ground.data }], guard := none }) (v := ?_) rfl (by kernel_rfl) (by kernel_rfl) (by kernel_rfl) (fun _ _ _ h => h) (Or.inl ⟨by rfl, ?_⟩) (by assumption) ?_
          rotate_left
          · (intro w hSw; (try dsimp only at hSw); go_simp); (first | done | with_reducible rfl)
          try simp only [Act.put, List.setIfInBounds_toArray, List.set_cons_zero, List.set_cons_succ]
          refine wpAnyH_take (i := 6) (oi := { dst := some 105, op := Op.move (Operand.tmp 7), type := 28, pos := "law.go:81", after := #[], guard := none }) (v := ?_) rfl (by kernel_rfl) (by kernel_rfl) (by kernel_rfl) (fun _ _ _ h => h) (Or.inl ⟨by rfl, ?_⟩) (by assumption) ?_
          rotate_left
          · (intro w hSw; (try dsimp only at hSw); go_simp); (first | done | with_reducible rfl)
          try simp only [Act.put, List.setIfInBounds_toArray, List.set_cons_zero, List.set_cons_succ]
          refine wpAnyH_take (i := 7) (oi := { dst := some 106, op := Op.fieldAddr 79 (Operand.tmp 10) 4, type := 0, pos := "law.go:81", after := #[], guard := none }) (v := ?_) rfl (by kernel_rfl) (by kernel_rfl) (by kernel_rfl) (fun _ _ _ h => h) (Or.inl ⟨by rfl, ?_⟩) (by assumption) ?_
          rotate_left
          · (intro w hSw; (try dsimp only at hSw); go_simp); (first | done | with_reducible rfl)
          try simp only [Act.put, List.setIfInBounds_toArray, List.set_cons_zero, List.set_cons_succ]
          refine wpAnyH_take (i := 8) (oi := { dst := some 107, op := Op.load 9 (Operand.tmp 106), type := 9, pos := "law.go:81", after := #[{ on := 7, ground := Ground.data }], guard := none }) (v := ?_) rfl (by kernel_rfl) (by kernel_rfl) (by kernel_rfl) (fun _ _ _ h => h) (Or.inl ⟨by rfl, ?_⟩) (by assumption) ?_
          rotate_left
          · (intro w hSw; (try dsimp only at hSw); go_simp); (first | done | with_reducible rfl)
          try simp only [Act.put, List.setIfInBounds_toArray, List.set_cons_zero, List.set_cons_succ]
          refine wpAnyH_take (i := 9) (oi := { dst := some 108, op := Op.fieldAddr 79 (Operand.tmp 10) 5, type := 0, pos := "law.go:81", after := #[], guard := none }) (v := ?_) rfl (by kernel_rfl) (by kernel_rfl) (by kernel_rfl) (fun _ _ _ h => h) (Or.inl ⟨by rfl, ?_⟩) (by assumption) ?_
          rotate_left
          · (intro w hSw; (try dsimp only at hSw); go_simp); (first | done | with_reducible rfl)
          try simp only [Act.put, List.setIfInBounds_toArray, List.set_cons_zero, List.set_cons_succ]
          refine wpAnyH_take (i := 10) (oi := { dst := some 109, op := Op.load 9 (Operand.tmp 108), type := 9, pos := "law.go:81", after := #[{ on := 9, ground := Ground.data }], guard := none }) (v := ?_) rfl (by kernel_rfl) (by kernel_rfl) (by kernel_rfl) (fun _ _ _ h => h) (Or.inl ⟨by rfl, ?_⟩) (by assumption) ?_
          rotate_left
          · (intro w hSw; (try dsimp only at hSw); go_simp); (first | done | with_reducible rfl)
          try simp only [Act.put, List.setIfInBounds_toArray, List.set_cons_zero, List.set_cons_succ]
          refine wpAnyH_ready (rs := [5]) (by kernel_rfl) (by simp) ?_
          refine AllReadyH.cons (o := { dst := some 104, op := Op.call { callee := Callee.value (Operand.func 32), args := #[Operand.tmp 99, Operand.tmp 101, Operand.tmp 103], argTypes := #[24, 9, 9] }, type := 25, pos := "law.go:81", after := #[{ on := 0, ground := Ground.data }, { on := 2, ground := Ground.data }, { on := 4, ground := Ground.data }], guard := none }) rfl (fun K hK => ?_) AllReadyH.nil
          go_simp
          go_simp
          go_at_call 32
          with_reducible refine (CJ.out).mono ?_
          rintro e w7 ⟨rfl, ht, hw⟩
          replace HB4 := Lib.hid (HB4.out.trans (hw.below (fun q hq => hq.1) HP4.out.size))
          replace HX := Lib.hid (HX.out.wr hw (fun q => q.2 HPX.out.1))
          replace HYA := Lib.hid (HYA.out.wr hw (fun q => q.2 HPX.out.2.1))
          replace HYB := Lib.hid (HYB.out.wr hw (fun q => q.2 HPX.out.2.2))
          have HP7 := Lib.hid ht
          replace CJ := Lib.hid (HP7.out.rappend HOK.out xnm xdt HTL.out.1 HTL.out.2)
          clear ht hw HP4
          go_wp2_with fail
          refine hK.out _ _ ?_ (fun hHeld => ?_)
          · exact ⟨HX.out.cell 5, HX.out.cell 6⟩
          clear hK K
          try simp only [Act.put, List.setIfInBounds_toArray, List.set_cons_zero, List.set_cons_succ]
          refine wpAnyH_ready (rs := [11]) (by kernel_rfl) (by simp) ?_
          refine AllReadyH.cons (o := { dst := some 110, op := Op.call { callee := Callee.value (Operand.func 55), args := #[Operand.tmp 105, Operand.tmp 107, Operand.tmp 109], argTypes := #[28, 9, 9] }, type := 25, pos := "law.go:81", after := #[{ on := 6, ground := Ground.data }, { on := 8, ground := Ground.data }, { on := 10, ground := Ground.data }, { on := 5, ground := Ground.chain }], guard := none }) rfl (fun K hK => ?_) AllReadyH.nil
          go_simp
          go_simp
          go_at_call 55
          with_reducible refine (CJ.out).mono ?_
          rintro e wz ⟨rfl, ht, hw⟩
          have HB8 := Lib.hid (HB4.out.trans (hw.below (fun q hq => hq.1) HP7.out.size))
          replace HX := Lib.hid (HX.out.wr hw (fun q => q.2 HPX.out.1))
          replace HYA := Lib.hid (HYA.out.wr hw (fun q => q.2 HPX.out.2.1))
          replace HYB := Lib.hid (HYB.out.wr hw (fun q => q.2 HPX.out.2.2))
          have HP8 := Lib.hid ht
          clear ht hw CJ HP7 HB4
          go_wp2_with fail
          refine hK.out _ _ ?_ (fun hHeld => ?_)
          · exact ⟨HX.out.cell 5, HX.out.cell 6⟩
          clear hK K
          try simp only [Act.put, List.setIfInBounds_toArray, List.set_cons_zero, List.set_cons_succ]
          refine wpAnyH_take (i := 12) (oi := { dst := some 11, op := Op.assign (Operand.tmp 104), type := 25, pos := "law.go:81", after := #[{ on := 5, ground := Ground.data }, { on := 11, ground := Ground.chain }, { on := 0, ground := Ground.phase }, { on := 1, ground := Ground.phase }, { on := 2, ground := Ground.phase }, { on := 3, ground := Ground.phase }, { on := 4, ground := Ground.phase }, { on := 5, ground := Ground.phase }, { on := 6, ground := Ground.textOnly Departure.lateStores }, { on := 7, ground := Ground.textOnly Departure.lateStores }, { on := 8, ground := Ground.textOnly Departure.lateStores }, { on := 9, ground := Ground.textOnly Departure.lateStores }, { on := 10, ground := Ground.textOnly Departure.lateStores }, { on := 11, ground := Ground.textOnly Departure.lateStoresUnsure }], guard := none }) (v := ?_) rfl (by kernel_rfl) (by kernel_rfl) (by kernel_rfl) (fun _ _ _ h => h) (Or.inl ⟨by rfl, ?_⟩) (by assumption) ?_
          rotate_left
          · (intro w hSw; (try dsimp only at hSw); go_simp); (first | done | with_reducible rfl)
          try simp only [Act.put, List.setIfInBounds_toArray, List.set_cons_zero, List.set_cons_succ]
          refine wpAnyH_take (i := 13) (oi := { dst := some 12, op := Op.assign (Operand.tmp 110), type := 25, pos := "law.go:81", after := #[{ on := 11, ground := Ground.data }, { on := 12, ground := Ground.chain }, { on := 0, ground := Ground.phase }, { on := 1, ground := Ground.phase }, { on := 2, ground := Ground.phase }, { on := 3, ground := Ground.phase }, { on := 4, ground := Ground.phase }, { on := 5, ground := Ground.phase }, { on := 6, ground := Ground.phase }, { on := 7, ground := Ground.phase }, { on := 8, ground := Ground.phase }, { on := 9, ground := Ground.phase }, { on := 10, ground := Ground.phase }, { on := 11, ground := Ground.phase }, { on := 12, ground := Ground.phase }], guard := none }) (v := ?_) rfl (by kernel_rfl) (by kernel_rfl) (by kernel_rfl) (fun _ _ _ h => h) (Or.inl ⟨by rfl, ?_⟩) (by assumption) ?_
          rotate_left
          · (intro w hSw; (try dsimp only at hSw); go_simp); (first | done | with_reducible rfl)
          refine wpAnyH_done (by kernel_rfl) ?_ _
          have HS9 := Lib.hid (show ((Dk.append xnm xdt D).2).starts ≤ i + 1 from by have := Dk.append_starts13 xnm xdt D; have := HST.out; omega)
          clear hHeld HX
          generalize (Dk.append xnm xdt D) = rr at *
          obtain ⟨vv, D9⟩ := rr
          have vn : (vv != vv) = false := by simp
          simp only at HP8 HS9 ⊢

          go_upto_region 29 with fail
          have CS := Lib.hid (same5 HP8.out)
          have y0 : wz.cell? ⟨xb + 1, 0, none⟩ = some (.int .i64 0) := HYA.out.cell 0
          have y1 : wz.cell? ⟨xb + 1, 1, none⟩ = some (.int .i64 0) := HYA.out.cell 1
          have y2 : wz.cell? ⟨xb + 1 + 1, 0, none⟩ = some (.int .i64 0) := HYB.out.cell 0
          have y3 : wz.cell? ⟨xb + 1 + 1, 1, none⟩ = some (.int .i64 0) := HYB.out.cell 1
          go_wp2_with fail
          with_reducible refine CS.out.mono ?_
          rintro e wy ⟨rfl, hb⟩
          have HFIN := Lib.hid (show ∃ D, Py13 W (fun _ => False) W.heap.size a r (i + 1) D wy from ⟨_, (HP8.out.below hb).less (fun _ q => q.elim), HS9.out, HB8.out.trans (hb.mono HP8.out.size)⟩)
          clear hb CS HP8 y0 y1 y2 y3
          go_wp2_with fail
          go_roundw
          case rel => exact ⟨i + 1, by omega, by go_num, HFIN⟩
          case measure => simp [intOf]; omega
        · skip
          have e5 : ((m : Int) == 5 || (m : Int) == 6) = true := by rcases h56 with rfl | rfl <;> rfl
          rcases h56 with rfl | rfl
          · skip
            clear e5
            have CJ := Lib.hid HP4.out.load
            obtain ⟨ll, hll⟩ : ∃ x, x = Cu.load D := ⟨_, rfl⟩
            have HLL := Lib.hid hll
            rw [← hll] at CJ
            clear hll
            obtain ⟨vv, z0, z1⟩ := ll
            unfold loadV13 at CJ
            simp only at CJ
            go_upto_region 19 with fail
            clear x0
            go_wp2_with fail
            with_reducible refine CJ.out.mono ?_
            rintro e w7 ⟨rfl, ht, hb⟩
            replace HB4 := Lib.hid (HB4.out.trans (hb.mono HP4.out.size))
            replace HYA := Lib.hid (HYA.out.below hb)
            replace HYB := Lib.hid (HYB.out.below hb)
            replace HP4 := Lib.hid ht
            clear ht hb CJ HX
            go_upto_region 20 with (refine wpList_store13 rfl 71 _ _ rfl (xb + 1) #[.int .i64 z0, .int .i64 z1] rfl rfl 71 _ HYA.out HII.out rfl (by simp [Value.oneCell']) ?_; intro w8 h9 hw9; have HK9 := Lib.hid h9; have HW9 := Lib.hid hw9; clear h9 hw9)
            replace HP4 := Lib.hid (HP4.out.wr13 HW9.out (fun k hk => by rw [hk]; exact HPX.out.2.1))
            replace HB4 := Lib.hid (HB4.out.trans (HW9.out.below (fun k hk => by rw [hk]; exact HWX.out.1) HB4.out.size))
            replace HYB := Lib.hid (HYB.out.wr HW9.out (fun q => by omega))
            replace HYA := HK9
            clear HK9 HW9
            have CJ := Lib.hid (HP4.out.rload HP4.out.ok)
            rw [← HLL.out] at CJ
            unfold loadV13 at CJ
            simp only at CJ
            go_wp2_with fail
            with_reducible refine CJ.out.mono ?_
            rintro e wq ⟨rfl, ht, hb⟩
            replace HB4 := Lib.hid (HB4.out.trans (hb.mono HP4.out.size))
            replace HYA := Lib.hid (HYA.out.below hb)
            replace HYB := Lib.hid (HYB.out.below hb)
            replace HP4 := Lib.hid ht
            clear ht hb CJ
            go_upto_region 29 with (refine wpList_store13 rfl 71 _ _ rfl (xb + 1 + 1) #[.int .i64 z0, .int .i64 z1] rfl rfl 71 _ HYB.out HII.out rfl (by simp [Value.oneCell']) ?_; intro wz h9 hw9; have HK9 := Lib.hid h9; have HW9 := Lib.hid hw9; clear h9 hw9)
            have HP8 := Lib.hid (HP4.out.wr13 HW9.out (fun k hk => by rw [hk]; exact HPX.out.2.2))
            have HB8 := Lib.hid (HB4.out.trans (HW9.out.below (fun k hk => by rw [hk]; exact HWX.out.2) HB4.out.size))
            replace HYA := Lib.hid (HYA.out.wr HW9.out (fun q => by omega))
            replace HYB := HK9
            clear HK9 HW9 HP4 HB4
            have HS9 := Lib.hid (show D.starts ≤ i + 1 from by have := HST.out; omega)
            have vn : (vv != vv) = false := by simp
            
            have CS := Lib.hid (same5 HP8.out)
            have y0 : wz.cell? ⟨xb + 1, 0, none⟩ = some (.int .i64 z0) := HYA.out.cell 0
            have y1 : wz.cell? ⟨xb + 1, 1, none⟩ = some (.int .i64 z1) := HYA.out.cell 1
            have y2 : wz.cell? ⟨xb + 1 + 1, 0, none⟩ = some (.int .i64 z0) := HYB.out.cell 0
            have y3 : wz.cell? ⟨xb + 1 + 1, 1, none⟩ = some (.int .i64 z1) := HYB.out.cell 1
            go_wp2_with fail
            with_reducible refine CS.out.mono ?_
            rintro e wy ⟨rfl, hb⟩
            have HFIN := Lib.hid (show ∃ D, Py13 W (fun _ => False) W.heap.size a r (i + 1) D wy from ⟨_, (HP8.out.below hb).less (fun _ q => q.elim), HS9.out, HB8.out.trans (hb.mono HP8.out.size)⟩)
            clear hb CS HP8 y0 y1 y2 y3
            go_wp2_with fail
            go_roundw
            case rel => exact ⟨i + 1, by omega, by go_num, HFIN⟩
            case measure => simp [intOf]; omega
          · skip
            clear e5
            have CJ := Lib.hid HP4.out.load
            obtain ⟨ll, hll⟩ : ∃ x, x = Cu.load D := ⟨_, rfl⟩
            have HLL := Lib.hid hll
            rw [← hll] at CJ
            clear hll
            obtain ⟨vv, z0, z1⟩ := ll
            unfold loadV13 at CJ
            simp only at CJ
            go_upto_region 19 with fail
            clear x0
            go_wp2_with fail
            with_reducible refine CJ.out.mono ?_
            rintro e w7 ⟨rfl, ht, hb⟩
            replace HB4 := Lib.hid (HB4.out.trans (hb.mono HP4.out.size))
            replace HYA := Lib.hid (HYA.out.below hb)
            replace HYB := Lib.hid (HYB.out.below hb)
            replace HP4 := Lib.hid ht
            clear ht hb CJ HX
            go_upto_region 20 with (refine wpList_store13 rfl 71 _ _ rfl (xb + 1) #[.int .i64 z0, .int .i64 z1] rfl rfl 71 _ HYA.out HII.out rfl (by simp [Value.oneCell']) ?_; intro w8 h9 hw9; have HK9 := Lib.hid h9; have HW9 := Lib.hid hw9; clear h9 hw9)
            replace HP4 := Lib.hid (HP4.out.wr13 HW9.out (fun k hk => by rw [hk]; exact HPX.out.2.1))
            replace HB4 := Lib.hid (HB4.out.trans (HW9.out.below (fun k hk => by rw [hk]; exact HWX.out.1) HB4.out.size))
            replace HYB := Lib.hid (HYB.out.wr HW9.out (fun q => by omega))
            replace HYA := HK9
            clear HK9 HW9
            have CJ := Lib.hid (HP4.out.rload HP4.out.ok)
            rw [← HLL.out] at CJ
            unfold loadV13 at CJ
            simp only at CJ
            go_wp2_with fail
            with_reducible refine CJ.out.mono ?_
            rintro e wq ⟨rfl, ht, hb⟩
            replace HB4 := Lib.hid (HB4.out.trans (hb.mono HP4.out.size))
            replace HYA := Lib.hid (HYA.out.below hb)
            replace HYB := Lib.hid (HYB.out.below hb)
            replace HP4 := Lib.hid ht
            clear ht hb CJ
            go_upto_region 29 with (refine wpList_store13 rfl 71 _ _ rfl (xb + 1 + 1) #[.int .i64 z0, .int .i64 z1] rfl rfl 71 _ HYB.out HII.out rfl (by simp [Value.oneCell']) ?_; intro wz h9 hw9; have HK9 := Lib.hid h9; have HW9 := Lib.hid hw9; clear h9 hw9)
            have HP8 := Lib.hid (HP4.out.wr13 HW9.out (fun k hk => by rw [hk]; exact HPX.out.2.2))
            have HB8 := Lib.hid (HB4.out.trans (HW9.out.below (fun k hk => by rw [hk]; exact HWX.out.2) HB4.out.size))
            replace HYA := Lib.hid (HYA.out.wr HW9.out (fun q => by omega))
            replace HYB := HK9
            clear HK9 HW9 HP4 HB4
            have HS9 := Lib.hid (show D.starts ≤ i + 1 from by have := HST.out; omega)
            have vn : (vv != vv) = false := by simp
            
            have CS := Lib.hid (same5 HP8.out)
            have y0 : wz.cell? ⟨xb + 1, 0, none⟩ = some (.int .i64 z0) := HYA.out.cell 0
            have y1 : wz.cell? ⟨xb + 1, 1, none⟩ = some (.int .i64 z1) := HYA.out.cell 1
            have y2 : wz.cell? ⟨xb + 1 + 1, 0, none⟩ = some (.int .i64 z0) := HYB.out.cell 0
            have y3 : wz.cell? ⟨xb + 1 + 1, 1, none⟩ = some (.int .i64 z1) := HYB.out.cell 1
            go_wp2_with fail
            with_reducible refine CS.out.mono ?_
            rintro e wy ⟨rfl, hb⟩
            have HFIN := Lib.hid (show ∃ D, Py13 W (fun _ => False) W.heap.size a r (i + 1) D wy from ⟨_, (HP8.out.below hb).less (fun _ q => q.elim), HS9.out, HB8.out.trans (hb.mono HP8.out.size)⟩)
            clear hb CS HP8 y0 y1 y2 y3
            go_wp2_with fail
            go_roundw
            case rel => exact ⟨i + 1, by omega, by go_num, HFIN⟩
            case measure => simp [intOf]; omega
        · skip
          have e5 : ((m : Int) == 5) = false := by simp; omega
          have e6 : ((m : Int) == 6) = false := by simp; omega
          have e7 : ((m : Int) == 7) = false := by simp; omega
          have e8 : ((m : Int) == 8) = false := by simp; omega
          have e9 : ((m : Int) == 9) = false := by simp; omega
          have e10 : ((m : Int) == 10) = false := by simp; omega
          have HOK := Lib.hid HP4.out.ok
          go_upto_region 16 with fail
          clear x0
          refine wp_region_held_drew (S := fun V => V.cell? ⟨xb, 1, none⟩ = some (.int .i64 p) ∧ V.cell? ⟨xb, 2, none⟩ = some (.int .i64 q)) (by kernel_rfl) ?_ (fun hHeld => ?_)
          · exact ⟨HX.out.cell 1, HX.out.cell 2⟩
          replace HX := Lib.hid HX.out.drew
          replace HYA := Lib.hid HYA.out.drew
          replace HYB := Lib.hid HYB.out.drew
          replace HP4 := Lib.hid (HP4.out.below (Below.refl _ _).drew)
          replace HB4 := Lib.hid HB4.out.drew
          obtain ⟨wg, hwg⟩ : ∃ x, x = World.drew w4 := ⟨_, rfl⟩
          rw [← hwg] at HX HYA HYB HP4 HB4 hHeld ⊢
          clear hwg
          have CJ := Lib.hid (HP4.out.save ⟨p, q⟩)
          refine wpAnyH_take (i := 0) (oi := { dst := some 46, op := Op.move (Operand.tmp 5), type := 24, pos := "law.go:83", after := #[], guard := none }) (v := ?_) rfl (by kernel_rfl) (by kernel_rfl) (by kernel_rfl) (fun _ _ _ h => h) (Or.inl ⟨by rfl, ?_⟩) (by assumption) ?_
          rotate_left
          · (intro w hSw; (try dsimp only at hSw); go_simp); (first | done | with_reducible rfl)
          try simp only [Act.put, List.setIfInBounds_toArray, List.set_cons_zero, List.set_cons_succ]
          refine wpAnyH_take (i := 1) (oi := { dst := some 47, op := Op.fieldAddr 79 (Operand.tmp 10) 1, type := 0, pos := "law.go:83", after := #[], guard := none }) (v := ?_) rfl (by kernel_rfl) (by kernel_rfl) (by kernel_rfl) (fun _ _ _ h => h) (Or.inl ⟨by rfl, ?_⟩) (by assumption) ?_
          rotate_left
          · (intro w hSw; (try dsimp only at hSw); go_simp); (first | done | with_reducible rfl)
          try simp only [Act.put, List.setIfInBounds_toArray, List.set_cons_zero, List.set_cons_succ]
          refine wpAnyH_take (i := 2) (oi := { dst := some 48, op := Op.load 71 (Operand.tmp 47), type := 71, pos := "law.go:83", after := #[{ on := 1, ground := Ground.data }], guard := none }) (v := ?_) rfl (by kernel_rfl) (by kernel_rfl) (by kernel_rfl) (fun _ _ _ h => h) (Or.inl ⟨by rfl, ?_⟩) (by assumption) ?_
          rotate_left
          · (intro w hSw; (try dsimp only at hSw); go_simp); (first | done | with_reducible rfl)
          try simp only [Act.put, List.setIfInBounds_toArray, List.set_cons_zero, List.set_cons_succ]
          refine wpAnyH_take (i := 4) (oi := { dst := some 50, op := Op.move (Operand.tmp 7), type := 28, pos := "law.go:83", after := #[], guard := none }) (v := ?_) rfl (by kernel_rfl) (by kernel_rfl) (by kernel_rfl) (fun _ _ _ h => h) (Or.inl ⟨by rfl, ?_⟩) (by assumption) ?_
          rotate_left
          · (intro w hSw; (try dsimp only at hSw); go_simp); (first | done | with_reducible rfl)
          try simp only [Act.put, List.setIfInBounds_toArray, List.set_cons_zero, List.set_cons_succ]
          refine wpAnyH_take (i := 5) (oi := { dst := some 51, op := Op.fieldAddr 79 (Operand.tmp 10) 1, type := 0, pos := "law.go:83", after := #[], guard := none }) (v := ?_) rfl (by kernel_rfl) (by kernel_rfl) (by kernel_rfl) (fun _ _ _ h => h) (Or.inl ⟨by rfl, ?_⟩) (by assumption) ?_
          rotate_left
          · (intro w hSw; (try dsimp only at hSw); go_simp); (first | done | with_reducible rfl)
          try simp only [Act.put, List.setIfInBounds_toArray, List.set_cons_zero, List.set_cons_succ]
          refine wpAnyH_take (i := 6) (oi := { dst := some 52, op := Op.load 71 (Operand.tmp 51), type := 71, pos := "law.go:83", after := #[{ on := 5, ground := Ground.data }], guard := none }) (v := ?_) rfl (by kernel_rfl) (by kernel_rfl) (by kernel_rfl) (fun _ _ _ h => h) (Or.inl ⟨by rfl, ?_⟩) (by assumption) ?_
          rotate_left
          · (intro w hSw; (try dsimp only at hSw); go_simp); (first | done | with_reducible rfl)
          try simp only [Act.put, List.setIfInBounds_toArray, List.set_cons_zero, List.set_cons_succ]
          refine wpAnyH_ready (rs := [3]) (by kernel_rfl) (by simp) ?_
          refine AllReadyH.cons (o := { dst := some 49, op := Op.call { callee := Callee.value (Operand.func 56), args := #[Operand.tmp 46, Operand.tmp 48], argTypes := #[24, 71] }, type := 25, pos := "law.go:83", after := #[{ on := 0, ground := Ground.data }, { on := 2, ground := Ground.data }], guard := none }) rfl (fun K hK => ?_) AllReadyH.nil
          go_simp
          go_simp
          go_at_call 56
          with_reducible refine (CJ.out).mono ?_
          rintro e w7 ⟨rfl, ht, hw⟩
          replace HB4 := Lib.hid (HB4.out.trans (hw.below (fun q hq => hq.1) HP4.out.size))
          replace HX := Lib.hid (HX.out.wr hw (fun q => q.2 HPX.out.1))
          replace HYA := Lib.hid (HYA.out.wr hw (fun q => q.2 HPX.out.2.1))
          replace HYB := Lib.hid (HYB.out.wr hw (fun q => q.2 HPX.out.2.2))
          have HP7 := Lib.hid ht
          replace CJ := Lib.hid (HP7.out.rsave HOK.out ⟨p, q⟩)
          clear ht hw HP4
          go_wp2_with fail
          refine hK.out _ _ ?_ (fun hHeld => ?_)
          · exact ⟨HX.out.cell 1, HX.out.cell 2⟩
          clear hK K
          try simp only [Act.put, List.setIfInBounds_toArray, List.set_cons_zero, List.set_cons_succ]
          refine wpAnyH_ready (rs := [7]) (by kernel_rfl) (by simp) ?_
          refine AllReadyH.cons (o := { dst := some 53, op := Op.call { callee := Callee.value (Operand.func 57), args := #[Operand.tmp 50, Operand.tmp 52], argTypes := #[28, 71] }, type := 25, pos := "law.go:83", after := #[{ on := 4, ground := Ground.data }, { on := 6, ground := Ground.data }, { on := 3, ground := Ground.chain }], guard := none }) rfl (fun K hK => ?_) AllReadyH.nil
          go_simp
          go_simp
          go_at_call 57
          with_reducible refine (CJ.out).mono ?_
          rintro e wz ⟨rfl, ht, hw⟩
          have HB8 := Lib.hid (HB4.out.trans (hw.below (fun q hq => hq.1) HP7.out.size))
          replace HX := Lib.hid (HX.out.wr hw (fun q => q.2 HPX.out.1))
          replace HYA := Lib.hid (HYA.out.wr hw (fun q => q.2 HPX.out.2.1))
          replace HYB := Lib.hid (HYB.out.wr hw (fun q => q.2 HPX.out.2.2))
          have HP8 := Lib.hid ht
          clear ht hw CJ HP7 HB4
          go_wp2_with fail
          refine hK.out _ _ ?_ (fun hHeld => ?_)
          · exact ⟨HX.out.cell 1, HX.out.cell 2⟩
          clear hK K
          try simp only [Act.put, List.setIfInBounds_toArray, List.set_cons_zero, List.set_cons_succ]
          refine wpAnyH_take (i := 8) (oi := { dst := some 11, op := Op.assign (Operand.tmp 49), type := 25, pos := "law.go:83", after := #[{ on := 3, ground := Ground.data }, { on := 7, ground := Ground.chain }, { on := 0, ground := Ground.phase }, { on := 1, ground := Ground.phase }, { on := 2, ground := Ground.phase }, { on := 3, ground := Ground.phase }, { on := 4, ground := Ground.textOnly Departure.lateStores }, { on := 5, ground := Ground.textOnly Departure.lateStores }, { on := 6, ground := Ground.textOnly Departure.lateStores }, { on := 7, ground := Ground.textOnly Departure.lateStoresUnsure }], guard := none }) (v := ?_) rfl (by kernel_rfl) (by kernel_rfl) (by kernel_rfl) (fun _ _ _ h => h) (Or.inl ⟨by rfl, ?_⟩) (by assumption) ?_
          rotate_left
          · (intro w hSw; (try dsimp only at hSw); go_simp); (first | done | with_reducible rfl)
          try simp only [Act.put, List.setIfInBounds_toArray, List.set_cons_zero, List.set_cons_succ]
          refine wpAnyH_take (i := 9) (oi := { dst := some 12, op := Op.assign (Operand.tmp 53), type := 25, pos := "law.go:83", after := #[{ on := 7, ground := Ground.data }, { on := 8, ground := Ground.chain }, { on := 0, ground := Ground.phase }, { on := 1, ground := Ground.phase }, { on := 2, ground := Ground.phase }, { on := 3, ground := Ground.phase }, { on := 4, ground := Ground.phase }, { on := 5, ground := Ground.phase }, { on := 6, ground := Ground.phase }, { on := 7, ground := Ground.phase }, { on := 8, ground := Ground.phase }], guard := none }) (v := ?_) rfl (by kernel_rfl) (by kernel_rfl) (by kernel_rfl) (fun _ _ _ h => h) (Or.inl ⟨by rfl, ?_⟩) (by assumption) ?_
          rotate_left
          · (intro w hSw; (try dsimp only at hSw); go_simp); (first | done | with_reducible rfl)
          refine wpAnyH_done (by kernel_rfl) ?_ _
          have HS9 := Lib.hid (show ((Cu.save ⟨p, q⟩ D).2).starts ≤ i + 1 from by have := Cu.save_starts ⟨p, q⟩ D; have := HST.out; omega)
          clear hHeld HX
          generalize (Cu.save ⟨p, q⟩ D) = rr at *
          obtain ⟨vv, D9⟩ := rr
          have vn : (vv != vv) = false := by simp
          simp only at HP8 HS9 ⊢

          go_upto_region 29 with fail
          have CS := Lib.hid (same5 HP8.out)
          have y0 : wz.cell? ⟨xb + 1, 0, none⟩ = some (.int .i64 0) := HYA.out.cell 0
          have y1 : wz.cell? ⟨xb + 1, 1, none⟩ = some (.int .i64 0) := HYA.out.cell 1
          have y2 : wz.cell? ⟨xb + 1 + 1, 0, none⟩ = some (.int .i64 0) := HYB.out.cell 0
          have y3 : wz.cell? ⟨xb + 1 + 1, 1, none⟩ = some (.int .i64 0) := HYB.out.cell 1
          go_wp2_with fail
          with_reducible refine CS.out.mono ?_
          rintro e wy ⟨rfl, hb⟩
          have HFIN := Lib.hid (show ∃ D, Py13 W (fun _ => False) W.heap.size a r (i + 1) D wy from ⟨_, (HP8.out.below hb).less (fun _ q => q.elim), HS9.out, HB8.out.trans (hb.mono HP8.out.size)⟩)
          clear hb CS HP8 y0 y1 y2 y3
          go_wp2_with fail
          go_roundw
          case rel => exact ⟨i + 1, by omega, by go_num, HFIN⟩
          case measure => simp [intOf]; omega
      · have d1 : decide (i < L.length) = false := by simpa using hlt
        have HBL := Lib.hid HP.out.bel
        go_wp2_with fail
        with_reducible refine (CD.out _).mono ?_
        rintro e w4 ⟨rfl, hb⟩
        have HF4 := Lib.hid (below_step HBL.out hb)
        clear hb
        go_wp2_with fail
        go_ret
        exact ⟨rfl, HF4.out⟩
  · have CN := Lib.hid (new_no5 cp W (by omega))
    have CR := Lib.hid (rNewNo13 cp W (by omega))
    go_enter Try.func11, Try.ntmps11
    go_wp2_with fail
    with_reducible refine CG.out.mono ?_
    rintro e w1 (⟨rfl, rfl⟩ | ⟨rfl, hF, rfl⟩)
    · go_wp2_with fail
      go_ret
      exact ⟨rfl, Below.refl _ _⟩
    go_wp2_with fail
    with_reducible refine CN.out.mono ?_
    rintro e w1 ⟨rfl, rfl⟩
    go_wp2_with fail
    with_reducible refine CR.out.mono ?_
    rintro e w1 ⟨rfl, rfl⟩
    go_wp2_with fail
    with_reducible refine (CD.out _).mono ?_
    rintro e w4 ⟨rfl, hb⟩
    have HF4 := Lib.hid hb
    clear hb
    go_wp2_with fail
    go_ret
    exact ⟨rfl, HF4.out⟩

end Go.Proofs.Ytekmnpmeienhhaa
