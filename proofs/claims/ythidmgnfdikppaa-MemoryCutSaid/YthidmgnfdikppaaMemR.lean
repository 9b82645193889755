/- Layer 15: where Cut cuts, by a contract. -/
import Derived.Test.YthidmgnfdikppaaMemQ
namespace Go.Proofs.Ythidmgnfdikppaa
set_option linter.unusedVariables false
set_option linter.unusedSimpArgs false
open Go Go.RowKit
attribute [local go_sem ↓] run_index_S
attribute [local go_sem] S_append S_extract

def M.below (key : List UInt8) (c : M.Cl) : Bool := Op.bytesLess c.key key
def M.cutN (L : List M.Cl) (key : List UInt8) : Nat := (L.filter (M.below key)).length
theorem M.cut_lists (f : M.Cl → Bool) : ∀ {L : List M.Cl}, (∀ i j, i ≤ j → j < L.length → f (L.getD j M.cl0) = true → f (L.getD i M.cl0) = true) → L.take (L.filter f).length = L.filter f ∧ L.drop (L.filter f).length = L.filter (fun c => !f c)
  | [], _ => by simp
  | x :: t, h => by
    have ih := M.cut_lists f (L := t) (fun i j hij hj hf => by
      have := h (i + 1) (j + 1) (by omega) (by simp; omega) (by simpa using hf)
      simpa using this)
    cases hx : f x with
    | true =>
      rw [List.filter_cons_of_pos hx, List.filter_cons_of_neg (by simp [hx])]
      simp only [List.length_cons, List.take_succ_cons, List.drop_succ_cons]
      exact ⟨by rw [ih.1], ih.2⟩
    | false =>
      have h0 : t.filter f = [] := by
        rw [List.filter_eq_nil_iff]
        intro y hy hfy
        obtain ⟨j, hj, e⟩ := List.getElem_of_mem hy
        have := h 0 (j + 1) (Nat.zero_le _) (by simp; omega) (by simp [List.getD, hj, e, hfy])
        simp at this
        rw [hx] at this
        cases this
      have h1 : (x :: t).filter f = [] := by rw [List.filter_cons_of_neg (by simp [hx]), h0]
      rw [h1]
      refine ⟨rfl, ?_⟩
      show x :: t = _
      symm
      rw [List.filter_eq_self]
      intro y hy
      rcases List.mem_cons.1 hy with rfl | hy
      · simp [hx]
      · cases q : f y with
        | false => rfl
        | true => have := List.filter_eq_nil_iff.1 h0 y hy; exact absurd q this
theorem M.below_mono {L : List M.Cl} (hs : M.Stt L) (key : List UInt8) : ∀ i j, i ≤ j → j < L.length → M.below key (L.getD j M.cl0) = true → M.below key (L.getD i M.cl0) = true := fun i j hij hj hf => by
  rcases Nat.lt_or_ge i j with q | q
  · rcases M.ahead_iff.1 (M.strict_get hs q hj) with k | ⟨k, _⟩
    · exact M.less_trans _ _ _ k hf
    · unfold M.below; rw [k]; exact hf
  · obtain rfl : i = j := by omega
    exact hf
theorem M.cut_take {L : List M.Cl} (hs : M.Stt L) (key : List UInt8) : L.take (M.cutN L key) = L.filter (M.below key) ∧ L.drop (M.cutN L key) = L.filter (fun c => !M.below key c) := M.cut_lists _ (M.below_mono hs key)
/-- A row of cells in a box, as Cut has it. -/
structure CutB (ao : Option Addr) (cap g lb kb : Nat) (L : List M.Cl) (key : List UInt8) (w : World) : Prop where
  l : RowIn #[.slice ao L.length cap] 22 w lb
  k : RowIn #[.string (S key)] 9 w kb
  at_ : 0 < L.length → ao = some ⟨g, 0, none⟩
  c : ∀ j, j < L.length → ClOff (L.getD j M.cl0) w g (j * 3)
theorem CutB.below {ao : Option Addr} {cap g lb kb : Nat} {L : List M.Cl} {key : List UInt8} {w w' : World} (h : CutB ao cap g lb kb L key w) (hb : Below w.heap.size w w') : CutB ao cap g lb kb L key w' :=
  ⟨h.l.below hb, h.k.below hb, h.at_, fun j hj => (h.c j hj).below hb⟩
set_option maxHeartbeats 4000000 in
set_option maxRecDepth 100000 in
theorem cutF15_any (ao : Option Addr) (cap g lb kb : Nat) (L : List M.Cl) (key : List UInt8) (i : Nat) (hi : i < L.length) (w : World) (h : CutB ao cap g lb kb L key w) :
    Calls Try.prog 103 #[.int .i64 i, .pointer (some ⟨lb, 0, none⟩), .pointer (some ⟨kb, 0, none⟩)] w fun e w' => e = .returned (.bool (!M.below key (L.getD i M.cl0))) ∧ Below w.heap.size w w' := by
  obtain ⟨x0, x1, x2⟩ := h.c i hi
  have hii : (i : Int) < (L.length : Int) := by omega
  obtain rfl := h.at_ (by omega)
  unfold M.below
  generalize L.getD i M.cl0 = d at *
  have z0 := h.l.cell 0
  have y0 := h.k.cell 0
  have g0 := fun d os => cell_regrown x0 d os
  have g3 := fun d os => cell_regrown y0 d os
  have g6 := fun d os => cell_regrown z0 d os
  clear x0 x1 x2 y0 z0 h
  go_enter Try.func103, Try.ntmps103
  go_wp2_with fail
  refine wp_region_quiet_below (by kernel_rfl) (by kernel_rfl) ?_
  repeat (any_goals (first | go_big_quiet_step (fail) | quiet_step (fail)))
  refine wpQuiet_nil ?_
  intro _ hw1
  obtain ⟨⟨d1, d1o⟩, hw1⟩ := hw1
  subst hw1
  have HB := Lib.hid (below_regrown w d1 d1o)
  go_wp2_with fail
  go_ret
  exact ⟨rfl, HB.out⟩
set_option maxHeartbeats 4000000 in
set_option maxRecDepth 100000 in
theorem cutS15_any (ao : Option Addr) (cap g lb kb : Nat) (L : List M.Cl) (key : List UInt8) (hs : M.Stt L) (hl : L.length ≤ 100000) (w : World) (h : CutB ao cap g lb kb L key w) :
    Calls Try.prog 102 #[.int .i64 L.length, .func (.func 103) #[] #[.pointer (some ⟨lb, 0, none⟩), .pointer (some ⟨kb, 0, none⟩)]] w fun e w' => e = .returned (.int .i64 (M.cutN L key : Nat)) ∧ Below w.heap.size w w' := by
  have HT := Lib.hid h
  have HM := Lib.hid (M.below_mono hs key)
  clear h
  go_enter Try.func102, Try.ntmps102
  go_wp2_with fail
  go_loopw [5, 6] (fun vi vj wr => ∃ i j : Nat, i ≤ j ∧ j ≤ L.length ∧ vi = .int .i64 i ∧ vj = .int .i64 j ∧ Hid (∀ k, k < i → M.below key (L.getD k M.cl0) = true) ∧ Hid (∀ k, j ≤ k → k < L.length → M.below key (L.getD k M.cl0) = false) ∧ Hid (Below w.heap.size w wr)) (fun vi vj _ => (intOf vj).toNat - (intOf vi).toNat)
  case atStart => exact ⟨0, L.length, Nat.zero_le _, Nat.le_refl _, rfl, rfl, Lib.hid (fun k hk => by omega), Lib.hid (fun k h1 h2 => by omega), Lib.hid (Below.refl _ _)⟩
  case round =>
    obtain ⟨i, j, hij, hj, rfl, rfl, H1, H2, HBr⟩ := hrel
    by_cases hlt : i < j
    · have d1 : decide ((i : Int) < (j : Int)) = true := by simp; omega
      have d2 : decide (i < j) = true := by simp; omega
      obtain ⟨h, hh⟩ : ∃ h, h = (i + j) / 2 := ⟨_, rfl⟩
      have h1 : i ≤ h := by omega
      have h2 : h < j := by omega
      have hc : ((i : Int) + (j : Int)) / 2 = (h : Int) := by omega
      have CB := Lib.hid (cutF15_any ao cap g lb kb L key h (by omega) wr (HT.out.below HBr.out))
      clear hh
      have HQ := Lib.hid (show (M.below key (L.getD h M.cl0) = true → ∀ k, k < h + 1 → M.below key (L.getD k M.cl0) = true) ∧ (M.below key (L.getD h M.cl0) = false → ∀ k, h ≤ k → k < L.length → M.below key (L.getD k M.cl0) = false) from
        ⟨fun hq k hk => HM.out k h (by omega) (by omega) hq, fun hq k hk hkn => by
          cases q : M.below key (L.getD k M.cl0) with
          | false => rfl
          | true => have := HM.out h k hk hkn q; rw [hq] at this; cases this⟩)
      generalize M.below key (L.getD h M.cl0) = ab at *
      go_wp2_with fail
      with_reducible refine (CB.out).mono ?_
      rintro e w1 ⟨rfl, hb⟩
      have HB1 := Lib.hid (below_step HBr.out hb)
      clear hb CB hc
      cases ab with
      | false =>
        go_wp2_with fail
        go_roundw
        case rel => exact ⟨i, h, h1, by omega, rfl, rfl, H1, Lib.hid (HQ.out.2 trivial), HB1⟩
        case measure => simp [intOf]; omega
      | true =>
        go_wp2_with fail
        go_roundw
        case rel => exact ⟨h + 1, j, by omega, hj, by go_num, rfl, Lib.hid (HQ.out.1 trivial), H2, HB1⟩
        case measure => simp [intOf]; omega
    · obtain rfl : i = j := by omega
      have d1 : decide ((i : Int) < (i : Int)) = false := by simp
      have d2 : decide (i < i) = false := by simp
      go_wp2_with fail
      go_ret
      exact ⟨by rw [M.cutN, M.count_pre _ M.cl0 hj H1.out H2.out]; rfl, HBr.out⟩

end Go.Proofs.Ythidmgnfdikppaa
