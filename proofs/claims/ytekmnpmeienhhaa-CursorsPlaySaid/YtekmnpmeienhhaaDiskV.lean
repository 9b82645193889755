/- Layer 5: Crash, Fail, Start. -/
import Derived.Test.YtekmnpmeienhhaaDiskUr
import Derived.Test.YtekmnpmeienhhaaShelf
namespace Go.Proofs.Ytekmnpmeienhhaa
set_option linter.unusedVariables false
open Go Go.RowKit Go.Maps

def CloneN (ks : List Int) (w : World) (e : Ending) (w' : World) : Prop := ∃ ao cap, e = .returned (.slice ao ks.length cap) ∧ w'.ownsRow w.heap.size 3 1 (.slice ao ks.length cap) ks.length (ks.map (Value.int .i64)) ∧ Below w.heap.size w w'
theorem clone5 (ks : List Int) (ao : Option Addr) (cap : Nat) (hk : ks.length ≤ 1000000) (w : World) (h : NsA5 w ao ks) : Calls Try.prog 74 #[.slice ao ks.length cap] w (CloneN ks w) := by
  by_cases hn : ks = []
  · subst hn
    cases ao with
    | none =>
      refine (Try.slices_Clone_int_nil 0 cap w).mono ?_
      rintro e w' ⟨rfl, rfl⟩
      exact ⟨none, 0, rfl, World.ownsRow_nil _ _ _ _, Below.refl _ _⟩
    | some a =>
      refine (Try.slices_Clone_int_zero a cap w).mono ?_
      rintro e w' ⟨v, rfl, hr, _, hb⟩
      obtain ⟨ao', ac, rfl⟩ := row_shape5 hr
      exact ⟨ao', ac, rfl, hr, hb⟩
  · obtain ⟨g, off, rfl, hc⟩ := h hn
    refine (Try.slices_Clone_int g off ks.length cap ks w (Nat.le_refl _) (by omega) hc).mono ?_
    rintro e w' ⟨v, rfl, hr, _, hb⟩
    rw [List.take_length] at hr
    obtain ⟨ao', ac, rfl⟩ := row_shape5 hr
    exact ⟨ao', ac, rfl, hr, hb⟩
section
variable {B d mb : Nat} {V : List UInt8 → Value} {sv : Value} {c : Cs} {D : Dk.St} {w : World} {F : Nat → Prop}
set_option maxRecDepth 100000 in
theorem crash_down5 (h : DkAt B F d D w) (hB : B ≤ w.heap.size) (ks : List Int) (ao : Option Addr) (cap : Nat) (hu : D.up = false) : Calls Try.prog 37 #[.pointer (some ⟨d, 0, none⟩), .slice ao ks.length cap] w (OpR B F d (Dk.crash ks D) w) := by
  have CS := Lib.hid (state5 h)
  have HR := Lib.hid (show OpR B F d (Dk.crash ks D) w (.returned (.int .i64 51)) w from by
    have e : Dk.crash ks D = (51, D) := by unfold Dk.crash; rw [if_pos hu]
    rw [e]; exact opR_same h hB (Below.refl _ _) 51)
  have hst : stE D = 51 := by unfold stE; rw [hu]; rfl
  rw [hst] at CS
  clear h hB hu hst
  go_enter Try.func37, Try.ntmps37
  go_wp2_with fail
  with_reducible refine CS.out.mono ?_
  rintro e w1 ⟨rfl, rfl⟩
  go_wp2_with fail
  go_ret
  exact HR.out
set_option maxRecDepth 100000 in
theorem crash_up5 (h : DkAt B F d D w) (hB : B ≤ w.heap.size) (ks : List Int) (ao : Option Addr) (cap : Nat) (hK : Dk.KsOk ks) (hk : NsA5 w ao ks) (hkF : ∀ a, ks ≠ [] → ao = some a → ¬ F a.block) (hu : D.up = true) : Calls Try.prog 37 #[.pointer (some ⟨d, 0, none⟩), .slice ao ks.length cap] w (OpR B F d (Dk.crash ks D) w) := by
  have CS := Lib.hid (state5 h)
  have HE := Lib.hid (show Dk.crash ks D = (0, Dk.fall ks D) from by unfold Dk.crash; rw [if_neg (by rw [hu]; simp)])
  have hst : stE D = 0 := by unfold stE; rw [hu]; rfl
  rw [hst] at CS
  obtain ⟨hO, mb, V, sv, c, hI, hFt, hFB⟩ := h
  have CF := Lib.hid (fall5 hI.co (hFB d (hFt d (.inl rfl))).1 (hFB mb (hFt mb (.inr (.inl rfl)))).1 hO.l hO.room hO.most hO.few ks ao cap hK hk (fun a hn ha e => hkF a hn ha (e ▸ hFt d (.inl rfl))))
  have HF := Lib.hid (show ∀ w' V', DkCo B d mb V' .nilFunc (Dk.fall ks D) w' → (∀ nm, (V' nm).ownBlock = (V nm).ownBlock) → Wr (fun q => q = d ∨ q = mb) w w' → OpR B F d (0, Dk.fall ks D) w (.returned (.int .i64 0)) w' from fun w' V' hC hV hW =>
    ⟨rfl, (hC.in (c := c) rfl).at (Dk.fall_ok5 hO ks) hW.size hB hFB (fun b hb => .inl (by
      rcases hb with e | e | ⟨f, hf, hq⟩ | ⟨hn, _⟩
      · exact hFt _ (.inl e)
      · exact hFt _ (.inr (.inl e))
      · rw [hV] at hq
        obtain ⟨g, hg, kk, rfl⟩ := Dk.mem_cut hf
        exact hFt _ (.inr (.inr (.inl ⟨g, hg, hq⟩)))
      · exact absurd rfl hn)), hW.mono (fun x hx => .inl (hFt x (hx.elim .inl (fun e => .inr (.inl e)))))⟩)
  clear hO hI hFt hFB hB hu hst hK hk hkF
  go_enter Try.func37, Try.ntmps37
  go_wp2_with fail
  with_reducible refine CS.out.mono ?_
  rintro e w1 ⟨rfl, rfl⟩
  go_wp2_with fail
  with_reducible refine CF.out.mono ?_
  rintro e w2 ⟨rfl, ⟨V', hC, hV⟩, hW⟩
  have HR := Lib.hid (HF.out _ _ hC hV hW)
  clear hC hV hW
  go_wp2_with fail
  go_ret
  rw [HE.out]
  exact HR.out
theorem crash5 (h : DkAt B F d D w) (hB : B ≤ w.heap.size) (ks : List Int) (ao : Option Addr) (cap : Nat) (hK : Dk.KsOk ks) (hk : NsA5 w ao ks) (hkF : ∀ a, ks ≠ [] → ao = some a → ¬ F a.block) : Calls Try.prog 37 #[.pointer (some ⟨d, 0, none⟩), .slice ao ks.length cap] w (OpR B F d (Dk.crash ks D) w) := by
  cases hu : D.up with
  | false => exact crash_down5 h hB ks ao cap hu
  | true => exact crash_up5 h hB ks ao cap hK hk hkF hu
theorem Dk.start_ok5 {D : Dk.St} (h : Dk.Ok D) (hu : D.up = false) : Dk.Ok { D with up := true, starts := D.starts + 1 } := ⟨h.l, h.few, h.room, h.most, h.n, (fun hd => by cases hd), h.k⟩
set_option maxRecDepth 100000 in
theorem start5 (h : DkAt B F d D w) (hB : B ≤ w.heap.size) (hs : D.starts ≤ 1000000000) : Calls Try.prog 35 #[.pointer (some ⟨d, 0, none⟩)] w (OpR B F d (Dk.start D) w) := by
  have CN := Lib.hid (none5 h)
  cases hu : D.up with
  | true =>
    have HR := Lib.hid (show OpR B F d (Dk.start D) w (.returned (.int .i64 2)) w from by
      have e : Dk.start D = (2, D) := by unfold Dk.start; rw [if_pos hu]
      rw [e]; exact opR_same h hB (Below.refl _ _) 2)
    obtain ⟨mb, V, sv, c, hI⟩ := h.in
    have c3 : w.cell? ⟨d, 3, none⟩ = some (.bool true) := by rw [hI.box.cell 3, ← hu]; rfl
    clear h hB hI hu
    go_enter Try.func35, Try.ntmps35
    go_wp2_with fail
    with_reducible refine CN.out.mono ?_
    rintro e w1 ⟨rfl, rfl⟩
    go_wp2_with fail
    go_ret
    exact HR.out
  | false =>
    have HE := Lib.hid (show Dk.start D = (0, { D with up := true, starts := D.starts + 1 }) from by unfold Dk.start; rw [if_neg (by rw [hu]; simp)])
    obtain ⟨hO, mb, V, sv, c, hI, hFt, hFB⟩ := h
    have c3 : w.cell? ⟨d, 3, none⟩ = some (.bool false) := by rw [hI.box.cell 3, ← hu]; rfl
    have c4 : w.cell? ⟨d, 4, none⟩ = some (.int .i64 D.starts) := hI.box.cell 4
    have cf : ∀ j, w.frozen? ⟨d, j, none⟩ = false := fun j => hI.box.free j
    have HF := Lib.hid (show OpR B F d (0, { D with up := true, starts := D.starts + 1 }) w (.returned (.int .i64 0)) ((w.setCell ⟨d, 3, none⟩ (.bool true)).setCell ⟨d, 4, none⟩ (.int .i64 ((D.starts : Int) + 1))) from by
      have hw : Wr (fun q => q = d) w ((w.setCell ⟨d, 3, none⟩ (.bool true)).setCell ⟨d, 4, none⟩ (.int .i64 ((D.starts : Int) + 1))) := (wr_set (A := fun q => q = d) _ _ _ rfl).trans (wr_set (A := fun q => q = d) _ _ _ rfl)
      have hb := (hI.box.set 3 (.bool true)).set 4 (.int .i64 ((D.starts : Int) + 1))
      have hset : SetAt B d sv c ((w.setCell ⟨d, 3, none⟩ (.bool true)).setCell ⟨d, 4, none⟩ (.int .i64 ((D.starts : Int) + 1))) D.set := hI.setW hw (fun q hq => .inl hq)
      have h1 : DkIn B d mb V sv c { D with up := true, starts := D.starts + 1 } ((w.setCell ⟨d, 3, none⟩ (.bool true)).setCell ⟨d, 4, none⟩ (.int .i64 ((D.starts : Int) + 1))) := (hI.co.boxed (D' := { D with up := true, starts := D.starts + 1 }) (sv' := sv) hw rfl (by exact hb)).in hset
      exact ⟨rfl, h1.at (Dk.start_ok5 hO hu) hw.size hB hFB (fun b hb => .inl (hFt b hb)), hw.mono (fun x hx => .inl (by rw [hx]; exact hFt _ (.inl rfl)))⟩)
    clear hO hI hFt hFB hB hu
    go_enter Try.func35, Try.ntmps35
    go_wp2_with fail
    with_reducible refine CN.out.mono ?_
    rintro e w1 ⟨rfl, rfl⟩
    go_wp2_with fail
    go_ret
    rw [HE.out]
    exact HF.out
set_option maxRecDepth 100000 in
theorem fail_down5 (h : DkAt B F d D w) (hB : B ≤ w.heap.size) (n : Int) (ks : List Int) (ao : Option Addr) (cap : Nat) (hu : D.up = false) : Calls Try.prog 39 #[.pointer (some ⟨d, 0, none⟩), .int .i64 n, .slice ao ks.length cap] w (OpR B F d (Dk.fail n ks D) w) := by
  have CS := Lib.hid (fun o o' => state5 (h.below (below_two5 w o o')))
  have HR := Lib.hid (fun w' (hb : Below w.heap.size w w') => show OpR B F d (Dk.fail n ks D) w (.returned (.int .i64 51)) w' from by
    have e : Dk.fail n ks D = (51, D) := by unfold Dk.fail; rw [if_pos hu]
    rw [e]; exact opR_same h hB hb 51)
  have hst : stE D = 51 := by unfold stE; rw [hu]; rfl
  rw [hst] at CS
  clear h hB hu hst
  go_enter Try.func39, Try.ntmps39
  go_wp2_with fail
  with_reducible refine (CS.out _ _).mono ?_
  rintro e w1 ⟨rfl, rfl⟩
  go_wp2_with fail
  go_ret
  exact HR.out _ (below_two5 _ _ _)
set_option maxRecDepth 100000 in
theorem fail_bad5 (h : DkAt B F d D w) (hB : B ≤ w.heap.size) (n : Int) (ks : List Int) (ao : Option Addr) (cap : Nat) (hu : D.up = true) (hn : n < 0) : Calls Try.prog 39 #[.pointer (some ⟨d, 0, none⟩), .int .i64 n, .slice ao ks.length cap] w (OpR B F d (Dk.fail n ks D) w) := by
  have CS := Lib.hid (fun o o' => state5 (h.below (below_two5 w o o')))
  have HR := Lib.hid (fun w' (hb : Below w.heap.size w w') => show OpR B F d (Dk.fail n ks D) w (.returned (.int .i64 2)) w' from by
    have e : Dk.fail n ks D = (2, D) := by unfold Dk.fail; rw [if_neg (by rw [hu]; simp), if_pos hn]
    rw [e]; exact opR_same h hB hb 2)
  have hst : stE D = 0 := by unfold stE; rw [hu]; rfl
  rw [hst] at CS
  have d1 : decide (n < 0) = true := by simpa using hn
  clear h hB hu hst hn
  go_enter Try.func39, Try.ntmps39
  go_wp2_with fail
  with_reducible refine (CS.out _ _).mono ?_
  rintro e w1 ⟨rfl, rfl⟩
  go_wp2_with fail
  go_ret
  exact HR.out _ (below_two5 _ _ _)
theorem Dk.fail_ok5 {D : Dk.St} (h : Dk.Ok D) (hu : D.up = true) {n : Nat} {ks : List Int} (hn : (n : Int) ≤ 9223372036854775807) (hK : Dk.KsOk ks) : Dk.Ok { D with set := some (n, ks) } :=
  ⟨h.l, h.few, h.room, h.most, (fun p hp => by cases hp; exact hn), (fun hd => by rw [show ({ D with set := some (n, ks) } : Dk.St).up = D.up from rfl, hu] at hd; cases hd), fun p hp => by cases hp; exact hK⟩
/-- What a Fail leaves in memory. -/
theorem fail_asm5 (hI : DkIn B d mb V sv c D w) (hO : Dk.Ok D) (hu : D.up = true) (hB : B ≤ w.heap.size) (hFt : ∀ b, Ft d mb V c D b → F b) (hFB : ∀ b, F b → B ≤ b ∧ b < w.heap.size) {n : Nat} {ks : List Int} {ao : Option Addr} {cap : Nat} {w2 w3 : World} (hn : (n : Int) ≤ 9223372036854775807) (hK : Dk.KsOk ks)
    (hw2 : w2 = (w.alloc (.cells #[.pointer (some ⟨d, 0, none⟩)] 24)).alloc (.cells #[.int .i64 n] 3)) (hrow : w3.ownsRow w2.heap.size 3 1 (.slice ao ks.length cap) ks.length (ks.map (Value.int .i64))) (hb3 : Below w2.heap.size w2 w3) :
    OpR B F d (0, { D with set := some (n, ks) }) w (.returned (.int .i64 0)) ((w3.alloc (.cells #[.slice ao ks.length cap] 32)).setCell ⟨d, 5, none⟩ (csV ⟨w.heap.size + 1, w.heap.size, w3.heap.size, ao, cap⟩)) := by
  have hs2 : w2.heap.size = w.heap.size + 2 := by rw [hw2, sz5, sz5]
  have hb2 : Below w.heap.size w w2 := by rw [hw2]; exact below_two5 w _ _
  have hb4 : Below w.heap.size w (w3.alloc (.cells #[.slice ao ks.length cap] 32)) := (below_step hb2 hb3).alloc (below_step hb2 hb3).size _
  have hdl := hI.box.lt
  have hw5 : Wr (fun q => q = d) (w3.alloc (.cells #[.slice ao ks.length cap] 32)) ((w3.alloc (.cells #[.slice ao ks.length cap] 32)).setCell ⟨d, 5, none⟩ (csV ⟨w.heap.size + 1, w.heap.size, w3.heap.size, ao, cap⟩)) := wr_set _ _ _ rfl
  have hw : Wr (fun q => q = d) w ((w3.alloc (.cells #[.slice ao ks.length cap] 32)).setCell ⟨d, 5, none⟩ (csV ⟨w.heap.size + 1, w.heap.size, w3.heap.size, ao, cap⟩)) := (wr_below hb4).step hw5 (fun x hx => .inl hx)
  have n2 : Bk #[.int .i64 n] 3 w2 (w.heap.size + 1) := by
    have := bk_new #[.int .i64 n] 3 (w.alloc (.cells #[.pointer (some ⟨d, 0, none⟩)] 24))
    rw [sz5] at this
    rw [hw2]; exact this
  have p2 : Bk #[.pointer (some ⟨d, 0, none⟩)] 24 w2 w.heap.size := by rw [hw2]; exact (bk_new _ _ _).more _
  have k4 : Bk #[.slice ao ks.length cap] 32 (w3.alloc (.cells #[.slice ao ks.length cap] 32)) w3.heap.size := bk_new _ _ _
  have n4 := (n2.below hb3).more (.cells #[.slice ao ks.length cap] 32)
  have p4 := (p2.below hb3).more (.cells #[.slice ao ks.length cap] 32)
  have hsz3 : w.heap.size + 2 ≤ w3.heap.size := by have := hb3.size; omega
  have r4 := row_below5 hrow ((Below.refl _ _).alloc (Nat.le_refl _) (.cells #[.slice ao ks.length cap] 32))
  have hco := (hI.co.below hb4)
  have hbox := hco.box.set 5 (csV ⟨w.heap.size + 1, w.heap.size, w3.heap.size, ao, cap⟩)
  have h1 := hco.boxed (D' := { D with set := some (n, ks) }) (sv' := csV ⟨w.heap.size + 1, w.heap.size, w3.heap.size, ao, cap⟩) hw5 rfl (by exact hbox)
  have hrb : ∀ q, (Value.slice ao ks.length cap).ownBlock = some q → w.heap.size + 2 ≤ q := fun q hq => by have := (hrow.lt q hq).1; omega
  have h2 : DkIn B d mb V (csV ⟨w.heap.size + 1, w.heap.size, w3.heap.size, ao, cap⟩) ⟨w.heap.size + 1, w.heap.size, w3.heap.size, ao, cap⟩ { D with set := some (n, ks) } _ := h1.in (by
    refine ⟨rfl, n4.wr hw5 (fun e => by have e' : w.heap.size + 1 = d := e; omega), p4.wr hw5 (fun e => by have e' : w.heap.size = d := e; omega), ?_, fun _ => row_wr (row_base5 r4 (by omega)) hw5 (fun q hq => by have := hrb q hq; omega), fun a hn' ha => ?_⟩
    · exact k4.wr hw5 (fun e => by have e' : w3.heap.size = d := e; omega)
    · have := hrb a.block (by rw [show ao = some a from ha]; rfl)
      simp only; omega)
  refine ⟨rfl, h2.at (Dk.fail_ok5 hO hu hn hK) hw.size hB hFB (fun b hb => ?_), hw.mono (fun x hx => .inl (by rw [hx]; exact hFt _ (.inl rfl)))⟩
  rcases hb with e | e | ⟨f, hf, hq⟩ | ⟨_, hx⟩
  · exact .inl (hFt _ (.inl e))
  · exact .inl (hFt _ (.inr (.inl e)))
  · exact .inl (hFt _ (.inr (.inr (.inl ⟨f, hf, hq⟩))))
  · refine .inr ?_
    rcases hx with e | e | e | ⟨a, p, hp, hne, ha, e⟩
    · rw [e]; simp only; omega
    · rw [e]; exact Nat.le_refl _
    · rw [e]; simp only; omega
    · have := hrb a.block (by rw [show ao = some a from ha]; rfl)
      omega
set_option maxRecDepth 100000 in
set_option maxHeartbeats 1000000 in
theorem fail_up5 (h : DkAt B F d D w) (hB : B ≤ w.heap.size) (n : Nat) (ks : List Int) (ao : Option Addr) (cap : Nat) (hn : (n : Int) ≤ 9223372036854775807) (hK : Dk.KsOk ks) (hk : NsA5 w ao ks) (hu : D.up = true) : Calls Try.prog 39 #[.pointer (some ⟨d, 0, none⟩), .int .i64 n, .slice ao ks.length cap] w (OpR B F d (Dk.fail n ks D) w) := by
  have CS := Lib.hid (fun o o' => state5 (h.below (below_two5 w o o')))
  have CC := Lib.hid (fun o o' => clone5 ks ao cap hK.len ((w.alloc o).alloc o') (hk.below (below_two5 w o o')))
  have HE := Lib.hid (show Dk.fail n ks D = (0, { D with set := some (n, ks) }) from by unfold Dk.fail; rw [if_neg (by rw [hu]; simp), if_neg (by omega)]; rfl)
  have hst : stE D = 0 := by unfold stE; rw [hu]; rfl
  rw [hst] at CS
  obtain ⟨hO, mb, V, sv, c, hI, hFt, hFB⟩ := h
  have HA := Lib.hid (fun ao' cap' w3 => fail_asm5 (ao := ao') (cap := cap') (w3 := w3) hI hO hu hB hFt hFB hn hK rfl)
  have HX := Lib.hid hI
  have HDL := Lib.hid hI.box.lt
  have d1 : decide ((n : Int) < 0) = false := by simp
  clear hO hI hFt hFB hB hu hst hK hk
  go_enter Try.func39, Try.ntmps39
  go_wp2_with fail
  with_reducible refine (CS.out _ _).mono ?_
  rintro e w1 ⟨rfl, rfl⟩
  go_wp2_with fail
  with_reducible refine (CC.out _ _).mono ?_
  rintro e w3 ⟨ao', cap', rfl, hrow, hb3⟩
  have HAS := Lib.hid (HA.out _ _ _ hrow hb3)
  have hX3 : Bk (dkC D mb sv) 43 w3 d := (HX.out.box.below (below_two5 w _ _)).below hb3
  have hp3 : Bk #[.pointer (some ⟨d, 0, none⟩)] 24 w3 w.heap.size := ((bk_new _ _ _).more _).below hb3
  have x5 : ∀ o, (w3.alloc o).cell? ⟨d, 5, none⟩ = some sv := fun o => (hX3.more o).cell 5
  have xf : ∀ o j, (w3.alloc o).frozen? ⟨d, j, none⟩ = false := fun o j => (hX3.more o).free j
  have p0 : ∀ o, (w3.alloc o).cell? ⟨w.heap.size, 0, none⟩ = some (.pointer (some ⟨d, 0, none⟩)) := fun o => (hp3.more o).cell 0
  clear hrow hb3 hX3 hp3 HA
  go_wp2_with fail
  go_ret
  rw [HE.out]
  exact HAS.out
theorem fail5 (h : DkAt B F d D w) (hB : B ≤ w.heap.size) (n : Int) (ks : List Int) (ao : Option Addr) (cap : Nat) (hn : n ≤ 9223372036854775807) (hK : Dk.KsOk ks) (hk : NsA5 w ao ks) : Calls Try.prog 39 #[.pointer (some ⟨d, 0, none⟩), .int .i64 n, .slice ao ks.length cap] w (OpR B F d (Dk.fail n ks D) w) := by
  cases hu : D.up with
  | false => exact fail_down5 h hB n ks ao cap hu
  | true =>
    by_cases h0 : n < 0
    · exact fail_bad5 h hB n ks ao cap hu h0
    · obtain ⟨m, rfl⟩ := Int.eq_ofNat_of_zero_le (Int.not_lt.1 h0)
      exact fail_up5 h hB m ks ao cap hn hK hk hu
end

end Go.Proofs.Ytekmnpmeienhhaa
