/- Layer 12: the law's own helpers: SameSpans, SameBatch, great, by contracts. -/
import Derived.Test.YtblgfhljaafmhaaPostsJ
namespace Go.Proofs.Ytblgfhljaafmhaa
set_option linter.unusedVariables false
open Go Go.RowKit

theorem M.sps_ext {L K : List M.Sp} (h : L.length = K.length) (hj : ∀ j, j < L.length → L.getD j M.sp0 = K.getD j M.sp0) : L = K := by
  apply List.ext_getElem h
  intro j h1 h2
  have := hj j h1
  simpa [List.getD, List.getElem?_eq_getElem h1, List.getElem?_eq_getElem h2] using this
theorem M.Sp.diff {x y : M.Sp} (h : ¬ x = y) : (¬ x.trace = y.trace) ∨ (x.trace = y.trace ∧ ¬ x.id = y.id) ∨ (x.trace = y.trace ∧ x.id = y.id ∧ ¬ x.parent = y.parent) ∨ (x.trace = y.trace ∧ x.id = y.id ∧ x.parent = y.parent ∧ ¬ x.svc = y.svc) ∨ (x.trace = y.trace ∧ x.id = y.id ∧ x.parent = y.parent ∧ x.svc = y.svc ∧ ¬ x.host = y.host) ∨ (x.trace = y.trace ∧ x.id = y.id ∧ x.parent = y.parent ∧ x.svc = y.svc ∧ x.host = y.host ∧ ¬ x.start = y.start) ∨ (x.trace = y.trace ∧ x.id = y.id ∧ x.parent = y.parent ∧ x.svc = y.svc ∧ x.host = y.host ∧ x.start = y.start ∧ ¬ x.dur = y.dur) ∨ (x.trace = y.trace ∧ x.id = y.id ∧ x.parent = y.parent ∧ x.svc = y.svc ∧ x.host = y.host ∧ x.start = y.start ∧ x.dur = y.dur ∧ ¬ x.note = y.note) := by
  by_cases h0 : x.trace = y.trace
  case neg => exact .inl h0
  by_cases h1 : x.id = y.id
  case neg => exact .inr (.inl ⟨h0, h1⟩)
  by_cases h2 : x.parent = y.parent
  case neg => exact .inr (.inr (.inl ⟨h0, h1, h2⟩))
  by_cases h3 : x.svc = y.svc
  case neg => exact .inr (.inr (.inr (.inl ⟨h0, h1, h2, h3⟩)))
  by_cases h4 : x.host = y.host
  case neg => exact .inr (.inr (.inr (.inr (.inl ⟨h0, h1, h2, h3, h4⟩))))
  by_cases h5 : x.start = y.start
  case neg => exact .inr (.inr (.inr (.inr (.inr (.inl ⟨h0, h1, h2, h3, h4, h5⟩)))))
  by_cases h6 : x.dur = y.dur
  case neg => exact .inr (.inr (.inr (.inr (.inr (.inr (.inl ⟨h0, h1, h2, h3, h4, h5, h6⟩))))))
  by_cases h7 : x.note = y.note
  case neg => exact .inr (.inr (.inr (.inr (.inr (.inr (.inr (⟨h0, h1, h2, h3, h4, h5, h6, h7⟩)))))))
  exact absurd (M.Sp.ext' h0 h1 h2 h3 h4 h5 h6 h7) h
/-- The same, or not. -/
def SameR (p : Prop) (w : World) (e : Ending) (w' : World) : Prop := (p → e = .returned (.bool true)) ∧ (¬ p → e = .returned (.bool false)) ∧ Below w.heap.size w w'
theorem SameR.yes {p : Prop} (h : p) {w w' : World} (hb : Below w.heap.size w w') : SameR p w (.returned (.bool true)) w' := ⟨fun _ => rfl, fun k => absurd h k, hb⟩
theorem SameR.no {p : Prop} (h : ¬ p) {w w' : World} (hb : Below w.heap.size w w') : SameR p w (.returned (.bool false)) w' := ⟨fun k => absurd k h, fun _ => rfl, hb⟩

set_option maxHeartbeats 1000000 in
theorem sameSpans_any {w : World} {ao bo : Option Addr} {L K : List M.Sp} (c1 c2 : Nat) (hL : SpsAt w ao L) (hK : SpsAt w bo K) (hl : L.length ≤ 140737488351232) (hk : K.length ≤ 140737488351232) :
    Calls Try.prog 30 #[.slice ao L.length c1, .slice bo K.length c2] w fun e w' => SameR (L = K) w e w' := by
  by_cases hlen : L.length = K.length
  · have d0 : ¬ ((L.length : Int) ≠ (K.length : Int)) := by omega
    have d1 : ((L.length : Int) != (K.length : Int)) = false := by simp; omega
    have HL := Lib.hid hL
    have HK := Lib.hid hK
    have HN := Lib.hid hlen
    clear hL hK hlen
    go_enter Try.func30, Try.ntmps30
    go_wp2_with fail
    go_loopw [5] (fun i wr => ∃ k : Nat, k ≤ L.length ∧ i = .int .i64 k ∧ (∀ j, j < k → L.getD j M.sp0 = K.getD j M.sp0) ∧ Below w.heap.size w wr) (fun i _ => L.length - (intOf i).toNat)
    case atStart => exact ⟨0, by omega, rfl, fun j hj => by omega, Below.refl _ _⟩
    case round =>
      rename_i wr
      obtain ⟨k, hkl, rfl, hj, hb⟩ := hrel
      have HJ := Lib.hid hj
      have HW := Lib.hid hb
      clear hj
      by_cases hlt : k < L.length
      · have hd : decide ((k : Int) < (L.length : Int)) = true := by simp; omega
        obtain ⟨g, off, rfl, hc⟩ := (HL.out.below hb).off k hlt
        obtain ⟨g', off', rfl, hc'⟩ := (HK.out.below hb).off k (by have := HN.out; omega)
        obtain ⟨x0, x1, x2, x3, x4, x5, x6, x7⟩ := hc
        obtain ⟨y0, y1, y2, y3, y4, y5, y6, y7⟩ := hc'
        have hkk : (k : Int) < (K.length : Int) := by have := HN.out; omega
        by_cases hxy : L.getD k M.sp0 = K.getD k M.sp0
        · rw [← hxy] at y0 y1 y2 y3 y4 y5 y6 y7
          clear hb
          generalize hxe : L.getD k M.sp0 = x at *
          have HXE := Lib.hid hxe
          have HYE := Lib.hid hxy.symm
          clear hxe hxy
          go_wp2_with fail
          go_region
          go_wp2_with fail
          go_roundw
          case rel => exact ⟨k + 1, by omega, by go_num, fun j hj => by
            by_cases e : j = k
            · rw [e, HXE.out, HYE.out]
            · exact HJ.out j (by omega), HW.out.drew⟩
          case measure => simp [intOf]; omega
        · clear hb
          have HX := Lib.hid (show ¬ L = K from fun h => hxy (by rw [h]))
          generalize L.getD k M.sp0 = x at *
          generalize K.getD k M.sp0 = y at *
          rcases M.Sp.diff hxy with h | h | h | h | h | h | h | h
          all_goals
            clear hxy
            (try obtain ⟨h1, h⟩ := h)
            (try obtain ⟨h2, h⟩ := h)
            (try obtain ⟨h3, h⟩ := h)
            (try obtain ⟨h4, h⟩ := h)
            (try obtain ⟨h5, h⟩ := h)
            (try obtain ⟨h6, h⟩ := h)
            (try obtain ⟨h7, h⟩ := h)
            go_wp2_with fail
            go_region
            go_wp2_with fail
            go_ret
            exact SameR.no HX.out HW.out.drew
      · obtain rfl : k = L.length := by omega
        have hd : decide ((L.length : Int) < (L.length : Int)) = false := by simp
        go_wp2_with fail
        go_ret
        exact SameR.yes (M.sps_ext HN.out HJ.out) HW.out
  · have d1 : ((L.length : Int) != (K.length : Int)) = true := by simp; omega
    have HN := Lib.hid hlen
    clear hlen hL hK
    go_enter Try.func30, Try.ntmps30
    go_wp2_with fail
    go_ret
    exact SameR.no (fun h => HN.out (by rw [h])) (Below.refl _ _)

end Go.Proofs.Ytblgfhljaafmhaa
