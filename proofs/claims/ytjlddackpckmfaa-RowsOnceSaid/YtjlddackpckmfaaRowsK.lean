/- Layer 21: the law's own helpers: lists that are the same, lists that are too great, by contracts. -/
import Derived.Test.YtjlddackpckmfaaRowsJ
import Derived.Test.YtjlddackpckmfaaZE
namespace Go.Proofs.Ytjlddackpckmfaa
set_option linter.unusedVariables false
open Go Go.RowKit

theorem M.cls_ext {L K : List M.Cl} (h : L.length = K.length) (hj : ∀ j, j < L.length → L.getD j M.cl0 = K.getD j M.cl0) : L = K := by
  apply List.ext_getElem h
  intro j h1 h2
  have := hj j h1
  simpa [List.getD, List.getElem?_eq_getElem h1, List.getElem?_eq_getElem h2] using this
theorem M.Cl.diff {x y : M.Cl} (h : ¬ x = y) : (¬ x.key = y.key) ∨ (x.key = y.key ∧ ¬ x.seq = y.seq) ∨ (x.key = y.key ∧ x.seq = y.seq ∧ ¬ x.val = y.val) := by
  by_cases h0 : x.key = y.key
  case neg => exact .inl h0
  by_cases h1 : x.seq = y.seq
  case neg => exact .inr (.inl ⟨h0, h1⟩)
  exact .inr (.inr ⟨h0, h1, fun h2 => h (M.Cl.ext' h0 h1 h2)⟩)

set_option maxHeartbeats 1000000 in
theorem sameSpans21_any {w : World} {ao bo : Option Addr} {L K : List M.Sp} (c1 c2 : Nat) (hL : SpsAt w ao L) (hK : SpsAt w bo K) (hl : L.length ≤ 140737488351232) (hk : K.length ≤ 140737488351232) :
    Calls Try.prog 24 #[.slice ao L.length c1, .slice bo K.length c2] w fun e w' => SameR (L = K) w e w' := by
  by_cases hlen : L.length = K.length
  · have d0 : ¬ ((L.length : Int) ≠ (K.length : Int)) := by omega
    have d1 : ((L.length : Int) != (K.length : Int)) = false := by simp; omega
    have HL := Lib.hid hL
    have HK := Lib.hid hK
    have HN := Lib.hid hlen
    clear hL hK hlen
    go_enter Try.func24, Try.ntmps24
    go_wp2_with fail
    go_loopw [5] (fun i wr => ∃ k : Nat, k ≤ L.length ∧ i = .int .i64 k ∧ (∀ j, j < k → L.getD j M.sp0 = K.getD j M.sp0) ∧ Below w.heap.size w wr) (fun i _ => L.length - (intOf i).toNat)
    case atStart => exact ⟨0, by omega, rfl, fun j hj => by omega, Below.refl _ _⟩
    case round =>
      rename_i wr
      obtain ⟨k, hkl, rfl, hj, hb⟩ := hrel
      have HJ := Lib.hid hj
      have HW := Lib.hid hb
      clear hj
      by_cases hlt : k < L.length
      · have hd : decide ((k : Int) < (L.length : Int)) = true := by simp; omega
        obtain ⟨g, off, rfl, hc⟩ := (HL.out.below hb).off k hlt
        obtain ⟨g', off', rfl, hc'⟩ := (HK.out.below hb).off k (by have := HN.out; omega)
        obtain ⟨x0, x1, x2, x3, x4, x5, x6, x7⟩ := hc
        obtain ⟨y0, y1, y2, y3, y4, y5, y6, y7⟩ := hc'
        have hkk : (k : Int) < (K.length : Int) := by have := HN.out; omega
        by_cases hxy : L.getD k M.sp0 = K.getD k M.sp0
        · rw [← hxy] at y0 y1 y2 y3 y4 y5 y6 y7
          clear hb
          generalize hxe : L.getD k M.sp0 = x at *
          have HXE := Lib.hid hxe
          have HYE := Lib.hid hxy.symm
          clear hxe hxy
          go_wp2_with fail
          go_region
          go_wp2_with fail
          go_roundw
          case rel => exact ⟨k + 1, by omega, by go_num, fun j hj => by
            by_cases e : j = k
            · rw [e, HXE.out, HYE.out]
            · exact HJ.out j (by omega), HW.out.drew⟩
          case measure => simp [intOf]; omega
        · clear hb
          have HX := Lib.hid (show ¬ L = K from fun h => hxy (by rw [h]))
          generalize L.getD k M.sp0 = x at *
          generalize K.getD k M.sp0 = y at *
          rcases M.Sp.diff hxy with h | h | h | h | h | h | h | h
          all_goals
            clear hxy
            (try obtain ⟨h1, h⟩ := h)
            (try obtain ⟨h2, h⟩ := h)
            (try obtain ⟨h3, h⟩ := h)
            (try obtain ⟨h4, h⟩ := h)
            (try obtain ⟨h5, h⟩ := h)
            (try obtain ⟨h6, h⟩ := h)
            (try obtain ⟨h7, h⟩ := h)
            go_wp2_with fail
            go_region
            go_wp2_with fail
            go_ret
            exact SameR.no HX.out HW.out.drew
      · obtain rfl : k = L.length := by omega
        have hd : decide ((L.length : Int) < (L.length : Int)) = false := by simp
        go_wp2_with fail
        go_ret
        exact SameR.yes (M.sps_ext HN.out HJ.out) HW.out
  · have d1 : ((L.length : Int) != (K.length : Int)) = true := by simp; omega
    have HN := Lib.hid hlen
    clear hlen hL hK
    go_enter Try.func24, Try.ntmps24
    go_wp2_with fail
    go_ret
    exact SameR.no (fun h => HN.out (by rw [h])) (Below.refl _ _)

set_option maxHeartbeats 1000000 in
theorem sameCells18_any {w : World} {ao bo : Option Addr} {L K : List M.Cl} (c1 c2 : Nat) (hL : ClsAt w ao L) (hK : ClsAt w bo K) (hl : L.length ≤ 140737488351232) (hk : K.length ≤ 140737488351232) :
    Calls Try.prog 16 #[.slice ao L.length c1, .slice bo K.length c2] w fun e w' => SameR (L = K) w e w' := by
  by_cases hlen : L.length = K.length
  · have d0 : ¬ ((L.length : Int) ≠ (K.length : Int)) := by omega
    have d1 : ((L.length : Int) != (K.length : Int)) = false := by simp; omega
    have HL := Lib.hid hL
    have HK := Lib.hid hK
    have HN := Lib.hid hlen
    clear hL hK hlen
    go_enter Try.func16, Try.ntmps16
    go_wp2_with fail
    go_loopw [5] (fun i wr => ∃ k : Nat, k ≤ L.length ∧ i = .int .i64 k ∧ (∀ j, j < k → L.getD j M.cl0 = K.getD j M.cl0) ∧ Below w.heap.size w wr) (fun i _ => L.length - (intOf i).toNat)
    case atStart => exact ⟨0, by omega, rfl, fun j hj => by omega, Below.refl _ _⟩
    case round =>
      rename_i wr
      obtain ⟨k, hkl, rfl, hj, hb⟩ := hrel
      have HJ := Lib.hid hj
      have HW := Lib.hid hb
      clear hj
      by_cases hlt : k < L.length
      · have hd : decide ((k : Int) < (L.length : Int)) = true := by simp; omega
        obtain ⟨g, off, rfl, hc⟩ := (HL.out.below hb).off k hlt
        obtain ⟨g', off', rfl, hc'⟩ := (HK.out.below hb).off k (by have := HN.out; omega)
        obtain ⟨x0, x1, x2⟩ := hc
        obtain ⟨y0, y1, y2⟩ := hc'
        have hkk : (k : Int) < (K.length : Int) := by have := HN.out; omega
        by_cases hxy : L.getD k M.cl0 = K.getD k M.cl0
        · rw [← hxy] at y0 y1 y2
          clear hb
          generalize hxe : L.getD k M.cl0 = x at *
          have HXE := Lib.hid hxe
          have HYE := Lib.hid hxy.symm
          clear hxe hxy
          go_wp2_with fail
          go_region
          go_wp2_with fail
          go_roundw
          case rel => exact ⟨k + 1, by omega, by go_num, fun j hj => by
            by_cases e : j = k
            · rw [e, HXE.out, HYE.out]
            · exact HJ.out j (by omega), HW.out.drew⟩
          case measure => simp [intOf]; omega
        · clear hb
          have HX := Lib.hid (show ¬ L = K from fun h => hxy (by rw [h]))
          generalize L.getD k M.cl0 = x at *
          generalize K.getD k M.cl0 = y at *
          rcases M.Cl.diff hxy with h | h | h
          all_goals
            clear hxy
            (try obtain ⟨h1, h⟩ := h)
            (try obtain ⟨h2, h⟩ := h)
            go_wp2_with fail
            go_region
            go_wp2_with fail
            go_ret
            exact SameR.no HX.out HW.out.drew
      · obtain rfl : k = L.length := by omega
        have hd : decide ((L.length : Int) < (L.length : Int)) = false := by simp
        go_wp2_with fail
        go_ret
        exact SameR.yes (M.cls_ext HN.out HJ.out) HW.out
  · have d1 : ((L.length : Int) != (K.length : Int)) = true := by simp; omega
    have HN := Lib.hid hlen
    clear hlen hL hK
    go_enter Try.func16, Try.ntmps16
    go_wp2_with fail
    go_ret
    exact SameR.no (fun h => HN.out (by rw [h])) (Below.refl _ _)


end Go.Proofs.Ytjlddackpckmfaa
