/- Layer 10: TablesBuild, walked. -/
import Derived.Test.YthidmgnfdikppaaTablesV
import Derived.Test.YthidmgnfdikppaaZI
namespace Go.Proofs.Ythidmgnfdikppaa
set_option linter.unusedVariables false
open Go Go.RowKit
attribute [local go_sem ↓] run_index_S
attribute [local go_sem] S_append S_extract

/-- What Build comes to, of few cells. -/
def bS (L : List M.Cl) : List UInt8 := if M.srt none L = false then [] else M.tableT L
def bN (L : List M.Cl) : Int := if M.srt none L = false then 2 else 0
theorem bE_few {L : List M.Cl} (h : L.length ≤ 4096) : bE L = .tuple #[.string (S (bS L)), .int .i64 (bN L)] := by
  unfold bE bS bN
  split
  · rfl
  · rw [if_neg (by omega)]
theorem bN_no {L : List M.Cl} (h : M.srt none L = false) : bN L = 2 := by rw [bN, if_pos h]
theorem bN_ok {L : List M.Cl} (h : M.srt none L = true) : bN L = 0 := by rw [bN, if_neg (by rw [h]; decide)]
theorem bS_no {L : List M.Cl} (h : M.srt none L = false) : bS L = [] := by rw [bS, if_pos h]
theorem bS_ok {L : List M.Cl} (h : M.srt none L = true) : bS L = M.tableT L := by rw [bS, if_neg (by rw [h]; decide)]
set_option maxHeartbeats 4000000 in
set_option maxRecDepth 100000 in
theorem tablesBuild_calls (W : World) (v : Value) (hv : UCs W v) :
    Calls Try.prog 3 #[v] W fun e w' => e = .returned (.bool true) ∧ Below W.heap.size W w' := by
  obtain ⟨L, ao, cap, rfl, hl, hi, hc, hL⟩ := hv
  have CG := Lib.hid (show Calls Try.prog 22 #[.slice ao L.length cap, .int .i64 300] W fun e w' => GreatR9 L 300 W e w' from great9_any L cap 300 (by omega) hL hl)
  unfold GreatR9 at CG
  have CB := Lib.hid (fun (h : SmallCs9 L 300) V a c (hc : L.length ≤ c) (h1 : ClsAt V a L) => build10_any L (by have := h.1; omega) a c hc V h1 (h.oks hi))
  have CRB := Lib.hid (fun (h : SmallCs9 L 300) V (h1 : ClsAt V ao L) => refBuild10_any L (by have := h.1; omega) ao cap hc V h1 (h.oks hi))
  have CT9 := Lib.hid (fun (h : SmallCs9 L 300) V (h1 : ClsAt V ao L) => twin9_any L ao cap (by have := h.1; omega) V h1)
  have CL := Lib.hid (fun (h : SmallCs9 L 300) V g q hq (h1 : ClsAt V (some ⟨g, 0, none⟩) (L ++ [c70])) (h2 : ClsAt V ao L) => left9_any L ao cap (by have := h.1; omega) V g q hq h1 h2)
  unfold BuildR at CB CRB
  unfold TwinR9 at CT9
  have CD := Lib.hid does10
  have HLw := Lib.hid hL
  have HB := Lib.hid (Below.refl W.heap.size W)
  clear hL hi
  go_enter Try.func3, Try.ntmps3
  go_wp2_with fail
  with_reducible refine CG.out.mono ?_
  rintro e w0 ⟨rfl | ⟨rfl, hsm⟩, rfl⟩
  · go_wp2_with fail
    go_ret
    exact ⟨rfl, HB.out⟩
  replace CB := Lib.hid (CB.out hsm)
  replace CRB := Lib.hid (CRB.out hsm)
  replace CT9 := Lib.hid (CT9.out hsm)
  replace CL := Lib.hid (CL.out hsm)
  rw [bE_few (by have := hsm.1; omega)] at CB CRB
  clear hsm CG hl
  generalize bS L = t at *
  generalize bN L = n at *
  go_wp2_with fail
  with_reducible refine (CT9.out _ HLw.out).mono ?_
  rintro e w1 ⟨g, q, rfl, hgq, hc1, hbq⟩
  replace HB := carry hbq HB
  replace HLw := carry hbq HLw
  have HTw := Lib.hid hc1
  clear hbq hc1
  go_wp2_with fail
  with_reducible refine (CB.out _ _ _ (by omega) (clsAt_pre9 HTw.out)).mono ?_
  rintro e w2 ⟨rfl, hbq⟩
  replace HB := carry hbq HB
  replace HLw := carry hbq HLw
  replace HTw := carry hbq HTw
  clear hbq
  go_wp2_with fail
  with_reducible refine (CRB.out _ HLw.out).mono ?_
  rintro e w3 ⟨rfl, hbq⟩
  replace HB := carry hbq HB
  replace HLw := carry hbq HLw
  replace HTw := carry hbq HTw
  clear hbq
  go_wp2_with fail
  with_reducible refine (CL.out _ g q hgq HTw.out HLw.out).mono ?_
  rintro e w4 ⟨rfl, hbq⟩
  replace HB := carry hbq HB
  clear hbq
  go_wp2_with fail
  with_reducible refine (CD.out _).mono ?_
  rintro e w5 ⟨rfl, hbq⟩
  replace HB := carry hbq HB
  clear hbq
  go_wp2_with fail
  go_ret
  exact ⟨rfl, HB.out⟩

end Go.Proofs.Ythidmgnfdikppaa
