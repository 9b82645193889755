/- Layer 19: Merge with a drop. -/
import Derived.Test.YtnhljlmelbiljaaGreatTbltF
import Derived.Test.YtnhljlmelbiljaaGreatTbltDf
namespace Go.Proofs.YtnhljlmelbiljaaGreat
set_option linter.unusedVariables false
set_option linter.unusedSimpArgs false
open Go Go.RowKit
attribute [local go_sem ↓] run_index_S
attribute [local go_sem] S_append S_extract

set_option maxHeartbeats 4000000 in
set_option maxRecDepth 100000 in
theorem merge19_odd (f t : List UInt8) (mv : Value) (ao : Option Addr) (cap : Nat) (L : List M.Cl) (Ts : List M.Tp) (w : World) (h : TtAt w mv ao L Ts) (hf : f.length ≤ 1000000) (ht : t.length ≤ 1000000) (hl : (M.rangeT f t (M.tls Ts) [] []).length ≤ 1000000) :
    Calls Tryz.prog 19 #[.agg (tbV f t mv ao Ts.length cap), (.func (.func 21) #[] #[])] w fun e w' => ∃ a c, e = .returned (.tuple #[.slice a ((M.rangeT f t (M.tls Ts) [] []).filter (fun c => !M.odd c)).length c, .int .i64 0]) ∧ ClsAt w' a ((M.rangeT f t (M.tls Ts) [] []).filter (fun c => !M.odd c)) ∧ Below w.heap.size w w' := by
  have hn := h.n
  have hfn := fun (W : World) (f : Fn) (a c : Array Value) => run_neq_func_nil19 (P := Tryz.prog) W _ Tryz.underlying52 f a c
  have HB := Lib.hid ((Below.refl w.heap.size w).alloc (Nat.le_refl _) (.cells (tbV f t mv ao Ts.length cap) 32))
  have CRS := Lib.hid (rows19_any f t mv ao cap L Ts [] [] _ (h.below HB.out) hf ht (by simp) (by simp))
  unfold RowsR19 at CRS
  have HLN := Lib.hid (show (M.tls Ts).length ≤ 101 from by simp [M.tls]; omega)
  have HOK := Lib.hid (h.tabs.okL)
  clear h
  have HQ := Lib.hid (show M.rangeT f t (M.tls Ts) [] [] = M.newR ((M.tls Ts).map (M.rangeL (M.winA f []) (M.winB t []))) from rfl)
  generalize M.rangeT f t (M.tls Ts) [] [] = res at *
  have HRL := Lib.hid (show ∀ Rs, M.rls Rs = (M.tls Ts).map (M.rangeL (M.winA f []) (M.winB t [])) → RsOk Rs ∧ M.mayR Rs = true from fun Rs he => rsOk_of19 (R := M.tls Ts) _ _ he HLN.out HOK.out)
  generalize (M.tls Ts).map (M.rangeL (M.winA f []) (M.winB t [])) = R0 at *
  unfold tbV at *
  go_enter Tryz.func19, Tryz.ntmps19
  go_wp2_with fail
  generalize w.alloc (.cells #[.string (S f), .string (S t), mv, .slice ao Ts.length cap] 32) = W0 at *
  with_reducible refine (CRS.out).mono ?_
  rintro e w3 ⟨Rs, ro, rc, rfl, hls, hro, hbq⟩
  have hs0 : w.heap.size ≤ W0.heap.size := HB.out.size
  replace HB := carry hbq HB
  have hlen : Rs.length = R0.length := by
    have := congrArg List.length hls
    simpa [M.rls] using this
  have CN := Lib.hid (newO11 Rs (HRL.out _ hls).1 (HRL.out _ hls).2 ro rc w3 hro.at_ R0.length hlen)
  rw [hls, ← HQ.out] at CN
  unfold NewR19 at CN
  clear hbq hro hls CRS hlen
  go_wp2_with fail
  with_reducible refine (CN.out).mono ?_
  rintro e w6 ⟨aN, cN, rfl, hoN, hbN⟩
  have HON := Lib.hid (ownP_mono hoN HB.out.size)
  have HBN := Lib.hid (HB.out.trans (hbN.mono HB.out.size))
  clear hoN hbN CN
  have CDF := Lib.hid (delf_odd19 w.heap.size res aN cN w6 HBN.out.size HON.out hl)
  go_wp2_with fail
  with_reducible refine (CDF.out).mono ?_
  rintro e w7 ⟨cD, rfl, hcD, hbD⟩
  have HCD := Lib.hid hcD
  have HBD := Lib.hid (HBN.out.trans hbD)
  clear hcD hbD CDF
  go_wp2_with fail
  go_ret2
  exact ⟨aN, cD, rfl, HCD.out, HBD.out⟩
set_option maxHeartbeats 4000000 in
set_option maxRecDepth 100000 in
theorem merge19_even (f t : List UInt8) (mv : Value) (ao : Option Addr) (cap : Nat) (L : List M.Cl) (Ts : List M.Tp) (w : World) (h : TtAt w mv ao L Ts) (hf : f.length ≤ 1000000) (ht : t.length ≤ 1000000) (hl : (M.rangeT f t (M.tls Ts) [] []).length ≤ 1000000) :
    Calls Tryz.prog 19 #[.agg (tbV f t mv ao Ts.length cap), (.func (.func 20) #[] #[])] w fun e w' => ∃ a c, e = .returned (.tuple #[.slice a ((M.rangeT f t (M.tls Ts) [] []).filter (fun c => M.odd c)).length c, .int .i64 0]) ∧ ClsAt w' a ((M.rangeT f t (M.tls Ts) [] []).filter (fun c => M.odd c)) ∧ Below w.heap.size w w' := by
  have hn := h.n
  have hfn := fun (W : World) (f : Fn) (a c : Array Value) => run_neq_func_nil19 (P := Tryz.prog) W _ Tryz.underlying52 f a c
  have HB := Lib.hid ((Below.refl w.heap.size w).alloc (Nat.le_refl _) (.cells (tbV f t mv ao Ts.length cap) 32))
  have CRS := Lib.hid (rows19_any f t mv ao cap L Ts [] [] _ (h.below HB.out) hf ht (by simp) (by simp))
  unfold RowsR19 at CRS
  have HLN := Lib.hid (show (M.tls Ts).length ≤ 101 from by simp [M.tls]; omega)
  have HOK := Lib.hid (h.tabs.okL)
  clear h
  have HQ := Lib.hid (show M.rangeT f t (M.tls Ts) [] [] = M.newR ((M.tls Ts).map (M.rangeL (M.winA f []) (M.winB t []))) from rfl)
  generalize M.rangeT f t (M.tls Ts) [] [] = res at *
  have HRL := Lib.hid (show ∀ Rs, M.rls Rs = (M.tls Ts).map (M.rangeL (M.winA f []) (M.winB t [])) → RsOk Rs ∧ M.mayR Rs = true from fun Rs he => rsOk_of19 (R := M.tls Ts) _ _ he HLN.out HOK.out)
  generalize (M.tls Ts).map (M.rangeL (M.winA f []) (M.winB t [])) = R0 at *
  unfold tbV at *
  go_enter Tryz.func19, Tryz.ntmps19
  go_wp2_with fail
  generalize w.alloc (.cells #[.string (S f), .string (S t), mv, .slice ao Ts.length cap] 32) = W0 at *
  with_reducible refine (CRS.out).mono ?_
  rintro e w3 ⟨Rs, ro, rc, rfl, hls, hro, hbq⟩
  have hs0 : w.heap.size ≤ W0.heap.size := HB.out.size
  replace HB := carry hbq HB
  have hlen : Rs.length = R0.length := by
    have := congrArg List.length hls
    simpa [M.rls] using this
  have CN := Lib.hid (newO11 Rs (HRL.out _ hls).1 (HRL.out _ hls).2 ro rc w3 hro.at_ R0.length hlen)
  rw [hls, ← HQ.out] at CN
  unfold NewR19 at CN
  clear hbq hro hls CRS hlen
  go_wp2_with fail
  with_reducible refine (CN.out).mono ?_
  rintro e w6 ⟨aN, cN, rfl, hoN, hbN⟩
  have HON := Lib.hid (ownP_mono hoN HB.out.size)
  have HBN := Lib.hid (HB.out.trans (hbN.mono HB.out.size))
  clear hoN hbN CN
  have CDF := Lib.hid (delf_even19 w.heap.size res aN cN w6 HBN.out.size HON.out hl)
  go_wp2_with fail
  with_reducible refine (CDF.out).mono ?_
  rintro e w7 ⟨cD, rfl, hcD, hbD⟩
  have HCD := Lib.hid hcD
  have HBD := Lib.hid (HBN.out.trans hbD)
  clear hcD hbD CDF
  go_wp2_with fail
  go_ret2
  exact ⟨aN, cD, rfl, HCD.out, HBD.out⟩

end Go.Proofs.YtnhljlmelbiljaaGreat
