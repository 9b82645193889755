/- Layer 19: the cell of a key in a tablet, by a contract. -/
import Derived.Test.YtnhljlmelbiljaaGreatTbltD
namespace Go.Proofs.YtnhljlmelbiljaaGreat
set_option linter.unusedVariables false
set_option linter.unusedSimpArgs false
open Go Go.RowKit
attribute [local go_sem ↓] run_index_S
attribute [local go_sem] S_append S_extract

/-- What holds while the tables are gone through. -/
structure Gt19 (w : World) (nb : Nat) (acc : Option M.Cl) (W : World) : Prop where
  res : RowIn clZ9 38 W (w.heap.size + 1)
  new : RowIn (clA (acc.getD M.cl0)) 38 W nb
  bel : Below w.heap.size w W
  nb1 : w.heap.size + 1 < nb
theorem Gt19.below {w : World} {nb : Nat} {acc : Option M.Cl} {W W' : World} (h : Gt19 w nb acc W) (hb : Below W.heap.size W W') : Gt19 w nb acc W' := ⟨h.res.below hb, h.new.below hb, h.bel.trans (hb.mono h.bel.size), h.nb1⟩
theorem Gt19.put {w : World} {nb : Nat} {acc : Option M.Cl} {d : M.Cl} {W W' : World} (h : Gt19 w nb acc W) (hr : RowIn (clA d) 38 W' nb) (hb : ∀ B0 W0, B0 ≤ nb → Below B0 W0 W → Below B0 W0 W') (ho : ∀ C T b, b < nb → RowIn C T W b → RowIn C T W' b) : Gt19 w nb (some d) W' :=
  ⟨ho _ _ _ h.nb1 h.res, hr, hb _ _ (by have := h.nb1; omega) h.bel, h.nb1⟩
set_option maxHeartbeats 8000000 in
set_option maxRecDepth 100000 in
theorem get19_any (f t : List UInt8) (mv : Value) (ao : Option Addr) (cap : Nat) (L : List M.Cl) (Ts : List M.Tp) (key : List UInt8) (w : World) (h : TtAt w mv ao L Ts) (h1 : key.length ≤ 140737488351232) :
    Calls Tryz.prog 12 #[.agg (tbV f t mv ao Ts.length cap), .string (S key)] w fun e w' => FindR9 (M.getT f t (L :: M.tls Ts) key) w e w' := by
  have hB0 : Below w.heap.size w ((w.alloc (.cells (tbV f t mv ao Ts.length cap) 32)).alloc (.cells clZ9 38)) := ((Below.refl w.heap.size w).alloc (Nat.le_refl _) _).alloc (by rw [szA]; omega) _
  have HB := Lib.hid hB0
  have HR := Lib.hid (show RowIn (tbV f t mv ao Ts.length cap) 32 ((w.alloc (.cells (tbV f t mv ao Ts.length cap) 32)).alloc (.cells clZ9 38)) w.heap.size from (rowIn_new _ _ w).more _)
  have HZ := Lib.hid (show RowIn clZ9 38 ((w.alloc (.cells (tbV f t mv ao Ts.length cap) 32)).alloc (.cells clZ9 38)) (w.heap.size + 1) from rowIn_at _ _ _ _ (by rw [szA]))
  have HT := Lib.hid h
  have hn := h.n
  have CH := Lib.hid (fun w => holds19_any f t mv ao Ts.length cap key w)
  have HG := Lib.hid (show M.getT f t (L :: M.tls Ts) key = if M.inK f t key = true then M.bestR key (L :: M.tls Ts) else none from rfl)
  clear h hB0
  generalize M.getT f t (L :: M.tls Ts) key = res at *
  generalize M.inK f t key = inn at *
  unfold tbV at *
  go_enter Tryz.func12, Tryz.ntmps12
  go_wp2_with fail
  generalize (w.alloc (.cells #[.string (S f), .string (S t), mv, .slice ao Ts.length cap] 32)).alloc (.cells clZ9 38) = W0 at *
  with_reducible refine (CH.out _).mono ?_
  rintro e w1 ⟨rfl, hbq⟩
  replace HB := carry hbq HB
  replace HR := carry hbq HR
  replace HZ := carry hbq HZ
  clear hbq CH
  cases inn with
  | false =>
    go_wp2_with ((refine wpList_store_hid rfl 38 _ _ rfl (w.heap.size + 1) _ rfl rfl 38 clZ9 HZ.out ?_ rfl (by simp [Value.oneCell']) ?_; kernel_rfl; intro w3 hrQ hbelQ hothQ hszQ; have HXE := Lib.hid hrQ; have HBE := Lib.hid (hbelQ w.heap.size w (Nat.le_succ _) HB.out); clear hrQ hbelQ hothQ hszQ))
    try simp only [Exit.inBlock, Exit.then]
    exact bodyPost_ret (ret_rowP2 rfl _ _ (w.heap.size + 1) rfl (load_struct Tryz.underlying38 (by kernel_rfl) HXE.out)) rfl (show FindR9 res w _ _ from by rw [HG.out]; exact ⟨rfl, HBE.out⟩)
  | true =>
    have CM := Lib.hid (mget_any key w1 (HT.out.below HB.out).mem)
    unfold FindR9 at CM
    have HGA := Lib.hid (show res = M.up (M.findL key L) (M.bestR key (M.tls Ts)) from by rw [HG.out]; rfl)
    clear HG
    generalize M.findL key L = acc0 at *
    have r2 := HR.out.cell 2
    have r3 := HR.out.cell 3
    simp at r2 r3
    go_wp2_with fail
    with_reducible refine (CM.out).mono ?_
    rintro e w2 ⟨rfl, hbq⟩
    replace HB := carry hbq HB
    replace HZ := carry hbq HZ
    replace HR := carry hbq HR
    clear hbq CM r2 r3
    have hs2 : w.heap.size + 1 < w2.heap.size := HZ.out.lt
    have hal : Below w2.heap.size w2 (w2.alloc (.cells (clA (acc0.getD M.cl0)) 38)) := (Below.refl _ _).alloc (Nat.le_refl _) _
    have HI := Lib.hid (show Gt19 w w2.heap.size acc0 (w2.alloc (.cells (clA (acc0.getD M.cl0)) 38)) from ⟨HZ.out.below hal, rowIn_new _ _ _, HB.out.trans (hal.mono HB.out.size), hs2⟩)
    replace HR := carry hal HR
    have r3 := HR.out.cell 3
    simp at r3
    clear hal HB HZ hs2
    go_wp2_with fail
    have HI : Hid (Gt19 w w2.heap.size acc0 (w2.alloc (.cells #[.string (S (acc0.getD M.cl0).key), .int .i64 (acc0.getD M.cl0).seq, .string (S (acc0.getD M.cl0).val)] 38))) := HI
    replace HR : Hid (RowIn #[.string (S f), .string (S t), mv, .slice ao Ts.length cap] 32 (w2.alloc (.cells #[.string (S (acc0.getD M.cl0).key), .int .i64 (acc0.getD M.cl0).seq, .string (S (acc0.getD M.cl0).val)] 38)) w.heap.size) := HR
    generalize w2.alloc (.cells #[.string (S (acc0.getD M.cl0).key), .int .i64 (acc0.getD M.cl0).seq, .string (S (acc0.getD M.cl0).val)] 38) = W2 at *
    generalize w2.heap.size = nb at *
    go_loopw [7, 27] (fun fv iv wr => ∃ (k : Nat) (acc : Option M.Cl), k ≤ Ts.length ∧ iv = .int .i64 k ∧ fv = .bool acc.isSome ∧ Hid (acc = M.up acc0 (M.bestR key (M.tls (Ts.take k)))) ∧ Hid (Gt19 w nb acc wr)) (fun _ iv _ => Ts.length - (intOf iv).toNat)
    case atStart => exact ⟨0, acc0, Nat.zero_le _, rfl, rfl, Lib.hid (M.up_none _).symm, HI⟩
    case round =>
      clear HI HR r3
      obtain ⟨k, acc, hk, rfl, rfl, HA, HI⟩ := hrel
      by_cases hlt : k < Ts.length
      · have d1 : decide ((k : Int) < (Ts.length : Int)) = true := by simp; omega
        have d2 : decide (k < Ts.length) = true := by simp; omega
        have hki : (k : Int) < (Ts.length : Int) := by omega
        obtain ⟨g, off, eao, x0, hok⟩ := (HT.out.below HI.out.bel).tabs.off k hlt
        subst eao
        have HTK := Lib.hid (show M.up acc0 (M.bestR key (M.tls (Ts.take (k + 1)))) = M.up acc (M.findL key (Ts.getD k M.tp0).l) from by
          rw [M.tls_snoc hlt, M.bestR_snoc, ← M.up_assoc, ← HA.out])
        generalize Ts.getD k M.tp0 = tp at *
        have CR := Lib.hid (tget_any tp key wr hok h1)
        unfold FindR9 at CR
        clear hok HA
        generalize ptrT tp.p = pv at *
        generalize M.findL key tp.l = fd at *
        go_wp2_with fail
        with_reducible refine (CR.out).mono ?_
        rintro e w3 ⟨rfl, hbq⟩
        clear CR x0
        have HI3 := Lib.hid (HI.out.below hbq)
        clear hbq HI
        have hal : Below w3.heap.size w3 (w3.alloc (.cells (clA (fd.getD M.cl0)) 38)) := (Below.refl _ _).alloc (Nat.le_refl _) _
        have HX := Lib.hid (rowIn_new (clA (fd.getD M.cl0)) 38 w3)
        have HI4 := Lib.hid (HI3.out.below hal)
        clear hal HI3
        cases fd with
        | none =>
          have HK := Lib.hid (show acc = M.up acc0 (M.bestR key (M.tls (Ts.take (k + 1)))) from by rw [HTK.out, M.up_none])
          go_wp2_with fail
          go_roundw
          case rel => exact ⟨k + 1, acc, by omega, by go_num, rfl, HK, HI4⟩
          case measure => simp [intOf]; omega
        | some d =>
          cases acc with
          | none =>
            have HK := Lib.hid (show some d = M.up acc0 (M.bestR key (M.tls (Ts.take (k + 1)))) from by rw [HTK.out]; rfl)
            go_wp2_with (first | (refine wpList_load_row rfl 38 _ rfl w3.heap.size rfl 38 _ (0, 0) _ HX.out Tryz.underlying38 rfl ?_ ?_; kernel_rfl) | (refine wpList_store_hid rfl 38 _ _ rfl nb _ rfl rfl 38 _ HI4.out.new ?_ rfl (by simp [Value.oneCell']) ?_; kernel_rfl; intro w5 hrQ hbelQ hothQ hszQ; have HI5 := Lib.hid (HI4.out.put hrQ hbelQ hothQ); clear hrQ hbelQ hothQ hszQ))
            go_roundw
            case rel => exact ⟨k + 1, some d, by omega, by go_num, rfl, HK, HI5⟩
            case measure => simp [intOf]; omega
          | some a =>
            have y1 := HI4.out.new.cell 1
            have c1 := HX.out.cell 1
            simp at y1 c1
            by_cases hq : a.seq < d.seq
            · have HK := Lib.hid (show some d = M.up acc0 (M.bestR key (M.tls (Ts.take (k + 1)))) from by rw [HTK.out]; simp only [M.up]; rw [if_pos hq])
              have d3 : decide (a.seq < d.seq) = true := by simpa using hq
              go_wp2_with (first | (refine wpList_load_row rfl 38 _ rfl w3.heap.size rfl 38 _ (0, 0) _ HX.out Tryz.underlying38 rfl ?_ ?_; kernel_rfl) | (refine wpList_store_hid rfl 38 _ _ rfl nb _ rfl rfl 38 _ HI4.out.new ?_ rfl (by simp [Value.oneCell']) ?_; kernel_rfl; intro w5 hrQ hbelQ hothQ hszQ; have HI5 := Lib.hid (HI4.out.put hrQ hbelQ hothQ); clear hrQ hbelQ hothQ hszQ))
              go_roundw
              case rel => exact ⟨k + 1, some d, by omega, by go_num, rfl, HK, HI5⟩
              case measure => simp [intOf]; omega
            · have HK := Lib.hid (show some a = M.up acc0 (M.bestR key (M.tls (Ts.take (k + 1)))) from by rw [HTK.out]; simp only [M.up]; rw [if_neg hq])
              have d3 : decide (a.seq < d.seq) = false := by simpa using hq
              go_wp2_with fail
              go_roundw
              case rel => exact ⟨k + 1, some a, by omega, by go_num, rfl, HK, HI4⟩
              case measure => simp [intOf]; omega
      · obtain rfl : k = Ts.length := by omega
        have d1 : decide ((Ts.length : Int) < (Ts.length : Int)) = false := by simp
        have d2 : decide (Ts.length < Ts.length) = false := by simp
        have HE := Lib.hid (show res = acc from by have := HA.out; rw [List.take_length] at this; rw [HGA.out, this])
        go_wp2_with (first | (refine wpList_load_row rfl 38 _ rfl nb rfl 38 _ (0, 0) _ HI.out.new Tryz.underlying38 rfl ?_ ?_; kernel_rfl) | (refine wpList_store_hid rfl 38 _ _ rfl (w.heap.size + 1) _ rfl rfl 38 clZ9 HI.out.res ?_ rfl (by simp [Value.oneCell']) ?_; kernel_rfl; intro w3 hrQ hbelQ hothQ hszQ; have HXE := Lib.hid hrQ; have HBE := Lib.hid (hbelQ w.heap.size w (Nat.le_succ _) HI.out.bel); clear hrQ hbelQ hothQ hszQ))
        try simp only [Exit.inBlock, Exit.then]
        exact bodyPost_ret (ret_rowP2 rfl _ _ (w.heap.size + 1) rfl (load_struct Tryz.underlying38 (by kernel_rfl) HXE.out)) rfl (show FindR9 res w _ _ from by rw [HE.out]; exact ⟨rfl, HBE.out⟩)

end Go.Proofs.YtnhljlmelbiljaaGreat
