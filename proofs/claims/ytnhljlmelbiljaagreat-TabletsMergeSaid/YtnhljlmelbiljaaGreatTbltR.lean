/- Layer 19: the document's cell of a key, by a contract. -/
import Derived.Test.YtnhljlmelbiljaaGreatTbltE
import Derived.Test.YtnhljlmelbiljaaGreatTbltN
import Derived.Deep.Cut
import Derived.Deep.CutRange
namespace Go.Proofs.YtnhljlmelbiljaaGreat
set_option linter.unusedVariables false
set_option linter.unusedSimpArgs false
open Go Go.RowKit
attribute [local go_sem ↓] run_index_S
attribute [local go_sem] S_append S_extract

/-- The document's tablet's value. -/
def rtV (f t : List UInt8) (ro : Option Addr) (n cap : Nat) : Array Value := #[.string (S f), .string (S t), .slice ro n cap]
def StR (Rs : List M.Rw) : Prop := ∀ r, r ∈ Rs → M.Stt r.l
theorem StR.pw {Rs : List M.Rw} (h : StR Rs) : M.PW (M.rls Rs) := fun i l hl => by
  simp only [M.rls, List.getElem?_map] at hl
  cases q : Rs[i]? with
  | none => rw [q] at hl; cases hl
  | some r =>
    rw [q] at hl
    injection hl with hl
    subst hl
    exact h r (List.mem_of_getElem? q)
theorem M.upC_snoc (k : List UInt8) (acc : Option M.Cl) {L : List M.Cl} {i : Nat} (h : i < L.length) : (L.take (i + 1)).foldl (M.upC k) acc = M.upC k ((L.take i).foldl (M.upC k) acc) (L.getD i M.cl0) := by
  rw [takeC_snoc h, List.foldl_append]
  rfl
theorem M.upC_pos {k : List UInt8} {c : M.Cl} (acc : Option M.Cl) (h : c.key = k) : M.upC k acc c = M.up acc (some c) := by unfold M.upC; rw [if_pos h]
theorem M.upC_neg {k : List UInt8} {c : M.Cl} (acc : Option M.Cl) (h : c.key ≠ k) : M.upC k acc c = acc := by unfold M.upC; rw [if_neg h]
set_option maxHeartbeats 8000000 in
set_option maxRecDepth 100000 in
theorem refGet19_any (f t : List UInt8) (ro : Option Addr) (cap : Nat) (Rs : List M.Rw) (key : List UInt8) (w : World) (h : RwsAt w ro Rs) (hst : StR Rs) (hn : Rs.length ≤ 1000) (hnl : ∀ r, r ∈ Rs → r.l.length ≤ 1000000) :
    Calls Tryz.prog 13 #[.agg (rtV f t ro Rs.length cap), .string (S key)] w fun e w' => FindR9 (M.getT f t (M.rls Rs) key) w e w' := by
  have hB0 : Below w.heap.size w (((w.alloc (.cells (rtV f t ro Rs.length cap) 34)).alloc (.cells clZ9 38)).alloc (.cells clZ9 38)) := (((Below.refl w.heap.size w).alloc (Nat.le_refl _) _).alloc (by rw [szA]; omega) _).alloc (by rw [szA, szA]; omega) _
  have HR := Lib.hid (show RowIn (rtV f t ro Rs.length cap) 34 (((w.alloc (.cells (rtV f t ro Rs.length cap) 34)).alloc (.cells clZ9 38)).alloc (.cells clZ9 38)) w.heap.size from ((rowIn_new _ _ w).more _).more _)
  have HZ := Lib.hid (show RowIn clZ9 38 (((w.alloc (.cells (rtV f t ro Rs.length cap) 34)).alloc (.cells clZ9 38)).alloc (.cells clZ9 38)) (w.heap.size + 1) from (show RowIn clZ9 38 ((w.alloc (.cells (rtV f t ro Rs.length cap) 34)).alloc (.cells clZ9 38)) (w.heap.size + 1) from rowIn_at _ _ _ _ (by rw [szA])).more _)
  have HN := Lib.hid (show RowIn clZ9 38 (((w.alloc (.cells (rtV f t ro Rs.length cap) 34)).alloc (.cells clZ9 38)).alloc (.cells clZ9 38)) (w.heap.size + 1 + 1) from rowIn_at _ _ _ _ (by rw [szA, szA]))
  have HB := Lib.hid hB0
  have HT := Lib.hid h
  have HST := Lib.hid hst
  have HNL := Lib.hid hnl
  have HG := Lib.hid (show M.getT f t (M.rls Rs) key = if M.inK f t key = true then M.bestR key (M.rls Rs) else none from rfl)
  have HV := Lib.hid (show M.inK f t key = (!Op.bytesLess key f && (t.isEmpty || Op.bytesLess key t)) from rfl)
  clear h hB0 hst hnl
  generalize M.getT f t (M.rls Rs) key = res at *
  generalize M.inK f t key = inn at *
  unfold rtV at *
  go_enter Tryz.func13, Tryz.ntmps13
  go_upto_region 3 with fail
  generalize ((w.alloc (.cells #[.string (S f), .string (S t), .slice ro Rs.length cap] 34)).alloc (.cells clZ9 38)).alloc (.cells clZ9 38) = W0 at *
  have r0 := HR.out.cell 0
  have r1 := HR.out.cell 1
  simp at r0 r1
  obtain ⟨TV, hTV⟩ : ∃ C : Array Value, C = #[.string (S f), .string (S t), .slice ro Rs.length cap] := ⟨_, rfl⟩
  have HTV := Lib.hid (show TV[2]? = some (.slice ro Rs.length cap) from by rw [hTV]; rfl)
  rw [← hTV] at HR
  clear hTV
  cases inn with
  | false =>
    have hv := HV.out
    clear HV
    cases q1 : Op.bytesLess key f with
    | true =>
      clear hv
      go_upto_region 4 with fail
      go_wp2_with (first | (refine wpList_load_row rfl 38 _ rfl (w.heap.size + 1 + 1) rfl 38 _ (0, 0) _ HN.out Tryz.underlying38 rfl ?_ ?_; kernel_rfl) | (refine wpList_store_hid rfl 38 _ _ rfl (w.heap.size + 1) _ rfl rfl 38 clZ9 HZ.out ?_ rfl ?_ ?_; kernel_rfl; (first | rfl | simp [clZ9, Value.oneCell']); intro w3 hrQ hbelQ hothQ hszQ; have HXE := Lib.hid hrQ; have HBE := Lib.hid (hbelQ w.heap.size w (Nat.le_succ _) HB.out); clear hrQ hbelQ hothQ hszQ))
      try simp only [Exit.inBlock, Exit.then]
      exact bodyPost_ret (ret_rowP2 rfl _ _ (w.heap.size + 1) rfl (load_struct Tryz.underlying38 (by kernel_rfl) HXE.out)) rfl (show FindR9 res w _ _ from by rw [HG.out]; exact ⟨rfl, HBE.out⟩)
    | false =>
      cases t with
      | nil => rw [q1] at hv; simp at hv
      | cons x t =>
        have q2 : Op.bytesLess key (x :: t) = false := by rw [q1] at hv; simpa using hv.symm
        clear hv
        go_upto_region 4 with fail
        go_wp2_with (first | (refine wpList_load_row rfl 38 _ rfl (w.heap.size + 1 + 1) rfl 38 _ (0, 0) _ HN.out Tryz.underlying38 rfl ?_ ?_; kernel_rfl) | (refine wpList_store_hid rfl 38 _ _ rfl (w.heap.size + 1) _ rfl rfl 38 clZ9 HZ.out ?_ rfl ?_ ?_; kernel_rfl; (first | rfl | simp [clZ9, Value.oneCell']); intro w3 hrQ hbelQ hothQ hszQ; have HXE := Lib.hid hrQ; have HBE := Lib.hid (hbelQ w.heap.size w (Nat.le_succ _) HB.out); clear hrQ hbelQ hothQ hszQ))
        try simp only [Exit.inBlock, Exit.then]
        exact bodyPost_ret (ret_rowP2 rfl _ _ (w.heap.size + 1) rfl (load_struct Tryz.underlying38 (by kernel_rfl) HXE.out)) rfl (show FindR9 res w _ _ from by rw [HG.out]; exact ⟨rfl, HBE.out⟩)
  | true =>
    have hv := HV.out
    have HI0 := Lib.hid (show Gt19 w (w.heap.size + 1 + 1) none W0 from ⟨HZ.out, HN.out, HB.out, by omega⟩)
    have HGA := Lib.hid (show res = M.bestR key (M.rls Rs) from by rw [HG.out]; rfl)
    have q1 : Op.bytesLess key f = false := by
      cases q : Op.bytesLess key f with
      | false => rfl
      | true => rw [q] at hv; simp at hv
    have q2 : t = [] ∨ Op.bytesLess key t = true := by
      rw [q1] at hv
      cases t with
      | nil => exact .inl rfl
      | cons x t => exact .inr (by simpa using hv.symm)
    clear HV hv HG HZ HN HB
    replace q2 : t = [] ∨ (t.isEmpty = false ∧ Op.bytesLess key t = true) := by
      rcases q2 with q | q
      · exact .inl q
      · cases t with
        | nil => exact .inl rfl
        | cons x t => exact .inr ⟨rfl, q⟩
    rcases q2 with rfl | ⟨q3, q2⟩
    all_goals
      go_wp2_with fail
      go_loopw [7, 8] (fun fv iv wr => ∃ (i : Nat) (acc : Option M.Cl), i ≤ Rs.length ∧ iv = .int .i64 i ∧ fv = .bool acc.isSome ∧ Hid (acc = M.bestR key (M.rls (Rs.take i))) ∧ Hid (Gt19 w (w.heap.size + 1 + 1) acc wr) ∧ Hid (RowIn TV 34 wr w.heap.size)) (fun _ iv _ => Rs.length - (intOf iv).toNat)
      case atStart => exact ⟨0, none, Nat.zero_le _, rfl, rfl, Lib.hid rfl, HI0, HR⟩
      case round =>
        clear HI0 HR r0 r1
        obtain ⟨i, acc, hi, rfl, rfl, HA, HI, HR⟩ := hrel
        have r2 := HR.out.cell 2
        rw [HTV.out] at r2
        by_cases hlt : i < Rs.length
        · have d1 : decide ((i : Int) < (Rs.length : Int)) = true := by simp; omega
          have d2 : decide (i < Rs.length) = true := by simp; omega
          have hii : (i : Int) < (Rs.length : Int) := by omega
          obtain ⟨g, off, eao, hc⟩ := HT.out.off i hlt
          subst eao
          have HMR := M.getD_memR hlt
          have HTK := Lib.hid (show M.bestR key (M.rls (Rs.take (i + 1))) = (Rs.getD i M.rw0).l.foldl (M.upC key) acc from by
            rw [M.rls_snoc hlt, M.bestR_snoc, ← HA.out, M.upC_row _ _ _ (HST.out _ HMR)])
          have hnr := HNL.out _ HMR
          clear HMR
          generalize Rs.getD i M.rw0 = r at *
          obtain ⟨l, o, kc⟩ := r
          have HXA := Lib.hid (fun (W : World) (hb : Below w.heap.size w W) => hc.below hb)
          clear hc
          unfold RwAt at HXA
          simp only at HXA HTK hnr
          have HA1 := Lib.hid (show acc = (l.take 0).foldl (M.upC key) acc from by simp)
          clear HA
          generalize hac : acc = acc1 at *
          clear hac
          go_wp2_with fail
          clear r2
          go_loopw [7, 9] (fun fv kv wr => ∃ (k : Nat) (acc : Option M.Cl), k ≤ l.length ∧ kv = .int .i64 k ∧ fv = .bool acc.isSome ∧ Hid (acc = (l.take k).foldl (M.upC key) acc1) ∧ Hid (Gt19 w (w.heap.size + 1 + 1) acc wr) ∧ Hid (RowIn TV 34 wr w.heap.size)) (fun _ kv _ => l.length - (intOf kv).toNat)
          case atStart => exact ⟨0, acc1, Nat.zero_le _, rfl, rfl, HA1, HI, HR⟩
          case round =>
            clear HI HR HA1
            obtain ⟨k, acc, hk, rfl, rfl, HA, HI, HR⟩ := hrel
            have r2 := HR.out.cell 2
            rw [HTV.out] at r2
            obtain ⟨x0, hcl⟩ := HXA.out wr HI.out.bel
            by_cases hlk : k < l.length
            · have e1 : decide ((k : Int) < (l.length : Int)) = true := by simp; omega
              have e2 : decide (k < l.length) = true := by simp; omega
              have hkk : (k : Int) < (l.length : Int) := by omega
              obtain ⟨g2, o2, rfl, hcl2⟩ := hcl (fun e => by rw [e] at hlk; simp at hlk)
              obtain ⟨y0, y1, y2⟩ := hcl2 k hlk
              have HTS := Lib.hid (show (l.take (k + 1)).foldl (M.upC key) acc1 = M.upC key acc (l.getD k M.cl0) from by rw [M.upC_snoc _ _ hlk, ← HA.out])
              clear hcl hcl2 HA
              generalize l.getD k M.cl0 = c at *
              have hal : Below wr.heap.size wr (wr.alloc (.cells (clA c) 38)) := (Below.refl _ _).alloc (Nat.le_refl _) _
              have HX := Lib.hid (rowIn_new (clA c) 38 wr)
              have HI4 := Lib.hid (HI.out.below hal)
              have HR4 := Lib.hid (HR.out.below hal)
              clear hal HI HR
              by_cases hck : c.key = key
              · have q3 : (c.key == key) = true := by simp [hck]
                have HKc := Lib.hid (M.upC_pos acc hck)
                clear hck
                cases acc with
                | none =>
                  have HK := Lib.hid (show some c = (l.take (k + 1)).foldl (M.upC key) acc1 from by rw [HTS.out, HKc.out]; rfl)
                  go_upto_region 13 with fail
                  go_wp2_with (first | (refine wpList_load_row rfl 38 _ rfl wr.heap.size rfl 38 _ (0, 0) _ HX.out Tryz.underlying38 rfl ?_ ?_; kernel_rfl) | (refine wpList_store_hid rfl 38 _ _ rfl (w.heap.size + 1 + 1) _ rfl rfl 38 _ HI4.out.new ?_ rfl ?_ ?_; kernel_rfl; (first | rfl | simp [clZ9, Value.oneCell']); intro w5 hrQ hbelQ hothQ hszQ; have HI5 := Lib.hid (HI4.out.put hrQ hbelQ hothQ); have HR5 := Lib.hid (hothQ _ _ _ (by omega) HR4.out); clear hrQ hbelQ hothQ hszQ))
                  go_roundw
                  case rel => exact ⟨k + 1, some c, by omega, by go_num, rfl, HK, HI5, HR5⟩
                  case measure => simp [intOf]; omega
                | some a =>
                  have n1 := HI4.out.new.cell 1
                  have c1 := HX.out.cell 1
                  simp at n1 c1
                  by_cases hq : a.seq < c.seq
                  · have HK := Lib.hid (show some c = (l.take (k + 1)).foldl (M.upC key) acc1 from by rw [HTS.out, HKc.out]; simp only [M.up]; rw [if_pos hq])
                    have d3 : decide (a.seq < c.seq) = true := by simpa using hq
                    go_upto_region 13 with fail
                    go_wp2_with (first | (refine wpList_load_row rfl 38 _ rfl wr.heap.size rfl 38 _ (0, 0) _ HX.out Tryz.underlying38 rfl ?_ ?_; kernel_rfl) | (refine wpList_store_hid rfl 38 _ _ rfl (w.heap.size + 1 + 1) _ rfl rfl 38 _ HI4.out.new ?_ rfl ?_ ?_; kernel_rfl; (first | rfl | simp [clZ9, Value.oneCell']); intro w5 hrQ hbelQ hothQ hszQ; have HI5 := Lib.hid (HI4.out.put hrQ hbelQ hothQ); have HR5 := Lib.hid (hothQ _ _ _ (by omega) HR4.out); clear hrQ hbelQ hothQ hszQ))
                    go_roundw
                    case rel => exact ⟨k + 1, some c, by omega, by go_num, rfl, HK, HI5, HR5⟩
                    case measure => simp [intOf]; omega
                  · have HK := Lib.hid (show some a = (l.take (k + 1)).foldl (M.upC key) acc1 from by rw [HTS.out, HKc.out]; simp only [M.up]; rw [if_neg hq])
                    have d3 : decide (a.seq < c.seq) = false := by simpa using hq
                    go_wp2_with fail
                    go_roundw
                    case rel => exact ⟨k + 1, some a, by omega, by go_num, rfl, HK, HI4, HR4⟩
                    case measure => simp [intOf]; omega
              · have q3 : (c.key == key) = false := by simp [hck]
                have HK := Lib.hid (show acc = (l.take (k + 1)).foldl (M.upC key) acc1 from by rw [HTS.out, M.upC_neg _ hck])
                clear hck
                go_wp2_with fail
                go_roundw
                case rel => exact ⟨k + 1, acc, by omega, by go_num, rfl, HK, HI4, HR4⟩
                case measure => simp [intOf]; omega
            · obtain rfl : k = l.length := by omega
              have e1 : decide ((l.length : Int) < (l.length : Int)) = false := by simp
              have e2 : decide (l.length < l.length) = false := by simp
              have HK := Lib.hid (show acc = M.bestR key (M.rls (Rs.take (i + 1))) from by rw [HTK.out, HA.out, List.take_length])
              clear hcl
              go_wp2_with fail
              go_roundw
              case rel => exact ⟨i + 1, acc, by omega, by go_num, rfl, HK, HI, HR⟩
              case measure => simp [intOf]; omega
        · obtain rfl : i = Rs.length := by omega
          have d1 : decide ((Rs.length : Int) < (Rs.length : Int)) = false := by simp
          have d2 : decide (Rs.length < Rs.length) = false := by simp
          have HE := Lib.hid (show res = acc from by have := HA.out; rw [List.take_length] at this; rw [HGA.out, this])
          go_upto_region 14 with fail
          go_wp2_with (first | (refine wpList_load_row rfl 38 _ rfl (w.heap.size + 1 + 1) rfl 38 _ (0, 0) _ HI.out.new Tryz.underlying38 rfl ?_ ?_; kernel_rfl) | (refine wpList_store_hid rfl 38 _ _ rfl (w.heap.size + 1) _ rfl rfl 38 clZ9 HI.out.res ?_ rfl ?_ ?_; kernel_rfl; (first | rfl | simp [clZ9, Value.oneCell']); intro w3 hrQ hbelQ hothQ hszQ; have HXE := Lib.hid hrQ; have HBE := Lib.hid (hbelQ w.heap.size w (Nat.le_succ _) HI.out.bel); clear hrQ hbelQ hothQ hszQ))
          try simp only [Exit.inBlock, Exit.then]
          exact bodyPost_ret (ret_rowP2 rfl _ _ (w.heap.size + 1) rfl (load_struct Tryz.underlying38 (by kernel_rfl) HXE.out)) rfl (show FindR9 res w _ _ from by rw [HE.out]; exact ⟨rfl, HBE.out⟩)

end Go.Proofs.YtnhljlmelbiljaaGreat
