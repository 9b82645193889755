/- Layer 15: the document's memory, by contracts: what it is; Get, Range. -/
import Derived.Test.YthidmgnfdikppaaMemW
import Derived.Test.YthidmgnfdikppaaLast
import Derived.BigQuiet
namespace Go.Proofs.Ythidmgnfdikppaa
set_option linter.unusedVariables false
set_option linter.unusedSimpArgs false
open Go Go.RowKit
attribute [local go_sem ↓] run_index_S
attribute [local go_sem] S_append S_extract

/-- The document's memory at a block: its cells stand somewhere. -/
structure RefM (b : Nat) (ao : Option Addr) (cap : Nat) (L : List M.Cl) (w : World) : Prop where
  row : RowIn #[.slice ao L.length cap] 78 w b
  cls : ClsAt w ao L
  le : L.length ≤ cap
  emp : ¬ cap = L.length → ∃ g off, ao = some ⟨g, off, none⟩
theorem RefM.below {b : Nat} {ao : Option Addr} {cap : Nat} {L : List M.Cl} {w w' : World} (h : RefM b ao cap L w) (hb : Below w.heap.size w w') : RefM b ao cap L w' := ⟨h.row.below hb, h.cls.below hb, h.le, h.emp⟩
instance car_ref15 {w w' : World} {b : Nat} {ao : Option Addr} {cap : Nat} {L : List M.Cl} : Car w w' (RefM b ao cap L w) (RefM b ao cap L w') := ⟨fun hb h => h.below hb⟩
theorem clsAt_only15 {A : Nat → Prop} {w w' : World} {ao : Option Addr} {L : List M.Cl} (h : ClsAt w ao L) (hO : OnlyS A w w') (hA : ∀ a, ao = some a → ¬ A a.block) : ClsAt w' ao L := fun hn => by
  obtain ⟨g, off, e, hc⟩ := h hn
  refine ⟨g, off, e, fun j hj => ?_⟩
  have hx := hc j hj
  refine clOff_blk15 hx (hO.block g ?_ (hA _ e))
  have h0 := hx.1
  unfold World.cell? at h0
  rcases Nat.lt_or_ge g w.heap.size with q | q
  · exact q
  · simp [Array.getElem?_eq_none q] at h0
theorem RefM.only {A : Nat → Prop} {b : Nat} {ao : Option Addr} {cap : Nat} {L : List M.Cl} {w w' : World} (h : RefM b ao cap L w) (hO : OnlyS A w w') (h1 : ¬ A b) (hA : ∀ a, ao = some a → ¬ A a.block) : RefM b ao cap L w' := ⟨hO.row h.row h1, clsAt_only15 h.cls hO hA, h.le, h.emp⟩
set_option maxHeartbeats 4000000 in
set_option maxRecDepth 100000 in
theorem refGet15_any (L : List M.Cl) (hl : L.length ≤ 1000000) (b : Nat) (ao : Option Addr) (cap : Nat) (key : List UInt8) (w : World) (h : RefM b ao cap L w) :
    Calls Try.prog 55 #[.pointer (some ⟨b, 0, none⟩), .string (S key)] w fun e w' => FindR9 (M.findL key L) w e w' := by
  have HB := Lib.hid ((Below.refl w.heap.size w).alloc (Nat.le_refl _) (.cells clZ9 38))
  have HR := Lib.hid (rowIn_new clZ9 38 w)
  have HM := Lib.hid (h.below ((Below.refl w.heap.size w).alloc (Nat.le_refl _) (.cells clZ9 38)))
  have m0 := HM.out.row.cell 0
  have HC := Lib.hid HM.out.cls
  clear h
  go_enter Try.func55, Try.ntmps55
  go_wp2_with fail
  go_loop [6] (fun i => ∃ k : Nat, k ≤ L.length ∧ i = .int .i64 k ∧ Hid (M.findL key (L.take k) = none)) (fun i => L.length - (intOf i).toNat)
  case atStart => exact ⟨0, Nat.zero_le _, rfl, Lib.hid rfl⟩
  case round =>
    obtain ⟨k, hk, rfl, HF⟩ := hrel
    by_cases hlt : k < L.length
    · have hd : decide ((k : Int) < (L.length : Int)) = true := by simp; omega
      have hki : (k : Int) < (L.length : Int) := by omega
      obtain ⟨g, off, rfl, hc⟩ := HC.out.off k hlt
      obtain ⟨x0, x1, x2⟩ := hc
      have HT := Lib.hid (takeC_snoc hlt)
      have HN := Lib.hid (show M.findL key (L.take (k + 1)) = if (L.getD k M.cl0).key = key then some (L.getD k M.cl0) else none from by rw [HT.out, M.findL_snoc, HF.out])
      generalize L.getD k M.cl0 = c at *
      by_cases he : c.key = key
      · have hq : (c.key == key) = true := by simpa using he
        rw [if_pos he] at HN
        have HD2 := Lib.hid (M.find_hit L key (k + 1) HN.out)
        clear he
        go_wp2_with ((refine wpList_store_hid rfl 38 _ _ rfl w.heap.size _ rfl rfl 38 clZ9 HR.out ?_ rfl (by simp [Value.oneCell']) ?_; kernel_rfl; intro w3 hrQ hbelQ hothQ hszQ; have HXE := Lib.hid hrQ; have HBE := Lib.hid (hbelQ w.heap.size w (Nat.le_refl _) HB.out); clear hrQ hbelQ hothQ hszQ))
        try simp only [Exit.inBlock, Exit.then]
        exact bodyPost_ret (ret_rowP2 rfl _ _ w.heap.size rfl (load_struct Try.underlying38 (by kernel_rfl) HXE.out)) rfl (show FindR9 (M.findL key L) w _ _ from by rw [HD2.out]; exact ⟨rfl, HBE.out⟩)
      · have hq : (c.key == key) = false := by simpa using he
        rw [if_neg he] at HN
        clear he
        go_wp2_with fail
        go_round
        case rel => exact ⟨k + 1, by omega, by go_num, HN⟩
        case measure => simp [intOf]; omega
    · obtain rfl : k = L.length := by omega
      have hd : decide ((L.length : Int) < (L.length : Int)) = false := by simp
      have HD2 := Lib.hid (show M.findL key L = none from by have := HF.out; rwa [List.take_length] at this)
      go_wp2_with ((refine wpList_store_hid rfl 38 _ _ rfl w.heap.size _ rfl rfl 38 clZ9 HR.out ?_ rfl (by simp [Value.oneCell']) ?_; kernel_rfl; intro w3 hrQ hbelQ hothQ hszQ; have HXE := Lib.hid hrQ; have HBE := Lib.hid (hbelQ w.heap.size w (Nat.le_refl _) HB.out); clear hrQ hbelQ hothQ hszQ))
      try simp only [Exit.inBlock, Exit.then]
      exact bodyPost_ret (ret_rowP2 rfl _ _ w.heap.size rfl (load_struct Try.underlying38 (by kernel_rfl) HXE.out)) rfl (show FindR9 (M.findL key L) w _ _ from by rw [HD2.out]; exact ⟨rfl, HBE.out⟩)
set_option maxHeartbeats 8000000 in
set_option maxRecDepth 100000 in
theorem refRange15_any (L : List M.Cl) (hl : L.length ≤ 900000) (b : Nat) (ao : Option Addr) (cap : Nat) (lo hi : List UInt8) (w : World) (hM : RefM b ao cap L w) (hv : ∀ c ∈ L, ClOk c) (h1 : lo.length ≤ 140737488351232) (h2 : hi.length ≤ 140737488351232) :
    Calls Try.prog 57 #[.pointer (some ⟨b, 0, none⟩), .string (S lo), .string (S hi)] w fun e w' => RangeR10 (M.rangeL lo hi L) w e w' := by
  obtain ⟨i0, z0, hi0, hz0, hz1, hz2, hz3⟩ := infoCl_parts
  have HM := Lib.hid hM
  have HC := Lib.hid hM.cls
  have HV := Lib.hid hv
  clear hM hv
  go_enter Try.func57, Try.ntmps57
  go_wp2_with fail
  go_loopw [7, 8] (fun v7 v8 wr => ∃ (k : Nat) (A : List M.Cl) (ro : Option Addr) (rc : Nat), k ≤ L.length ∧ A.length ≤ k ∧ v8 = .int .i64 k ∧ v7 = .slice ro A.length rc ∧ Hid (A = M.rangeL lo hi (L.take k)) ∧ Hid (wr.ownsRow w.heap.size 38 3 (.slice ro A.length rc) A.length (cls A)) ∧ Hid (Below w.heap.size w wr)) (fun _ v _ => L.length - (intOf v).toNat)
  case atStart => exact ⟨0, [], none, 0, Nat.zero_le _, Nat.le_refl _, rfl, rfl, Lib.hid rfl, Lib.hid (World.ownsRow_nil _ _ _ _), Lib.hid (Below.refl _ _)⟩
  case round =>
    obtain ⟨k, A, ro, rc, hk, hA, rfl, rfl, HA, HO, HBr⟩ := hrel
    have m0 := (HM.out.below HBr.out).row.cell 0
    by_cases hlt : k < L.length
    · have hd : decide ((k : Int) < (L.length : Int)) = true := by simp; omega
      have hki : (k : Int) < (L.length : Int) := by omega
      obtain ⟨g, off, rfl, hc⟩ := (HC.out.below HBr.out).off k hlt
      obtain ⟨x0, x1, x2⟩ := hc
      have HTK := Lib.hid (M.range_take lo hi hlt)
      have hkl := (HV.out _ (M.getD_memC hlt)).1
      have HIN : Hid (M.inR lo hi (L.getD k M.cl0) = (!Op.bytesLess (L.getD k M.cl0).key lo && (hi.isEmpty || Op.bytesLess (L.getD k M.cl0).key hi))) := Lib.hid rfl
      generalize L.getD k M.cl0 = c at *
      have HAPP := Lib.hid (fun (h : M.inR lo hi c = true) => (show A ++ [c] = M.rangeL lo hi (L.take (k + 1)) from by rw [HTK.out, if_pos h, HA.out]))
      have HSKP := Lib.hid (fun (h : M.inR lo hi c = false) => (show A = M.rangeL lo hi (L.take (k + 1)) from by rw [HTK.out, if_neg (by rw [h]; decide), HA.out, List.append_nil]))
      have e5 : (A ++ [c]).length = A.length + 1 := by simp
      have HE5 := Lib.hid e5
      clear e5
      cases hq1 : Op.bytesLess c.key lo with
      | true =>
        have HR := Lib.hid (HSKP.out (by rw [HIN.out, hq1]; rfl))
        go_wp2_with fail
        go_roundw
        case rel => exact ⟨k + 1, A, ro, rc, by omega, by omega, by go_num, rfl, HR, HO, HBr⟩
        case measure => simp [intOf]; omega
      | false =>
        cases he : hi.isEmpty with
        | true =>
          obtain rfl : hi = [] := by simpa using he
          have HR := Lib.hid (HAPP.out (by rw [HIN.out, hq1]; rfl))
          have HM5 := Lib.hid (HM.out.below HBr.out)
          have HXX := Lib.hid (rowIn_new (clA c) 38 wr)
          have HO2 := carryA (w := wr) (.cells (clA c) 38) HO
          have HB2 := carryA (w := wr) (.cells (clA c) 38) HBr
          go_wp2_with (at_builtin; refine wpList_append_cls_at rfl _ _ 22 rfl w.heap.size i0 z0 Try.underlying22 hi0 hz0 hz1 hz2 hz3 (.slice ro A.length rc) A.length (cls A) rfl HO2.out (some ⟨wr.heap.size, 0, none⟩) 1 [c] rfl ?c1 ?c2 ?c3 ?_)
          case c1 => exact clsAt_row HXX.out rfl
          case c2 => have e1 : [c].length = 1 := rfl; omega
          case c3 => exact HB2.out.size
          intro v' w5 ho5 hg5 hat5
          obtain ⟨ao5, cap5, rfl⟩ := ownP_shape ho5
          have HB5 := Lib.hid (HB2.out.grown hg5 HB2.out.size (fun q hq => (HO2.out.lt q hq).1))
          have HO5 := Lib.hid (show w5.ownsRow w.heap.size 38 3 (.slice ao5 (A ++ [c]).length cap5) (A ++ [c]).length (cls (A ++ [c])) from by rw [HE5.out, cls_append]; exact ho5)
          clear ho5 hg5 hat5 x0 x1 x2
          go_wp2_with fail
          go_roundw
          case rel => exact ⟨k + 1, A ++ [c], ao5, cap5, by omega, by rw [HE5.out]; omega, by go_num, by rw [HE5.out], HR, HO5, HB5⟩
          case measure => simp [intOf]; omega
        | false =>
          cases hq2 : Op.bytesLess c.key hi with
          | true =>
            have HR := Lib.hid (HAPP.out (by rw [HIN.out, hq1, hq2, he]; rfl))
            have HM5 := Lib.hid (HM.out.below HBr.out)
            have HXX := Lib.hid (rowIn_new (clA c) 38 wr)
            have HO2 := carryA (w := wr) (.cells (clA c) 38) HO
            have HB2 := carryA (w := wr) (.cells (clA c) 38) HBr
            go_wp2_with (at_builtin; refine wpList_append_cls_at rfl _ _ 22 rfl w.heap.size i0 z0 Try.underlying22 hi0 hz0 hz1 hz2 hz3 (.slice ro A.length rc) A.length (cls A) rfl HO2.out (some ⟨wr.heap.size, 0, none⟩) 1 [c] rfl ?c1 ?c2 ?c3 ?_)
            case c1 => exact clsAt_row HXX.out rfl
            case c2 => have e1 : [c].length = 1 := rfl; omega
            case c3 => exact HB2.out.size
            intro v' w5 ho5 hg5 hat5
            obtain ⟨ao5, cap5, rfl⟩ := ownP_shape ho5
            have HB5 := Lib.hid (HB2.out.grown hg5 HB2.out.size (fun q hq => (HO2.out.lt q hq).1))
            have HO5 := Lib.hid (show w5.ownsRow w.heap.size 38 3 (.slice ao5 (A ++ [c]).length cap5) (A ++ [c]).length (cls (A ++ [c])) from by rw [HE5.out, cls_append]; exact ho5)
            clear ho5 hg5 hat5 x0 x1 x2
            go_wp2_with fail
            go_roundw
            case rel => exact ⟨k + 1, A ++ [c], ao5, cap5, by omega, by rw [HE5.out]; omega, by go_num, by rw [HE5.out], HR, HO5, HB5⟩
            case measure => simp [intOf]; omega
          | false =>
            have HR := Lib.hid (HSKP.out (by rw [HIN.out, hq1, hq2, he]; rfl))
            go_wp2_with fail
            go_roundw
            case rel => exact ⟨k + 1, A, ro, rc, by omega, by omega, by go_num, rfl, HR, HO, HBr⟩
            case measure => simp [intOf]; omega
    · obtain rfl : k = L.length := by omega
      have hd : decide ((L.length : Int) < (L.length : Int)) = false := by simp
      have HR := Lib.hid (show A = M.rangeL lo hi L from by have := HA.out; rwa [List.take_length] at this)
      go_wp2_with fail
      go_ret
      exact ⟨ro, rc, by rw [← HR.out]; rfl, by rw [← HR.out]; exact HO.out, HBr.out⟩

end Go.Proofs.Ythidmgnfdikppaa
