/- Layer 10: the cells of a range, by contracts. -/
import Derived.Test.YthidmgnfdikppaaTablesH
import Derived.Test.YthidmgnfdikppaaZI
import Derived.BigQuiet
namespace Go.Proofs.Ythidmgnfdikppaa
set_option linter.unusedVariables false
open Go Go.RowKit
attribute [local go_sem ↓] run_index_S
attribute [local go_sem] S_append S_extract

def RangeR10 (K : List M.Cl) (w : World) (e : Ending) (w' : World) : Prop := ∃ ao cap, e = .returned (.slice ao K.length cap) ∧ w'.ownsRow w.heap.size 38 3 (.slice ao K.length cap) K.length (cls K) ∧ Below w.heap.size w w'
theorem tabAt_blk {L : List M.Cl} {p : Nat} {w : World} (h : TabAt L p w) (hl : L.length ≤ 4096) : ∃ bo bc fo fc, w.cell? ⟨p, 0, none⟩ = some (.slice bo (M.many L) bc) ∧ w.cell? ⟨p, 1, none⟩ = some (.slice fo (M.many L) fc) ∧ w.cell? ⟨p, 2, none⟩ = some (.int .i64 L.length) ∧
    ∀ k, k < M.many L → ∃ bg fg, bo = some ⟨bg, 0, none⟩ ∧ fo = some ⟨fg, 0, none⟩ ∧ w.cell? ⟨bg, k, none⟩ = some (.string (S (M.encCs (M.blk L k)))) ∧ w.cell? ⟨fg, k, none⟩ = some (.string (S (L.getD (4 * k) M.cl0).key)) := by
  obtain ⟨B, vB, vF, hr⟩ := h
  obtain ⟨bo, bc, rfl⟩ := ownP_shape hr.b
  obtain ⟨fo, fc, rfl⟩ := ownP_shape hr.f
  have h0 : w.cell? ⟨p, 0, none⟩ = some (.slice bo (M.blksB L (M.many L)).length bc) := hr.row.cell 0
  have h1 : w.cell? ⟨p, 1, none⟩ = some (.slice fo (M.firsts L (M.many L)).length fc) := hr.row.cell 1
  rw [M.blksB_len] at h0
  rw [M.firsts_len] at h1
  refine ⟨bo, bc, fo, fc, h0, h1, hr.row.cell 2, fun k hk => ?_⟩
  obtain ⟨bg, bcap, e1, -, hb⟩ := own_slice10 hr.b (by rw [M.blksB_len]; omega)
  obtain ⟨fg, fcap, e2, -, hf⟩ := own_slice10 hr.f (by rw [M.firsts_len]; omega)
  injection e1 with e1
  injection e2 with e2
  refine ⟨bg, fg, e1, e2, ?_, ?_⟩
  · rw [hb k _ (txs10_get (by rw [M.blksB_len]; exact hk)), M.blksB_get L hk]
  · rw [hf k _ (txs10_get (by rw [M.firsts_len]; exact hk)), M.firsts_get L hk]
theorem M.range_nil (L : List M.Cl) : M.rangeL [] [] L = L := by
  have : ∀ c : M.Cl, M.inR [] [] c = true := fun c => by
    have : Op.bytesLess c.key [] = false := by cases c.key <;> rfl
    simp [M.inR, this]
  unfold M.rangeL
  rw [List.filter_eq_self]
  exact fun c _ => this c
theorem M.range_len (lo hi : List UInt8) (L : List M.Cl) : (M.rangeL lo hi L).length ≤ L.length := List.length_filter_le _ _
set_option maxRecDepth 100000 in
/-- As append_cls, and where the new row lies. -/
theorem append_cls_at (w : World) (base : Nat) (t ty : TypeId) (i : TypeInfo) (z : Value) (ht : Try.prog.underlying t = some (.slice 38)) (hi : Try.prog.info? 38 = some i) (hz : i.zero = some z) (h1 : i.size = 3) (h2 : i.bytes = 40) (h3 : z.cells.size = 3)
    (v : Value) (n : Nat) (xs : List Value) (ho : w.ownsRow base 38 3 v n xs) (ao : Option Addr) (c : Nat) (L : List M.Cl) (hs : ClsAt w ao L) (h63 : n + L.length ≤ 1000000) (hbase : base ≤ w.heap.size) :
    ∃ v' w', (Builtin.append_ #[t, t] ty #[v, .slice ao L.length c]).run Try.prog w = .ok v' w' ∧ w'.ownsRow base 38 3 v' (n + L.length) (xs ++ cls L) ∧ w.grownBy w' v.ownBlock ∧ (v'.ownBlock = v.ownBlock ∨ v'.ownBlock = some w.heap.size) := by
  cases ao with
  | none =>
    have hL : L = [] := by
      cases L with
      | nil => rfl
      | cons x r => obtain ⟨g, off, e, _⟩ := hs (by simp); cases e
    subst hL
    exact ⟨v, w, append_none9 w base t ty _ i 3 ht hi ho c, by simpa [cls] using ho, World.grownBy.refl w _, .inl rfl⟩
  | some ad =>
    have hc : ∀ j u, (cls L)[j]? = some u → w.cell? (ad.add j) = some u := by
      intro j u hu
      by_cases hL : L = []
      · subst hL; simp [cls] at hu
      · obtain ⟨g, off, e, hk⟩ := hs hL
        injection e with e
        subst e
        rw [Addr.add_lit]
        exact clsAt_get9 hk j u hu
    obtain ⟨v', w', hr, h5, h6, _, h7⟩ := run_append_own_at (P := Try.prog) w base t ty 38 i z 3 40 ht hi hz h1 h2 h3 (by decide) v n xs ho ad L.length c (cls L) (cls_length L) hc (cls_oneC L) (by unfold maxLen; omega) (by omega) hbase
    exact ⟨v', w', hr, h5, h6, h7⟩
theorem wpList_append_cls_at {w : World} {ops : Array Oper} {rest : List Oper} {o : Oper} {a : Act} {Q : Exit → Act → World → Prop} (hgd : o.guard = none) (s x : Operand) (t : TypeId)
    (hop : o.op = .call { callee := .builtin .append, args := #[s, x], argTypes := #[t, t] })
    (base : Nat) (i : TypeInfo) (z : Value) (ht : Try.prog.underlying t = some (.slice 38)) (hi : Try.prog.info? 38 = some i) (hz : i.zero = some z) (h1 : i.size = 3) (h2 : i.bytes = 40) (h3 : z.cells.size = 3)
    (v : Value) (n : Nat) (xs : List Value) (hv : a.eval s = v) (ho : w.ownsRow base 38 3 v n xs) (ao : Option Addr) (c : Nat) (L : List M.Cl) (hx : a.eval x = .slice ao L.length c) (hs : ClsAt w ao L) (h63 : n + L.length ≤ 1000000) (hbase : base ≤ w.heap.size)
    (h : ∀ v' w', w'.ownsRow base 38 3 v' (n + L.length) (xs ++ cls L) → w.grownBy w' v.ownBlock → (v'.ownBlock = v.ownBlock ∨ v'.ownBlock = some w.heap.size) → wpList Try.prog ops Q rest (a.put o.dst v') w') :
    wpList Try.prog ops Q (o :: rest) a w := by
  refine wpList_plain hgd fun K hK => ?_
  obtain ⟨v', w', hrun, h5, h6, h7⟩ := append_cls_at w base t o.type i z ht hi hz h1 h2 h3 v n xs ho ao c L hs h63 hbase
  unfold Oper.wp execOp
  simp only [hop, resolve, invoke, builtin, Sem.run_bind, Sem.run_pure, Result.andThen_ok, List.map_toArray, List.map_cons, List.map_nil, hv, hx, hrun]
  exact hK _ _ (h v' w' h5 h6 h7)
theorem M.range_take (lo hi : List UInt8) {K : List M.Cl} {j : Nat} (h : j < K.length) : M.rangeL lo hi (K.take (j + 1)) = M.rangeL lo hi (K.take j) ++ (if M.inR lo hi (K.getD j M.cl0) then [K.getD j M.cl0] else []) := by
  rw [takeC_snoc h, M.rangeL, List.filter_append]
  congr 1
  simp only [List.filter_cons, List.filter_nil]
/-- What a range has so far: the blocks ahead, and some cells of this one. -/
structure Rg10 (W : World) (al : Option Addr) (cl : Nat) (bk A : List M.Cl) (ao : Option Addr) (cap : Nat) (B' : Nat) (w : World) : Prop where
  own : w.ownsRow W.heap.size 38 3 (.slice ao A.length cap) A.length (cls A)
  row : w.ownsRow B' 38 3 (.slice al bk.length cl) bk.length (cls bk)
  ne : ∀ q, (Value.slice al bk.length cl).ownBlock = some q → (Value.slice ao A.length cap).ownBlock ≠ some q
  bel : Below W.heap.size W w
theorem Rg10.below {W : World} {al : Option Addr} {cl : Nat} {bk A : List M.Cl} {ao : Option Addr} {cap B' : Nat} {w w' : World} (h : Rg10 W al cl bk A ao cap B' w) (hb : Below w.heap.size w w') : Rg10 W al cl bk A ao cap B' w' :=
  ⟨ownP_below h.own hb, ownP_below h.row hb, h.ne, below_step h.bel hb⟩
instance car_rg10 {W : World} {al : Option Addr} {cl : Nat} {bk A : List M.Cl} {ao : Option Addr} {cap B' : Nat} {w w' : World} : Car w w' (Rg10 W al cl bk A ao cap B' w) (Rg10 W al cl bk A ao cap B' w') := ⟨fun hb h => h.below hb⟩
theorem Rg10.grown {W : World} {al : Option Addr} {cl : Nat} {bk A : List M.Cl} {ao ao' : Option Addr} {cap cap' B' : Nat} {c : M.Cl} {w w' : World} (h : Rg10 W al cl bk A ao cap B' w) (ho : w'.ownsRow W.heap.size 38 3 (.slice ao' (A.length + 1) cap') (A.length + 1) (cls A ++ cls [c])) (hg : w.grownBy w' (Value.slice ao A.length cap).ownBlock) (hat : (Value.slice ao' (A.length + 1) cap').ownBlock = (Value.slice ao A.length cap).ownBlock ∨ (Value.slice ao' (A.length + 1) cap').ownBlock = some w.heap.size) :
    Rg10 W al cl bk (A ++ [c]) ao' cap' B' w' := by
  have e : (A ++ [c]).length = A.length + 1 := by simp
  refine ⟨by rw [e, cls_append]; exact ho, h.row.kept hg ?_, fun q hq => ?_, h.bel.grown hg h.bel.size (fun k hk => (h.own.lt k hk).1)⟩
  · cases hb : (Value.slice al bk.length cl).ownBlock with
    | none => exact .inl rfl
    | some q => exact .inr (fun e => h.ne q hb e.symm)
  · rw [e]
    intro e2
    rcases hat with k | k
    · exact h.ne q hq (k ▸ e2)
    · rw [k] at e2
      injection e2 with e2
      have := (h.row.lt q hq).2
      omega
set_option maxHeartbeats 8000000 in
set_option maxRecDepth 100000 in
theorem range10_any (L : List M.Cl) (p : Nat) (lo hi : List UInt8) (w : World) (h : TabAt L p w) (hs : M.srt none L = true) (hl : L.length ≤ 4096) (hq : ∀ c ∈ L, c.seq ≤ 9223372036854775807) (h1 : lo.length ≤ 140737488351232) (h2 : hi.length ≤ 140737488351232) :
    Calls Try.prog 32 #[.pointer (some ⟨p, 0, none⟩), .string (S lo), .string (S hi)] w fun e w' => RangeR10 (M.rangeL lo hi L) w e w' := by
  obtain ⟨i0, z0, hi0, hz0, hz1, hz2, hz3⟩ := infoCl_parts
  have hm : M.many L ≤ 1024 := by unfold M.many; omega
  have CS := Lib.hid (start10_any L p lo w h hs hl)
  have HT := Lib.hid h
  have HS := Lib.hid hs
  have HQ := Lib.hid hq
  have CD := Lib.hid (fun k W => by
    have := decode9_any (M.encCs (M.blk L k)) (by have := M.encCs_len (M.srt_blk hs k) (M.blk_len4 L k); omega) W
    rw [M.dec_encC (M.srt_blk hs k) (fun c hc => hq c (M.blk_mem hc)) (by have := M.blk_len4 L k; omega)] at this
    exact this)
  unfold DecR9 at CD
  simp only at CD
  clear h hs hq
  go_enter Try.func32, Try.ntmps32
  go_wp2_with fail
  with_reducible refine (CS.out).mono ?_
  rintro e w1 ⟨s, rfl, ⟨hs1, hs2⟩, hb⟩
  have HB := Lib.hid hb
  have HS2 := Lib.hid (M.range_start (hi := hi) HS.out hs2)
  clear hb hs2 CS
  go_wp2_with fail
  go_loopw [7, 8] (fun v7 v8 wr => ∃ (k : Nat) (ao : Option Addr) (cap : Nat), k ≤ M.many L ∧ v8 = .int .i64 k ∧ v7 = .slice ao (M.rangeL lo hi (L.take (4 * k))).length cap ∧ Hid (wr.ownsRow w.heap.size 38 3 (.slice ao (M.rangeL lo hi (L.take (4 * k))).length cap) (M.rangeL lo hi (L.take (4 * k))).length (cls (M.rangeL lo hi (L.take (4 * k))))) ∧ Hid (Below w.heap.size w wr)) (fun _ v _ => M.many L - (intOf v).toNat)
  case atStart => exact ⟨s, none, 0, hs1, rfl, by rw [HS2.out]; rfl, Lib.hid (by rw [HS2.out]; exact World.ownsRow_nil _ _ _ _), HB⟩
  case round =>
    clear HB HS2 hs1
    obtain ⟨k, ao, cap, hk, rfl, rfl, HO, HBr⟩ := hrel
    obtain ⟨bo, bc, fo, fc, x0, x1, -, hblk⟩ := tabAt_blk (HT.out.below HBr.out) hl
    by_cases hlt : k < M.many L
    · have d1 : decide ((k : Int) < (M.many L : Int)) = true := by simp; omega
      have d2 : decide (k < M.many L) = true := by simp; omega
      have hki : (k : Int) < (M.many L : Int) := by omega
      obtain ⟨bg, fg, rfl, rfl, x2, x3⟩ := hblk k hlt
      obtain ⟨fk, hfk⟩ : ∃ fk, (L.getD (4 * k) M.cl0).key = fk := ⟨_, rfl⟩
      rw [hfk] at x3
      have HFK := Lib.hid hfk
      clear hfk hblk
      cases he : hi.isEmpty with
      | true =>
        obtain rfl : hi = [] := by simpa using he
        go_wp2_with fail
        with_reducible refine (CD.out k wr).mono ?_
        rintro e w2 ⟨⟨al, cl, rfl, hol⟩, hb2⟩
        have HG := Lib.hid (show Rg10 w al cl (M.blk L k) (M.rangeL lo [] (L.take (4 * k))) ao cap wr.heap.size w2 from ⟨ownP_below HO.out hb2, hol, fun q hq e => by
          have e1 := (HO.out.lt q e).2
          have e2 := (hol.lt q hq).1
          omega, below_step HBr.out hb2⟩)
        have hal : (M.rangeL lo [] (L.take (4 * k))).length ≤ 4096 := by
          have h1 := M.range_len lo [] (L.take (4 * k))
          have h2 := List.length_take_le (4 * k) L
          have h3 : (L.take (4 * k)).length ≤ L.length := by rw [List.length_take]; omega
          omega
        have hbl := M.blk_len4 L k
        have HSN := Lib.hid (M.range_snoc L lo [] k)
        have HKEY := Lib.hid (show ∀ c ∈ M.blk L k, c.key.length ≤ 64 from fun c hc => (M.mayC_true.1 (M.srt_may HS.out c (M.blk_mem hc))).2.1)
        clear hol hb2 x0 x1 x2 x3 HO HBr
        generalize M.rangeL lo [] (L.take (4 * k)) = A at *
        generalize M.blk L k = bk at *
        go_wp2_with fail
        obtain ⟨wo, hwo⟩ : ∃ x, x = wr.heap.size := ⟨_, rfl⟩
        rw [← hwo] at HG
        clear hwo
        go_loopw [7, 55] (fun v7 v55 wr => ∃ (j : Nat) (A' : List M.Cl) (ao' : Option Addr) (cap' : Nat), j ≤ bk.length ∧ A'.length ≤ A.length + j ∧ v55 = .int .i64 j ∧ v7 = .slice ao' A'.length cap' ∧ Hid (A' = A ++ M.rangeL lo [] (bk.take j)) ∧ Hid (Rg10 w al cl bk A' ao' cap' wo wr)) (fun _ v _ => bk.length - (intOf v).toNat)
        case atStart => exact ⟨0, A, ao, cap, Nat.zero_le _, Nat.le_refl _, rfl, rfl, Lib.hid (by simp [M.rangeL]), HG⟩
        case round =>
          clear HG
          obtain ⟨j, A', ao', cap', hj, hA, rfl, rfl, HA, HG⟩ := hrel
          by_cases hjl : j < bk.length
          · have d3 : decide ((j : Int) < (bk.length : Int)) = true := by simp; omega
            have d4 : decide (j < bk.length) = true := by simp; omega
            have hji : (j : Int) < (bk.length : Int) := by omega
            obtain ⟨cg, ccap, e, -, hcc⟩ := own_slice10 HG.out.row (by omega)
            obtain ⟨rfl, rfl⟩ : al = some ⟨cg, 0, none⟩ ∧ cl = ccap := by injection e with a b c; exact ⟨a, c⟩
            obtain ⟨y0, y1, y2⟩ : ClOff (bk.getD j M.cl0) wr cg (j * 3) := by
              obtain ⟨g', o', e, hc⟩ := (clsAt_own HG.out.row rfl).off j hjl
              cases e
              rwa [Nat.zero_add] at hc
            have HTK := Lib.hid (M.range_take lo [] hjl)
            have hkl := HKEY.out _ (M.getD_memC hjl)
            have HIN : Hid (M.inR lo [] (bk.getD j M.cl0) = (!Op.bytesLess (bk.getD j M.cl0).key lo && (([] : List UInt8).isEmpty || Op.bytesLess (bk.getD j M.cl0).key []))) := Lib.hid rfl
            generalize bk.getD j M.cl0 = c at *
            have HX := Lib.hid (rowIn_new (clA c) 38 wr)
            have HG2 := carryA (w := wr) (.cells (clA c) 38) HG
            cases hq1 : Op.bytesLess c.key lo with
            | true =>
              have HR := Lib.hid (show A' = A ++ M.rangeL lo [] (bk.take (j + 1)) from by rw [HTK.out, HIN.out, hq1]; simpa using HA.out)
              go_wp2_with fail
              go_roundw
              case rel => exact ⟨j + 1, A', ao', cap', by omega, by omega, by go_num, rfl, HR, HG2⟩
              case measure => simp [intOf]; omega
            | false =>
              have HR := Lib.hid (show A' ++ [c] = A ++ M.rangeL lo [] (bk.take (j + 1)) from by rw [HTK.out, HIN.out, hq1, show ([] : List UInt8).isEmpty = true from rfl]; simp [HA.out])
              have HXX := Lib.hid (rowIn_new (clA c) 38 (wr.alloc (.cells (clA c) 38)))
              have HG3 := carryA (w := wr.alloc (.cells (clA c) 38)) (.cells (clA c) 38) HG2
              have z0' := HX.out.cell 0
              go_wp2_with (at_builtin; refine wpList_append_cls_at rfl _ _ 22 rfl w.heap.size i0 z0 Try.underlying22 hi0 hz0 hz1 hz2 hz3 (.slice ao' A'.length cap') A'.length (cls A') rfl HG3.out.own (some ⟨wr.heap.size + 1, 0, none⟩) 1 [c] rfl ?c1 ?c2 ?c3 ?_)
              case c1 => exact clsAt_row (by have := HXX.out; rw [szA] at this; exact this) rfl
              case c2 => have e1 : [c].length = 1 := rfl; omega
              case c3 => exact HG3.out.bel.size
              intro v' w5 ho5 hg5 hat5
              obtain ⟨ao5, cap5, rfl⟩ := ownP_shape ho5
              have HG5 := Lib.hid (HG3.out.grown ho5 hg5 (by first | exact hat5 | (rw [szA, szA]; exact hat5)))
              clear ho5 hg5 hat5 z0'
              have e5 : (A' ++ [c]).length = A'.length + 1 := by simp
              have HE5 := Lib.hid e5
              clear e5
              go_wp2_with fail
              go_roundw
              case rel => exact ⟨j + 1, A' ++ [c], ao5, cap5, by omega, by rw [HE5.out]; omega, by go_num, by rw [HE5.out], HR, HG5⟩
              case measure => simp [intOf]; omega
          · obtain rfl : j = bk.length := by omega
            have d3 : decide ((bk.length : Int) < (bk.length : Int)) = false := by simp
            have d4 : decide (bk.length < bk.length) = false := by simp
            have HR := Lib.hid (show A' = M.rangeL lo [] (L.take (4 * (k + 1))) from by rw [HSN.out, HA.out, List.take_length])
            have HO2 := Lib.hid HG.out.own
            have HB2 := Lib.hid HG.out.bel
            rw [HR.out] at HO2
            clear HG
            go_wp2_with fail
            go_roundw
            case rel => exact ⟨k + 1, ao', cap', by omega, by go_num, by rw [HR.out], HO2, HB2⟩
            case measure => simp [intOf]; omega
      | false =>
        cases hf : Op.bytesLess fk hi with
        | true =>
          go_wp2_with fail
          with_reducible refine (CD.out k wr).mono ?_
          rintro e w2 ⟨⟨al, cl, rfl, hol⟩, hb2⟩
          have HG := Lib.hid (show Rg10 w al cl (M.blk L k) (M.rangeL lo hi (L.take (4 * k))) ao cap wr.heap.size w2 from ⟨ownP_below HO.out hb2, hol, fun q hq e => by
            have e1 := (HO.out.lt q e).2
            have e2 := (hol.lt q hq).1
            omega, below_step HBr.out hb2⟩)
          have hal : (M.rangeL lo hi (L.take (4 * k))).length ≤ 4096 := by
            have h1 := M.range_len lo hi (L.take (4 * k))
            have h2 := List.length_take_le (4 * k) L
            have h3 : (L.take (4 * k)).length ≤ L.length := by rw [List.length_take]; omega
            omega
          have hbl := M.blk_len4 L k
          have HSN := Lib.hid (M.range_snoc L lo hi k)
          have HKEY := Lib.hid (show ∀ c ∈ M.blk L k, c.key.length ≤ 64 from fun c hc => (M.mayC_true.1 (M.srt_may HS.out c (M.blk_mem hc))).2.1)
          clear hol hb2 x0 x1 x2 x3 HO HBr
          generalize M.rangeL lo hi (L.take (4 * k)) = A at *
          generalize M.blk L k = bk at *
          go_wp2_with fail
          obtain ⟨wo, hwo⟩ : ∃ x, x = wr.heap.size := ⟨_, rfl⟩
          rw [← hwo] at HG
          clear hwo
          go_loopw [7, 55] (fun v7 v55 wr => ∃ (j : Nat) (A' : List M.Cl) (ao' : Option Addr) (cap' : Nat), j ≤ bk.length ∧ A'.length ≤ A.length + j ∧ v55 = .int .i64 j ∧ v7 = .slice ao' A'.length cap' ∧ Hid (A' = A ++ M.rangeL lo hi (bk.take j)) ∧ Hid (Rg10 w al cl bk A' ao' cap' wo wr)) (fun _ v _ => bk.length - (intOf v).toNat)
          case atStart => exact ⟨0, A, ao, cap, Nat.zero_le _, Nat.le_refl _, rfl, rfl, Lib.hid (by simp [M.rangeL]), HG⟩
          case round =>
            clear HG
            obtain ⟨j, A', ao', cap', hj, hA, rfl, rfl, HA, HG⟩ := hrel
            by_cases hjl : j < bk.length
            · have d3 : decide ((j : Int) < (bk.length : Int)) = true := by simp; omega
              have d4 : decide (j < bk.length) = true := by simp; omega
              have hji : (j : Int) < (bk.length : Int) := by omega
              obtain ⟨cg, ccap, e, -, hcc⟩ := own_slice10 HG.out.row (by omega)
              obtain ⟨rfl, rfl⟩ : al = some ⟨cg, 0, none⟩ ∧ cl = ccap := by injection e with a b c; exact ⟨a, c⟩
              obtain ⟨y0, y1, y2⟩ : ClOff (bk.getD j M.cl0) wr cg (j * 3) := by
                obtain ⟨g', o', e, hc⟩ := (clsAt_own HG.out.row rfl).off j hjl
                cases e
                rwa [Nat.zero_add] at hc
              have HTK := Lib.hid (M.range_take lo hi hjl)
              have hkl := HKEY.out _ (M.getD_memC hjl)
              have HIN : Hid (M.inR lo hi (bk.getD j M.cl0) = (!Op.bytesLess (bk.getD j M.cl0).key lo && (hi.isEmpty || Op.bytesLess (bk.getD j M.cl0).key hi))) := Lib.hid rfl
              generalize bk.getD j M.cl0 = c at *
              have HX := Lib.hid (rowIn_new (clA c) 38 wr)
              have HG2 := carryA (w := wr) (.cells (clA c) 38) HG
              cases hq1 : Op.bytesLess c.key lo with
              | true =>
                have HR := Lib.hid (show A' = A ++ M.rangeL lo hi (bk.take (j + 1)) from by rw [HTK.out, HIN.out, hq1]; simpa using HA.out)
                go_wp2_with fail
                go_roundw
                case rel => exact ⟨j + 1, A', ao', cap', by omega, by omega, by go_num, rfl, HR, HG2⟩
                case measure => simp [intOf]; omega
              | false =>
                cases hq2 : Op.bytesLess c.key hi with
                | true =>
                  have HR := Lib.hid (show A' ++ [c] = A ++ M.rangeL lo hi (bk.take (j + 1)) from by rw [HTK.out, HIN.out, hq1, hq2, he]; simp [HA.out])
                  have HXX := Lib.hid (rowIn_new (clA c) 38 (wr.alloc (.cells (clA c) 38)))
                  have HG3 := carryA (w := wr.alloc (.cells (clA c) 38)) (.cells (clA c) 38) HG2
                  have z0' := HX.out.cell 0
                  go_wp2_with (at_builtin; refine wpList_append_cls_at rfl _ _ 22 rfl w.heap.size i0 z0 Try.underlying22 hi0 hz0 hz1 hz2 hz3 (.slice ao' A'.length cap') A'.length (cls A') rfl HG3.out.own (some ⟨wr.heap.size + 1, 0, none⟩) 1 [c] rfl ?c1 ?c2 ?c3 ?_)
                  case c1 => exact clsAt_row (by have := HXX.out; rw [szA] at this; exact this) rfl
                  case c2 => have e1 : [c].length = 1 := rfl; omega
                  case c3 => exact HG3.out.bel.size
                  intro v' w5 ho5 hg5 hat5
                  obtain ⟨ao5, cap5, rfl⟩ := ownP_shape ho5
                  have HG5 := Lib.hid (HG3.out.grown ho5 hg5 (by first | exact hat5 | (rw [szA, szA]; exact hat5)))
                  clear ho5 hg5 hat5 z0'
                  have e5 : (A' ++ [c]).length = A'.length + 1 := by simp
                  have HE5 := Lib.hid e5
                  clear e5
                  go_wp2_with fail
                  go_roundw
                  case rel => exact ⟨j + 1, A' ++ [c], ao5, cap5, by omega, by rw [HE5.out]; omega, by go_num, by rw [HE5.out], HR, HG5⟩
                  case measure => simp [intOf]; omega
                | false =>
                  have HR := Lib.hid (show A' = A ++ M.rangeL lo hi (bk.take (j + 1)) from by rw [HTK.out, HIN.out, hq1, he, hq2]; simpa using HA.out)
                  go_wp2_with fail
                  go_roundw
                  case rel => exact ⟨j + 1, A', ao', cap', by omega, by omega, by go_num, rfl, HR, HG2⟩
                  case measure => simp [intOf]; omega
            · obtain rfl : j = bk.length := by omega
              have d3 : decide ((bk.length : Int) < (bk.length : Int)) = false := by simp
              have d4 : decide (bk.length < bk.length) = false := by simp
              have HR := Lib.hid (show A' = M.rangeL lo hi (L.take (4 * (k + 1))) from by rw [HSN.out, HA.out, List.take_length])
              have HO2 := Lib.hid HG.out.own
              have HB2 := Lib.hid HG.out.bel
              rw [HR.out] at HO2
              clear HG
              go_wp2_with fail
              go_roundw
              case rel => exact ⟨k + 1, ao', cap', by omega, by go_num, by rw [HR.out], HO2, HB2⟩
              case measure => simp [intOf]; omega
        | false =>
          have HE := Lib.hid (M.range_end HS.out (lo := lo) he (show Op.bytesLess (L.getD (4 * k) M.cl0).key hi = false from by rw [HFK.out]; exact hf))
          go_wp2_with fail
          go_ret
          exact ⟨ao, cap, by rw [HE.out]; rfl, by rw [HE.out]; exact HO.out, HBr.out⟩
    · obtain rfl : k = M.many L := by omega
      have d1 : decide ((M.many L : Int) < (M.many L : Int)) = false := by simp
      have d2 : decide (M.many L < M.many L) = false := by simp
      rw [M.take_many] at HO
      go_wp2_with fail
      go_ret
      exact ⟨ao, cap, by rw [M.take_many]; rfl, HO.out, HBr.out⟩

end Go.Proofs.Ythidmgnfdikppaa
