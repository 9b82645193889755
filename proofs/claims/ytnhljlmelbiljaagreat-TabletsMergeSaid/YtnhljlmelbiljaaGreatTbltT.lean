/- Layer 19: the document's keys, its stretch, and where it is parted, by contracts. -/
import Derived.Test.YtnhljlmelbiljaaGreatTbltR
import Derived.Test.YtnhljlmelbiljaaGreatTbltS
import Derived.Test.YtnhljlmelbiljaaGreatTbltG
import Derived.Test.YtnhljlmelbiljaaGreatZY
import Derived.Deep.RegionHeld
import Derived.Deep.CutRange
import Derived.BigQuiet
namespace Go.Proofs.YtnhljlmelbiljaaGreat
set_option linter.unusedVariables false
set_option linter.unusedSimpArgs false
open Go Go.RowKit
attribute [local go_sem ↓] run_index_S
attribute [local go_sem] S_append S_extract

theorem step_store_rowT {ops : Array Oper} {o : Oper} {a : Act} {w : World} {K : Act → World → Prop} {Q : Exit → Act → World → Prop} {E : Prop} (hgd : o.guard = none) (ty : TypeId) (x y : Operand) (ho : o.op = .store ty x y)
    (g : Nat) (cells : Array Value) (hx : a.eval x = .pointer (some ⟨g, 0, none⟩)) (hy : a.eval y = .agg cells)
    (t : TypeId) (old : Array Value) (hg : w.heap[g]? = some (.cells old t (0, 0))) (hi : (Tryz.prog.info? ty).map (·.size) = some cells.size)
    (hold : old.size = cells.size) (h1 : cells.all (·.oneCell') = true) (h : K (a.put o.dst undef) (w.setRow g cells)) :
    if Region.wanted o (yielded ops a.tmps) = true then Oper.wp Tryz.prog o a w K Q else E := by
  have hw : Region.wanted o (yielded ops a.tmps) = true := by simp [Region.wanted, hgd]
  rw [if_pos hw]
  exact wp_store_row ty x y ho g cells hx hy t old hg hi hold h1 h
theorem below_rowT {B : Nat} {a w : World} (h : Below B a w) {b : Nat} (hb : B ≤ b) (C : Array Value) : Below B a (w.setRow b C) :=
  h.trans ⟨rfl, rfl, rfl, by simp [World.setRow], fun k hk => by simp only [World.setRow, Array.getElem?_modify]; rw [if_neg (by omega)]⟩
theorem M.keys_bound {Rs : List M.Rw} (h : ∀ r, r ∈ Rs → r.l.length ≤ 500) (i : Nat) : (M.keysR (M.rls (Rs.take i))).length ≤ i * 500 := by
  have h1 := M.keysR_lenA (M.rls (Rs.take i)) []
  have h2 := sum_le11 (Rs.take i) 500 (fun r hr => h r (List.mem_of_mem_take hr))
  have h3 : (Rs.take i).length * 500 ≤ i * 500 := Nat.mul_le_mul_right _ (by simp; omega)
  simp only [List.length_nil, Nat.zero_add] at h1
  exact Nat.le_trans h1 (Nat.le_trans h2 h3)
def KeysR19 (l : List (List UInt8)) (w : World) (e : Ending) (w' : World) : Prop := ∃ ao c, e = .returned (.slice ao l.length c) ∧ TsAt w' ao l ∧ Below w.heap.size w w'
set_option maxHeartbeats 8000000 in
set_option maxRecDepth 100000 in
theorem refKeys19_any (f t : List UInt8) (ro : Option Addr) (cap : Nat) (Rs : List M.Rw) (w : World) (h : RwsAt w ro Rs) (hn : Rs.length ≤ 100) (hnl : ∀ r, r ∈ Rs → r.l.length ≤ 500) :
    Calls Tryz.prog 39 #[.agg (rtV f t ro Rs.length cap)] w (KeysR19 (M.keysR (M.rls Rs)) w) := by
  have hB0 := (Below.refl w.heap.size w).alloc (Nat.le_refl _) (.cells (rtV f t ro Rs.length cap) 34)
  have HB := Lib.hid hB0
  have HR := Lib.hid (rowIn_new (rtV f t ro Rs.length cap) 34 w)
  have HT := Lib.hid (h.below hB0)
  have HNL := Lib.hid hnl
  have HKB := Lib.hid (M.keys_bound hnl)
  clear h hnl hB0
  unfold rtV at *
  go_enter Tryz.func39, Tryz.ntmps39
  go_upto_region 3 with fail
  generalize w.alloc (.cells #[.string (S f), .string (S t), .slice ro Rs.length cap] 34) = W0 at *
  have HB0 := Lib.hid (Below.refl W0.heap.size W0)
  go_loopw [3, 4] (fun kv iv wr => ∃ (i n : Nat) (ao : Option Addr) (c : Nat), i ≤ Rs.length ∧ iv = .int .i64 i ∧ kv = .slice ao n c ∧ Hid (n = (M.keysR (M.rls (Rs.take i))).length) ∧ n ≤ c ∧ Hid (TsAt wr ao (M.keysR (M.rls (Rs.take i)))) ∧ Hid (Below W0.heap.size W0 wr)) (fun _ iv _ => Rs.length - (intOf iv).toNat)
  case atStart => exact ⟨0, 0, none, 0, Nat.zero_le _, rfl, rfl, Lib.hid rfl, Nat.le_refl _, Lib.hid (tsAt_nil _ _), HB0⟩
  case round =>
    clear HB0
    obtain ⟨i, n, ao, c, hi, rfl, rfl, HN, hnc, HA, HB1⟩ := hrel
    have r2 := (HR.out.below HB1.out).cell 2
    simp at r2
    by_cases hlt : i < Rs.length
    · have d1 : decide ((i : Int) < (Rs.length : Int)) = true := by simp; omega
      have d2 : decide (i < Rs.length) = true := by simp; omega
      have hii : (i : Int) < (Rs.length : Int) := by omega
      obtain ⟨g, off, eao, hc⟩ := HT.out.off i hlt
      subst eao
      have hnr := HNL.out _ (M.getD_memR hlt)
      have HTK := Lib.hid (show M.keysR (M.rls (Rs.take (i + 1))) = M.keysP (M.keysR (M.rls (Rs.take i))) (Rs.getD i M.rw0).l from by rw [M.rls_snoc hlt, M.keysR_snoc])
      have hkb := HKB.out i
      have hkc : i * 500 ≤ 100 * 500 := Nat.mul_le_mul_right _ (by omega)
      generalize Rs.getD i M.rw0 = r at *
      obtain ⟨l, o, kc⟩ := r
      have HXA := Lib.hid (fun (W : World) (hb : Below W0.heap.size W0 W) => hc.below hb)
      clear hc
      unfold RwAt at HXA
      simp only at HXA HTK hnr
      generalize M.keysR (M.rls (Rs.take i)) = acc at *
      have HN0 : Hid (n = (M.keysP acc (l.take 0)).length) := HN
      have HA0 : Hid (TsAt wr ao (M.keysP acc (l.take 0))) := HA
      clear HN HA
      go_wp2_with fail
      clear r2
      go_loopw [3, 5] (fun kv jv wr => ∃ (k n : Nat) (ao : Option Addr) (c : Nat), k ≤ l.length ∧ jv = .int .i64 k ∧ kv = .slice ao n c ∧ Hid (n = (M.keysP acc (l.take k)).length) ∧ n ≤ c ∧ Hid (TsAt wr ao (M.keysP acc (l.take k))) ∧ Hid (Below W0.heap.size W0 wr)) (fun _ jv _ => l.length - (intOf jv).toNat)
      case atStart => exact ⟨0, n, ao, c, Nat.zero_le _, rfl, rfl, HN0, hnc, HA0, HB1⟩
      case round =>
        clear HN0 HA0 HB1 hnc
        obtain ⟨k, n, ao, c, hk, rfl, rfl, HN, hnc, HA, HB1⟩ := hrel
        have r2 := (HR.out.below HB1.out).cell 2
        simp at r2
        obtain ⟨x0, hcl⟩ := HXA.out _ HB1.out
        by_cases hlk : k < l.length
        · have e1 : decide ((k : Int) < (l.length : Int)) = true := by simp; omega
          have e2 : decide (k < l.length) = true := by simp; omega
          have hkk : (k : Int) < (l.length : Int) := by omega
          obtain ⟨g2, o2, rfl, hcl2⟩ := hcl (fun e => by rw [e] at hlk; simp at hlk)
          obtain ⟨y0, y1, y2⟩ := hcl2 k hlk
          have HTS := Lib.hid (M.keysP_snoc acc hlk)
          have hkl := M.keysP_len (l.take k) acc
          rw [List.length_take] at hkl
          have CP := Lib.hid (putK19_any (M.keysP acc (l.take k)) (by omega) ao c (by rw [← HN.out]; exact hnc) (l.getD k M.cl0).key _ HA.out)
          unfold PutK19 at CP
          rw [← HTS.out, ← HN.out] at CP
          clear hcl hcl2 HTS HN HA y1 y2 hkl
          generalize l.getD k M.cl0 = x at *
          go_wp2_with fail
          with_reducible refine (CP.out).mono ?_
          rintro e w5 ⟨a5, c5, rfl, ht5, hc5, hb5⟩
          have HT5 := Lib.hid ht5
          have HB5 := Lib.hid (below_step HB1.out hb5)
          clear ht5 hb5 CP x0 y0 r2
          go_wp2_with fail
          go_roundw
          case rel => exact ⟨k + 1, _, a5, c5, by omega, by go_num, rfl, Lib.hid rfl, hc5, HT5, HB5⟩
          case measure => simp [intOf]; omega
        · obtain rfl : k = l.length := by omega
          have e1 : decide ((l.length : Int) < (l.length : Int)) = false := by simp
          have e2 : decide (l.length < l.length) = false := by simp
          rw [List.take_length, ← HTK.out] at HN HA
          clear hcl
          go_wp2_with fail
          go_roundw
          case rel => exact ⟨i + 1, n, ao, c, by omega, by go_num, rfl, HN, hnc, HA, HB1⟩
          case measure => simp [intOf]; omega
    · obtain rfl : i = Rs.length := by omega
      have d1 : decide ((Rs.length : Int) < (Rs.length : Int)) = false := by simp
      have d2 : decide (Rs.length < Rs.length) = false := by simp
      rw [List.take_length] at HN HA
      have HBE := Lib.hid (HB.out.trans (HB1.out.mono HB.out.size))
      go_wp2_with fail
      go_ret
      exact ⟨ao, c, by rw [← HN.out]; rfl, HA.out, HBE.out⟩
theorem M.refStep_len (f t : List UInt8) (R : List (List M.Cl)) (a b k : List UInt8) : (M.refStep f t R a b k).length ≤ 1 := by
  unfold M.refStep
  split
  · split <;> simp
  · simp
theorem takeK_snoc {l : List (List UInt8)} {k : Nat} (h : k < l.length) : l.take (k + 1) = l.take k ++ [l.getD k []] := by
  rw [List.take_succ_eq_append_getElem h]; simp [List.getD, List.getElem?_eq_getElem h]
theorem M.refFlat_len (f t : List UInt8) (R : List (List M.Cl)) (a b : List UInt8) : ∀ l : List (List UInt8), (l.flatMap (M.refStep f t R a b)).length ≤ l.length
  | [] => by simp
  | k :: l => by
    have h1 := M.refStep_len f t R a b k
    have h2 := M.refFlat_len f t R a b l
    simp only [List.flatMap_cons, List.length_append, List.length_cons]
    omega
set_option maxHeartbeats 8000000 in
set_option maxRecDepth 100000 in
theorem refRange19_any (f t : List UInt8) (ro : Option Addr) (cap : Nat) (Rs : List M.Rw) (a b : List UInt8) (w : World) (h : RwsAt w ro Rs) (hst : StR Rs) (hn : Rs.length ≤ 100) (hnl : ∀ r, r ∈ Rs → r.l.length ≤ 500) :
    Calls Tryz.prog 18 #[.agg (rtV f t ro Rs.length cap), .string (S a), .string (S b)] w (RangeR10 (M.refRange f t (M.rls Rs) a b) w) := by
  obtain ⟨i0, z0, hi0, hz0, hz1, hz2, hz3⟩ := infoCl_parts
  have hB0 := (Below.refl w.heap.size w).alloc (Nat.le_refl _) (.cells (rtV f t ro Rs.length cap) 34)
  have HB := Lib.hid hB0
  have HR := Lib.hid (rowIn_new (rtV f t ro Rs.length cap) 34 w)
  have CKy := Lib.hid (refKeys19_any f t ro cap Rs _ (h.below hB0) hn hnl)
  unfold KeysR19 at CKy
  have HKB := Lib.hid (show (M.keysR (M.rls Rs)).length ≤ 100000 from by
    have h1 := M.keys_bound hnl Rs.length
    rw [List.take_length] at h1
    have h2 : Rs.length * 500 ≤ 100 * 500 := Nat.mul_le_mul_right _ hn
    omega)
  have CGK := Lib.hid (fun key (W : World) (hb : Below w.heap.size w W) => refGet19_any f t ro cap Rs key W (h.below hb) hst (by omega) (fun r hr => by have := hnl r hr; omega))
  have HQ := Lib.hid (show M.refRange f t (M.rls Rs) a b = (M.keysR (M.rls Rs)).flatMap (M.refStep f t (M.rls Rs) a b) from rfl)
  have HFL := Lib.hid (M.refFlat_len f t (M.rls Rs) a b)
  have HST := Lib.hid (show ∀ key, M.refStep f t (M.rls Rs) a b key = match M.getT f t (M.rls Rs) key with | some c => if M.inK a b key = true then [c] else [] | none => [] from fun _ => rfl)
  clear h hB0 hst hnl
  generalize M.refRange f t (M.rls Rs) a b = res at *
  generalize M.refStep f t (M.rls Rs) a b = step at *
  generalize M.keysR (M.rls Rs) = ks at *
  generalize M.getT f t (M.rls Rs) = gt at *
  unfold rtV at *
  go_enter Tryz.func18, Tryz.ntmps18
  go_wp2_with fail
  generalize w.alloc (.cells #[.string (S f), .string (S t), .slice ro Rs.length cap] 34) = W0 at *
  with_reducible refine (CKy.out).mono ?_
  rintro e w1 ⟨ko, kc, rfl, hts, hbq⟩
  replace HB := carry hbq HB
  replace HR := carry hbq HR
  have HTS := Lib.hid hts
  clear hbq CKy hts
  go_wp2_with fail
  have HO0 := Lib.hid (show w1.ownsRow w1.heap.size 38 3 (.slice none 0 0) 0 (cls []) from World.ownsRow_nil _ _ _ _)
  have HB0 := Lib.hid (Below.refl w1.heap.size w1)
  obtain ⟨B, hBB⟩ : ∃ x, x = w.heap.size := ⟨_, rfl⟩
  rw [show RowIn #[.string (S f), .string (S t), .slice ro Rs.length cap] 34 w1 w.heap.size = RowIn #[.string (S f), .string (S t), .slice ro Rs.length cap] 34 w1 B from by rw [hBB]] at HR
  rw [← hBB]
  clear hBB
  go_loopw [7, 9] (fun ov iv wr => ∃ (i n : Nat) (ao : Option Addr) (c : Nat), i ≤ ks.length ∧ iv = .int .i64 i ∧ ov = .slice ao n c ∧ Hid (n = ((ks.take i).flatMap step).length) ∧ Hid (wr.ownsRow w1.heap.size 38 3 (.slice ao n c) n (cls ((ks.take i).flatMap step))) ∧ Hid (Below w1.heap.size w1 wr)) (fun _ iv _ => ks.length - (intOf iv).toNat)
  case atStart => exact ⟨0, 0, none, 0, Nat.zero_le _, rfl, rfl, Lib.hid rfl, HO0, HB0⟩
  case round =>
    clear HO0 HB0
    obtain ⟨i, n, ao, c, hi, rfl, rfl, HN, HO, HB1⟩ := hrel
    have hkb := HKB.out
    by_cases hlt : i < ks.length
    · have d1 : decide ((i : Int) < (ks.length : Int)) = true := by simp; omega
      have d2 : decide (i < ks.length) = true := by simp; omega
      have hii : (i : Int) < (ks.length : Int) := by omega
      obtain ⟨gk, ok, eko, xk⟩ := HTS.out.off i hlt
      subst eko
      have HFS := Lib.hid (show (ks.take (i + 1)).flatMap step = (ks.take i).flatMap step ++ step (ks.getD i []) from by rw [takeK_snoc hlt, List.flatMap_append]; simp)
      have hn2 : n + 1 ≤ 1000000 := by
        have h1 := HFL.out (ks.take i)
        have h2 := HKB.out
        rw [← HN.out, List.length_take] at h1
        omega
      rw [HST.out] at HFS
      have CG := Lib.hid (fun (x : World) (hx : Below wr.heap.size wr x) => CGK.out (ks.getD i []) x (HB.out.trans ((below_step HB1.out hx).mono HB.out.size)))
      have HSX := Lib.hid (show ∀ x, Below wr.heap.size wr x → x.cell? ⟨B, 0, none⟩ = some (.string (S f)) ∧ x.cell? ⟨B, 1, none⟩ = some (.string (S t)) ∧ x.cell? ⟨B, 2, none⟩ = some (.slice ro Rs.length cap) ∧ x.cell? ⟨gk, ok + i, none⟩ = some (.string (S (ks.getD i []))) from fun x hx => by
        have hx1 := below_step HB1.out hx
        have hr := HR.out.below hx1
        exact ⟨hr.cell 0, hr.cell 1, hr.cell 2, (hx1.cell (p := ⟨gk, ok + i, none⟩) (block_lt_of_cell xk)).trans xk⟩)
      have xk2 := (HSX.out wr (Below.refl _ _)).2.2.2
      clear xk
      generalize ks.getD i [] = key at *
      generalize gt key = r at *
      go_wp2_with fail
      go_cut [10, 11] from 14 to 53 (fun p q wx => ∃ nb, p = .pointer (some ⟨nb, 0, none⟩) ∧ q = .bool r.isSome ∧ Hid (Below wr.heap.size wr wx) ∧ Hid (RowIn (clA (r.getD M.cl0)) 38 wx nb))
      case first =>
        clear xk2
        have HBx := Lib.hid (Below.refl wr.heap.size wr)
        refine wp_region_held_drew (S := fun V => V.cell? ⟨B, 0, none⟩ = some (.string (S f)) ∧ V.cell? ⟨B, 1, none⟩ = some (.string (S t)) ∧ V.cell? ⟨B, 2, none⟩ = some (.slice ro Rs.length cap) ∧ V.cell? ⟨gk, ok + i, none⟩ = some (.string (S key))) (by kernel_rfl) ?_ (fun hHeld => ?_)
        · exact HSX.out _ HBx.out.drew
        replace HBx := Lib.hid HBx.out.drew
        obtain ⟨wd, hwd⟩ : ∃ x, x = World.drew wr := ⟨_, rfl⟩
        rw [← hwd] at HBx hHeld ⊢
        clear hwd
        refine wpAnyH_take (i := 0) (oi := { dst := some 21, op := Op.load 34 (Operand.tmp 3), type := 34, pos := "ref.go:63", after := #[], guard := none }) (v := ?_) rfl (by kernel_rfl) (by kernel_rfl) (by kernel_rfl) (fun _ _ _ h => h) (Or.inl ⟨by rfl, ?_⟩) (by assumption) ?_
        rotate_left
        · (intro w hSw; (try dsimp only at hSw); go_simp); (first | done | with_reducible rfl)
        try simp only [Act.put, List.setIfInBounds_toArray, List.set_cons_zero, List.set_cons_succ]
        refine wpAnyH_take (i := 1) (oi := { dst := some 22, op := Op.move (Operand.tmp 8), type := 73, pos := "ref.go:63", after := #[], guard := none }) (v := ?_) rfl (by kernel_rfl) (by kernel_rfl) (by kernel_rfl) (fun _ _ _ h => h) (Or.inl ⟨by rfl, ?_⟩) (by assumption) ?_
        rotate_left
        · (intro w hSw; (try dsimp only at hSw); go_simp); (first | done | with_reducible rfl)
        try simp only [Act.put, List.setIfInBounds_toArray, List.set_cons_zero, List.set_cons_succ]
        refine wpAnyH_take (i := 2) (oi := { dst := some 23, op := Op.move (Operand.tmp 9), type := 3, pos := "ref.go:63", after := #[], guard := none }) (v := ?_) rfl (by kernel_rfl) (by kernel_rfl) (by kernel_rfl) (fun _ _ _ h => h) (Or.inl ⟨by rfl, ?_⟩) (by assumption) ?_
        rotate_left
        · (intro w hSw; (try dsimp only at hSw); go_simp); (first | done | with_reducible rfl)
        try simp only [Act.put, List.setIfInBounds_toArray, List.set_cons_zero, List.set_cons_succ]
        refine wpAnyH_take (i := 3) (oi := { dst := some 24, op := Op.indexAddr 73 (Operand.tmp 22) (Operand.tmp 23), type := 0, pos := "ref.go:63", after := #[{ on := 1, ground := Ground.data }, { on := 2, ground := Ground.data }], guard := none }) (v := ?_) rfl (by kernel_rfl) (by kernel_rfl) (by kernel_rfl) (fun _ _ _ h => h) (Or.inl ⟨by rfl, ?_⟩) (by assumption) ?_
        rotate_left
        · (intro w hSw; (try dsimp only at hSw); go_simp); (first | done | with_reducible rfl)
        try simp only [Act.put, List.setIfInBounds_toArray, List.set_cons_zero, List.set_cons_succ]
        refine wpAnyH_take (i := 4) (oi := { dst := some 25, op := Op.load 9 (Operand.tmp 24), type := 9, pos := "ref.go:63", after := #[{ on := 3, ground := Ground.data }], guard := none }) (v := ?_) rfl (by kernel_rfl) (by kernel_rfl) (by kernel_rfl) (fun _ _ _ h => h) (Or.inl ⟨by rfl, ?_⟩) (by assumption) ?_
        rotate_left
        · (intro w hSw; (try dsimp only at hSw); go_simp); (first | done | with_reducible rfl)
        try simp only [Act.put, List.setIfInBounds_toArray, List.set_cons_zero, List.set_cons_succ]
        refine wpAnyH_ready (rs := [5, 9]) (by kernel_rfl) (by simp) ?_
        refine AllReadyH.cons (o := { dst := some 26, op := Op.call { callee := Callee.value (Operand.func 13), args := #[Operand.tmp 21, Operand.tmp 25], argTypes := #[34, 9] }, type := 39, pos := "ref.go:63", after := #[{ on := 0, ground := Ground.data }, { on := 4, ground := Ground.data }], guard := none }) rfl (fun K hK => ?_) (AllReadyH.cons (o := { dst := some 10, op := Op.alloc 38, type := 0, pos := "ref.go:63", after := #[], guard := none }) rfl (fun K hK => ?_) (AllReadyH.nil))
        · have CJ := Lib.hid (CG.out _ HBx.out)
          unfold FindR9 at CJ
          go_simp
          go_at_call 13
          with_reducible refine (CJ.out).mono ?_
          rintro e w6 ⟨rfl, hb6⟩
          replace HBx := Lib.hid (below_step HBx.out hb6)
          clear hb6 CJ
          go_wp2_with fail
          refine hK.out _ _ ?_ (fun hHeld => ?_)
          · exact HSX.out _ HBx.out
          clear hK K
          try simp only [Act.put, List.setIfInBounds_toArray, List.set_cons_zero, List.set_cons_succ]
          refine wpAnyH_take (i := 6) (oi := { dst := some 20, op := Op.move (Operand.tmp 26), type := 39, pos := "ref.go:63", after := #[{ on := 5, ground := Ground.data }], guard := none }) (v := ?_) rfl (by kernel_rfl) (by kernel_rfl) (by kernel_rfl) (fun _ _ _ h => h) (Or.inl ⟨by rfl, ?_⟩) (by assumption) ?_
          rotate_left
          · (intro w hSw; (try dsimp only at hSw); go_simp); (first | done | with_reducible rfl)
          try simp only [Act.put, List.setIfInBounds_toArray, List.set_cons_zero, List.set_cons_succ]
          refine wpAnyH_take (i := 7) (oi := { dst := some 27, op := Op.extract (Operand.tmp 20) 0, type := 38, pos := "ref.go:63", after := #[{ on := 6, ground := Ground.data }], guard := none }) (v := ?_) rfl (by kernel_rfl) (by kernel_rfl) (by kernel_rfl) (fun _ _ _ h => h) (Or.inl ⟨by rfl, ?_⟩) (by assumption) ?_
          rotate_left
          · (intro w hSw; (try dsimp only at hSw); go_simp); (first | done | with_reducible rfl)
          try simp only [Act.put, List.setIfInBounds_toArray, List.set_cons_zero, List.set_cons_succ]
          refine wpAnyH_take (i := 8) (oi := { dst := some 28, op := Op.extract (Operand.tmp 20) 1, type := 4, pos := "ref.go:63", after := #[{ on := 6, ground := Ground.data }, { on := 10, ground := Ground.gcOnly Departure.lateStores }], guard := none }) (v := ?_) rfl (by kernel_rfl) (by kernel_rfl) (by kernel_rfl) (fun _ _ _ h => h) (Or.inl ⟨by rfl, ?_⟩) (by assumption) ?_
          rotate_left
          · (intro w hSw; (try dsimp only at hSw); go_simp); (first | done | with_reducible rfl)
          try simp only [Act.put, List.setIfInBounds_toArray, List.set_cons_zero, List.set_cons_succ]
          refine wpAnyH_ready (rs := [9]) (by kernel_rfl) (by simp) ?_
          refine AllReadyH.cons (o := { dst := some 10, op := Op.alloc 38, type := 0, pos := "ref.go:63", after := #[], guard := none }) rfl (fun K hK => ?_) (AllReadyH.nil)
          go_simp
          have hba := (Below.refl w6.heap.size w6).alloc (Nat.le_refl _) (.cells clZ9 38)
          have HZ := Lib.hid (rowIn_new clZ9 38 w6)
          have HNB := Lib.hid (show wr.heap.size ≤ w6.heap.size from HBx.out.size)
          replace HBx := Lib.hid (below_step HBx.out hba)
          clear hba
          generalize hnb : w6.heap.size = nb at *
          clear hnb
          generalize w6.alloc (.cells clZ9 38) = wa at *
          refine hK.out _ _ ?_ (fun hHeld => ?_)
          · exact HSX.out _ HBx.out
          clear hK K
          try simp only [Act.put, List.setIfInBounds_toArray, List.set_cons_zero, List.set_cons_succ]
          refine wpAnyH_ready (rs := [10]) (by kernel_rfl) (by simp) ?_
          refine AllReadyH.cons (o := { dst := none, op := Op.store 38 (Operand.tmp 10) (Operand.tmp 27), type := 0, pos := "ref.go:63", after := #[{ on := 9, ground := Ground.data }, { on := 7, ground := Ground.data }, { on := 5, ground := Ground.chain }, { on := 0, ground := Ground.phase }, { on := 1, ground := Ground.phase }, { on := 2, ground := Ground.phase }, { on := 3, ground := Ground.phase }, { on := 4, ground := Ground.phase }, { on := 5, ground := Ground.phase }, { on := 6, ground := Ground.phase }, { on := 7, ground := Ground.phase }, { on := 8, ground := Ground.textOnly Departure.lateStores }, { on := 9, ground := Ground.phase }], guard := none }) rfl (fun K hK => ?_) (AllReadyH.nil)
          refine step_store_rowT (by rfl) 38 _ _ (by rfl) nb (clA (r.getD M.cl0)) (by rfl) (by rfl) 38 _ HZ.out (by kernel_rfl) rfl (by first | rfl | simp [Value.oneCell']) ?_
          have HNW := Lib.hid (RowIn.row (D := clA (r.getD M.cl0)) HZ.out)
          replace HBx := Lib.hid (below_rowT HBx.out HNB.out (clA (r.getD M.cl0)))
          generalize wa.setRow nb (clA (r.getD M.cl0)) = w8 at *
          refine hK.out _ _ ?_ (fun hHeld => ?_)
          · exact HSX.out _ HBx.out
          clear hK K
          try simp only [Act.put, List.setIfInBounds_toArray, List.set_cons_zero, List.set_cons_succ]
          refine wpAnyH_take (i := 11) (oi := { dst := some 11, op := Op.assign (Operand.tmp 28), type := 4, pos := "ref.go:63", after := #[{ on := 8, ground := Ground.data }, { on := 10, ground := Ground.chain }, { on := 0, ground := Ground.phase }, { on := 1, ground := Ground.phase }, { on := 2, ground := Ground.phase }, { on := 3, ground := Ground.phase }, { on := 4, ground := Ground.phase }, { on := 5, ground := Ground.phase }, { on := 6, ground := Ground.phase }, { on := 7, ground := Ground.phase }, { on := 8, ground := Ground.phase }, { on := 9, ground := Ground.phase }, { on := 10, ground := Ground.phase }], guard := none }) (v := ?_) rfl (by kernel_rfl) (by kernel_rfl) (by kernel_rfl) (fun _ _ _ h => h) (Or.inl ⟨by rfl, ?_⟩) (by assumption) ?_
          rotate_left
          · (intro w hSw; (try dsimp only at hSw); go_simp); (first | done | with_reducible rfl)
          refine wpAnyH_done (by kernel_rfl) ?_ _
          go_wp2_with fail
          go_meet
          case rel => exact ⟨nb, rfl, rfl, HBx, HNW⟩
        · go_simp
          have hba := (Below.refl wd.heap.size wd).alloc (Nat.le_refl _) (.cells clZ9 38)
          have HZ := Lib.hid (rowIn_new clZ9 38 wd)
          have HNB := Lib.hid (show wr.heap.size ≤ wd.heap.size from HBx.out.size)
          replace HBx := Lib.hid (below_step HBx.out hba)
          clear hba
          generalize hnb : wd.heap.size = nb at *
          clear hnb
          generalize wd.alloc (.cells clZ9 38) = wa at *
          refine hK.out _ _ ?_ (fun hHeld => ?_)
          · exact HSX.out _ HBx.out
          clear hK K
          try simp only [Act.put, List.setIfInBounds_toArray, List.set_cons_zero, List.set_cons_succ]
          refine wpAnyH_ready (rs := [5]) (by kernel_rfl) (by simp) ?_
          refine AllReadyH.cons (o := { dst := some 26, op := Op.call { callee := Callee.value (Operand.func 13), args := #[Operand.tmp 21, Operand.tmp 25], argTypes := #[34, 9] }, type := 39, pos := "ref.go:63", after := #[{ on := 0, ground := Ground.data }, { on := 4, ground := Ground.data }], guard := none }) rfl (fun K hK => ?_) (AllReadyH.nil)
          have CJ := Lib.hid (CG.out _ HBx.out)
          unfold FindR9 at CJ
          go_simp
          go_at_call 13
          with_reducible refine (CJ.out).mono ?_
          rintro e w6 ⟨rfl, hb6⟩
          replace HZ := Lib.hid (HZ.out.below hb6)
          replace HBx := Lib.hid (below_step HBx.out hb6)
          clear hb6 CJ
          go_wp2_with fail
          refine hK.out _ _ ?_ (fun hHeld => ?_)
          · exact HSX.out _ HBx.out
          clear hK K
          try simp only [Act.put, List.setIfInBounds_toArray, List.set_cons_zero, List.set_cons_succ]
          refine wpAnyH_take (i := 6) (oi := { dst := some 20, op := Op.move (Operand.tmp 26), type := 39, pos := "ref.go:63", after := #[{ on := 5, ground := Ground.data }], guard := none }) (v := ?_) rfl (by kernel_rfl) (by kernel_rfl) (by kernel_rfl) (fun _ _ _ h => h) (Or.inl ⟨by rfl, ?_⟩) (by assumption) ?_
          rotate_left
          · (intro w hSw; (try dsimp only at hSw); go_simp); (first | done | with_reducible rfl)
          try simp only [Act.put, List.setIfInBounds_toArray, List.set_cons_zero, List.set_cons_succ]
          refine wpAnyH_take (i := 7) (oi := { dst := some 27, op := Op.extract (Operand.tmp 20) 0, type := 38, pos := "ref.go:63", after := #[{ on := 6, ground := Ground.data }], guard := none }) (v := ?_) rfl (by kernel_rfl) (by kernel_rfl) (by kernel_rfl) (fun _ _ _ h => h) (Or.inl ⟨by rfl, ?_⟩) (by assumption) ?_
          rotate_left
          · (intro w hSw; (try dsimp only at hSw); go_simp); (first | done | with_reducible rfl)
          try simp only [Act.put, List.setIfInBounds_toArray, List.set_cons_zero, List.set_cons_succ]
          refine wpAnyH_take (i := 8) (oi := { dst := some 28, op := Op.extract (Operand.tmp 20) 1, type := 4, pos := "ref.go:63", after := #[{ on := 6, ground := Ground.data }, { on := 10, ground := Ground.gcOnly Departure.lateStores }], guard := none }) (v := ?_) rfl (by kernel_rfl) (by kernel_rfl) (by kernel_rfl) (fun _ _ _ h => h) (Or.inl ⟨by rfl, ?_⟩) (by assumption) ?_
          rotate_left
          · (intro w hSw; (try dsimp only at hSw); go_simp); (first | done | with_reducible rfl)
          try simp only [Act.put, List.setIfInBounds_toArray, List.set_cons_zero, List.set_cons_succ]
          refine wpAnyH_ready (rs := [10]) (by kernel_rfl) (by simp) ?_
          refine AllReadyH.cons (o := { dst := none, op := Op.store 38 (Operand.tmp 10) (Operand.tmp 27), type := 0, pos := "ref.go:63", after := #[{ on := 9, ground := Ground.data }, { on := 7, ground := Ground.data }, { on := 5, ground := Ground.chain }, { on := 0, ground := Ground.phase }, { on := 1, ground := Ground.phase }, { on := 2, ground := Ground.phase }, { on := 3, ground := Ground.phase }, { on := 4, ground := Ground.phase }, { on := 5, ground := Ground.phase }, { on := 6, ground := Ground.phase }, { on := 7, ground := Ground.phase }, { on := 8, ground := Ground.textOnly Departure.lateStores }, { on := 9, ground := Ground.phase }], guard := none }) rfl (fun K hK => ?_) (AllReadyH.nil)
          refine step_store_rowT (by rfl) 38 _ _ (by rfl) nb (clA (r.getD M.cl0)) (by rfl) (by rfl) 38 _ HZ.out (by kernel_rfl) rfl (by first | rfl | simp [Value.oneCell']) ?_
          have HNW := Lib.hid (RowIn.row (D := clA (r.getD M.cl0)) HZ.out)
          replace HBx := Lib.hid (below_rowT HBx.out HNB.out (clA (r.getD M.cl0)))
          generalize w6.setRow nb (clA (r.getD M.cl0)) = w8 at *
          refine hK.out _ _ ?_ (fun hHeld => ?_)
          · exact HSX.out _ HBx.out
          clear hK K
          try simp only [Act.put, List.setIfInBounds_toArray, List.set_cons_zero, List.set_cons_succ]
          refine wpAnyH_take (i := 11) (oi := { dst := some 11, op := Op.assign (Operand.tmp 28), type := 4, pos := "ref.go:63", after := #[{ on := 8, ground := Ground.data }, { on := 10, ground := Ground.chain }, { on := 0, ground := Ground.phase }, { on := 1, ground := Ground.phase }, { on := 2, ground := Ground.phase }, { on := 3, ground := Ground.phase }, { on := 4, ground := Ground.phase }, { on := 5, ground := Ground.phase }, { on := 6, ground := Ground.phase }, { on := 7, ground := Ground.phase }, { on := 8, ground := Ground.phase }, { on := 9, ground := Ground.phase }, { on := 10, ground := Ground.phase }], guard := none }) (v := ?_) rfl (by kernel_rfl) (by kernel_rfl) (by kernel_rfl) (fun _ _ _ h => h) (Or.inl ⟨by rfl, ?_⟩) (by assumption) ?_
          rotate_left
          · (intro w hSw; (try dsimp only at hSw); go_simp); (first | done | with_reducible rfl)
          refine wpAnyH_done (by kernel_rfl) ?_ _
          go_wp2_with fail
          go_meet
          case rel => exact ⟨nb, rfl, rfl, HBx, HNW⟩
      case rest =>
        obtain ⟨nb, rfl, rfl, HBw, HNW⟩ := hcut
        obtain ⟨x0, x1, x2, x3⟩ := HSX.out _ HBw.out
        clear xk2
        have HB2 := Lib.hid (below_step HB1.out HBw.out)
        have HO2 := Lib.hid (ownP_below HO.out HBw.out)
        clear HBw HO HB1 CG HSX
        cases r with
        | none =>
          have HE := Lib.hid (show (ks.take (i + 1)).flatMap step = (ks.take i).flatMap step from by rw [HFS.out]; simp)
          rw [← HE.out] at HN HO2
          go_wp2_with fail
          go_roundw
          case rel => exact ⟨i + 1, n, ao, c, by omega, by go_num, rfl, HN, HO2, HB2⟩
          case measure => simp [intOf]; omega
        | some d =>
          have HV := Lib.hid (show M.inK a b key = (!Op.bytesLess key a && (b.isEmpty || Op.bytesLess key b)) from rfl)
          have y0 := HNW.out.cell 0
          have y1 := HNW.out.cell 1
          have y2 := HNW.out.cell 2
          simp at y0 y1 y2
          have hyes : M.inK a b key = true ∨ M.inK a b key = false := by cases M.inK a b key <;> simp
          rcases hyes with hin | hin
          · have HE := Lib.hid (show (ks.take (i + 1)).flatMap step = (ks.take i).flatMap step ++ [d] from by rw [HFS.out]; simp [hin])
            have hv := HV.out
            rw [hin] at hv
            have q1 : Op.bytesLess key a = false := by
              cases q : Op.bytesLess key a with
              | false => rfl
              | true => rw [q] at hv; simp at hv
            have q2 : b = [] ∨ (b.isEmpty = false ∧ Op.bytesLess key b = true) := by
              rw [q1] at hv
              cases b with
              | nil => exact .inl rfl
              | cons x b => exact .inr ⟨rfl, by simpa using hv.symm⟩
            clear hv HV hin
            have hal : Below wc.heap.size wc (wc.alloc (.cells (clA d) 38)) := (Below.refl _ _).alloc (Nat.le_refl _) _
            have HXL := Lib.hid (rowIn_new (clA d) 38 wc)
            have HO3 := Lib.hid (ownP_below HO2.out hal)
            have HB3 := Lib.hid (below_step HB2.out hal)
            clear hal
            rcases q2 with rfl | ⟨q3, q2⟩
            all_goals
              go_wp2_with (at_builtin; refine wpList_append_cls_at rfl _ _ 22 rfl w1.heap.size i0 z0 Tryz.underlying22 hi0 hz0 hz1 hz2 hz3 (.slice ao n c) n _ rfl HO3.out (some ⟨wc.heap.size, 0, none⟩) 1 [d] rfl (clsAt_row HXL.out (by simp [cls]; rfl)) ?c2 HB3.out.size ?_)
              try (case c2 => simp; omega)
              intro v5 w5 ho5 hg5 hat5
              obtain ⟨a5, c5, rfl⟩ := ownP_shape ho5
              have HB5 := Lib.hid (HB3.out.grown hg5 HB3.out.size (fun q hq => (HO3.out.lt q hq).1))
              have HN5 := Lib.hid (show n + 1 = ((ks.take (i + 1)).flatMap step).length from by rw [HE.out, List.length_append, ← HN.out]; rfl)
              have HO5 := Lib.hid (show w5.ownsRow w1.heap.size 38 3 (.slice a5 (n + 1) c5) (n + 1) (cls ((ks.take (i + 1)).flatMap step)) from by rw [HE.out, cls_append]; exact ho5)
              clear ho5 hg5 hat5
              go_wp2_with fail
              go_roundw
              case rel => exact ⟨i + 1, n + 1, a5, c5, by omega, by go_num, rfl, HN5, HO5, HB5⟩
              case measure => simp [intOf]; omega
          · have HE := Lib.hid (show (ks.take (i + 1)).flatMap step = (ks.take i).flatMap step from by rw [HFS.out]; simp [hin])
            rw [← HE.out] at HN HO2
            have hv := HV.out
            rw [hin] at hv
            cases q1 : Op.bytesLess key a with
            | true =>
              clear hv HV hin
              go_wp2_with fail
              go_roundw
              case rel => exact ⟨i + 1, n, ao, c, by omega, by go_num, rfl, HN, HO2, HB2⟩
              case measure => simp [intOf]; omega
            | false =>
              have q3 : b.isEmpty = false := by
                rw [q1] at hv
                cases b with
                | nil => simp at hv
                | cons x b => rfl
              have q2 : Op.bytesLess key b = false := by
                rw [q1, q3] at hv
                simpa using hv.symm
              clear hv HV hin
              go_wp2_with fail
              go_roundw
              case rel => exact ⟨i + 1, n, ao, c, by omega, by go_num, rfl, HN, HO2, HB2⟩
              case measure => simp [intOf]; omega
    · obtain rfl : i = ks.length := by omega
      have d1 : decide ((ks.length : Int) < (ks.length : Int)) = false := by simp
      have d2 : decide (ks.length < ks.length) = false := by simp
      rw [List.take_length, ← HQ.out] at HN HO
      have HBE := Lib.hid (HB.out.trans (HB1.out.mono HB.out.size))
      have HOE := Lib.hid (ownP_mono HO.out HB.out.size)
      go_wp2_with fail
      go_ret
      exact ⟨ao, c, by rw [← HN.out]; rfl, by rw [← HN.out]; exact HOE.out, HBE.out⟩

end Go.Proofs.YtnhljlmelbiljaaGreat

