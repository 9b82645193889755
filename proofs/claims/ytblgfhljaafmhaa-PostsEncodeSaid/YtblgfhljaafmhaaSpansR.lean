/- Layer 3: the document's Take, Decode, by contracts; Less. -/
import Derived.Test.YtblgfhljaafmhaaSpansD
namespace Go.Proofs.Ytblgfhljaafmhaa
set_option linter.unusedVariables false
open Go Go.RowKit
attribute [local go_sem ↓] run_index_S
attribute [local go_sem] S_append S_extract

/-- A block whose cells are known. -/
def RowIn (C : Array Value) (T : TypeId) (w : World) (b : Nat) : Prop := w.heap[b]? = some (.cells C T (0, 0))
section
variable {C : Array Value} {T : TypeId} {w w' : World} {b : Nat}
theorem RowIn.lt (h : RowIn C T w b) : b < w.heap.size := by
  rcases Nat.lt_or_ge b w.heap.size with h' | h'
  · exact h'
  · simp [RowIn, Array.getElem?_eq_none h'] at h
theorem RowIn.free (h : RowIn C T w b) (j : Nat) : w.frozen? ⟨b, j, none⟩ = false := by
  unfold RowIn at h
  simp [World.frozen?, h]
theorem RowIn.cell (h : RowIn C T w b) (j : Nat) : w.cell? ⟨b, j, none⟩ = C[j]? := by
  unfold RowIn at h
  simp [World.cell?, h]
theorem RowIn.below (h : RowIn C T w b) (hb : Below w.heap.size w w') : RowIn C T w' b := by
  have hl := h.lt
  unfold RowIn at *
  rw [hb.block b hl]; exact h
theorem RowIn.other (h : RowIn C T w b) {c : Nat} (hne : b ≠ c) (i : Nat) (v : Value) : RowIn C T (w.setCell ⟨c, i, none⟩ v) b := by
  unfold RowIn at *
  rw [Below.heap_setCell _ _ _ _ hne]; exact h
theorem RowIn.set (h : RowIn C T w b) (i : Nat) (v : Value) : RowIn (C.setIfInBounds i v) T (w.setCell ⟨b, i, none⟩ v) b := by
  unfold RowIn at *
  simp [World.setCell, Array.getElem?_modify, h]
theorem RowIn.more (h : RowIn C T w b) (o : Obj) : RowIn C T (w.alloc o) b := h.below ((Below.refl _ _).alloc (Nat.le_refl _) _)
end
theorem rowIn_new (C : Array Value) (T : TypeId) (w : World) : RowIn C T (w.alloc (.cells C T)) w.heap.size := heap_alloc_new w _
theorem rowIn_at (C : Array Value) (T : TypeId) (w : World) (b : Nat) (hb : b = w.heap.size) : RowIn C T (w.alloc (.cells C T)) b := hb ▸ heap_alloc_new w _

def padN (ns : List Nat) : Array Value := #[.int .i64 (ns.getD 0 0 : Nat), .int .i64 (ns.getD 1 0 : Nat), .int .i64 (ns.getD 2 0 : Nat), .int .i64 (ns.getD 3 0 : Nat), .int .i64 (ns.getD 4 0 : Nat)]
def padT (ts : List (List UInt8)) : Array Value := #[.string (S (ts.getD 0 [])), .string (S (ts.getD 1 [])), .string (S (ts.getD 2 []))]
theorem padN_snoc {ns : List Nat} {k : Nat} (hl : ns.length = k) (hk : k < 5) (n : Nat) : (padN ns).setIfInBounds k (.int .i64 n) = padN (ns ++ [n]) := by
  subst hl
  match ns, hk with
  | [], _ => rfl
  | [_], _ => rfl
  | [_, _], _ => rfl
  | [_, _, _], _ => rfl
  | [_, _, _, _], _ => rfl
theorem padT_snoc {ts : List (List UInt8)} {k : Nat} (hl : ts.length = k) (hk : k < 3) (t : List UInt8) : (padT ts).setIfInBounds k (.string (S t)) = padT (ts ++ [t]) := by
  subst hl
  match ts, hk with
  | [], _ => rfl
  | [_], _ => rfl
  | [_, _], _ => rfl
theorem padN_at (ns : List Nat) (k : Nat) (hk : k < 5) : (padN ns)[k]? = some (.int .i64 (ns.getD k 0 : Nat)) := by
  match k, hk with
  | 0, _ => rfl
  | 1, _ => rfl
  | 2, _ => rfl
  | 3, _ => rfl
  | 4, _ => rfl
theorem padT_at (ts : List (List UInt8)) (k : Nat) (hk : k < 3) : (padT ts)[k]? = some (.string (S (ts.getD k []))) := by
  match k, hk with
  | 0, _ => rfl
  | 1, _ => rfl
  | 2, _ => rfl

/-- P3.2, as far as the numbers and texts. -/
def M.take (l : List UInt8) (a : Nat) : Option (M.Sp × Nat) := match M.takeN 5 l a with
  | none => none
  | some (ns, b) => match M.takeT 3 l b with
    | none => none
    | some (ts, e) => some (M.spOf ns ts, e)
def takV (r : Option (M.Sp × Nat)) : Value := match r with
  | some (x, e) => .tuple #[spV x, .int .i64 e, .bool true]
  | none => .tuple #[spV M.sp0, .int .i64 0, .bool false]

set_option maxHeartbeats 1000000 in
set_option maxRecDepth 100000 in
theorem refTake_any (l : List UInt8) (hl : l.length ≤ 140737488351232) (a0 : Nat) (w : World) :
    Calls Try.prog 45 #[.string (S l), .int .i64 a0] w fun e w' => e = .returned (takV (M.take l a0)) ∧ Below w.heap.size w w' := by
  go_enter Try.func45, Try.ntmps45
  go_wp2_with fail
  go_loopw [1, 9, 10] (fun p q i wr => ∃ (k : Nat) (okb : Bool), k ≤ 5 ∧ i = .int .i64 k ∧ q = .bool okb ∧ SpIn M.sp0 wr w.heap.size ∧ RowIn (padT []) 82 wr (w.heap.size + 1 + 1) ∧ Below w.heap.size w wr ∧ (okb = false → M.takeN k l a0 = none) ∧ (okb = true → ∃ (ns : List Nat) (a : Nat), p = .int .i64 a ∧ M.takeN k l a0 = some (ns, a) ∧ RowIn (padN ns) 81 wr (w.heap.size + 1))) (fun _ _ i _ => 5 - (intOf i).toNat)
  case atStart =>
    refine ⟨0, true, by omega, rfl, rfl, ?_, ?_, ?_, by simp, fun _ => ⟨[], a0, rfl, rfl, ?_⟩⟩
    · exact ((spIn_new w).more _).more _
    · exact rowIn_at _ _ _ _ (by simp)
    · exact (((Below.refl _ _).alloc (Nat.le_refl _) _).alloc (by simp) _).alloc (by simp; omega) _
    · exact (rowIn_at _ _ (w.alloc _) _ (by simp)).more _
  case round =>
    obtain ⟨k, okb, hk, rfl, rfl, hR, hT, hb, hno, hyes⟩ := hrel
    have HR := Lib.hid hR
    have HT := Lib.hid hT
    clear hR hT
    cases okb with
    | false =>
      have hd : M.take l a0 = none := by
        have h5 := M.takeN_none (m := 5) (hno rfl) hk
        simp only [M.take, h5]
      have HD := Lib.hid hd
      clear hd hno hyes
      by_cases hk5 : k < 5
      · go_wp2_with fail
        refine wp_loop_rounds 1 ?_
        rw [rounds_succ]
        go_wp2_with (refine wpList_store_row rfl 29 _ _ rfl w.heap.size _ rfl rfl 29 (spC M.sp0) HR.out ?_ rfl (spC_one M.sp0) ?_; kernel_rfl)
        try simp only [Exit.inBlock, Exit.then]
        refine bodyPost_ret (ret_sp3 rfl _ _ w.heap.size M.sp0 rfl (SpIn.row HR.out _)) rfl ⟨by rw [HD.out]; rfl, below_setRow hb (Nat.le_refl _) _⟩
      · go_wp2_with fail
        refine wp_loop_rounds 1 ?_
        rw [rounds_succ]
        go_wp2_with (refine wpList_store_row rfl 29 _ _ rfl w.heap.size _ rfl rfl 29 (spC M.sp0) HR.out ?_ rfl (spC_one M.sp0) ?_; kernel_rfl)
        try simp only [Exit.inBlock, Exit.then]
        refine bodyPost_ret (ret_sp3 rfl _ _ w.heap.size M.sp0 rfl (SpIn.row HR.out _)) rfl ⟨by rw [HD.out]; rfl, below_setRow hb (Nat.le_refl _) _⟩
    | true =>
      obtain ⟨ns, a, rfl, ht, hN⟩ := hyes rfl
      have HN := Lib.hid hN
      have HK := Lib.hid ht
      have hlen := M.takeN_len ht
      have HL := Lib.hid hlen
      clear hN ht hlen hno hyes
      by_cases hk5 : k < 5
      · have cg := fun W => refGet_any l a W (by omega)
        have hck : ∀ w2, Below wr.heap.size wr w2 → w2.cell? ⟨w.heap.size + 1, k, none⟩ = some (.int .i64 (ns.getD k 0 : Nat)) := fun w2 h2 => ((HN.out.below h2).cell k).trans (padN_at ns k hk5)
        have hfr : ∀ w2, Below wr.heap.size wr w2 → w2.frozen? ⟨w.heap.size + 1, k, none⟩ = false := fun w2 h2 => (HN.out.below h2).free k
        have HCK := Lib.hid hck
        have HFR := Lib.hid hfr
        clear hck hfr
        cases hg : M.gets l a with
        | none =>
          rw [hg] at cg
          simp only [tri] at cg
          have CG := Lib.hid cg
          have HG := Lib.hid hg
          clear cg hg
          go_wp2_with fail
          with_reducible refine (CG.out _).mono ?_
          rintro e w2 ⟨rfl, hb2⟩
          have hck := HCK.out _ hb2
          have hfr := HFR.out _ hb2
          go_wp2_with fail
          go_roundw
          case rel =>
            refine ⟨k + 1, false, by omega, by go_num, rfl, (HR.out.below hb2).other (by omega) _ _, (HT.out.below hb2).other (by omega) _ _, (below_step hb hb2).setCell (by simp) _, fun _ => ?_, by simp⟩
            simp only [M.takeN, HK.out, HG.out]
          case measure => simp [intOf]; omega
        | some r =>
          obtain ⟨n, c⟩ := r
          rw [hg] at cg
          simp only [tri] at cg
          have CG := Lib.hid cg
          have HG := Lib.hid hg
          clear cg hg
          go_wp2_with fail
          with_reducible refine (CG.out _).mono ?_
          rintro e w2 ⟨rfl, hb2⟩
          have hck := HCK.out _ hb2
          have hfr := HFR.out _ hb2
          go_wp2_with fail
          go_roundw
          case rel =>
            refine ⟨k + 1, true, by omega, by go_num, rfl, (HR.out.below hb2).other (by omega) _ _, (HT.out.below hb2).other (by omega) _ _, (below_step hb hb2).setCell (by simp) _, by simp, fun _ => ⟨ns ++ [n], c, rfl, ?_, ?_⟩⟩
            · simp only [M.takeN, HK.out, HG.out]
            · have := (HN.out.below hb2).set k (.int .i64 n)
              rwa [padN_snoc HL.out.1 hk5] at this
          case measure => simp [intOf]; omega
      · have ht5 : M.takeN 5 l a0 = some (ns, a) := by rw [← HK.out, show k = 5 from by omega]
        have HT5 := Lib.hid ht5
        clear ht5
        go_wp2_with fail
        go_loopw [1, 9, 11] (fun p q i wq => ∃ (j : Nat) (okb : Bool), j ≤ 3 ∧ i = .int .i64 j ∧ q = .bool okb ∧ SpIn M.sp0 wq w.heap.size ∧ RowIn (padN ns) 81 wq (w.heap.size + 1) ∧ Below w.heap.size w wq ∧ (okb = false → M.takeT j l a = none) ∧ (okb = true → ∃ (ts : List (List UInt8)) (c : Nat), p = .int .i64 c ∧ M.takeT j l a = some (ts, c) ∧ RowIn (padT ts) 82 wq (w.heap.size + 1 + 1))) (fun _ _ i _ => 3 - (intOf i).toNat)
        case atStart => exact ⟨0, true, by omega, rfl, rfl, HR.out, HN.out, hb, by simp, fun _ => ⟨[], a, rfl, rfl, HT.out⟩⟩
        case round =>
          clear HR HN HT
          obtain ⟨j, okb, hj, rfl, rfl, hR, hN, hb1, hno, hyes⟩ := hrel
          have HR := Lib.hid hR
          have HN := Lib.hid hN
          clear hR hN
          cases okb with
          | false =>
            have hd : M.take l a0 = none := by
              have h5 := M.takeT_none (m := 3) (hno rfl) hj
              simp only [M.take, HT5.out, h5]
            have HD := Lib.hid hd
            clear hd hno hyes
            by_cases hj3 : j < 3
            · go_wp2_with (refine wpList_store_row rfl 29 _ _ rfl w.heap.size _ rfl rfl 29 (spC M.sp0) HR.out ?_ rfl (spC_one M.sp0) ?_; kernel_rfl)
              try simp only [Exit.inBlock, Exit.then]
              refine bodyPost_ret (ret_sp3 rfl _ _ w.heap.size M.sp0 rfl (SpIn.row HR.out _)) rfl ⟨by rw [HD.out]; rfl, below_setRow hb1 (Nat.le_refl _) _⟩
            · go_wp2_with (refine wpList_store_row rfl 29 _ _ rfl w.heap.size _ rfl rfl 29 (spC M.sp0) HR.out ?_ rfl (spC_one M.sp0) ?_; kernel_rfl)
              try simp only [Exit.inBlock, Exit.then]
              refine bodyPost_ret (ret_sp3 rfl _ _ w.heap.size M.sp0 rfl (SpIn.row HR.out _)) rfl ⟨by rw [HD.out]; rfl, below_setRow hb1 (Nat.le_refl _) _⟩
          | true =>
            obtain ⟨ts, c, rfl, ht, hT⟩ := hyes rfl
            have HT := Lib.hid hT
            have HU := Lib.hid ht
            have hlen := M.takeT_len ht
            have HM := Lib.hid hlen
            clear hT ht hlen hno hyes
            by_cases hj3 : j < 3
            · have cg := fun W => refGetText_any l c W (by omega)
              have hck : ∀ w2, Below wr.heap.size wr w2 → w2.cell? ⟨w.heap.size + 1 + 1, j, none⟩ = some (.string (S (ts.getD j []))) := fun w2 h2 => ((HT.out.below h2).cell j).trans (padT_at ts j hj3)
              have hfr : ∀ w2, Below wr.heap.size wr w2 → w2.frozen? ⟨w.heap.size + 1 + 1, j, none⟩ = false := fun w2 h2 => (HT.out.below h2).free j
              have HCK := Lib.hid hck
              have HFR := Lib.hid hfr
              clear hck hfr
              cases hg : M.getTs l c with
              | none =>
                rw [hg] at cg
                simp only [triT] at cg
                have CG := Lib.hid cg
                have HG := Lib.hid hg
                clear cg hg
                go_wp2_with fail
                with_reducible refine (CG.out _).mono ?_
                rintro e w2 ⟨rfl, hb2⟩
                have hck := HCK.out _ hb2
                have hfr := HFR.out _ hb2
                go_wp2_with fail
                go_roundw
                case rel =>
                  refine ⟨j + 1, false, by omega, by go_num, rfl, (HR.out.below hb2).other (by omega) _ _, (HN.out.below hb2).other (by omega) _ _, (below_step hb1 hb2).setCell (by simp; omega) _, fun _ => ?_, by simp⟩
                  simp only [M.takeT, HU.out, HG.out]
                case measure => simp [intOf]; omega
              | some r =>
                obtain ⟨n, d⟩ := r
                rw [hg] at cg
                simp only [triT] at cg
                have CG := Lib.hid cg
                have HG := Lib.hid hg
                clear cg hg
                go_wp2_with fail
                with_reducible refine (CG.out _).mono ?_
                rintro e w2 ⟨rfl, hb2⟩
                have hck := HCK.out _ hb2
                have hfr := HFR.out _ hb2
                go_wp2_with fail
                go_roundw
                case rel =>
                  refine ⟨j + 1, true, by omega, by go_num, rfl, (HR.out.below hb2).other (by omega) _ _, (HN.out.below hb2).other (by omega) _ _, (below_step hb1 hb2).setCell (by simp; omega) _, by simp, fun _ => ⟨ts ++ [n], d, rfl, ?_, ?_⟩⟩
                  · simp only [M.takeT, HU.out, HG.out]
                  · have := (HT.out.below hb2).set j (.string (S n))
                    rwa [padT_snoc HM.out.1 hj3] at this
                case measure => simp [intOf]; omega
            · have hd : M.take l a0 = some (M.spOf ns ts, c) := by
                have h3 : M.takeT 3 l a = some (ts, c) := by rw [← HU.out, show j = 3 from by omega]
                simp only [M.take, HT5.out, h3]
              have HD := Lib.hid hd
              clear hd
              have n0 := (HN.out.cell 0).trans (padN_at ns 0 (by omega))
              have n1 := (HN.out.cell 1).trans (padN_at ns 1 (by omega))
              have n2 := (HN.out.cell 2).trans (padN_at ns 2 (by omega))
              have n3 := (HN.out.cell 3).trans (padN_at ns 3 (by omega))
              have n4 := (HN.out.cell 4).trans (padN_at ns 4 (by omega))
              have t0 := (HT.out.cell 0).trans (padT_at ts 0 (by omega))
              have t1 := (HT.out.cell 1).trans (padT_at ts 1 (by omega))
              have t2 := (HT.out.cell 2).trans (padT_at ts 2 (by omega))
              go_wp2_with (refine wpList_store_row rfl 29 _ _ rfl w.heap.size _ rfl rfl 29 (spC M.sp0) HR.out ?_ rfl (spC_one (M.spOf ns ts)) ?_; kernel_rfl)
              try simp only [Exit.inBlock, Exit.then]
              refine bodyPost_ret (ret_sp3 rfl _ _ w.heap.size (M.spOf ns ts) rfl (SpIn.row HR.out _)) rfl ⟨by rw [HD.out]; rfl, below_setRow hb1 (Nat.le_refl _) _⟩

end Go.Proofs.Ytblgfhljaafmhaa
