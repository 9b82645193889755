/- Layer 3: the document's Decode; Less. -/
import Derived.Test.YtblgfhljaafmhaaSpansR
namespace Go.Proofs.Ytblgfhljaafmhaa
set_option linter.unusedVariables false
open Go Go.RowKit
attribute [local go_sem ↓] run_index_S
attribute [local go_sem] S_append S_extract

theorem M.dec_take (l : List UInt8) : M.dec l = match M.take l 0 with
    | none => none
    | some (x, e) => if e = l.length ∧ M.mayB x = true then some x else none := by
  unfold M.dec M.take
  cases M.takeN 5 l 0 with
  | none => rfl
  | some r =>
    obtain ⟨ns, a⟩ := r
    dsimp only
    cases M.takeT 3 l a with
    | none => rfl
    | some q => rfl

theorem take_fits {l : List UInt8} (hl : l.length ≤ 140737488351232) {a : Nat} {x : M.Sp} {e : Nat} (h : M.take l a = some (x, e)) : x.fits := by
  unfold M.take at h
  cases hn : M.takeN 5 l a with
  | none => simp [hn] at h
  | some r =>
    obtain ⟨ns, b⟩ := r
    cases ht : M.takeT 3 l b with
    | none => simp [hn, ht] at h
    | some q =>
      obtain ⟨ts, c⟩ := q
      simp only [hn, ht, Option.some.injEq, Prod.mk.injEq] at h
      rw [← h.1]
      exact spOf_fits ns ts l hl (M.takeN_len hn).2.2 (M.takeT_len ht).2

set_option maxHeartbeats 1000000 in
theorem refDecode_any (l : List UInt8) (hl : l.length ≤ 140737488351232) (w : World) :
    Calls Try.prog 37 #[.string (S l)] w fun e w' => e = .returned (.tuple #[spV (decX (M.dec l)), .int .i64 (decE (M.dec l))]) ∧ Below w.heap.size w w' := by
  have ct : ∀ W, Calls Try.prog 45 #[.string (S l), .int .i64 0] W fun e w' => e = .returned (takV (M.take l 0)) ∧ Below W.heap.size W w' := fun W => refTake_any l hl 0 W
  have hdt := M.dec_take l
  cases ht : M.take l 0 with
  | none =>
    rw [ht] at ct hdt
    simp only [takV, spV, spC] at ct
    have CT := Lib.hid ct
    have HD := Lib.hid hdt
    clear ct hdt ht
    go_enter Try.func37, Try.ntmps37
    go_wp2_with fail
    with_reducible refine (CT.out _).mono ?_
    rintro e w2 ⟨rfl, hb2⟩
    have hr2 := (spIn_new w).below hb2
    have HR2 := Lib.hid hr2
    clear hr2
    go_wp2_with (refine wpList_store_row rfl 29 _ _ rfl w.heap.size _ rfl rfl 29 (spC M.sp0) (HR2.out.more _) ?_ rfl (spC_one M.sp0) ?_; kernel_rfl)
    try simp only [Exit.inBlock, Exit.then]
    exact bodyPost_ret (ret_sp2 rfl _ _ w.heap.size M.sp0 rfl (SpIn.row (HR2.out.more _) _)) rfl ⟨by rw [HD.out]; rfl, below_setRow ((below_step ((Below.refl _ _).alloc (Nat.le_refl _) _) hb2).alloc (by have := hb2.size; simp at this; omega) _) (Nat.le_refl _) _⟩
  | some r =>
    obtain ⟨x, c⟩ := r
    rw [ht] at ct hdt
    simp only [takV, spV, spC] at ct
    have hfit := take_fits hl ht
    have CT := Lib.hid ct
    have HDT := Lib.hid hdt
    clear ct hdt ht
    by_cases hc : c = l.length
    · subst hc
      have cc := fun W => refMay_any x hfit W
      cases hm : M.mayB x with
      | false =>
        rw [hm] at cc
        have CC := Lib.hid cc
        have hd : M.dec l = none := by rw [HDT.out]; simp [hm]
        have HD := Lib.hid hd
        clear cc hd
        go_enter Try.func37, Try.ntmps37
        go_wp2_with fail
        with_reducible refine (CT.out _).mono ?_
        rintro e w2 ⟨rfl, hb2⟩
        have hr2 := (spIn_new w).below hb2
        have HR2 := Lib.hid hr2
        clear hr2
        go_wp2_with fail
        with_reducible refine (CC.out _).mono ?_
        rintro e w3 ⟨rfl, hb3⟩
        have hr3 := (HR2.out.more _).below hb3
        have HR3 := Lib.hid hr3
        clear hr3
        go_wp2_with (refine wpList_store_row rfl 29 _ _ rfl w.heap.size _ rfl rfl 29 (spC M.sp0) (HR3.out) ?_ rfl (spC_one M.sp0) ?_; kernel_rfl)
        try simp only [Exit.inBlock, Exit.then]
        exact bodyPost_ret (ret_sp2 rfl _ _ w.heap.size M.sp0 rfl (SpIn.row (HR3.out) _)) rfl ⟨by rw [HD.out]; rfl, below_setRow (below_step ((below_step ((Below.refl _ _).alloc (Nat.le_refl _) _) hb2).alloc (by have := hb2.size; simp at this; omega) _) hb3) (Nat.le_refl _) _⟩
      | true =>
        rw [hm] at cc
        have CC := Lib.hid cc
        have hd : M.dec l = some x := by rw [HDT.out]; simp [hm]
        have HD := Lib.hid hd
        clear cc hd
        go_enter Try.func37, Try.ntmps37
        go_wp2_with fail
        with_reducible refine (CT.out _).mono ?_
        rintro e w2 ⟨rfl, hb2⟩
        have hr2 := (spIn_new w).below hb2
        have HR2 := Lib.hid hr2
        clear hr2
        go_wp2_with fail
        with_reducible refine (CC.out _).mono ?_
        rintro e w3 ⟨rfl, hb3⟩
        have hr3 := (HR2.out.more _).below hb3
        have hx3 : RowIn #[.int .i64 x.trace, .int .i64 x.id, .int .i64 x.parent, .string (S x.svc), .string (S x.host), .int .i64 x.start, .int .i64 x.dur, .string (S x.note)] 29 w3 w2.heap.size := (rowIn_new _ _ w2).below hb3
        have HR3 := Lib.hid hr3
        have HX3 := Lib.hid hx3
        clear hr3 hx3
        go_wp2_with (first | (refine wpList_load_row rfl 29 _ rfl w2.heap.size rfl 29 _ (0, 0) _ HX3.out Try.underlying29 rfl ?_ ?_; kernel_rfl) | (refine wpList_store_row rfl 29 _ _ rfl w.heap.size _ rfl rfl 29 (spC M.sp0) (HR3.out) ?_ rfl (spC_one x) ?_; kernel_rfl))
        try simp only [Exit.inBlock, Exit.then]
        exact bodyPost_ret (ret_sp2 rfl _ _ w.heap.size x rfl (SpIn.row (HR3.out) _)) rfl ⟨by rw [HD.out]; rfl, below_setRow (below_step ((below_step ((Below.refl _ _).alloc (Nat.le_refl _) _) hb2).alloc (by have := hb2.size; simp at this; omega) _) hb3) (Nat.le_refl _) _⟩
    · have hd : M.dec l = none := by rw [HDT.out]; simp [hc]
      have HD := Lib.hid hd
      have hci : ¬ ((c : Int) = (l.length : Int)) := by omega
      clear hd
      go_enter Try.func37, Try.ntmps37
      go_wp2_with fail
      with_reducible refine (CT.out _).mono ?_
      rintro e w2 ⟨rfl, hb2⟩
      have hr2 := (spIn_new w).below hb2
      have HR2 := Lib.hid hr2
      clear hr2
      go_wp2_with (refine wpList_store_row rfl 29 _ _ rfl w.heap.size _ rfl rfl 29 (spC M.sp0) (HR2.out.more _) ?_ rfl (spC_one M.sp0) ?_; kernel_rfl)
      try simp only [Exit.inBlock, Exit.then]
      exact bodyPost_ret (ret_sp2 rfl _ _ w.heap.size M.sp0 rfl (SpIn.row (HR2.out.more _) _)) rfl ⟨by rw [HD.out]; rfl, below_setRow ((below_step ((Below.refl _ _).alloc (Nat.le_refl _) _) hb2).alloc (by have := hb2.size; simp at this; omega) _) (Nat.le_refl _) _⟩

end Go.Proofs.Ytblgfhljaafmhaa
