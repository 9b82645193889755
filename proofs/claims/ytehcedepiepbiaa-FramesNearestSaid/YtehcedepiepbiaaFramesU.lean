/- Layer 4: the program's Whole, by a contract: a range over the frames, which collects them. -/
import Derived.Test.YtehcedepiepbiaaFramesV
namespace Go.Proofs.Ytehcedepiepbiaa
set_option linter.unusedVariables false
open Go Go.RowKit Go.Shelf
attribute [local go_sem ↓] run_index_S
attribute [local go_sem] S_append S_extract
attribute [local go_sem] Oper.semAt_some

theorem row_base {W : World} {A B : Nat} {e : TypeId} {v : Value} {n : Nat} {xs : List Value} (h : W.ownsRow (A + B) e 1 v n xs) : W.ownsRow A e 1 v n xs := by
  refine ⟨h.1, ?_⟩
  rcases h.2 with hc | ⟨g, cap, cur, hv, hBg, rest⟩
  · exact .inl hc
  · exact .inr ⟨g, cap, cur, hv, by omega, rest⟩

def lastE (ys : List (List UInt8 × Nat)) : Nat := (ys.getLast?.map (·.2)).getD 0
theorem lastE_snoc (ys : List (List UInt8 × Nat)) (x : List UInt8 × Nat) : lastE (ys ++ [x]) = x.2 := by simp [lastE]

set_option maxHeartbeats 1000000 in
theorem whole_in (l : List UInt8) (hl : l.length ≤ 1000000) (n : Nat) (hn : 3 ≤ n) (w : World) :
    CallsIn Fence.wide n Try.prog 19 #[.string (S l)] w fun e w' => ∃ v, e = .returned (.tuple #[v, .int .i64 (lastE (M.runs l 0) : Nat)]) ∧ w'.ownsRow w.heap.size 9 1 v (M.runs l 0).length (txs ((M.runs l 0).map (·.1))) ∧ Below w.heap.size w w' := by
  have h1 : 1 ≤ n := by omega
  obtain ⟨i0, hi, hz0, hz1, hz2⟩ := info_parts infoS
  have CE := Lib.hid (fun W => eachF_any l W)
  refine callsIn_of_wp_marks Try.func19 rfl trivial ?_ rfl
  simp only [Try.ntmps19, List.size_toArray, List.length_cons, List.length_nil, Nat.reduceAdd, Nat.reduceSub, Array.replicate_succ, Array.replicate_zero, List.push_toArray, List.append_toArray, List.nil_append, List.cons_append]
  gi_wp2
  refine ⟨trivial, (callsIn_wide.2 (CE.out _)).mono ?_⟩
  rintro e w1 ⟨rfl, rfl⟩
  gi_wp2
  have hbox : (((w.alloc (.cells #[.slice none 0 0] 30)).alloc (.cells #[.int .i64 0] 3)).alloc (.cells #[.string (S l)] 9)).cell? ⟨w.heap.size + 1 + 1, 0, none⟩ = some (.string (S l)) := by simp [go_sem]
  have hA : Boxed (((w.alloc (.cells #[.slice none 0 0] 30)).alloc (.cells #[.int .i64 0] 3)).alloc (.cells #[.string (S l)] 9)) w.heap.size 30 (.slice none 0 0) := ((Boxed.new w _ _).alloc _).alloc _
  have hB : Boxed (((w.alloc (.cells #[.slice none 0 0] 30)).alloc (.cells #[.int .i64 0] 3)).alloc (.cells #[.string (S l)] 9)) (w.heap.size + 1) 3 (.int .i64 0) := by
    have := (Boxed.new (w.alloc (.cells #[.slice none 0 0] 30)) 3 (.int .i64 0)).alloc (.cells #[.string (S l)] 9)
    simpa using this
  have hW : Below w.heap.size w (((w.alloc (.cells #[.slice none 0 0] 30)).alloc (.cells #[.int .i64 0] 3)).alloc (.cells #[.string (S l)] 9)) := (((Below.refl _ _).alloc (Nat.le_refl _) _).alloc (by simp) _).alloc (by simp; omega) _
  have hsz : (((w.alloc (.cells #[.slice none 0 0] 30)).alloc (.cells #[.int .i64 0] 3)).alloc (.cells #[.string (S l)] 9)).heap.size = w.heap.size + 3 := by simp
  generalize (((w.alloc (.cells #[.slice none 0 0] 30)).alloc (.cells #[.int .i64 0] 3)).alloc (.cells #[.string (S l)] 9)) = W0 at *
  refine wpIn_rangeFunc_ownF rfl h1 (gf := 34) (lb := #[.pointer (some ⟨w.heap.size + 1 + 1, 0, none⟩)]) rfl trivial (enters_of Try.func34 (by kernel_rfl) rfl)
    (each_stops l hl (n - 1) (by omega) (w.heap.size + 1 + 1) (w.heap.size + 3) W0 (by omega) (by omega) hbox) kpB_t (kpB_b (by omega)) (Below.refl _ _) (fun _ => rfl)
    (fun pre W => (((∃ v, Boxed W w.heap.size 30 v ∧ W.ownsRow (w.heap.size + 3) 9 1 v pre.length (txs (pre.map (·.1))) ∧ (∃ ao cap, v = .slice ao pre.length cap)) ∧ Boxed W (w.heap.size + 1) 3 (.int .i64 (lastE pre : Nat))) ∧ Below w.heap.size w W) ∧ w.heap.size + 3 ≤ W.heap.size)
    (fun _ _ _ => False)
    (OwnFrom.and (OwnFrom.and (OwnFrom.and (Own.from (holdsRow_own (w.heap.size + 3) w.heap.size 30 9 1 (fun (pre : List (List UInt8 × Nat)) => pre.length) (fun (pre : List (List UInt8 × Nat)) => txs (pre.map (·.1))) (fun (pre : List (List UInt8 × Nat)) v => ∃ ao cap, v = .slice ao pre.length cap)) _) (Own.from (boxed_own (w.heap.size + 1) 3 (fun (pre : List (List UInt8 × Nat)) => .int .i64 (lastE pre : Nat))) _)) (ownFrom_below (Nat.le_refl _) (by omega))) (fun _ _ _ _ hs hg _ => Nat.le_trans hs hg.size))
    (fun _ _ _ _ _ hs _ _ => hs)
    ⟨⟨⟨⟨_, hA, World.ownsRow_nil _ _ _ _, none, 0, rfl⟩, hB⟩, hW⟩, by omega⟩
    (fun x => { tmps := #[.string (S l), undef, .pointer (some ⟨w.heap.size, 0, none⟩), .pointer (some ⟨w.heap.size + 1, 0, none⟩), .string (S x.1), .int .i64 (x.2 : Nat), .string (S l), .func (.func 34) #[] #[.pointer (some ⟨w.heap.size + 1 + 1, 0, none⟩)], .string (S x.1), .int .i64 (x.2 : Nat), undef, undef, undef, undef, undef, undef, undef], defers := [] }) ?assign ?body ?done ?stop
  case assign =>
    intro lp x W K hK
    gi_wp2
    exact hK
  case body =>
    rintro lp pre x W ⟨⟨⟨⟨v, hv, hrow, ao, cap, rfl⟩, hBx⟩, hBel⟩, hW3⟩ hlen
    have hvc := hv.cell
    have hvf := hv.frozen
    have hsW := hBel.size
    gi_wp2_with (gi_at_builtin; refine wpListIn_append_own _ rfl _ _ 30 rfl (w.heap.size + 3) 9 i0 (.string ByteArray.empty) 1 16 Try.underlying30 hi hz0 hz1 hz2 rfl (by decide) (.slice ao pre.length cap) pre.length _ rfl (hrow.alloc _) ⟨W.heap.size, 0, none⟩ 1 1 [.string (S x.1)] rfl rfl (cell_one_new _ _ _) (by simp [Value.oneCell']) (by unfold maxLen; omega) (by omega) (by rw [World.size_alloc]; omega) ?_; intro v' w1 hown' hgrow _; obtain ⟨g', cap', rfl⟩ := ownsRow_succ hown'; obtain ⟨hv1, hv2, hr2, hk2, hb2⟩ := hv.appended (by decide) (row_base hrow) hsW (Nat.le_refl _) (row_base hown') hgrow; have hr3 := hown'.kept (grownBy_setCell' w1 w.heap.size (.slice (some ⟨g', 0, none⟩) (pre.length + 1) cap')) (.inr (hv1.not_row (by decide) hown').symm); have hB1 := (((hBx.alloc _).kept hgrow (hBx.not_row (by decide) hrow)).other (B' := w.heap.size) (by omega) (.slice (some ⟨g', 0, none⟩) (pre.length + 1) cap')); have hB1c := hB1.cell; have hB1f := hB1.frozen; have hL := World.cell?_of_block (a := ⟨w.heap.size + 1 + 1, 0, none⟩) (hgrow.block (w.heap.size + 1 + 1) (by rw [World.size_alloc]; omega) (fun e => by have := hrow.lt _ e.symm; omega)); have hc1 := hv1.cell; have hf1 := hv1.frozen)
    have e2 : ((w1.setCell ⟨w.heap.size, 0, none⟩ (.slice (some ⟨g', 0, none⟩) (pre.length + 1) cap')).setCell ⟨w.heap.size + 1, 0, none⟩ (.int .i64 (x.2 : Nat))).heap[w.heap.size + 1 + 1]? = w1.heap[w.heap.size + 1 + 1]? := by
      rw [Below.heap_setCell _ _ _ _ (by simp), Below.heap_setCell _ _ _ _ (by simp; omega)]
    have e3 : (W.alloc (.cells #[.string (S x.1)] 9)).cell? ⟨w.heap.size + 1 + 1, 0, none⟩ = W.cell? ⟨w.heap.size + 1 + 1, 0, none⟩ := World.cell?_of_block ((World.grownBy_alloc W _ none).block _ (by show w.heap.size + 1 + 1 < _; omega) (by simp))
    have hsz1 := hgrow.size
    rw [World.size_alloc] at hsz1
    refine ⟨hk2.trans (KeepsOthers.setCell _ _ _), ⟨(World.cell?_of_block e2).trans (hL.trans e3), by simp; omega⟩, ⟨⟨⟨_, hv2.other (by omega) _, ?_, some ⟨g', 0, none⟩, cap', by simp⟩, ?_⟩, hBel.trans (hb2.setCell (p := ⟨w.heap.size + 1, 0, none⟩) (by simp) _)⟩, by simp; omega⟩
    · rw [List.length_append, List.map_append]
      have := hr3.kept (grownBy_setCell' (w1.setCell ⟨w.heap.size, 0, none⟩ (.slice (some ⟨g', 0, none⟩) (pre.length + 1) cap')) (w.heap.size + 1) (.int .i64 (x.2 : Nat))) (.inr (hB1.not_row (by decide) hr3).symm)
      simpa [txs] using this
    · rw [lastE_snoc]
      exact hB1.set _
  case done =>
    rintro D ys W hD rfl ⟨⟨⟨⟨v, hv, hrow, ao, cap, rfl⟩, hBx⟩, hBel⟩, hW3⟩ hK
    have hvc := hv.cell
    have hvf := hv.frozen
    have hbc := hBx.cell
    have hbf := hBx.frozen
    gi_wp2
    gi_region
    gi_wp2
    have hK2 : ((W.setCell ⟨w.heap.size, 0, none⟩ (.slice ao (M.runs l 0).length cap)).setCell ⟨w.heap.size + 1, 0, none⟩ (.int .i64 (lastE (M.runs l 0) : Nat))).drew.heap[D]? = some (.deferred (some [])) := by
      rw [heap_drew, Below.heap_setCell _ _ _ _ (by show D ≠ w.heap.size + 1; omega), Below.heap_setCell _ _ _ _ (by show D ≠ w.heap.size; omega)]
      exact hK
    refine ⟨by simp, .inl ⟨_, _, rfl, run_takeDeferred hK2, ?_⟩⟩
    have hX1 := hv.set (.slice ao (M.runs l 0).length cap)
    have hX2 := hX1.other (B' := w.heap.size + 1) (by omega) (.int .i64 (lastE (M.runs l 0) : Nat))
    have hY2 := (hBx.other (B' := w.heap.size) (by omega) (.slice ao (M.runs l 0).length cap)).set (.int .i64 (lastE (M.runs l 0) : Nat))
    have hR1 := (row_base hrow).kept (grownBy_setCell' W w.heap.size (.slice ao (M.runs l 0).length cap)) (.inr (hv.not_row (by decide) hrow).symm)
    have hR2 := hR1.kept (grownBy_setCell' _ (w.heap.size + 1) (.int .i64 (lastE (M.runs l 0) : Nat))) (.inr ((hBx.other (B' := w.heap.size) (by omega) (.slice ao (M.runs l 0).length cap)).not_row (by decide) hR1).symm)
    have hL2 := ((hBel.setCell (p := ⟨w.heap.size, 0, none⟩) (by simp) (.slice ao (M.runs l 0).length cap)).setCell (p := ⟨w.heap.size + 1, 0, none⟩) (by simp) (.int .i64 (lastE (M.runs l 0) : Nat))).drew
    have hk5 := cell_kept ((cell_drew_own _ _).trans hX2.cell) (grownBy_putObj' _ D (.deferred none)) (fun r e => by cases e; exact ⟨_, hK2, rfl⟩)
    have hb5 := cell_kept ((cell_drew_own _ _).trans hY2.cell) (grownBy_putObj' _ D (.deferred none)) (fun r e => by cases e; exact ⟨_, hK2, rfl⟩)
    have hR5 := ownsRow_putObj hR2.drew (.deferred none) hK2 rfl
    have hL5 := hL2.trans (belowK_b (w := w) (Nat.le_refl _) _ D _ (.deferred none) (by omega) hK2 rfl rfl)
    generalize ((((W.setCell ⟨w.heap.size, 0, none⟩ (.slice ao (M.runs l 0).length cap)).setCell ⟨w.heap.size + 1, 0, none⟩ (.int .i64 (lastE (M.runs l 0) : Nat))).drew).putObj D (.deferred none)) = WZ at *
    refine ⟨.tuple #[.slice ao (M.runs l 0).length cap, .int .i64 (lastE (M.runs l 0) : Nat)], ?_, _, rfl, hR5, hL5⟩
    simp [results, Try.f19, go_sem, hk5, hb5]
  case stop =>
    rintro D c pre W _ _ h _
    exact h.elim

def lastFrom (e : Nat) (ys : List (List UInt8 × Nat)) : Nat := (ys.getLast?.map (·.2)).getD e
theorem wh_runs_aux (s : List UInt8) : ∀ (k e : Nat), s.length - e ≤ k → (M.wh s e).1 = (M.runs s e).map (·.1) ∧ (M.wh s e).2 = lastFrom e (M.runs s e) := by
  intro k
  induction k with
  | zero =>
    intro e he
    have hn : M.next s e = none := by
      cases h : M.next s e with
      | none => rfl
      | some q =>
        obtain ⟨p, z⟩ := q
        have := M.next_bounds h
        omega
    rw [M.wh_none hn, M.runs_none hn]
    simp [lastFrom]
  | succ k ih =>
    intro e he
    cases h : M.next s e with
    | none =>
      rw [M.wh_none h, M.runs_none h]
      simp [lastFrom]
    | some q =>
      obtain ⟨p, z⟩ := q
      have hb := M.next_bounds h
      have hi := ih z (by omega)
      rw [M.wh_some h, M.runs_some h]
      refine ⟨by simp [hi.1], ?_⟩
      show (M.wh s z).2 = _
      rw [hi.2]
      simp [lastFrom, List.getLast?_cons]
      cases (M.runs s z).getLast? <;> simp
theorem wh_runs (s : List UInt8) : (M.wh s 0).1 = (M.runs s 0).map (·.1) ∧ (M.wh s 0).2 = lastE (M.runs s 0) := wh_runs_aux s _ 0 (Nat.le_refl _)

/-- The program's Whole, in the words of the document's. -/
theorem whole_any (l : List UInt8) (hl : l.length ≤ 1000000) (w : World) :
    Calls Try.prog 19 #[.string (S l)] w fun e w' => ∃ v, e = .returned (.tuple #[v, .int .i64 ((M.wh l 0).2 : Nat)]) ∧ w'.ownsRow w.heap.size 9 1 v (M.wh l 0).1.length (txs (M.wh l 0).1) ∧ Below w.heap.size w w' := by
  rw [(wh_runs l).1, (wh_runs l).2, List.length_map]
  exact callsIn_wide.1 (whole_in l hl 3 (by omega) w)

end Go.Proofs.Ytehcedepiepbiaa
