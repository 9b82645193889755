/- Layer 4: row, by a contract: frames one behind the other, and where each begins. -/
import Derived.Test.YtehcedepiepbiaaFramesK
import Derived.Test.YtehcedepiepbiaaSumsL
import Derived.SliceStrings
namespace Go.Proofs.Ytehcedepiepbiaa
set_option linter.unusedVariables false
open Go Go.RowKit
attribute [local go_sem ↓] run_index_S
attribute [local go_sem] S_append S_extract

/-- A slice of texts that came in, to be read. -/
def TxtAt (w : World) (a : Addr) (ps : List (List UInt8)) : Prop := ∀ j, j < ps.length → w.cell? (a.add j) = some (.string (S (ps.getD j [])))
theorem TxtAt.below {w w' : World} {a : Addr} {ps : List (List UInt8)} (h : TxtAt w a ps) (hb : Below w.heap.size w w') : TxtAt w' a ps := fun j hj =>
  (hb.cell (p := (a.add j)) (block_lt_of_cell (h j hj))).trans (h j hj)

/-- Frames, one behind the other. -/
def txtOf (ps : List (List UInt8)) : List UInt8 := (ps.map M.frameP).flatten
def offs (ps : List (List UInt8)) (j : Nat) : Nat := (txtOf (ps.take j)).length
def okRow (ps : List (List UInt8)) : Prop := ps.length ≤ 20 ∧ ∀ j, j < ps.length → (ps.getD j []).length ≤ 300
def offV (ps : List (List UInt8)) (k : Nat) : List Value := (List.range k).map fun j => Value.int .i64 (offs ps j : Nat)
theorem txtOf_step (ps : List (List UInt8)) (k : Nat) (h : k < ps.length) : txtOf (ps.take (k + 1)) = txtOf (ps.take k) ++ M.frameP (ps.getD k []) := by
  unfold txtOf
  rw [List.take_add_one, List.getElem?_eq_getElem h, List.map_append, List.flatten_append]
  simp [List.getD, List.getElem?_eq_getElem h]
theorem offV_step (ps : List (List UInt8)) (k : Nat) : offV ps (k + 1) = offV ps k ++ [.int .i64 ((txtOf (ps.take k)).length : Nat)] := by
  unfold offV
  rw [List.range_succ, List.map_append]
  rfl
theorem txtOf_take_length (ps : List (List UInt8)) (h : ∀ j, j < ps.length → (ps.getD j []).length ≤ 300) : ∀ k, k ≤ ps.length → (txtOf (ps.take k)).length ≤ 308 * k
  | 0, _ => by simp [txtOf]
  | k + 1, hk => by
    have := txtOf_take_length ps h k (by omega)
    rw [txtOf_step ps k (by omega), List.length_append, M.frameP_length]
    have := h k (by omega)
    omega
theorem infoI : (Try.prog.info? 3).map (fun i => (i.zero, i.size, i.bytes)) = some (some (.int .i64 0), 1, 8) := by kernel_rfl

/-- What row answers, and what it laid. -/
def RowOut (ps : List (List UInt8)) (B : Nat) (e : Ending) (w' : World) : Prop :=
  (okRow ps ∧ ∃ v, e = .returned (.tuple #[.string (S (txtOf ps)), v, .bool true]) ∧ w'.ownsRow B 3 1 v ps.length (offV ps ps.length)) ∨
  (¬ okRow ps ∧ e = .returned (.tuple #[.string (S []), .slice none 0 0, .bool false]))

set_option maxHeartbeats 2000000 in
set_option maxRecDepth 100000 in
theorem row_some (ps : List (List UInt8)) (hps : ps.length ≤ 20) (a : Addr) (cap : Nat) (w : World) (hat : TxtAt w a ps) :
    Calls Try.prog 22 #[.slice (some a) ps.length cap] w fun e w' => RowOut ps w.heap.size e w' ∧ Below w.heap.size w w' := by
  obtain ⟨i0, hi, hz0, hz1, hz2⟩ := info_parts infoI
  have d1 : decide (20 < (ps.length : Int)) = false := by simp; omega
  have HAT := Lib.hid hat
  clear hat
  go_enter Try.func22, Try.ntmps22
  go_wp2_with fail
  go_loopw [2, 3, 5] (fun t v i wr => ∃ (k : Nat) (ao : Option Addr) (cv : Nat), k ≤ ps.length ∧ i = .int .i64 k ∧ t = .string (S (txtOf (ps.take k))) ∧ v = .slice ao k cv ∧ (∀ j, j < k → (ps.getD j []).length ≤ 300) ∧ (txtOf (ps.take k)).length ≤ 308 * k ∧ wr.ownsRow w.heap.size 3 1 v k (offV ps k) ∧ Below w.heap.size w wr) (fun _ _ i _ => ps.length - (intOf i).toNat)
  case atStart => exact ⟨0, none, 0, by omega, rfl, by simp [txtOf], rfl, fun j hj => by omega, by simp [txtOf], World.ownsRow_nil _ _ _ _, Below.refl _ _⟩
  case round =>
    rename_i wr
    obtain ⟨k, ao, cv, hk, rfl, rfl, rfl, h300, hlen, hown, hb⟩ := hrel
    have H300 := Lib.hid h300
    have HO := Lib.hid hown
    have hbs := hb.size
    clear h300 hown
    by_cases hkl : k < ps.length
    · have d2 : decide ((k : Int) < (ps.length : Int)) = true := by simp; omega
      have xc := (HAT.out.below hb) k hkl
      have hst := txtOf_step ps k hkl
      have hov := offV_step ps k
      have hmem : ¬ (ps.getD k []).length ≤ 300 → ¬ okRow ps := fun h hr => h (hr.2 k hkl)
      have HM := Lib.hid hmem
      clear hmem
      by_cases h3 : (ps.getD k []).length ≤ 300
      · have h3' : ∀ j, j < k + 1 → (ps.getD j []).length ≤ 300 := fun j hj => by
          by_cases e : j = k
          · subst e; exact h3
          · exact H300.out j (by omega)
        have c1 := fun W => frame_ok (ps.getD k []) (by omega) W
        have hfl := M.frameP_length (ps.getD k [])
        have hfr : (M.frameP (ps.getD k [])).length ≤ 308 := by omega
        generalize M.frameP (ps.getD k []) = fr at *
        generalize ps.getD k [] = p at *
        have hl2 : (txtOf (ps.take (k + 1))).length ≤ 308 * (k + 1) := by rw [hst, List.length_append]; omega
        have d3 : decide (300 < (p.length : Int)) = false := by simp; omega
        have C1 := Lib.hid c1
        have HST := Lib.hid hst
        have HOV := Lib.hid hov
        have HP := Lib.hid h3'
        clear c1 hst hov h3' hfl
        generalize txtOf (ps.take k) = tx at *
        go_wp2_with fail
        with_reducible refine (C1.out _).mono ?_
        rintro e w1 ⟨rfl, hb1⟩
        have hown1 := row_below HO.out hb1
        have HB1 := Lib.hid (below_step hb hb1)
        have hsz1 := HB1.out.size
        have xc1 : w1.cell? (a.add k) = some (.string (S p)) := (hb1.cell (p := (a.add k)) (block_lt_of_cell xc)).trans xc
        clear hb1 xc
        go_wp2_with (at_builtin; refine wpList_append_own _ rfl _ _ 39 rfl w.heap.size 3 i0 (.int .i64 0) 1 8 Try.underlying39 hi hz0 hz1 hz2 rfl (by decide) (.slice ao k cv) k (offV ps k) rfl (hown1.alloc _) ⟨w1.heap.size, 0, none⟩ 1 1 [.int .i64 (tx.length : Nat)] rfl rfl (cell_one_new _ _ _) (fun x hx => by simp at hx; subst hx; rfl) (by unfold maxLen; omega) (by omega) (by simp; omega) ?_; intro v' w3 hown' hgrow3 hnil3)
        go_roundw
        case rel =>
          obtain ⟨g3, cap3, hv3⟩ : ∃ g3 cap3, v' = .slice (some ⟨g3, 0, none⟩) (k + 1) cap3 := by
            rcases hown'.2 with ⟨_, h⟩ | ⟨g3, cap3, _, h, _⟩
            · omega
            · exact ⟨g3, cap3, h⟩
          exact ⟨k + 1, some ⟨g3, 0, none⟩, cap3, by omega, by go_num, by rw [HST.out], hv3, HP.out, hl2, by rw [HOV.out]; exact hown', (HB1.out.alloc hsz1 _).grown hgrow3 (by simp; omega) (fun q hq => (hown1.lt q hq).1)⟩
        case measure => simp [intOf]; omega
      · have hno := HM.out h3
        have c1 := fun W => frame_any (ps.getD k []) W
        generalize (if (ps.getD k []).length ≤ 16384 then M.frameP (ps.getD k []) else []) = fr at c1
        generalize (if (ps.getD k []).length ≤ 16384 then (0 : Int) else 3) = en at c1
        generalize ps.getD k [] = p at *
        have d3 : decide (300 < (p.length : Int)) = true := by simp; omega
        have C1 := Lib.hid c1
        clear c1 hst hov
        go_wp2_with fail
        with_reducible refine (C1.out _).mono ?_
        rintro e w1 ⟨rfl, hb1⟩
        have HB1 := Lib.hid (below_step hb hb1)
        have xc1 : w1.cell? (a.add k) = some (.string (S p)) := (hb1.cell (p := (a.add k)) (block_lt_of_cell xc)).trans xc
        clear hb1 xc
        go_wp2_with fail
        go_ret3
        exact ⟨.inr ⟨hno, rfl⟩, HB1.out⟩
    · obtain rfl : k = ps.length := by omega
      have d2 : decide ((ps.length : Int) < (ps.length : Int)) = false := by simp
      rw [List.take_length]
      have hok : okRow ps := ⟨hps, H300.out⟩
      go_wp2_with fail
      go_ret3
      exact ⟨.inl ⟨hok, _, rfl, HO.out⟩, hb⟩

theorem row_nil (ao : Option Addr) (cap : Nat) (w : World) :
    Calls Try.prog 22 #[.slice ao 0 cap] w fun e w' => RowOut [] w.heap.size e w' ∧ Below w.heap.size w w' := by
  go_enter Try.func22, Try.ntmps22
  go_wp2_with fail
  refine wp_loop_rounds 1 ?_
  rw [rounds_succ]
  go_wp2_with fail
  go_ret3
  exact ⟨.inl ⟨⟨by simp, fun j hj => by simp at hj⟩, _, rfl, World.ownsRow_nil _ _ _ _⟩, Below.refl _ _⟩

theorem row_many (ps : List (List UInt8)) (hps : 20 < ps.length) (ao : Option Addr) (cap : Nat) (w : World) :
    Calls Try.prog 22 #[.slice ao ps.length cap] w fun e w' => RowOut ps w.heap.size e w' ∧ Below w.heap.size w w' := by
  have d1 : decide (20 < (ps.length : Int)) = true := by simp; omega
  go_enter Try.func22, Try.ntmps22
  go_wp2_with fail
  go_ret3
  exact ⟨.inr ⟨fun h => by have := h.1; omega, rfl⟩, Below.refl _ _⟩

/-- Texts that came in. -/
def TxtArg (w : World) (v : Value) (ps : List (List UInt8)) : Prop := ∃ ao cap, v = .slice ao ps.length cap ∧ ps.length ≤ maxLen ∧ (ps = [] ∨ ∃ a, ao = some a ∧ TxtAt w a ps)
theorem row_any (ps : List (List UInt8)) (v : Value) (w : World) (hv : TxtArg w v ps) :
    Calls Try.prog 22 #[v] w fun e w' => RowOut ps w.heap.size e w' ∧ Below w.heap.size w w' := by
  obtain ⟨ao, cap, rfl, hm, rfl | ⟨a, rfl, hat⟩⟩ := hv
  · exact row_nil ao cap w
  · by_cases h : 20 < ps.length
    · exact row_many ps h (some a) cap w
    · exact row_some ps (by omega) a cap w hat

end Go.Proofs.Ytehcedepiepbiaa
