/- Texts of lower layers, as one. -/
import Derived.StillTail
import Derived.Lib.QuietBelow
import Derived.Test.YtnhljlmelbiljaaGreatZA
import Derived.Test.YtnhljlmelbiljaaGreatShelf
import Derived.Test.YtnhljlmelbiljaaGreatZF
import Derived.Lib.Builder
import Derived.Lib.AppendStr
import Derived.Laws.Externs
import Derived.Lib.Hide
import Derived.RangeFuncBox
import Derived.Maps.RangeWalk
import Derived.Laws.EntriesVeiled
/- A region that draws its order: all operations but the last ones read, or call what only makes memory; the last ones wait for all others, one behind the other: one walk of the text's order serves every order. (The base has this for heads whose world stays, and for regions without such a tail.) -/
namespace Go.Proofs.YtnhljlmelbiljaaGreat
set_option linter.unusedVariables false
open Go Go.RowKit

section
variable {P : Program} {ops : Array Oper} {md : Region.Mode} {C : World → Prop}

def wpAnyT (P : Program) (md : Region.Mode) (ops : Array Oper) (C : World → Prop) (n : Nat) (L : Array Bool → Act → Prop) : Nat → Array Bool → Act → Prop
  | 0, listed, a => L listed a
  | f + 1, listed, a => Region.ready md ops listed ≠ [] ∧ ∀ i ∈ Region.ready md ops listed, i < n ∧ qOp P ops C i (wpAnyT P md ops C n L f (listed.setIfInBounds i true)) a

theorem wpAny_of_headT {n g : Nat} {L : Array Bool → Act → Prop} {Q' : Exit → Act → World → Prop} (hL : ∀ listed a w, C w → L listed a → wpAny P md ops Q' g listed a w) :
    ∀ (f : Nat) (listed : Array Bool) (a : Act) (w : World), C w → wpAnyT P md ops C n L f listed a → wpAny P md ops Q' (f + g) listed a w := by
  intro f
  induction f with
  | zero => intro listed a w hw h; rw [Nat.zero_add]; exact hL _ _ _ hw h
  | succ f ih =>
    intro listed a w hw h
    rw [show f + 1 + g = (f + g) + 1 by omega]
    exact ⟨fun h0 => absurd h0 h.1, fun i hi => wpOp_of_qOp hw (fun a' w' hw' h' => ih _ a' w' hw' h') (h.2 i hi).2⟩

theorem wpAnyT_first {n i : Nat} {oi : Oper} {v : Value} {L : Array Bool → Act → Prop} (hi : ops[i]? = some oi) (hsel : ∀ (j : Nat) (o : Oper) cs b, ops[j]? = some o → o.op ≠ .select cs b)
    (hs : Region.sinkB md ops n = true) (hc : Region.chainB md ops n = true) (hn : n < ops.size) (hin : i < n)
    (hdone : ∀ listed a, L listed a → ∀ j ∈ Region.ready md ops listed, n ≤ j) (f : Nat) :
    ∀ (listed : Array Bool) (a : Act), HeadInv md ops n listed →
      (∀ j oj, ops[j]? = some oj → j ≠ i → listed.getD j true = false → (∀ e ∈ oj.after, Region.binds md e = true → e.on ≠ i) → oi.apart ops oj = true) →
      i ∈ Region.ready md ops listed → YieldsIn P ops C oi v a →
      wpAnyT P md ops C n L f (listed.setIfInBounds i true) (a.put oi.dst v) → wpAnyT P md ops C n L (f + 1) listed a := by
  induction f with
  | zero =>
    intro listed a inv _ hr hy H
    have hun := (mem_ready.1 hr).1
    refine ⟨fun h => (by rw [h] at hr; cases hr), fun j hj => ?_⟩
    have hjn : j < n := by
      rcases Nat.lt_or_ge j n with h | h
      · exact h
      · exact absurd hj (tail_waits hs hc hn inv _ i rfl hin hun j h)
    refine ⟨hjn, ?_⟩
    by_cases hji : j = i
    · subst hji; exact hy.qOp hi H
    · have := hdone _ _ H j (ready_mono hj hji)
      omega
  | succ f ih =>
    intro listed a inv hfree hr hy H
    have hun := (mem_ready.1 hr).1
    refine ⟨fun h => (by rw [h] at hr; cases hr), fun j hj => ?_⟩
    have hjn : j < n := by
      rcases Nat.lt_or_ge j n with h | h
      · exact h
      · exact absurd hj (tail_waits hs hc hn inv _ i rfl hin hun j h)
    refine ⟨hjn, ?_⟩
    by_cases hji : j = i
    · subst hji; exact hy.qOp hi H
    · have h1 := (H.2 j (ready_mono hj hji)).2
      obtain ⟨hjun, oj, hoj, hall⟩ := mem_ready.1 hj
      have hnot : ∀ e ∈ oj.after, Region.binds md e = true → e.on ≠ i := fun e he hb heq => by
        have h1 := hall e he hb
        rw [heq, getD_both hun] at h1
        cases h1
      have h2 := qOp_put hoj (hfree j oj hoj hji hjun hnot) (fun cs b => hsel i oi cs b hi) (fun cs b => hsel j oj cs b hoj) hy h1
      have hfree' : ∀ k ok, ops[k]? = some ok → k ≠ i → (listed.setIfInBounds j true).getD k true = false →
          (∀ e ∈ ok.after, Region.binds md e = true → e.on ≠ i) → oi.apart ops ok = true := fun k ok hk hki hun hno => by
        refine hfree k ok hk hki ?_ hno
        by_cases hjk : j = k
        · subst hjk; exact hjun
        · rw [getD_set_ne true hjk] at hun; exact hun
      refine qOp_mono (fun a' h3 => ih (listed.setIfInBounds j true) a' (inv.set hj hjn) hfree' (ready_mono hr (Ne.symm hji)) h3.1 ?_) h2
      rw [Array.setIfInBounds_comm _ _ hji]
      exact h3.2

theorem wpAnyT_lex {n g : Nat} {Lq : Act → Prop} (hsel : Region.noSelect ops = true) (hs : Region.sinkB md ops n = true) (hc : Region.chainB md ops n = true) (hn : n < ops.size) (l : List Oper) :
    ∀ (k : Nat) (listed : Array Bool) (a : Act), (∀ j, j < l.length → l[j]? = ops[k + j]?) → k + l.length = n → HeadInv md ops n listed →
    Region.lexHead md ops g l.length k listed = true → wpQuiet P ops C Lq l a →
    wpAnyT P md ops C n (fun listed' a' => Region.seqB md ops g n listed' = true ∧ Lq a') l.length listed a := by
  induction l with
  | nil =>
    intro k listed a _ hk _ hB h
    have : k = n := by simpa using hk
    subst this
    exact ⟨by simpa [Region.lexHead] using hB, h⟩
  | cons o l ih =>
    intro k listed a hl hk inv hB h
    have h0 : ops[k]? = some o := by simpa using (hl 0 (by simp)).symm
    simp only [List.length_cons, Region.lexHead, Bool.and_eq_true] at hB
    obtain ⟨⟨hr, hf⟩, hB'⟩ := hB
    have hkn : k < n := by simp only [List.length_cons] at hk; omega
    have hr' : k ∈ Region.ready md ops listed := by simpa using hr
    have hst : qOp P ops C k (wpQuiet P ops C Lq l) a := by unfold qOp; simp only [h0]; exact h
    obtain ⟨v, hy, hK⟩ := yieldsIn_of_qOp h0 hst
    exact wpAnyT_first h0 (Region.noSelect_spec hsel) hs hc hn hkn (fun listed' a' hL => seqB_ready hL.1) l.length listed a inv (Region.free_spec h0 hf) hr' hy
      (ih (k + 1) _ _ (fun j hj => by have := hl (j + 1) (by simp; omega); simpa [Nat.add_assoc, Nat.add_comm 1 j] using this) (by simp only [List.length_cons] at hk; omega) (inv.set hr' hkn) hB' hK)

theorem wp_region_quiet_tail {id : Nat} {Q : Exit → Act → World → Prop} {a : Act} {w : World} {l : List Oper} (n : Nat) (hm : P.follows .mixedOrders = true) (hB : Region.lexTailB .any l.toArray n = true)
    (h : wpQuiet P l.toArray (fun w' => ∃ p : Regrown, w' = Sort.grow (redrawn w p.d) p.os) (fun a' => ∀ w', (∃ p : Regrown, w' = Sort.grow (redrawn w p.d) p.os) → wpList P l.toArray Q (l.drop n) a' w') (l.take n) a) : (Code.region id l.toArray true).wp P Q a w := by
  simp only [Region.lexTailB, Bool.and_eq_true, decide_eq_true_eq] at hB
  obtain ⟨⟨⟨⟨hsel, hn⟩, hs⟩, hc⟩, hlex⟩ := hB
  have hn' : n < l.length := by simpa using hn
  have htl : (l.take n).length = n := by simp; omega
  have hdl : (l.drop n).length = l.toArray.size - n := by simp
  have inv0 : HeadInv .any l.toArray n (Array.replicate l.toArray.size false) :=
    ⟨by simp, fun j oj _ hl => (by rw [getD_replicate_false] at hl; cases hl), fun t _ ht => getD_in (by simpa using ht) (getD_replicate_false _ _)⟩
  have H := wpAnyT_lex (md := .any) (g := l.toArray.size - n) hsel hs hc hn (l.take n) 0 _ a (fun j hj => by
    have hj' : j < n := by rw [htl] at hj; exact hj
    simp [hj']) (by simpa using htl) inv0 (by rw [htl]; exact hlex) h
  refine wp_region_any hm ?_
  have := wpAny_of_headT (Q' := Q) (g := l.toArray.size - n) (fun listed a' w' hw' hL => by
    have := wpAny_of_seq (md := .any) (Q' := Q) (l.drop n) n listed a' w' (fun j => by simp [List.getElem?_drop]) (by rw [hdl]; exact hL.1) (hL.2 w' hw')
    rwa [hdl] at this) _ _ _ ({ w with drawn := w.drawn + 1 }) ⟨⟨w.drawn + 1, #[]⟩, by rw [Sort.grow_empty]; rfl⟩ H
  rw [htl, show n + (l.toArray.size - n) = l.toArray.size by omega] at this
  exact this
end

end Go.Proofs.YtnhljlmelbiljaaGreat

/- strings.Builder: what is written to one that the call itself made, by contracts. -/
namespace Go.Proofs.YtnhljlmelbiljaaGreat
set_option linter.unusedVariables false
open Go Go.RowKit

theorem sizeBd : (Tryz.prog.info? 86).map (·.size) = some 2 := by kernel_rfl
theorem infoBt : (Tryz.prog.info? 5).map (fun i => (i.zero, i.size, i.bytes)) = some (some (.int .u8 0), 1, 1) := by kernel_rfl
theorem liesBd : liesAt Tryz.prog Tryz.prog.depth 86 (2 / Tryz.prog.cellsOf 86) 0 86 1 = true := by kernel_rfl
set_option maxHeartbeats 1000000 in
set_option maxRecDepth 100000 in
theorem copyCheck_used (b : Nat) (w : World) (h0 : w.cell? ⟨b, 0, none⟩ = some (.pointer (some ⟨b, 0, none⟩))) :
    Calls Tryz.prog 69 #[.pointer (some ⟨b, 0, none⟩)] w fun e w' => e = .returned (.tuple #[]) ∧ w' = w := by
  obtain ⟨j, hj, _⟩ := Option.map_eq_some_iff.1 sizeBd
  go_enter Tryz.func69, Tryz.ntmps69
  go_wp2
  rw [Lib.run_neq_ptr_same w _ Tryz.underlying83 hj]
  go_wp2
  go_end0
  exact ⟨rfl, rfl⟩

set_option maxHeartbeats 1000000 in
set_option maxRecDepth 100000 in
theorem copyCheck_fresh (b : Nat) (w : World) (h0 : w.cell? ⟨b, 0, none⟩ = some (.pointer none)) (hsh : w.shape? b = some (86, 2)) (hfz : w.frozen? ⟨b, 0, none⟩ = false) :
    Calls Tryz.prog 69 #[.pointer (some ⟨b, 0, none⟩)] w fun e w' => e = .returned (.tuple #[]) ∧ w' = w.setCell ⟨b, 0, none⟩ (.pointer (some ⟨b, 0, none⟩)) := by
  obtain ⟨j, hj, hjs⟩ := Option.map_eq_some_iff.1 sizeBd
  go_enter Tryz.func69, Tryz.ntmps69
  go_wp2
  rw [Lib.run_to_unsafe w ⟨b, 0, none⟩ Tryz.underlying83 Tryz.underlying165 hj (by rw [hjs]; decide) hsh (Nat.zero_lt_succ 1)]
  simp only [Result.andThen]
  rw [Oper.upon_value]
  go_wp2
  rw [run_callFunc_extern Tryz.func100 (by kernel_rfl) (by kernel_rfl) (by kernel_rfl) (e := Extern.AbiNoEscape.same) (by kernel_rfl)]
  rw [Lib.run_noEscape]
  simp only [Result.andThen]
  rw [Oper.upon_value]
  go_wp2
  rw [Lib.run_from_unsafe w ⟨b, 0, none⟩ Tryz.underlying165 Tryz.underlying83 hj hsh liesBd]
  simp only [Result.andThen]
  rw [Oper.upon_value]
  go_wp2
  go_end0
  exact ⟨rfl, rfl⟩

/-- A builder that the call itself made (block b), with these bytes. -/
def BdAt (B b : Nat) (l : List UInt8) (w : World) : Prop := Lib.IsBuilder 86 5 B b (Lib.byteCells l) w

/-- Blocks of other kinds stand, beside the builder's. -/
def KeptB (b : Nat) (w w' : World) : Prop := ∀ (C : Array Value) (T : TypeId) (g : Nat), T ≠ 5 → g ≠ b → RowIn C T w g → RowIn C T w' g
theorem copyCheck_any (B b : Nat) (l : List UInt8) (w : World) (h : BdAt B b l w) :
    Calls Tryz.prog 69 #[.pointer (some ⟨b, 0, none⟩)] w fun e w' => e = .returned (.tuple #[]) ∧ Lib.BuilderAt 86 5 B b (.pointer (some ⟨b, 0, none⟩)) (Lib.byteCells l) w' ∧ Below B w w' ∧ KeptB b w w' := by
  rcases h with h | h
  · refine (copyCheck_fresh b w h.cell0 h.shape h.frozen0).mono ?_
    rintro e w' ⟨rfl, rfl⟩
    exact ⟨rfl, h.used _, (Below.refl B w).setCell (p := ⟨b, 0, none⟩) h.1 _, fun C T g _ hg hr => hr.other hg 0 _⟩
  · refine (copyCheck_used b w h.cell0).mono ?_
    rintro e w' ⟨rfl, rfl⟩
    exact ⟨rfl, h, Below.refl B _, fun C T g _ _ hr => hr⟩

set_option maxHeartbeats 2000000 in
set_option maxRecDepth 100000 in
theorem write_any (B b : Nat) (l t : List UInt8) (w : World) (h : BdAt B b l w) (hlen : l.length + t.length ≤ 140737488355328) (hBw : B ≤ w.heap.size) :
    Calls Tryz.prog 45 #[.pointer (some ⟨b, 0, none⟩), .string (S t)] w fun e w' => e = .returned (.tuple #[.int .i64 t.length, .nilIface]) ∧ BdAt B b (l ++ t) w' ∧ Below B w w' ∧ KeptB b w w' := by
  obtain ⟨i0, hi, hz0, hz1, hz2⟩ := info_parts infoBt
  have hl : (Lib.byteCells l).length = l.length := by simp [Lib.byteCells]
  go_enter Tryz.func45, Tryz.ntmps45
  go_wp2_with fail
  refine (copyCheck_any B b l _ h).mono ?_
  rintro e w1 ⟨rfl, h1, hb1, hkp1⟩
  have HK1 := Lib.hid hkp1
  clear hkp1
  obtain ⟨hB, v, hbk, hown, hne⟩ := h1
  have c0 : w1.cell? ⟨b, 0, none⟩ = some (.pointer (some ⟨b, 0, none⟩)) := by rw [Lib.cell_of_heap hbk]; rfl
  have c1 : w1.cell? ⟨b, 1, none⟩ = some v := by rw [Lib.cell_of_heap hbk]; rfl
  go_wp2_with (at_builtin; refine Lib.wpList_append_own_string _ rfl _ _ 84 9 rfl B 5 i0 Tryz.underlying84 Tryz.underlying9 hi hz0 hz1 hz2 _ _ _ rfl hown (S t) rfl ?c3 ?c4 ?c5 ?_)
  case c3 => unfold maxLen; simp [ByteArray.size]; omega
  case c4 => simp [ByteArray.size]; omega
  case c5 => have := hb1.size; omega
  intro v' w2 hown' hgrow _
  have hlt : b < w1.heap.size := by
    rcases Nat.lt_or_ge b w1.heap.size with h' | h'
    · exact h'
    · simp [Array.getElem?_eq_none h'] at hbk
  have hb2 : w2.heap[b]? = some (.cells #[.pointer (some ⟨b, 0, none⟩), v] 86 (0, 0)) := by
    rw [hgrow.block b hlt (fun e => hne e.symm)]
    exact hbk
  have d0 : w2.cell? ⟨b, 0, none⟩ = some (.pointer (some ⟨b, 0, none⟩)) := by rw [Lib.cell_of_heap hb2]; rfl
  have d1 : w2.cell? ⟨b, 1, none⟩ = some v := by rw [Lib.cell_of_heap hb2]; rfl
  have f1 : w2.frozen? ⟨b, 1, none⟩ = false := Lib.frozen_of_heap hb2 1
  obtain ⟨ao, n', cap, rfl⟩ : ∃ ao n' cap, v' = .slice ao n' cap := by
    rcases hown'.2 with ⟨hv, _⟩ | ⟨g, cap, cur, hv, _⟩
    · exact ⟨_, _, _, hv⟩
    · exact ⟨_, _, _, hv⟩
  have hcells : Lib.byteCells (l ++ t) = Lib.byteCells l ++ Lib.strCells (S t) := by simp [Lib.byteCells, Lib.strCells]
  go_wp2
  go_ret2
  refine ⟨by simp, .inr ?_, ?_, fun C T g hT hg hr => ((HK1.out C T g hT hg hr).grownP hgrow (row_apart (HK1.out C T g hT hg hr) hown hT)).other hg 1 _⟩
  · rw [hcells]
    exact Lib.BuilderAt.put (T := 86) (e := 5) hB hb2 (bs' := Lib.byteCells l ++ Lib.strCells (S t)) (by simpa [Lib.byteCells_length, Lib.strCells_length, ByteArray.size] using hown') (by decide)
  · exact (hb1.grown hgrow (by have := hb1.size; omega) (fun k hk => (hown.lt k hk).1)).setCell (p := ⟨b, 1, none⟩) hB _
theorem bd_new (w : World) : BdAt w.heap.size w.heap.size [] (w.alloc (.cells #[.pointer none, .slice none 0 0] 86)) :=
  .inl ⟨Nat.le_refl _, .slice none 0 0, heap_alloc_new w _, World.ownsRow_nil _ _ _ _, by simp [Value.ownBlock]⟩

end Go.Proofs.YtnhljlmelbiljaaGreat

/- Layer 9: the program's tests of cells, by contracts. -/
namespace Go.Proofs.YtnhljlmelbiljaaGreat
set_option linter.unusedVariables false
open Go Go.RowKit
attribute [local go_sem ↓] run_index_S
attribute [local go_sem] S_append S_extract

/-- A cell whose texts are no longer than memory goes. -/
def ClOk (c : M.Cl) : Prop := c.key.length ≤ 140737488351232 ∧ c.val.length ≤ 140737488351232 ∧ c.ints
set_option maxHeartbeats 1000000 in
theorem mayBe9_any (c : M.Cl) (hc : ClOk c) (w : World) :
    Calls Tryz.prog 98 #[.agg (clA c)] w fun e w' => e = .returned (.bool (M.mayC c)) ∧ Below w.heap.size w w' := by
  have h1 := hc.1
  have h2 := hc.2.1
  have HB := Lib.hid ((Below.refl w.heap.size w).alloc (Nat.le_refl _) (.cells (clA c) 162))
  have HM : Hid (M.mayC c = (decide (1 ≤ c.key.length) && decide (c.key.length ≤ 64) && decide (0 ≤ c.seq) && decide (c.val.length ≤ 128))) := Lib.hid rfl
  generalize M.mayC c = mb at *
  clear hc
  go_enter Tryz.func98, Tryz.ntmps98
  go_wp2_with fail
  all_goals
    go_ret
    exact ⟨ret_bool (by rw [HM.out, Bool.eq_iff_iff]; simp; omega), HB.out⟩
set_option maxHeartbeats 2000000 in
theorem ahead9_any (a b : M.Cl) (w : World) :
    Calls Tryz.prog 99 #[.agg (clA a), .agg (clA b)] w fun e w' => e = .returned (.bool (M.aheadC a b)) ∧ Below w.heap.size w w' := by
  have HB := Lib.hid (((Below.refl w.heap.size w).alloc (Nat.le_refl _) (.cells (clA a) 162)).alloc (by rw [szA]; omega) (.cells (clA b) 162))
  have HX := Lib.hid ((rowIn_new (clA a) 162 w).more (.cells (clA b) 162))
  have HY := Lib.hid (rowIn_at (clA b) 162 (w.alloc (.cells (clA a) 162)) (w.heap.size + 1) (by rw [szA]))
  have HM : Hid (M.aheadC a b = (Op.bytesLess a.key b.key || (a.key == b.key && decide (b.seq < a.seq)))) := Lib.hid rfl
  generalize M.aheadC a b = mb at *
  go_enter Tryz.func99, Tryz.ntmps99
  go_wp2_with fail
  all_goals
    go_ret
    exact ⟨ret_bool (by rw [HM.out, Bool.eq_iff_iff]; simp_all), HB.out⟩

set_option maxHeartbeats 1000000 in
theorem is9_any (c : M.Cl) (hc : ClOk c) (w : World) :
    Calls Tryz.prog 97 #[.agg (clA c), .func (.func 98) #[] #[]] w fun e w' => e = .returned (.bool (M.mayC c)) ∧ Below w.heap.size w w' := by
  have HB := Lib.hid ((Below.refl w.heap.size w).alloc (Nat.le_refl _) (.cells (clA c) 38))
  have CM := Lib.hid (fun W => mayBe9_any c hc W)
  clear hc
  go_enter Tryz.func97, Tryz.ntmps97
  go_wp2_with fail
  with_reducible refine (CM.out _).mono ?_
  rintro e w1 ⟨rfl, hb⟩
  replace HB := carry hb HB
  clear hb
  go_wp2_with fail
  go_ret
  exact ⟨rfl, HB.out⟩
set_option maxHeartbeats 1000000 in
theorem check9_any (c : M.Cl) (hc : ClOk c) (w : World) :
    Calls Tryz.prog 80 #[.agg (clA c)] w fun e w' => e = .returned (.int .i64 (if M.mayC c then 0 else 2)) ∧ Below w.heap.size w w' := by
  have HB := Lib.hid ((Below.refl w.heap.size w).alloc (Nat.le_refl _) (.cells (clA c) 38))
  have CM := Lib.hid (fun W => is9_any c hc W)
  clear hc
  generalize M.mayC c = mb at *
  go_enter Tryz.func80, Tryz.ntmps80
  go_wp2_with fail
  with_reducible refine (CM.out _).mono ?_
  rintro e w1 ⟨rfl, hb⟩
  replace HB := carry hb HB
  clear hb
  cases mb with
  | true => go_wp2_with fail; go_ret; exact ⟨rfl, HB.out⟩
  | false => go_wp2_with fail; go_ret; exact ⟨rfl, HB.out⟩

theorem B_same {a b : List UInt8} {k : Nat} : (B a k == B b k) = decide (a.getD k 0 = b.getD k 0) := by
  rw [Bool.eq_iff_iff]
  simp only [B, beq_iff_eq, decide_eq_true_eq]
  constructor
  · intro h
    exact UInt8.toNat_inj.1 (by omega)
  · intro h; rw [h]
set_option maxHeartbeats 4000000 in
theorem common9_any (a b : List UInt8) (ha : a.length ≤ 140737488351232) (hb : b.length ≤ 140737488351232) (w : World) :
    Calls Tryz.prog 71 #[.string (S a), .string (S b)] w fun e w' => e = .returned (.int .i64 (M.com a b : Nat)) ∧ Below w.heap.size w w' := by
  go_enter Tryz.func71, Tryz.ntmps71
  go_wp2_with fail
  go_loopw [5] (fun i wr => ∃ k : Nat, k ≤ a.length ∧ k ≤ b.length ∧ i = .int .i64 k ∧ Hid (∀ j, j < k → a.getD j 0 = b.getD j 0) ∧ Hid (Below w.heap.size w wr)) (fun i _ => a.length - (intOf i).toNat)
  case atStart => exact ⟨0, Nat.zero_le _, Nat.zero_le _, rfl, Lib.hid (fun j hj => by omega), Lib.hid (Below.refl _ _)⟩
  case round =>
    obtain ⟨k, hk1, hk2, rfl, HJ, HB⟩ := hrel
    by_cases h1 : k < a.length
    case neg =>
      have hd : decide ((k : Int) < (a.length : Int)) = false := by simp; omega
      have HE := Lib.hid (M.com_is k a b hk1 hk2 HJ.out (.inl (by omega)))
      go_wp2_with fail
      refine wp_region_quiet_below (by kernel_rfl) (by kernel_rfl) ?_
      repeat (any_goals (first | go_big_quiet_step ((fail)) | quiet_step ((fail))))
      refine wpQuiet_nil ?_
      intro _ hw1
      obtain ⟨⟨d1, d1o⟩, hw1⟩ := hw1
      subst hw1
      replace HB := carry (below_regrown wr d1 d1o) HB
      go_wp2_with fail
      go_ret
      exact ⟨ret_int (by rw [HE.out]), HB.out⟩
    by_cases h2 : k < b.length
    case neg =>
      have hd : decide ((k : Int) < (a.length : Int)) = true := by simp; omega
      have hd2 : decide ((k : Int) < (b.length : Int)) = false := by simp; omega
      have HE := Lib.hid (M.com_is k a b hk1 hk2 HJ.out (.inr (.inl (by omega))))
      go_wp2_with fail
      refine wp_region_quiet_below (by kernel_rfl) (by kernel_rfl) ?_
      repeat (any_goals (first | go_big_quiet_step ((fail)) | quiet_step ((fail))))
      refine wpQuiet_nil ?_
      intro _ hw1
      obtain ⟨⟨d1, d1o⟩, hw1⟩ := hw1
      subst hw1
      replace HB := carry (below_regrown wr d1 d1o) HB
      go_wp2_with fail
      go_ret
      exact ⟨ret_int (by rw [HE.out]), HB.out⟩
    have hd : decide ((k : Int) < (a.length : Int)) = true := by simp; omega
    have hd2 : decide ((k : Int) < (b.length : Int)) = true := by simp; omega
    have g1 : (k : Int) < (a.length : Int) := by omega
    have g2 : (k : Int) < (b.length : Int) := by omega
    by_cases h3 : a.getD k 0 = b.getD k 0
    · have hq : (B a k == B b k) = true := by rw [B_same]; simpa using h3
      have HJ2 := Lib.hid (show ∀ j, j < k + 1 → a.getD j 0 = b.getD j 0 from fun j hj => by
        by_cases e : j = k
        · rw [e]; exact h3
        · exact HJ.out j (by omega))
      clear h3
      go_wp2_with fail
      refine wp_region_quiet_below (by kernel_rfl) (by kernel_rfl) ?_
      repeat (any_goals (first | go_big_quiet_step ((fail)) | quiet_step ((fail))))
      refine wpQuiet_nil ?_
      intro _ hw1
      obtain ⟨⟨d1, d1o⟩, hw1⟩ := hw1
      subst hw1
      replace HB := carry (below_regrown wr d1 d1o) HB
      go_wp2_with fail
      go_roundw
      case rel => exact ⟨k + 1, by omega, by omega, by go_num, HJ2, HB⟩
      case measure => simp [intOf]; omega
    · have hq : (B a k == B b k) = false := by rw [B_same]; simpa using h3
      have HE := Lib.hid (M.com_is k a b hk1 hk2 HJ.out (.inr (.inr h3)))
      clear h3
      go_wp2_with fail
      refine wp_region_quiet_below (by kernel_rfl) (by kernel_rfl) ?_
      repeat (any_goals (first | go_big_quiet_step ((fail)) | quiet_step ((fail))))
      refine wpQuiet_nil ?_
      intro _ hw1
      obtain ⟨⟨d1, d1o⟩, hw1⟩ := hw1
      subst hw1
      replace HB := carry (below_regrown wr d1 d1o) HB
      go_wp2_with fail
      go_ret
      exact ⟨ret_int (by rw [HE.out]), HB.out⟩

end Go.Proofs.YtnhljlmelbiljaaGreat

/- Layer 9: what tells that cells are out of order: a closure that keeps the last one; whether cells are sorted. -/
namespace Go.Proofs.YtnhljlmelbiljaaGreat
set_option linter.unusedVariables false
open Go Go.RowKit
attribute [local go_sem ↓] run_index_S
attribute [local go_sem] S_append S_extract

theorem grown_of_below {w w' : World} (h : Below w.heap.size w w') (row : Option Nat) : w.grownBy w' row := ⟨h.os, h.tape, h.output, h.size, fun i hi _ => h.block i hi⟩
/-- The closure's variable: the last cell that it saw. -/
def DisAt (w : World) (d : Nat) : Option M.Cl → Prop
  | none => RowIn #[.pointer none] 161 w d
  | some q => ∃ g, g ≠ d ∧ RowIn #[.pointer (some ⟨g, 0, none⟩)] 161 w d ∧ RowIn (clA q) 162 w g
theorem DisAt.below {w w' : World} {d : Nat} {p : Option M.Cl} (h : DisAt w d p) (hb : Below w.heap.size w w') : DisAt w' d p := by
  cases p with
  | none => exact RowIn.below h hb
  | some q => obtain ⟨g, h0, h1, h2⟩ := h; exact ⟨g, h0, h1.below hb, h2.below hb⟩
instance car_dis {w w' : World} {d : Nat} {p : Option M.Cl} : Car w w' (DisAt w d p) (DisAt w' d p) := ⟨fun hb h => h.below hb⟩
set_option maxHeartbeats 1000000 in
theorem disorder_any (w : World) :
    Calls Tryz.prog 68 #[] w fun e w' => e = .returned (.func (.func 96) #[] #[.pointer (some ⟨w.heap.size, 0, none⟩)]) ∧ w' = w.alloc (.cells #[.pointer none] 161) := by
  have hmf : ∀ (fn : Fn) (first cap : Array Value) (w : World), (Instr.makeFunc fn first cap).run Tryz.prog w = .ok (.func fn first cap) w := fun _ _ _ _ => rfl
  go_enter Tryz.func68, Tryz.ntmps68
  go_wp2_with fail
  go_ret
  exact ⟨rfl, rfl⟩

/-- What the closure's call comes to. -/
def Dis1R (b : Bool) (c : M.Cl) (d : Nat) (w : World) (e : Ending) (w' : World) : Prop := e = .returned (.bool (!b)) ∧ (b = true → DisAt w' d (some c)) ∧ w.grownBy w' (some d)

set_option maxHeartbeats 4000000 in
set_option maxRecDepth 100000 in
theorem dis1_none (c : M.Cl) (hc : ClOk c) (d : Nat) (w : World) (h : DisAt w d none) :
    Calls Tryz.prog 96 #[.agg (clA c), .pointer (some ⟨d, 0, none⟩)] w fun e w' => Dis1R (M.nextB none c) c d w e w' := by
  have HD := Lib.hid (show RowIn #[.pointer none] 161 w d from h)
  have HLT := Lib.hid (show d < w.heap.size from RowIn.lt h)
  clear h
  have CI := Lib.hid (fun W => is9_any c hc W)
  have HB := Lib.hid (Below.refl w.heap.size w)
  clear hc
  have hn : M.nextB none c = M.mayC c := by simp [M.nextB]
  rw [hn]
  clear hn
  generalize M.mayC c = mb at *
  replace HB := carryA (w := w) (.cells (clA c) 38) HB
  replace HD := carryA (w := w) (.cells (clA c) 38) HD
  have HX := Lib.hid ((rowIn_new (clA c) 38 w).more (.cells (clA c) 162))
  have HN := Lib.hid (rowIn_at (clA c) 162 (w.alloc (.cells (clA c) 38)) (w.heap.size + 1) (by rw [szA]))
  replace HB := carryA (w := w.alloc (.cells (clA c) 38)) (.cells (clA c) 162) HB
  replace HD := carryA (w := w.alloc (.cells (clA c) 38)) (.cells (clA c) 162) HD
  go_enter Tryz.func96, Tryz.ntmps96
  go_wp2_with fail
  change Code.wp _ _ _ _ ((w.alloc (.cells (clA c) 38)).alloc (.cells (clA c) 162))
  generalize ((w.alloc (.cells (clA c) 38)).alloc (.cells (clA c) 162)) = W2 at *
  cases mb with
  | false =>
    have x0 := HX.out.gcell 0 rfl
    have x1 := HX.out.gcell 1 rfl
    have x2 := HX.out.gcell 2 rfl
    have n0 := HN.out.gcell 0 rfl
    have n1 := HN.out.gcell 1 rfl
    have n2 := HN.out.gcell 2 rfl
    have d0 := HD.out.gcell 0 rfl
    refine wp_region_quiet_below (by kernel_rfl) (by kernel_rfl) ?_
    repeat (any_goals (first | go_big_quiet_step ((first | (go_at_call 97; with_reducible exact Calls.regrown_of (CI.out _)))) | quiet_step ((first | (go_at_call 97; with_reducible exact Calls.regrown_of (CI.out _))))))
    refine wpQuiet_nil ?_
    intro _ hw1
    obtain ⟨⟨d1, d1o⟩, hw1⟩ := hw1
    subst hw1
    clear x0 x1 x2 n0 n1 n2 d0
    replace HB := carry (below_regrown W2 d1 d1o) HB
    replace HD := carry (below_regrown W2 d1 d1o) HD
    replace HN := carry (below_regrown W2 d1 d1o) HN
    go_wp2_with fail
    go_ret
    exact ⟨rfl, fun h => by simp at h, grown_of_below HB.out _⟩
  | true =>
    have x0 := HX.out.gcell 0 rfl
    have x1 := HX.out.gcell 1 rfl
    have x2 := HX.out.gcell 2 rfl
    have n0 := HN.out.gcell 0 rfl
    have n1 := HN.out.gcell 1 rfl
    have n2 := HN.out.gcell 2 rfl
    have d0 := HD.out.gcell 0 rfl
    refine wp_region_quiet_below (by kernel_rfl) (by kernel_rfl) ?_
    repeat (any_goals (first | go_big_quiet_step ((first | (go_at_call 97; with_reducible exact Calls.regrown_of (CI.out _)))) | quiet_step ((first | (go_at_call 97; with_reducible exact Calls.regrown_of (CI.out _))))))
    refine wpQuiet_nil ?_
    intro _ hw1
    obtain ⟨⟨d1, d1o⟩, hw1⟩ := hw1
    subst hw1
    clear x0 x1 x2 n0 n1 n2 d0
    replace HB := carry (below_regrown W2 d1 d1o) HB
    replace HD := carry (below_regrown W2 d1 d1o) HD
    replace HN := carry (below_regrown W2 d1 d1o) HN
    generalize Sort.grow (redrawn W2 d1) d1o = W3 at *
    have f0 := HD.out.free 0
    have c0 : W3.cell? ⟨d, 0, none⟩ = some _ := HD.out.cell 0
    go_wp2_with fail
    go_ret
    have hne : w.heap.size + 1 ≠ d := by have := HLT.out; omega
    exact ⟨rfl, fun _ => ⟨w.heap.size + 1, hne, HD.out.set 0 _, HN.out.other hne 0 _⟩, (grown_of_below HB.out _).trans (grownBy_setCell' _ _ _)⟩

set_option maxHeartbeats 4000000 in
set_option maxRecDepth 100000 in
theorem dis1_some (c : M.Cl) (hc : ClOk c) (q : M.Cl) (d : Nat) (w : World) (h : DisAt w d (some q)) :
    Calls Tryz.prog 96 #[.agg (clA c), .pointer (some ⟨d, 0, none⟩)] w fun e w' => Dis1R (M.nextB (some q) c) c d w e w' := by
  obtain ⟨g, hgd, hd0, hq0⟩ := h
  have HD := Lib.hid hd0
  have HQ := Lib.hid hq0
  have HLT := Lib.hid (show d < w.heap.size from RowIn.lt hd0)
  have CA := Lib.hid (fun W => ahead9_any q c W)
  clear hd0 hq0 hgd
  have CI := Lib.hid (fun W => is9_any c hc W)
  have HB := Lib.hid (Below.refl w.heap.size w)
  clear hc
  have hn : M.nextB (some q) c = (M.mayC c && M.aheadC q c) := rfl
  rw [hn]
  clear hn
  generalize M.aheadC q c = ah at *
  generalize M.mayC c = mb at *
  replace HB := carryA (w := w) (.cells (clA c) 38) HB
  replace HD := carryA (w := w) (.cells (clA c) 38) HD
  replace HQ := carryA (w := w) (.cells (clA c) 38) HQ
  have HX := Lib.hid ((rowIn_new (clA c) 38 w).more (.cells (clA c) 162))
  have HN := Lib.hid (rowIn_at (clA c) 162 (w.alloc (.cells (clA c) 38)) (w.heap.size + 1) (by rw [szA]))
  replace HB := carryA (w := w.alloc (.cells (clA c) 38)) (.cells (clA c) 162) HB
  replace HD := carryA (w := w.alloc (.cells (clA c) 38)) (.cells (clA c) 162) HD
  replace HQ := carryA (w := w.alloc (.cells (clA c) 38)) (.cells (clA c) 162) HQ
  go_enter Tryz.func96, Tryz.ntmps96
  go_wp2_with fail
  change Code.wp _ _ _ _ ((w.alloc (.cells (clA c) 38)).alloc (.cells (clA c) 162))
  generalize ((w.alloc (.cells (clA c) 38)).alloc (.cells (clA c) 162)) = W2 at *
  cases mb with
  | false =>
    have x0 := HX.out.gcell 0 rfl
    have x1 := HX.out.gcell 1 rfl
    have x2 := HX.out.gcell 2 rfl
    have n0 := HN.out.gcell 0 rfl
    have n1 := HN.out.gcell 1 rfl
    have n2 := HN.out.gcell 2 rfl
    have d0 := HD.out.gcell 0 rfl
    have q0 := HQ.out.gcell 0 rfl
    have q1 := HQ.out.gcell 1 rfl
    have q2 := HQ.out.gcell 2 rfl
    refine wp_region_quiet_below (by kernel_rfl) (by kernel_rfl) ?_
    repeat (any_goals (first | go_big_quiet_step ((first | (go_at_call 97; with_reducible exact Calls.regrown_of (CI.out _)) | (go_at_call 99; with_reducible exact Calls.regrown_of (CA.out _)))) | quiet_step ((first | (go_at_call 97; with_reducible exact Calls.regrown_of (CI.out _)) | (go_at_call 99; with_reducible exact Calls.regrown_of (CA.out _))))))
    refine wpQuiet_nil ?_
    intro _ hw1
    obtain ⟨⟨d1, d1o⟩, hw1⟩ := hw1
    subst hw1
    clear x0 x1 x2 n0 n1 n2 d0 q0 q1 q2
    replace HB := carry (below_regrown W2 d1 d1o) HB
    replace HD := carry (below_regrown W2 d1 d1o) HD
    replace HN := carry (below_regrown W2 d1 d1o) HN
    go_wp2_with fail
    go_ret
    exact ⟨rfl, fun h => by simp at h, grown_of_below HB.out _⟩
  | true =>
    cases ah with
    | false =>
      have x0 := HX.out.gcell 0 rfl
      have x1 := HX.out.gcell 1 rfl
      have x2 := HX.out.gcell 2 rfl
      have n0 := HN.out.gcell 0 rfl
      have n1 := HN.out.gcell 1 rfl
      have n2 := HN.out.gcell 2 rfl
      have d0 := HD.out.gcell 0 rfl
      have q0 := HQ.out.gcell 0 rfl
      have q1 := HQ.out.gcell 1 rfl
      have q2 := HQ.out.gcell 2 rfl
      refine wp_region_quiet_below (by kernel_rfl) (by kernel_rfl) ?_
      repeat (any_goals (first | go_big_quiet_step ((first | (go_at_call 97; with_reducible exact Calls.regrown_of (CI.out _)) | (go_at_call 99; with_reducible exact Calls.regrown_of (CA.out _)))) | quiet_step ((first | (go_at_call 97; with_reducible exact Calls.regrown_of (CI.out _)) | (go_at_call 99; with_reducible exact Calls.regrown_of (CA.out _))))))
      refine wpQuiet_nil ?_
      intro _ hw1
      obtain ⟨⟨d1, d1o⟩, hw1⟩ := hw1
      subst hw1
      clear x0 x1 x2 n0 n1 n2 d0 q0 q1 q2
      replace HB := carry (below_regrown W2 d1 d1o) HB
      replace HD := carry (below_regrown W2 d1 d1o) HD
      replace HN := carry (below_regrown W2 d1 d1o) HN
      go_wp2_with fail
      go_ret
      exact ⟨rfl, fun h => by simp at h, grown_of_below HB.out _⟩
    | true =>
      have x0 := HX.out.gcell 0 rfl
      have x1 := HX.out.gcell 1 rfl
      have x2 := HX.out.gcell 2 rfl
      have n0 := HN.out.gcell 0 rfl
      have n1 := HN.out.gcell 1 rfl
      have n2 := HN.out.gcell 2 rfl
      have d0 := HD.out.gcell 0 rfl
      have q0 := HQ.out.gcell 0 rfl
      have q1 := HQ.out.gcell 1 rfl
      have q2 := HQ.out.gcell 2 rfl
      refine wp_region_quiet_below (by kernel_rfl) (by kernel_rfl) ?_
      repeat (any_goals (first | go_big_quiet_step ((first | (go_at_call 97; with_reducible exact Calls.regrown_of (CI.out _)) | (go_at_call 99; with_reducible exact Calls.regrown_of (CA.out _)))) | quiet_step ((first | (go_at_call 97; with_reducible exact Calls.regrown_of (CI.out _)) | (go_at_call 99; with_reducible exact Calls.regrown_of (CA.out _))))))
      refine wpQuiet_nil ?_
      intro _ hw1
      obtain ⟨⟨d1, d1o⟩, hw1⟩ := hw1
      subst hw1
      clear x0 x1 x2 n0 n1 n2 d0 q0 q1 q2
      replace HB := carry (below_regrown W2 d1 d1o) HB
      replace HD := carry (below_regrown W2 d1 d1o) HD
      replace HN := carry (below_regrown W2 d1 d1o) HN
      generalize Sort.grow (redrawn W2 d1) d1o = W3 at *
      have f0 := HD.out.free 0
      have c0 : W3.cell? ⟨d, 0, none⟩ = some _ := HD.out.cell 0
      go_wp2_with fail
      go_ret
      have hne : w.heap.size + 1 ≠ d := by have := HLT.out; omega
      exact ⟨rfl, fun _ => ⟨w.heap.size + 1, hne, HD.out.set 0 _, HN.out.other hne 0 _⟩, (grown_of_below HB.out _).trans (grownBy_setCell' _ _ _)⟩

theorem dis1_any (c : M.Cl) (hc : ClOk c) (p : Option M.Cl) (d : Nat) (w : World) (h : DisAt w d p) :
    Calls Tryz.prog 96 #[.agg (clA c), .pointer (some ⟨d, 0, none⟩)] w fun e w' => Dis1R (M.nextB p c) c d w e w' := by
  cases p with
  | none => exact dis1_none c hc d w h
  | some q => exact dis1_some c hc q d w h

end Go.Proofs.YtnhljlmelbiljaaGreat

/- Layer 9: whether cells are sorted, by contracts. -/
namespace Go.Proofs.YtnhljlmelbiljaaGreat
set_option linter.unusedVariables false
open Go Go.RowKit
attribute [local go_sem ↓] run_index_S
attribute [local go_sem] S_append S_extract

theorem takeC_snoc {L : List M.Cl} {k : Nat} (h : k < L.length) : L.take (k + 1) = L.take k ++ [L.getD k M.cl0] := by
  rw [List.take_succ_eq_append_getElem h]; simp [List.getD, List.getElem?_eq_getElem h]
theorem memC {L : List M.Cl} {P : M.Cl → Prop} (h : ∀ c ∈ L, P c) {k : Nat} (hk : k < L.length) : P (L.getD k M.cl0) := by
  rw [show L.getD k M.cl0 = L[k] from by simp [List.getD, List.getElem?_eq_getElem hk]]; exact h _ (List.getElem_mem hk)
theorem M.srt_take {L : List M.Cl} {n : Nat} (h : M.srt none L = true) : M.srt none (L.take n) = true := by
  rw [← List.take_append_drop n L, M.srt_append] at h
  simp only [Bool.and_eq_true] at h
  exact h.1
def IdxR (b : Bool) (w0 : World) (e : Ending) (w' : World) : Prop := ∃ k : Int, e = .returned (.int .i64 k) ∧ decide (0 ≤ k) = !b ∧ Below w0.heap.size w0 w'
set_option maxHeartbeats 2000000 in
theorem indexF_any (L : List M.Cl) (hl : L.length ≤ 1000000) (ao : Option Addr) (cap d : Nat) (w0 : World) (hC : ClsAt w0 ao L) (hv : ∀ c ∈ L, ClOk c) (hd0 : w0.heap.size ≤ d) (w : World) (hb : Below w0.heap.size w0 w) (hd : DisAt w d none) :
    Calls Tryz.prog 66 #[.slice ao L.length cap, .func (.func 96) #[] #[.pointer (some ⟨d, 0, none⟩)]] w fun e w' => IdxR (M.srt none L) w0 e w' := by
  have HC := Lib.hid hC
  have HV := Lib.hid hv
  have HB := Lib.hid hb
  have HD := Lib.hid hd
  clear hC hv hb hd
  go_enter Tryz.func66, Tryz.ntmps66
  go_wp2_with fail
  go_loopw [8] (fun i wr => ∃ k : Nat, k ≤ L.length ∧ i = .int .i64 k ∧ Hid (M.srt none (L.take k) = true) ∧ Hid (DisAt wr d (M.lastO none (L.take k))) ∧ Hid (Below w0.heap.size w0 wr)) (fun i _ => L.length - (intOf i).toNat)
  case atStart => exact ⟨0, Nat.zero_le _, rfl, Lib.hid rfl, HD, HB⟩
  case round =>
    clear HD HB
    obtain ⟨k, hk, rfl, HS, HD, HB⟩ := hrel
    by_cases hlt : k < L.length
    · have hd : decide ((k : Int) < (L.length : Int)) = true := by simp; omega
      have hki : (k : Int) < (L.length : Int) := by omega
      obtain ⟨g, off, rfl, hc⟩ := (HC.out.below HB.out).off k hlt
      obtain ⟨x0, x1, x2⟩ := hc
      have HF := Lib.hid (memC HV.out hlt)
      have HT := Lib.hid (takeC_snoc hlt)
      have HN := Lib.hid (show M.srt none (L.take (k + 1)) = (M.srt none (L.take k) && M.nextB (M.lastO none (L.take k)) (L.getD k M.cl0)) from by rw [HT.out, M.srt_snoc])
      have HO := Lib.hid (show M.lastO none (L.take (k + 1)) = some (L.getD k M.cl0) from by rw [HT.out, M.lastO_snoc])
      generalize L.getD k M.cl0 = c at *
      generalize M.lastO none (L.take k) = p at *
      go_wp2_with fail
      with_reducible refine (dis1_any c HF.out p d _ HD.out).mono ?_
      rintro e w1 ⟨rfl, h1, h2⟩
      have HB1 := Lib.hid (HB.out.grown h2 HB.out.size (fun q hq => by cases hq; exact hd0))
      cases hn : M.nextB p c with
      | true =>
        have HD1 := Lib.hid (h1 hn)
        have HN1 := Lib.hid (show M.srt none (L.take (k + 1)) = true from by rw [HN.out, HS.out, hn]; rfl)
        clear h1 h2 hn x0 x1 x2
        go_wp2_with fail
        go_roundw
        case rel => exact ⟨k + 1, by omega, by go_num, HN1, by rw [HO.out]; exact HD1, HB1⟩
        case measure => simp [intOf]; omega
      | false =>
        have HE := Lib.hid (show M.srt none L = false from by
          cases hs : M.srt none L with
          | false => rfl
          | true =>
            have := M.srt_take (n := k + 1) hs
            rw [HN.out, hn] at this
            simp at this)
        clear h1 h2 hn x0 x1 x2
        go_wp2_with fail
        go_ret
        exact ⟨_, rfl, by rw [HE.out]; simp, HB1.out⟩
    · obtain rfl : k = L.length := by omega
      have hd : decide ((L.length : Int) < (L.length : Int)) = false := by simp
      have HE := Lib.hid (show M.srt none L = true from by have := HS.out; rwa [List.take_length] at this)
      go_wp2_with fail
      go_ret
      exact ⟨-1, rfl, by rw [HE.out]; rfl, HB.out⟩

set_option maxHeartbeats 1000000 in
theorem containsF_any (L : List M.Cl) (hl : L.length ≤ 1000000) (ao : Option Addr) (cap d : Nat) (w0 : World) (hC : ClsAt w0 ao L) (hv : ∀ c ∈ L, ClOk c) (hd0 : w0.heap.size ≤ d) (w : World) (hb : Below w0.heap.size w0 w) (hd : DisAt w d none) :
    Calls Tryz.prog 67 #[.slice ao L.length cap, .func (.func 96) #[] #[.pointer (some ⟨d, 0, none⟩)]] w fun e w' => e = .returned (.bool (!M.srt none L)) ∧ Below w0.heap.size w0 w' := by
  have C := Lib.hid (indexF_any L hl ao cap d w0 hC hv hd0 w hb hd)
  clear hC hv hb hd
  go_enter Tryz.func67, Tryz.ntmps67
  go_wp2_with fail
  with_reducible refine (C.out).mono ?_
  rintro e w1 ⟨k, rfl, hk, hb⟩
  have HB := Lib.hid hb
  clear hb
  have HK := Lib.hid hk
  clear hk
  go_wp2_with fail
  go_ret
  exact ⟨ret_bool HK.out, HB.out⟩

set_option maxHeartbeats 1000000 in
theorem sorted9_any (L : List M.Cl) (hl : L.length ≤ 1000000) (ao : Option Addr) (cap : Nat) (w : World) (hC : ClsAt w ao L) (hv : ∀ c ∈ L, ClOk c) :
    Calls Tryz.prog 44 #[.slice ao L.length cap] w fun e w' => e = .returned (.bool (M.srt none L)) ∧ Below w.heap.size w w' := by
  have HB := Lib.hid ((Below.refl w.heap.size w).alloc (Nat.le_refl _) (.cells #[.pointer none] 161))
  have C := Lib.hid (containsF_any L hl ao cap w.heap.size w hC hv (Nat.le_refl _) (w.alloc (.cells #[.pointer none] 161)) HB.out (rowIn_new _ _ _))
  clear hC hv
  go_enter Tryz.func44, Tryz.ntmps44
  go_wp2_with fail
  with_reducible refine (disorder_any _).mono ?_
  rintro e w1 ⟨rfl, rfl⟩
  go_wp2_with fail
  with_reducible refine (C.out).mono ?_
  rintro e w1 ⟨rfl, hb⟩
  have HB1 := Lib.hid hb
  clear hb
  go_wp2_with fail
  go_ret
  exact ⟨rfl, HB1.out⟩

end Go.Proofs.YtnhljlmelbiljaaGreat

/- Layer 9: the bytes of sorted cells, by a contract. -/
namespace Go.Proofs.YtnhljlmelbiljaaGreat
set_option linter.unusedVariables false
open Go Go.RowKit
attribute [local go_sem ↓] run_index_S
attribute [local go_sem] S_append S_extract

theorem BdAt.below {w w' : World} {B b : Nat} {l : List UInt8} (h : BdAt B b l w) (hb : Below w.heap.size w w') : BdAt B b l w' := by
  have go : ∀ p, Lib.BuilderAt 86 5 B b p (Lib.byteCells l) w → Lib.BuilderAt 86 5 B b p (Lib.byteCells l) w' := fun p hp => by
    have hlt := hp.lt
    obtain ⟨h1, v, h2, h3, h4⟩ := hp
    exact ⟨h1, v, (hb.block b hlt).trans h2, ownP_below h3 hb, h4⟩
  rcases h with h | h
  · exact .inl (go _ h)
  · exact .inr (go _ h)
theorem BdAt.lt9 {w : World} {B b : Nat} {l : List UInt8} (h : BdAt B b l w) : b < w.heap.size := by
  rcases h with h | h
  · exact h.lt
  · exact h.lt
instance car_bd {w w' : World} {B b : Nat} {l : List UInt8} : Car w w' (BdAt B b l w) (BdAt B b l w') := ⟨fun hb h => BdAt.below h hb⟩
theorem bd_any {w : World} {B b : Nat} {l : List UInt8} (h : BdAt B b l w) (hB : B ≤ w.heap.size) : Calls Tryz.prog 52 #[.pointer (some ⟨b, 0, none⟩)] w fun e w' => e = .returned (.string ⟨l.toArray⟩) ∧ Below B w w' :=
  Tryz.Builder_String_any B b l w h hB
theorem M.encOne_len {last : List UInt8} {c : M.Cl} (h : M.mayC c = true) : (M.encOne last c).length ≤ 240 := by
  have h1 := M.mayC_true.1 h
  have p1 := M.putN_length (M.com last c.key)
  have p2 := M.putN_length (c.key.drop (M.com last c.key)).length
  have p3 := M.putN_length c.seq.toNat
  have p4 := M.putN_length c.val.length
  simp only [M.encOne, M.putT, List.length_append, List.length_drop] at *
  omega
theorem M.encL_len {k : List UInt8} {L : List M.Cl} (h : ∀ c ∈ L, M.mayC c = true) : (M.encL k L).length ≤ 240 * L.length := by
  induction L generalizing k with
  | nil => simp [M.encL]
  | cons c L ih =>
    have h1 := M.encOne_len (last := k) (h c (by simp))
    have h2 := ih (k := c.key) (fun x hx => h x (by simp [hx]))
    simp only [M.encL, List.length_append, List.length_cons]
    omega
theorem M.lastK_len {L : List M.Cl} (h : ∀ c ∈ L, c.key.length ≤ 140737488351232) (k : List UInt8) (hk : k.length ≤ 140737488351232) : (M.lastK k L).length ≤ 140737488351232 := by
  induction L generalizing k with
  | nil => exact hk
  | cons c L ih => exact ih (fun x hx => h x (by simp [hx])) c.key (h c (by simp))
def EncR (b : Bool) (l : List UInt8) (w : World) (e : Ending) (w' : World) : Prop := e = .returned (if b then .tuple #[.string (S l), .int .i64 0] else .tuple #[.string ⟨#[]⟩, .int .i64 2]) ∧ Below w.heap.size w w'

set_option maxHeartbeats 4000000 in
set_option maxRecDepth 100000 in
theorem encode9_any (L : List M.Cl) (hl : L.length ≤ 1000000) (ao : Option Addr) (cap : Nat) (w : World) (hC : ClsAt w ao L) (hv : ∀ c ∈ L, ClOk c) :
    Calls Tryz.prog 47 #[.slice ao L.length cap] w fun e w' => EncR (M.srt none L) (M.encCs L) w e w' := by
  have HC := Lib.hid hC
  have HV := Lib.hid hv
  have CS := Lib.hid (sorted9_any L hl ao cap w hC hv)
  clear hC hv
  go_enter Tryz.func47, Tryz.ntmps47
  go_wp2_with fail
  with_reducible refine (CS.out).mono ?_
  rintro e w1 ⟨rfl, hb⟩
  have HB := Lib.hid hb
  clear hb CS
  cases hs : M.srt none L with
  | false =>
    have HS := Lib.hid hs
    clear hs
    go_wp2_with fail
    go_ret2
    exact ⟨by rw [HS.out]; rfl, HB.out⟩
  | true =>
    have HM := Lib.hid (M.srt_may hs)
    have HS := Lib.hid hs
    clear hs
    have HBD := Lib.hid (bd_new w1)
    have HWS := Lib.hid HB.out.size
    replace HB := carryA (w := w1) (.cells #[.pointer none, .slice none 0 0] 86) HB
    go_wp2_with fail
    with_reducible refine (put_nat L.length _ (by omega)).mono ?_
    rintro e w2 ⟨rfl, hb2⟩
    replace HB := carry hb2 HB
    replace HBD := carry hb2 HBD
    have HSZ := Lib.hid (show w1.heap.size ≤ w2.heap.size from Nat.le_trans (by rw [szA]; omega) hb2.size)
    clear hb2
    have hpl := M.putN_length L.length
    go_wp2_with fail
    with_reducible refine (write_any w1.heap.size w1.heap.size [] (M.putN L.length) w2 HBD.out (by simp; omega) HSZ.out).mono ?_
    rintro e w3 ⟨rfl, h3, hb3, -⟩
    rw [List.nil_append] at h3
    replace HBD := Lib.hid h3
    replace HB := Lib.hid (HB.out.trans (hb3.mono HWS.out))
    replace HSZ := Lib.hid (Nat.le_trans HSZ.out hb3.size)
    clear h3 hb3
    go_wp2_with fail
    go_loopw [5, 18] (fun v5 i wr => ∃ k : Nat, k ≤ L.length ∧ i = .int .i64 k ∧ v5 = .string (S (M.lastK [] (L.take k))) ∧ Hid (BdAt w1.heap.size w1.heap.size (M.putN L.length ++ M.encL [] (L.take k)) wr ∧ Below w.heap.size w wr ∧ w1.heap.size ≤ wr.heap.size)) (fun _ i _ => L.length - (intOf i).toNat)
    case atStart => exact ⟨0, Nat.zero_le _, rfl, rfl, Lib.hid ⟨by simpa [M.encL] using HBD.out, HB.out, HSZ.out⟩⟩
    case round =>
      clear HBD HB HSZ
      obtain ⟨k, hk, rfl, rfl, HH⟩ := hrel
      by_cases hlt : k < L.length
      · have hd : decide ((k : Int) < (L.length : Int)) = true := by simp; omega
        have hki : (k : Int) < (L.length : Int) := by omega
        obtain ⟨g, off, rfl, hc⟩ := (HC.out.below HH.out.2.1).off k hlt
        obtain ⟨x0, x1, x2⟩ := hc
        have hok := memC HV.out hlt
        have hmy := memC HM.out hlt
        have HT := Lib.hid (takeC_snoc hlt)
        have HE := Lib.hid (show M.encL [] (L.take (k + 1)) = M.encL [] (L.take k) ++ M.encOne (M.lastK [] (L.take k)) (L.getD k M.cl0) from by rw [HT.out, M.encL_snoc])
        have HO := Lib.hid (show M.lastK [] (L.take (k + 1)) = (L.getD k M.cl0).key from by rw [HT.out, M.lastK_snoc])
        have hal : (M.encL [] (L.take k)).length ≤ 240 * k := by
          have := M.encL_len (k := []) (fun c (hc : c ∈ L.take k) => HM.out c (List.mem_of_mem_take hc))
          have h2 := List.length_take_le k L
          omega
        have hll := M.lastK_len (fun c (hc : c ∈ L.take k) => (HV.out c (List.mem_of_mem_take hc)).1) [] (by simp)
        generalize L.getD k M.cl0 = c at *
        generalize M.lastK [] (L.take k) = lk at *
        generalize M.encL [] (L.take k) = acc at *
        have hm2 := M.mayC_true.1 hmy
        have hol := M.encOne_len (last := lk) hmy
        have hcl := M.com_le2 lk c.key
        obtain ⟨q, hq⟩ : ∃ q : Nat, c.seq = (q : Int) := ⟨c.seq.toNat, by omega⟩
        have hq9 : q ≤ 9223372036854775807 := by have := hok.2.2.h2; omega
        rw [hq] at x1
        have HQ := Lib.hid hq
        have HOL := Lib.hid hol
        have C1 := Lib.hid (fun W => put_nat (M.com lk c.key) W (by omega))
        have C2 := Lib.hid (fun W => putText_any (c.key.drop (M.com lk c.key)) W (by simp; omega))
        have C3 := Lib.hid (fun W => put_nat q W hq9)
        have C4 := Lib.hid (fun W => putText_any c.val W (by omega))
        have CC := Lib.hid (fun W => common9_any lk c.key hll (by omega) W)
        have HEO : Hid (M.encOne lk c = M.putN (M.com lk c.key) ++ ((M.putN (c.key.drop (M.com lk c.key)).length ++ c.key.drop (M.com lk c.key)) ++ (M.putN q ++ (M.putN c.val.length ++ c.val)))) := Lib.hid (by rw [M.encOne, hq]; simp only [M.putT, List.append_assoc]; rfl)
        have hkl := hm2.2.1
        have hvl := hm2.2.2.2
        clear hq hok hmy hm2 hol
        generalize M.com lk c.key = n at *
        have hp1 : (M.putN n).length ≤ 10 := (M.putN_length n).2
        have hp2 : (M.putN (c.key.drop n).length ++ c.key.drop n).length ≤ 100 := by have := (M.putN_length (c.key.drop n).length).2; simp only [List.length_append, List.length_drop] at *; omega
        have hp3 : (M.putN q).length ≤ 10 := (M.putN_length q).2
        have hp4 : (M.putN c.val.length ++ c.val).length ≤ 200 := by have := (M.putN_length c.val.length).2; simp only [List.length_append] at *; omega
        generalize M.putN n = e1 at *
        generalize M.putN (c.key.drop n).length ++ c.key.drop n = e2 at *
        generalize M.putN q = e3 at *
        generalize M.putN c.val.length ++ c.val = e4 at *
        have hs0 := run_piece_from (P := Tryz.prog) 9 Tryz.underlying9 c.key (n : Int) n rfl hcl
        go_wp2_with fail
        have HGE := Lib.hid (show w1.heap.size < wr.heap.size from Nat.lt_of_lt_of_le HH.out.1.lt9 (Nat.le_refl _))
        have HX := Lib.hid (rowIn_new #[.string (S c.key), .int .i64 (q : Int), .string (S c.val)] 38 wr)
        replace HH := carryA (w := wr) (.cells #[.string (S c.key), .int .i64 (q : Int), .string (S c.val)] 38) HH
        with_reducible refine (CC.out _).mono ?_
        rintro e w5 ⟨rfl, hb5⟩
        replace HX := carry hb5 HX
        replace HH := carry hb5 HH
        clear hb5 x0 x1 x2
        go_wp2_with fail
        have y0 := HX.out.gcell 0 rfl
        have y1 := HX.out.gcell 1 rfl
        have y2 := HX.out.gcell 2 rfl
        refine wp_region_quiet_tail 16 (by kernel_rfl) (by kernel_rfl) ?_
        simp only [List.take_succ_cons, List.take_zero, List.drop_succ_cons, List.drop_zero]
        repeat (any_goals (first | go_big_quiet_step ((first | (go_at_call 46; with_reducible exact Calls.regrown_of (C1.out _)) | (go_at_call 49; with_reducible exact Calls.regrown_of (C2.out _)) | (go_at_call 46; with_reducible exact Calls.regrown_of (C3.out _)) | (go_at_call 49; with_reducible exact Calls.regrown_of (C4.out _)))) | quiet_step ((first | (go_at_call 46; with_reducible exact Calls.regrown_of (C1.out _)) | (go_at_call 49; with_reducible exact Calls.regrown_of (C2.out _)) | (go_at_call 46; with_reducible exact Calls.regrown_of (C3.out _)) | (go_at_call 49; with_reducible exact Calls.regrown_of (C4.out _))))))
        refine wpQuiet_nil ?_
        intro _ hw1
        obtain ⟨⟨d1, d1o⟩, hw1⟩ := hw1
        subst hw1
        replace HX := carry (below_regrown w5 d1 d1o) HX
        replace HH := carry (below_regrown w5 d1 d1o) HH
        clear y0 y1 y2
        generalize Sort.grow (redrawn w5 d1) d1o = w6 at *
        have hlt2 : ((e1 ++ (e2 ++ (e3 ++ e4))).length : Nat) ≤ 240 := by have := HOL.out; rw [HEO.out] at this; exact this
        go_wp2_with fail
        with_reducible refine (write_any w1.heap.size w1.heap.size (M.putN L.length ++ acc) (e1 ++ (e2 ++ (e3 ++ e4))) w6 HH.out.1 (by simp only [List.length_append] at *; omega) HH.out.2.2).mono ?_
        rintro e w7 ⟨rfl, h7, hb7, hk7⟩
        have HX7 := Lib.hid (hk7 _ _ _ (by decide) (by have := HGE.out; omega) HX.out)
        have HH7 := Lib.hid (show BdAt w1.heap.size w1.heap.size (M.putN L.length ++ (acc ++ (e1 ++ (e2 ++ (e3 ++ e4))))) w7 ∧ Below w.heap.size w w7 ∧ w1.heap.size ≤ w7.heap.size from ⟨by rw [← List.append_assoc]; exact h7, HH.out.2.1.trans (hb7.mono HWS.out), Nat.le_trans HH.out.2.2 hb7.size⟩)
        clear h7 hb7 hk7 HX HH hlt2
        have y0 : w7.cell? ⟨wr.heap.size, 0, none⟩ = some (.string (S c.key)) := HX7.out.cell 0
        go_wp2_with fail
        go_roundw
        case rel => exact ⟨k + 1, by omega, by go_num, by rw [HO.out], Lib.hid (by rw [HE.out, HEO.out]; exact HH7.out)⟩
        case measure => simp [intOf]; omega
      · obtain rfl : k = L.length := by omega
        have hd : decide ((L.length : Int) < (L.length : Int)) = false := by simp
        have HF := Lib.hid (show BdAt w1.heap.size w1.heap.size (M.encCs L) wr from by have := HH.out.1; rwa [List.take_length] at this)
        go_wp2_with fail
        with_reducible refine (bd_any HF.out HH.out.2.2).mono ?_
        rintro e w8 ⟨rfl, hb8⟩
        have HB8 := Lib.hid (HH.out.2.1.trans (hb8.mono HWS.out))
        clear hb8
        go_wp2_with fail
        go_ret2
        exact ⟨by rw [HS.out]; rfl, HB8.out⟩

end Go.Proofs.YtnhljlmelbiljaaGreat

/- Layer 9: the cell that stands at a place, by a contract. -/
namespace Go.Proofs.YtnhljlmelbiljaaGreat
set_option linter.unusedVariables false
open Go Go.RowKit
attribute [local go_sem ↓] run_index_S
attribute [local go_sem] S_append S_extract

def ReadR (r : Option (M.Cl × Nat)) (w : World) (e : Ending) (w' : World) : Prop := (match r with
  | some (c, nx) => e = .returned (.tuple #[.agg (clA c), .int .i64 nx, .bool true])
  | none => ∃ c : M.Cl, e = .returned (.tuple #[.agg (clA c), .int .i64 0, .bool false])) ∧ Below w.heap.size w w'
theorem ReadR.no {c : M.Cl} {w : World} {e : Ending} {w' : World} (h : e = .returned (.tuple #[.agg (clA c), .int .i64 0, .bool false])) (hb : Below w.heap.size w w') : ReadR none w e w' := ⟨⟨c, h⟩, hb⟩
abbrev clZ9 : Array Value := #[.string ⟨#[]⟩, .int .i64 0, .string ⟨#[]⟩]

set_option maxHeartbeats 4000000 in
set_option maxRecDepth 100000 in
theorem read_a (s last : List UInt8) (at_ : Nat) (hs : s.length ≤ 1000000) (hla : last.length ≤ 1000000) (w : World) (h1 : M.gets s at_ = none) :
    Calls Tryz.prog 123 #[.string (S s), .int .i64 at_, .string (S last)] w fun e w' => ReadR none w e w' := by
  have C1 := Lib.hid (fun W => get_any s at_ W (by omega))
  rw [h1] at C1
  simp only [tri] at C1
  clear h1
  have HX := Lib.hid (rowIn_new clZ9 38 w)
  have HB := Lib.hid ((Below.refl w.heap.size w).alloc (Nat.le_refl _) (.cells clZ9 38))
  go_enter Tryz.func123, Tryz.ntmps123
  go_wp2_with fail
  with_reducible refine (C1.out _).mono ?_
  rintro e w1 ⟨rfl, rfl⟩
  go_wp2_with (first
    | (refine wpList_load_row rfl 38 _ rfl w.heap.size rfl 38 _ (0, 0) _ HX.out Tryz.underlying38 rfl ?_ ?_; kernel_rfl)
    | (refine wpList_store_hid rfl 38 _ _ rfl w.heap.size _ rfl rfl 38 _ HX.out ?_ rfl (by simp [Value.oneCell']) ?_; kernel_rfl; intro wE hrQ hbelQ hothQ hszQ; have HXE := Lib.hid hrQ; have HBE := Lib.hid (hbelQ w.heap.size w (Nat.le_refl _) HB.out); clear hrQ hbelQ hothQ hszQ))
  try simp only [Exit.inBlock, Exit.then]
  exact bodyPost_ret (ret_rowP3 rfl _ _ w.heap.size rfl (load_struct Tryz.underlying38 (by kernel_rfl) HXE.out)) rfl (ReadR.no (c := ⟨[], 0, []⟩) rfl HBE.out)

set_option maxHeartbeats 4000000 in
set_option maxRecDepth 100000 in
theorem read_b (s last : List UInt8) (at_ : Nat) (hs : s.length ≤ 1000000) (hla : last.length ≤ 1000000) (w : World) (n a1 : Nat) (h1 : M.gets s at_ = some (n, a1)) (h2 : last.length < n) :
    Calls Tryz.prog 123 #[.string (S s), .int .i64 at_, .string (S last)] w fun e w' => ReadR none w e w' := by
  have C1 := Lib.hid (fun W => get_any s at_ W (by omega))
  rw [h1] at C1
  simp only [tri] at C1
  clear h1
  have HX := Lib.hid (rowIn_new clZ9 38 w)
  have HB := Lib.hid ((Below.refl w.heap.size w).alloc (Nat.le_refl _) (.cells clZ9 38))
  have d2 : decide ((last.length : Int) < (n : Int)) = true := by simp; omega
  go_enter Tryz.func123, Tryz.ntmps123
  go_wp2_with fail
  with_reducible refine (C1.out _).mono ?_
  rintro e w1 ⟨rfl, rfl⟩
  go_wp2_with (first
    | (refine wpList_load_row rfl 38 _ rfl w.heap.size rfl 38 _ (0, 0) _ HX.out Tryz.underlying38 rfl ?_ ?_; kernel_rfl)
    | (refine wpList_store_hid rfl 38 _ _ rfl w.heap.size _ rfl rfl 38 _ HX.out ?_ rfl (by simp [Value.oneCell']) ?_; kernel_rfl; intro wE hrQ hbelQ hothQ hszQ; have HXE := Lib.hid hrQ; have HBE := Lib.hid (hbelQ w.heap.size w (Nat.le_refl _) HB.out); clear hrQ hbelQ hothQ hszQ))
  try simp only [Exit.inBlock, Exit.then]
  exact bodyPost_ret (ret_rowP3 rfl _ _ w.heap.size rfl (load_struct Tryz.underlying38 (by kernel_rfl) HXE.out)) rfl (ReadR.no (c := ⟨[], 0, []⟩) rfl HBE.out)

set_option maxHeartbeats 4000000 in
set_option maxRecDepth 100000 in
theorem read_c (s last : List UInt8) (at_ : Nat) (hs : s.length ≤ 1000000) (hla : last.length ≤ 1000000) (w : World) (n a1 : Nat) (h1 : M.gets s at_ = some (n, a1)) (h2 : n ≤ last.length) (h3 : M.getTs s a1 = none) :
    Calls Tryz.prog 123 #[.string (S s), .int .i64 at_, .string (S last)] w fun e w' => ReadR none w e w' := by
  have C1 := Lib.hid (fun W => get_any s at_ W (by omega))
  rw [h1] at C1
  simp only [tri] at C1
  clear h1
  have HX := Lib.hid (rowIn_new clZ9 38 w)
  have HB := Lib.hid ((Below.refl w.heap.size w).alloc (Nat.le_refl _) (.cells clZ9 38))
  have C2 := Lib.hid (fun W => getText_any s a1 W (by omega))
  rw [h3] at C2
  simp only [triT] at C2
  clear h3
  have d2 : decide ((last.length : Int) < (n : Int)) = false := by simp; omega
  go_enter Tryz.func123, Tryz.ntmps123
  go_wp2_with fail
  with_reducible refine (C1.out _).mono ?_
  rintro e w1 ⟨rfl, rfl⟩
  go_wp2_with fail
  with_reducible refine (C2.out _).mono ?_
  rintro e w1 ⟨rfl, rfl⟩
  go_wp2_with (first
    | (refine wpList_load_row rfl 38 _ rfl w.heap.size rfl 38 _ (0, 0) _ HX.out Tryz.underlying38 rfl ?_ ?_; kernel_rfl)
    | (refine wpList_store_hid rfl 38 _ _ rfl w.heap.size _ rfl rfl 38 _ HX.out ?_ rfl (by simp [Value.oneCell']) ?_; kernel_rfl; intro wE hrQ hbelQ hothQ hszQ; have HXE := Lib.hid hrQ; have HBE := Lib.hid (hbelQ w.heap.size w (Nat.le_refl _) HB.out); clear hrQ hbelQ hothQ hszQ))
  try simp only [Exit.inBlock, Exit.then]
  exact bodyPost_ret (ret_rowP3 rfl _ _ w.heap.size rfl (load_struct Tryz.underlying38 (by kernel_rfl) HXE.out)) rfl (ReadR.no (c := ⟨[], 0, []⟩) rfl HBE.out)

set_option maxHeartbeats 4000000 in
set_option maxRecDepth 100000 in
theorem read_d (s last : List UInt8) (at_ : Nat) (hs : s.length ≤ 1000000) (hla : last.length ≤ 1000000) (w : World) (n a1 : Nat) (h1 : M.gets s at_ = some (n, a1)) (h2 : n ≤ last.length) (rest : List UInt8) (a2 : Nat) (h3 : M.getTs s a1 = some (rest, a2)) (hr9 : rest.length ≤ 1000000) (h4 : ¬ M.com last (last.take n ++ rest) = n) :
    Calls Tryz.prog 123 #[.string (S s), .int .i64 at_, .string (S last)] w fun e w' => ReadR none w e w' := by
  have C1 := Lib.hid (fun W => get_any s at_ W (by omega))
  rw [h1] at C1
  simp only [tri] at C1
  clear h1
  have HX := Lib.hid (rowIn_new clZ9 38 w)
  have HB := Lib.hid ((Below.refl w.heap.size w).alloc (Nat.le_refl _) (.cells clZ9 38))
  have C2 := Lib.hid (fun W => getText_any s a1 W (by omega))
  rw [h3] at C2
  simp only [triT] at C2
  clear h3
  have d2 : decide ((last.length : Int) < (n : Int)) = false := by simp; omega
  have hs0 := run_piece_to (P := Tryz.prog) 9 Tryz.underlying9 last (n : Int) n rfl h2
  have hkl : (last.take n).length ≤ 1000000 := by simp; omega
  generalize last.take n = hd0 at *
  have hkk : (hd0 ++ rest).length ≤ 3000000 := by simp only [List.length_append]; omega
  have CC := Lib.hid (fun W => common9_any last (hd0 ++ rest) (by omega) (by omega) W)
  have HX1 := Lib.hid (rowIn_new #[.string (S (hd0 ++ rest)), .int .i64 0, .string ⟨#[]⟩] 38 w)
  have HB1 := Lib.hid ((Below.refl w.heap.size w).alloc (Nat.le_refl _) (.cells #[.string (S (hd0 ++ rest)), .int .i64 0, .string ⟨#[]⟩] 38))
  have d4 : ((M.com last (hd0 ++ rest) : Int) == (n : Int)) = false := by simp; omega
  clear h4
  generalize M.com last (hd0 ++ rest) = cm at *
  go_enter Tryz.func123, Tryz.ntmps123
  go_wp2_with fail
  with_reducible refine (C1.out _).mono ?_
  rintro e w1 ⟨rfl, rfl⟩
  go_wp2_with fail
  with_reducible refine (C2.out _).mono ?_
  rintro e w1 ⟨rfl, rfl⟩
  go_wp2_with fail
  with_reducible refine (CC.out _).mono ?_
  rintro e w2 ⟨rfl, hb2⟩
  have HX2 := Lib.hid (HX1.out.below hb2)
  have HB2 := Lib.hid (below_step HB1.out hb2)
  clear hb2 CC HX1 HB1 HX HB
  go_wp2_with (first
    | (refine wpList_load_row rfl 38 _ rfl w.heap.size rfl 38 _ (0, 0) _ HX2.out Tryz.underlying38 rfl ?_ ?_; kernel_rfl)
    | (refine wpList_store_hid rfl 38 _ _ rfl w.heap.size _ rfl rfl 38 _ HX2.out ?_ rfl (by simp [Value.oneCell']) ?_; kernel_rfl; intro wE hrQ hbelQ hothQ hszQ; have HXE := Lib.hid hrQ; have HBE := Lib.hid (hbelQ w.heap.size w (Nat.le_refl _) HB2.out); clear hrQ hbelQ hothQ hszQ))
  try simp only [Exit.inBlock, Exit.then]
  exact bodyPost_ret (ret_rowP3 rfl _ _ w.heap.size rfl (load_struct Tryz.underlying38 (by kernel_rfl) HXE.out)) rfl (ReadR.no (c := ⟨hd0 ++ rest, 0, []⟩) rfl HBE.out)

set_option maxHeartbeats 4000000 in
set_option maxRecDepth 100000 in
theorem read_e (s last : List UInt8) (at_ : Nat) (hs : s.length ≤ 1000000) (hla : last.length ≤ 1000000) (w : World) (n a1 : Nat) (h1 : M.gets s at_ = some (n, a1)) (h2 : n ≤ last.length) (rest : List UInt8) (a2 : Nat) (h3 : M.getTs s a1 = some (rest, a2)) (hr9 : rest.length ≤ 1000000) (h4 : M.com last (last.take n ++ rest) = n) (h5 : M.gets s a2 = none) :
    Calls Tryz.prog 123 #[.string (S s), .int .i64 at_, .string (S last)] w fun e w' => ReadR none w e w' := by
  have C1 := Lib.hid (fun W => get_any s at_ W (by omega))
  rw [h1] at C1
  simp only [tri] at C1
  clear h1
  have HX := Lib.hid (rowIn_new clZ9 38 w)
  have HB := Lib.hid ((Below.refl w.heap.size w).alloc (Nat.le_refl _) (.cells clZ9 38))
  have C2 := Lib.hid (fun W => getText_any s a1 W (by omega))
  rw [h3] at C2
  simp only [triT] at C2
  clear h3
  have d2 : decide ((last.length : Int) < (n : Int)) = false := by simp; omega
  have hs0 := run_piece_to (P := Tryz.prog) 9 Tryz.underlying9 last (n : Int) n rfl h2
  have hkl : (last.take n).length ≤ 1000000 := by simp; omega
  generalize last.take n = hd0 at *
  have hkk : (hd0 ++ rest).length ≤ 3000000 := by simp only [List.length_append]; omega
  have CC := Lib.hid (fun W => common9_any last (hd0 ++ rest) (by omega) (by omega) W)
  have HX1 := Lib.hid (rowIn_new #[.string (S (hd0 ++ rest)), .int .i64 0, .string ⟨#[]⟩] 38 w)
  have HB1 := Lib.hid ((Below.refl w.heap.size w).alloc (Nat.le_refl _) (.cells #[.string (S (hd0 ++ rest)), .int .i64 0, .string ⟨#[]⟩] 38))
  rw [h4] at CC
  clear h4
  have C5 := Lib.hid (fun W => get_any s a2 W (by omega))
  rw [h5] at C5
  simp only [tri] at C5
  clear h5
  go_enter Tryz.func123, Tryz.ntmps123
  go_wp2_with fail
  with_reducible refine (C1.out _).mono ?_
  rintro e w1 ⟨rfl, rfl⟩
  go_wp2_with fail
  with_reducible refine (C2.out _).mono ?_
  rintro e w1 ⟨rfl, rfl⟩
  go_wp2_with fail
  with_reducible refine (CC.out _).mono ?_
  rintro e w2 ⟨rfl, hb2⟩
  have HX2 := Lib.hid (HX1.out.below hb2)
  have HB2 := Lib.hid (below_step HB1.out hb2)
  clear hb2 CC HX1 HB1 HX HB
  go_wp2_with fail
  with_reducible refine (C5.out _).mono ?_
  rintro e w3 ⟨rfl, rfl⟩
  have k1 : w2.cell? ⟨w.heap.size, 1, none⟩ = some (.int .i64 0) := HX2.out.cell 1
  have f1 := HX2.out.free 1
  have HX3 := Lib.hid (show RowIn #[.string (S (hd0 ++ rest)), .int .i64 0, .string ⟨#[]⟩] 38 (w2.setCell ⟨w.heap.size, 1, none⟩ (.int .i64 0)) w.heap.size from HX2.out.set 1 _)
  have HB3 := Lib.hid (show Below w.heap.size w (w2.setCell ⟨w.heap.size, 1, none⟩ (.int .i64 0)) from HB2.out.setCell (Nat.le_refl _) _)
  go_wp2_with (first
    | (refine wpList_load_row rfl 38 _ rfl w.heap.size rfl 38 _ (0, 0) _ HX3.out Tryz.underlying38 rfl ?_ ?_; kernel_rfl)
    | (refine wpList_store_hid rfl 38 _ _ rfl w.heap.size _ rfl rfl 38 _ HX3.out ?_ rfl (by simp [Value.oneCell']) ?_; kernel_rfl; intro wE hrQ hbelQ hothQ hszQ; have HXE := Lib.hid hrQ; have HBE := Lib.hid (hbelQ w.heap.size w (Nat.le_refl _) HB3.out); clear hrQ hbelQ hothQ hszQ))
  try simp only [Exit.inBlock, Exit.then]
  exact bodyPost_ret (ret_rowP3 rfl _ _ w.heap.size rfl (load_struct Tryz.underlying38 (by kernel_rfl) HXE.out)) rfl (ReadR.no (c := ⟨hd0 ++ rest, 0, []⟩) rfl HBE.out)

set_option maxHeartbeats 4000000 in
set_option maxRecDepth 100000 in
theorem read_f (s last : List UInt8) (at_ : Nat) (hs : s.length ≤ 1000000) (hla : last.length ≤ 1000000) (w : World) (n a1 : Nat) (h1 : M.gets s at_ = some (n, a1)) (h2 : n ≤ last.length) (rest : List UInt8) (a2 : Nat) (h3 : M.getTs s a1 = some (rest, a2)) (hr9 : rest.length ≤ 1000000) (h4 : M.com last (last.take n ++ rest) = n) (q a3 : Nat) (h5 : M.gets s a2 = some (q, a3)) (h6 : M.getTs s a3 = none) :
    Calls Tryz.prog 123 #[.string (S s), .int .i64 at_, .string (S last)] w fun e w' => ReadR none w e w' := by
  have C1 := Lib.hid (fun W => get_any s at_ W (by omega))
  rw [h1] at C1
  simp only [tri] at C1
  clear h1
  have HX := Lib.hid (rowIn_new clZ9 38 w)
  have HB := Lib.hid ((Below.refl w.heap.size w).alloc (Nat.le_refl _) (.cells clZ9 38))
  have C2 := Lib.hid (fun W => getText_any s a1 W (by omega))
  rw [h3] at C2
  simp only [triT] at C2
  clear h3
  have d2 : decide ((last.length : Int) < (n : Int)) = false := by simp; omega
  have hs0 := run_piece_to (P := Tryz.prog) 9 Tryz.underlying9 last (n : Int) n rfl h2
  have hkl : (last.take n).length ≤ 1000000 := by simp; omega
  generalize last.take n = hd0 at *
  have hkk : (hd0 ++ rest).length ≤ 3000000 := by simp only [List.length_append]; omega
  have CC := Lib.hid (fun W => common9_any last (hd0 ++ rest) (by omega) (by omega) W)
  have HX1 := Lib.hid (rowIn_new #[.string (S (hd0 ++ rest)), .int .i64 0, .string ⟨#[]⟩] 38 w)
  have HB1 := Lib.hid ((Below.refl w.heap.size w).alloc (Nat.le_refl _) (.cells #[.string (S (hd0 ++ rest)), .int .i64 0, .string ⟨#[]⟩] 38))
  rw [h4] at CC
  clear h4
  have C5 := Lib.hid (fun W => get_any s a2 W (by omega))
  rw [h5] at C5
  simp only [tri] at C5
  clear h5
  have C6 := Lib.hid (fun W => getText_any s a3 W (by omega))
  rw [h6] at C6
  simp only [triT] at C6
  clear h6
  go_enter Tryz.func123, Tryz.ntmps123
  go_wp2_with fail
  with_reducible refine (C1.out _).mono ?_
  rintro e w1 ⟨rfl, rfl⟩
  go_wp2_with fail
  with_reducible refine (C2.out _).mono ?_
  rintro e w1 ⟨rfl, rfl⟩
  go_wp2_with fail
  with_reducible refine (CC.out _).mono ?_
  rintro e w2 ⟨rfl, hb2⟩
  have HX2 := Lib.hid (HX1.out.below hb2)
  have HB2 := Lib.hid (below_step HB1.out hb2)
  clear hb2 CC HX1 HB1 HX HB
  go_wp2_with fail
  with_reducible refine (C5.out _).mono ?_
  rintro e w3 ⟨rfl, rfl⟩
  have k1 : w2.cell? ⟨w.heap.size, 1, none⟩ = some (.int .i64 0) := HX2.out.cell 1
  have f1 := HX2.out.free 1
  have HX3 := Lib.hid (show RowIn #[.string (S (hd0 ++ rest)), .int .i64 (q : Int), .string ⟨#[]⟩] 38 (w2.setCell ⟨w.heap.size, 1, none⟩ (.int .i64 (q : Int))) w.heap.size from HX2.out.set 1 _)
  have HB3 := Lib.hid (show Below w.heap.size w (w2.setCell ⟨w.heap.size, 1, none⟩ (.int .i64 (q : Int))) from HB2.out.setCell (Nat.le_refl _) _)
  go_wp2_with fail
  with_reducible refine (C6.out _).mono ?_
  rintro e w4 ⟨rfl, rfl⟩
  have HX4 := Lib.hid (show RowIn #[.string (S (hd0 ++ rest)), .int .i64 (q : Int), .string ⟨#[]⟩] 38 ((w2.setCell ⟨w.heap.size, 1, none⟩ (.int .i64 (q : Int))).setCell ⟨w.heap.size, 2, none⟩ (.string ⟨#[]⟩)) w.heap.size from HX3.out.set 2 _)
  have HB4 := Lib.hid (show Below w.heap.size w ((w2.setCell ⟨w.heap.size, 1, none⟩ (.int .i64 (q : Int))).setCell ⟨w.heap.size, 2, none⟩ (.string ⟨#[]⟩)) from HB3.out.setCell (Nat.le_refl _) _)
  have k2 : (w2.setCell ⟨w.heap.size, 1, none⟩ (.int .i64 (q : Int))).cell? ⟨w.heap.size, 2, none⟩ = some (.string ⟨#[]⟩) := HX3.out.cell 2
  have f2 := HX3.out.free 2
  go_wp2_with (first
  | (refine wpList_load_row rfl 38 _ rfl w.heap.size rfl 38 _ (0, 0) _ HX4.out Tryz.underlying38 rfl ?_ ?_; kernel_rfl)
  | (refine wpList_store_hid rfl 38 _ _ rfl w.heap.size _ rfl rfl 38 _ HX4.out ?_ rfl (by simp [Value.oneCell']) ?_; kernel_rfl; intro wE hrQ hbelQ hothQ hszQ; have HXE := Lib.hid hrQ; have HBE := Lib.hid (hbelQ w.heap.size w (Nat.le_refl _) HB4.out); clear hrQ hbelQ hothQ hszQ))
  try simp only [Exit.inBlock, Exit.then]
  exact bodyPost_ret (ret_rowP3 rfl _ _ w.heap.size rfl (load_struct Tryz.underlying38 (by kernel_rfl) HXE.out)) rfl (ReadR.no (c := ⟨hd0 ++ rest, q, []⟩) rfl HBE.out)

set_option maxHeartbeats 4000000 in
set_option maxRecDepth 100000 in
theorem read_g (s last : List UInt8) (at_ : Nat) (hs : s.length ≤ 1000000) (hla : last.length ≤ 1000000) (w : World) (n a1 : Nat) (h1 : M.gets s at_ = some (n, a1)) (h2 : n ≤ last.length) (rest : List UInt8) (a2 : Nat) (h3 : M.getTs s a1 = some (rest, a2)) (hr9 : rest.length ≤ 1000000) (h4 : M.com last (last.take n ++ rest) = n) (q a3 : Nat) (h5 : M.gets s a2 = some (q, a3)) (v : List UInt8) (a4 : Nat) (h6 : M.getTs s a3 = some (v, a4)) :
    Calls Tryz.prog 123 #[.string (S s), .int .i64 at_, .string (S last)] w fun e w' => ReadR (some (⟨last.take n ++ rest, (q : Int), v⟩, a4)) w e w' := by
  have C1 := Lib.hid (fun W => get_any s at_ W (by omega))
  rw [h1] at C1
  simp only [tri] at C1
  clear h1
  have HX := Lib.hid (rowIn_new clZ9 38 w)
  have HB := Lib.hid ((Below.refl w.heap.size w).alloc (Nat.le_refl _) (.cells clZ9 38))
  have C2 := Lib.hid (fun W => getText_any s a1 W (by omega))
  rw [h3] at C2
  simp only [triT] at C2
  clear h3
  have d2 : decide ((last.length : Int) < (n : Int)) = false := by simp; omega
  have hs0 := run_piece_to (P := Tryz.prog) 9 Tryz.underlying9 last (n : Int) n rfl h2
  have hkl : (last.take n).length ≤ 1000000 := by simp; omega
  generalize last.take n = hd0 at *
  have hkk : (hd0 ++ rest).length ≤ 3000000 := by simp only [List.length_append]; omega
  have CC := Lib.hid (fun W => common9_any last (hd0 ++ rest) (by omega) (by omega) W)
  have HX1 := Lib.hid (rowIn_new #[.string (S (hd0 ++ rest)), .int .i64 0, .string ⟨#[]⟩] 38 w)
  have HB1 := Lib.hid ((Below.refl w.heap.size w).alloc (Nat.le_refl _) (.cells #[.string (S (hd0 ++ rest)), .int .i64 0, .string ⟨#[]⟩] 38))
  rw [h4] at CC
  clear h4
  have C5 := Lib.hid (fun W => get_any s a2 W (by omega))
  rw [h5] at C5
  simp only [tri] at C5
  clear h5
  have C6 := Lib.hid (fun W => getText_any s a3 W (by omega))
  rw [h6] at C6
  simp only [triT] at C6
  clear h6
  go_enter Tryz.func123, Tryz.ntmps123
  go_wp2_with fail
  with_reducible refine (C1.out _).mono ?_
  rintro e w1 ⟨rfl, rfl⟩
  go_wp2_with fail
  with_reducible refine (C2.out _).mono ?_
  rintro e w1 ⟨rfl, rfl⟩
  go_wp2_with fail
  with_reducible refine (CC.out _).mono ?_
  rintro e w2 ⟨rfl, hb2⟩
  have HX2 := Lib.hid (HX1.out.below hb2)
  have HB2 := Lib.hid (below_step HB1.out hb2)
  clear hb2 CC HX1 HB1 HX HB
  go_wp2_with fail
  with_reducible refine (C5.out _).mono ?_
  rintro e w3 ⟨rfl, rfl⟩
  have k1 : w2.cell? ⟨w.heap.size, 1, none⟩ = some (.int .i64 0) := HX2.out.cell 1
  have f1 := HX2.out.free 1
  have HX3 := Lib.hid (show RowIn #[.string (S (hd0 ++ rest)), .int .i64 (q : Int), .string ⟨#[]⟩] 38 (w2.setCell ⟨w.heap.size, 1, none⟩ (.int .i64 (q : Int))) w.heap.size from HX2.out.set 1 _)
  have HB3 := Lib.hid (show Below w.heap.size w (w2.setCell ⟨w.heap.size, 1, none⟩ (.int .i64 (q : Int))) from HB2.out.setCell (Nat.le_refl _) _)
  go_wp2_with fail
  with_reducible refine (C6.out _).mono ?_
  rintro e w4 ⟨rfl, rfl⟩
  have HX4 := Lib.hid (show RowIn #[.string (S (hd0 ++ rest)), .int .i64 (q : Int), .string (S v)] 38 ((w2.setCell ⟨w.heap.size, 1, none⟩ (.int .i64 (q : Int))).setCell ⟨w.heap.size, 2, none⟩ (.string (S v))) w.heap.size from HX3.out.set 2 _)
  have HB4 := Lib.hid (show Below w.heap.size w ((w2.setCell ⟨w.heap.size, 1, none⟩ (.int .i64 (q : Int))).setCell ⟨w.heap.size, 2, none⟩ (.string (S v))) from HB3.out.setCell (Nat.le_refl _) _)
  have k2 : (w2.setCell ⟨w.heap.size, 1, none⟩ (.int .i64 (q : Int))).cell? ⟨w.heap.size, 2, none⟩ = some (.string ⟨#[]⟩) := HX3.out.cell 2
  have f2 := HX3.out.free 2
  go_wp2_with (first
  | (refine wpList_load_row rfl 38 _ rfl w.heap.size rfl 38 _ (0, 0) _ HX4.out Tryz.underlying38 rfl ?_ ?_; kernel_rfl)
  | (refine wpList_store_hid rfl 38 _ _ rfl w.heap.size _ rfl rfl 38 _ HX4.out ?_ rfl (by simp [Value.oneCell']) ?_; kernel_rfl; intro wE hrQ hbelQ hothQ hszQ; have HXE := Lib.hid hrQ; have HBE := Lib.hid (hbelQ w.heap.size w (Nat.le_refl _) HB4.out); clear hrQ hbelQ hothQ hszQ))
  try simp only [Exit.inBlock, Exit.then]
  exact bodyPost_ret (ret_rowP3 rfl _ _ w.heap.size rfl (load_struct Tryz.underlying38 (by kernel_rfl) HXE.out)) rfl ⟨rfl, HBE.out⟩

theorem read9_any (s last : List UInt8) (at_ : Nat) (hs : s.length ≤ 1000000) (hla : last.length ≤ 1000000) (w : World) :
    Calls Tryz.prog 123 #[.string (S s), .int .i64 at_, .string (S last)] w fun e w' => ReadR (M.readC true s at_ last) w e w' := by
  cases h1 : M.gets s at_ with
  | none =>
    have e : M.readC true s at_ last = none := by simp [M.readC, h1]
    rw [e]; exact read_a s last at_ hs hla w h1
  | some x =>
    obtain ⟨n, a1⟩ := x
    by_cases h2 : n ≤ last.length
    case neg =>
      have e : M.readC true s at_ last = none := by simp [M.readC, h1, h2]
      rw [e]; exact read_b s last at_ hs hla w n a1 h1 (by omega)
    cases h3 : M.getTs s a1 with
    | none =>
      have e : M.readC true s at_ last = none := by simp [M.readC, h1, h2, h3]
      rw [e]; exact read_c s last at_ hs hla w n a1 h1 h2 h3
    | some x =>
      obtain ⟨rest, a2⟩ := x
      have hr9 : rest.length ≤ 1000000 := by
        obtain ⟨g1, g2, g3, g4⟩ := M.getTs_drop h3
        have := congrArg List.length g1
        simp only [List.length_drop, List.length_append, M.putT] at this
        omega
      by_cases h4 : M.com last (last.take n ++ rest) = n
      case neg =>
        have e : M.readC true s at_ last = none := by simp [M.readC, h1, h2, h3, h4]
        rw [e]; exact read_d s last at_ hs hla w n a1 h1 h2 rest a2 h3 hr9 h4
      cases h5 : M.gets s a2 with
      | none =>
        have e : M.readC true s at_ last = none := by simp [M.readC, h1, h2, h3, h4, h5]
        rw [e]; exact read_e s last at_ hs hla w n a1 h1 h2 rest a2 h3 hr9 h4 h5
      | some x =>
        obtain ⟨q, a3⟩ := x
        cases h6 : M.getTs s a3 with
        | none =>
          have e : M.readC true s at_ last = none := by simp [M.readC, h1, h2, h3, h4, h5, h6]
          rw [e]; exact read_f s last at_ hs hla w n a1 h1 h2 rest a2 h3 hr9 h4 q a3 h5 h6
        | some x =>
          obtain ⟨v, a4⟩ := x
          have e : M.readC true s at_ last = some (⟨last.take n ++ rest, (q : Int), v⟩, a4) := by simp [M.readC, h1, h2, h3, h4, h5, h6]
          rw [e]; exact read_g s last at_ hs hla w n a1 h1 h2 rest a2 h3 hr9 h4 q a3 h5 v a4 h6

end Go.Proofs.YtnhljlmelbiljaaGreat

/- Layer 9: the closures that see cells, by contracts; frames. -/
namespace Go.Proofs.YtnhljlmelbiljaaGreat
set_option linter.unusedVariables false
open Go Go.RowKit
attribute [local go_sem ↓] run_index_S
attribute [local go_sem] S_append S_extract

/-- Only blocks of a set may have turned; blocks may have been laid. -/
structure OnlyS (A : Nat → Prop) (w w' : World) : Prop where
  os : w'.os = w.os
  tape : w'.tape = w.tape
  output : w'.output = w.output
  size : w.heap.size ≤ w'.heap.size
  block : ∀ k, k < w.heap.size → ¬ A k → w'.heap[k]? = w.heap[k]?
theorem onlyS_below {A : Nat → Prop} {w w' : World} (h : Below w.heap.size w w') : OnlyS A w w' := ⟨h.os, h.tape, h.output, h.size, fun k hk _ => h.block k hk⟩
theorem onlyS_grown {A : Nat → Prop} {w w' : World} {row : Option Nat} (h : w.grownBy w' row) (hr : ∀ q, row = some q → A q) : OnlyS A w w' := ⟨h.os, h.tape, h.output, h.size, fun k hk hn => h.block k hk (fun e => hn (hr k e.symm))⟩
theorem OnlyS.trans {A : Nat → Prop} {a b c : World} (h : OnlyS A a b) (k : OnlyS A b c) : OnlyS A a c :=
  ⟨k.os.trans h.os, k.tape.trans h.tape, k.output.trans h.output, Nat.le_trans h.size k.size, fun i hi hn => (k.block i (Nat.lt_of_lt_of_le hi h.size) hn).trans (h.block i hi hn)⟩
theorem OnlyS.mono {A A' : Nat → Prop} {w w' : World} (h : OnlyS A w w') (hA : ∀ k, A k → A' k) : OnlyS A' w w' := ⟨h.os, h.tape, h.output, h.size, fun k hk hn => h.block k hk (fun ha => hn (hA k ha))⟩
theorem OnlyS.below {A : Nat → Prop} {w w' : World} {B : Nat} (h : OnlyS A w w') (hA : ∀ k, A k → B ≤ k) (hB : B ≤ w.heap.size) : Below B w w' :=
  ⟨h.os, h.tape, h.output, h.size, fun k hk => h.block k (by omega) (fun ha => by have := hA k ha; omega)⟩
theorem OnlyS.row {A : Nat → Prop} {w w' : World} {C : Array Value} {T : TypeId} {g : Nat} (h : OnlyS A w w') (hr : RowIn C T w g) (hn : ¬ A g) : RowIn C T w' g := by
  have hlt := hr.lt
  unfold RowIn at *
  rw [h.block g hlt hn]; exact hr
theorem OnlyS.own {A : Nat → Prop} {w w' : World} {B sz : Nat} {e : TypeId} {v : Value} {n : Nat} {xs : List Value} (h : OnlyS A w w') (hr : w.ownsRow B e sz v n xs) (hn : ∀ q, v.ownBlock = some q → ¬ A q) : w'.ownsRow B e sz v n xs := by
  have hl := hr.lt
  refine ⟨hr.1, ?_⟩
  rcases hr.2 with h0 | ⟨g, cap, cur, hv, hB, hg, rest⟩
  · exact .inl h0
  · have ho : v.ownBlock = some g := by rw [hv]; rfl
    exact .inr ⟨g, cap, cur, hv, hB, (h.block g (hl g ho).2 (hn g ho)).trans hg, rest⟩
/-- Blocks of unlike types are not the same. -/
theorem rowIn_ne {w : World} {C D : Array Value} {T U : TypeId} {b c : Nat} (h : RowIn C T w b) (k : RowIn D U w c) (hne : T ≠ U) : b ≠ c := by
  intro e
  subst e
  unfold RowIn at *
  rw [h] at k
  simp at k
  exact hne k.2
def SeeDR (B lb : Nat) (v : Value) (L : List M.Cl) (w : World) (e : Ending) (w' : World) : Prop := e = .returned (.tuple #[]) ∧ ∃ v', RowIn #[v'] 22 w' lb ∧ w'.ownsRow B 38 3 v' L.length (cls L) ∧ OnlyS (fun k => k = lb ∨ v.ownBlock = some k) w w'
set_option maxHeartbeats 2000000 in
set_option maxRecDepth 100000 in
theorem seeD_any (c : M.Cl) (B lb : Nat) (v : Value) (pre : List M.Cl) (hn : pre.length ≤ 1000000) (w : World) (h1 : RowIn #[v] 22 w lb) (h2 : w.ownsRow B 38 3 v pre.length (cls pre)) (hB : B ≤ w.heap.size) :
    Calls Tryz.prog 79 #[.agg (clA c), .pointer (some ⟨lb, 0, none⟩)] w fun e w' => SeeDR B lb v (pre ++ [c]) w e w' := by
  obtain ⟨j0, y0, hj, hy0, hy1, hy2, hy3⟩ := infoCl_parts
  obtain ⟨ao, cap, rfl⟩ := ownP_shape h2
  have HL := Lib.hid h1
  have HO := Lib.hid h2
  have HLT := Lib.hid (show lb < w.heap.size from h1.lt)
  have HF := Lib.hid (onlyS_below (A := fun k => k = lb ∨ (Value.slice ao pre.length cap).ownBlock = some k) (Below.refl w.heap.size w))
  clear h1 h2
  replace HL := carryA (w := w) (.cells (clA c) 38) HL
  replace HO := carryA (w := w) (.cells (clA c) 38) HO
  have HX := Lib.hid (rowIn_new (clA c) 38 w)
  have l0 : (w.alloc (.cells (clA c) 38)).cell? ⟨lb, 0, none⟩ = some (.slice ao pre.length cap) := HL.out.cell 0
  go_enter Tryz.func79, Tryz.ntmps79
  go_wp2_with (at_builtin; refine wpList_append_own _ rfl _ _ 22 rfl B 38 j0 y0 3 40 Tryz.underlying22 hj hy0 hy1 hy2 hy3 (by decide) (.slice ao pre.length cap) pre.length (cls pre) rfl (HO.out.alloc _) ⟨w.heap.size + 1, 0, none⟩ 1 1 (clL c) rfl rfl (fun j u hu => by rw [show w.heap.size + 1 = (w.alloc (.cells (clA c) 38)).heap.size from (szA _ _).symm]; exact cl_new _ c _ j u hu) (clL_oneC c) (by unfold maxLen; omega) (by omega) (by rw [szA, szA]; omega) ?_; intro v8 w8 ho8 hg8 hn8; obtain ⟨a8, c8, rfl⟩ := ownP_shape ho8; have HO8 := Lib.hid (show w8.ownsRow B 38 3 (.slice a8 (pre.length + 1) c8) (pre.length + 1) (cls (pre ++ [c])) from by rw [cls_append, cls_one]; exact ho8); have HG8 := Lib.hid hg8; have HL8 := Lib.hid (RowIn.grownP (HL.out.more _) hg8 (row_apart (HL.out) HO.out (by decide))); have l8 : w8.cell? ⟨lb, 0, none⟩ = some (.slice ao pre.length cap) := HL8.out.cell 0; have f8 := HL8.out.free 0; clear ho8 hg8 hn8 l0)
  go_end0
  have hr := row_apart HL8.out HO8.out (by decide)
  refine ⟨rfl, _, HL8.out.set 0 _, ?_, ?_⟩
  · rw [show (pre ++ [c]).length = pre.length + 1 from by simp]
    exact HO8.out.kept (grownBy_setCell' _ _ _) (.inr (fun e => hr lb e rfl))
  · exact ((onlyS_below (((Below.refl w.heap.size w).alloc (Nat.le_refl _) _).alloc (by rw [szA]; omega) _)).trans (onlyS_grown HG8.out (fun q hq => .inr hq))).trans (onlyS_grown (grownBy_setCell' _ _ _) (fun q hq => .inl (by cases hq; rfl)))

def DisM (m : Nat) (w : World) (d : Nat) : Option M.Cl → Prop
  | none => RowIn #[.pointer none] 161 w d
  | some q => ∃ g, g < m ∧ g ≠ d ∧ RowIn #[.pointer (some ⟨g, 0, none⟩)] 161 w d ∧ RowIn (clA q) 162 w g
theorem DisAt.toM {w : World} {d : Nat} {p : Option M.Cl} (h : DisAt w d p) : DisM w.heap.size w d p := by
  cases p with
  | none => exact h
  | some q => obtain ⟨g, h0, h1, h2⟩ := h; exact ⟨g, h2.lt, h0, h1, h2⟩
theorem DisM.at_ {m : Nat} {w : World} {d : Nat} {p : Option M.Cl} (h : DisM m w d p) : DisAt w d p := by
  cases p with
  | none => exact h
  | some q => obtain ⟨g, _, h0, h1, h2⟩ := h; exact ⟨g, h0, h1, h2⟩
theorem DisM.only {A : Nat → Prop} {m : Nat} {w w' : World} {d : Nat} {p : Option M.Cl} (h : DisM m w d p) (hf : OnlyS A w w') (hd : ¬ A d) (hg : ∀ g C, g < m → RowIn C 162 w g → ¬ A g) : DisM m w' d p := by
  cases p with
  | none => exact hf.row h hd
  | some q => obtain ⟨g, hm, h0, h1, h2⟩ := h; exact ⟨g, hm, h0, hf.row h1 hd, hf.row h2 (hg g _ hm h2)⟩
/-- What stands between two cells that are decoded: the closures' variables, and the cells so far. -/
structure JD (B x y d lb m : Nat) (pre : List M.Cl) (W : World) : Prop where
  bx : B ≤ x ∧ x < m
  bY : B ≤ y ∧ y < m
  bd : B ≤ d ∧ d < m
  bl : B ≤ lb ∧ lb < m
  rx : RowIn #[.func (.func 79) #[] #[.pointer (some ⟨lb, 0, none⟩)]] 143 W x
  rY : RowIn #[.func (.func 96) #[] #[.pointer (some ⟨d, 0, none⟩)]] 52 W y
  rd : DisM m W d (M.lastO none pre)
  rl : ∃ v, RowIn #[v] 22 W lb ∧ W.ownsRow B 38 3 v pre.length (cls pre) ∧ ∀ q, v.ownBlock = some q → q < m
theorem onlyS_from {m : Nat} {w w' : World} (h : Below m w w') : OnlyS (fun k => m ≤ k) w w' := ⟨h.os, h.tape, h.output, h.size, fun k hk hn => h.block k (by omega)⟩
theorem JD.keep {B x y d lb m : Nat} {pre : List M.Cl} {W W' : World} (h : JD B x y d lb m pre W) (hb : Below m W W') : JD B x y d lb m pre W' := by
  have hf := onlyS_from hb
  obtain ⟨v, h1, h2, h3⟩ := h.rl
  exact ⟨h.bx, h.bY, h.bd, h.bl, hf.row h.rx (by have := h.bx; omega), hf.row h.rY (by have := h.bY; omega), h.rd.only hf (by have := h.bd; omega) (fun g _ hg _ => by omega), v, hf.row h1 (by have := h.bl; omega), hf.own h2 (fun q hq => by have := h3 q hq; omega), h3⟩
def E1R (b : Bool) (J : World → Prop) (B m : Nat) (w : World) (e : Ending) (w' : World) : Prop := e = .returned (.bool (!b)) ∧ (b = true → J w') ∧ OnlyS (fun k => B ≤ k ∧ k < m) w w'
set_option maxHeartbeats 2000000 in
set_option maxRecDepth 100000 in
theorem each1D_any (c : M.Cl) (hc : ClOk c) (B x y d lb m : Nat) (pre : List M.Cl) (hn : pre.length ≤ 1000000) (w : World) (hJ : JD B x y d lb m pre w) (hB : B ≤ m) (hm : m ≤ w.heap.size) :
    Calls Tryz.prog 105 #[.agg (clA c), .pointer (some ⟨x, 0, none⟩), .pointer (some ⟨y, 0, none⟩)] w fun e w' => E1R (M.nextB (M.lastO none pre) c) (fun w' => JD B x y d lb w'.heap.size (pre ++ [c]) w') B m w e w' := by
  obtain ⟨⟨bx1, bx2⟩, ⟨by1, by2⟩, ⟨bd1, bd2⟩, ⟨bl1, bl2⟩, rx, rY, rd, v, rl, ro, rq⟩ := hJ
  have hb := (Below.refl w.heap.size w).alloc (Nat.le_refl _) (.cells (clA c) 38)
  have hf0 : OnlyS (fun k => B ≤ k ∧ k < m) w (w.alloc (.cells (clA c) 38)) := onlyS_below hb
  have hX := rowIn_new (clA c) 38 w
  have hsz : (w.alloc (.cells (clA c) 38)).heap.size = w.heap.size + 1 := szA _ _
  replace rx := rx.below hb
  replace rY := rY.below hb
  replace rl := rl.below hb
  replace ro := ownP_below ro hb
  replace rd : DisM m (w.alloc (.cells (clA c) 38)) d (M.lastO none pre) := rd.only (A := fun k => w.heap.size ≤ k) (onlyS_from hb) (by omega) (fun g _ hg _ => by omega)
  have CD := Lib.hid (seeD_any c B lb v pre hn (w.alloc (.cells (clA c) 38)) rl ro (by omega))
  have x0 : (w.alloc (.cells (clA c) 38)).cell? ⟨x, 0, none⟩ = some _ := rx.cell 0
  have HX := Lib.hid hX
  have HRX := Lib.hid rx
  have HRY := Lib.hid rY
  have HRD := Lib.hid rd
  have HRL := Lib.hid rl
  have HRO := Lib.hid ro
  have HF := Lib.hid hf0
  have HRQ := Lib.hid rq
  clear hb hX hsz rx rY rl ro rd hf0 rq
  go_enter Tryz.func105, Tryz.ntmps105
  go_wp2_with fail
  with_reducible refine (CD.out).mono ?_
  rintro e w2 ⟨rfl, v', hl2, ho2, hf2⟩
  have hqB := fun q (hq : v.ownBlock = some q) => (HRO.out.lt q hq).1
  have HX2 := Lib.hid (hf2.row HX.out (fun h => h.elim (fun h => by omega) (fun h => by have := HRQ.out _ h; omega)))
  have HRX2 := Lib.hid (hf2.row HRX.out (fun h => h.elim (fun h => rowIn_ne HRX.out HRL.out (by decide) h) (fun h => row_apart HRX.out HRO.out (by decide) _ h rfl)))
  have HRY2 := Lib.hid (hf2.row HRY.out (fun h => h.elim (fun h => rowIn_ne HRY.out HRL.out (by decide) h) (fun h => row_apart HRY.out HRO.out (by decide) _ h rfl)))
  have hdrow : ∃ C, RowIn C 161 (w.alloc (.cells (clA c) 38)) d := by
    have := HRD.out
    cases hp : M.lastO none pre with
    | none => rw [hp] at this; exact ⟨_, this⟩
    | some q => rw [hp] at this; obtain ⟨g, _, _, h1, _⟩ := this; exact ⟨_, h1⟩
  obtain ⟨Cd, hdrow⟩ := hdrow
  have HRD2 := Lib.hid (HRD.out.only hf2 (fun h => h.elim (fun h => rowIn_ne hdrow HRL.out (by decide) h) (fun h => row_apart hdrow HRO.out (by decide) _ h rfl)) (fun g C hg hr h => h.elim (fun h => rowIn_ne hr HRL.out (by decide) h) (fun h => row_apart hr HRO.out (by decide) _ h rfl)))
  have HF2 := Lib.hid (HF.out.trans (hf2.mono (fun k hk => hk.elim (fun h => by omega) (fun h => ⟨hqB k h, HRQ.out k h⟩))))
  have HL2 := Lib.hid hl2
  have HO2 := Lib.hid ho2
  have hs2 := hf2.size
  rw [szA] at hs2
  clear hl2 ho2 hf2 hdrow hqB CD HX HRX HRY HRD HRL HRO HF x0
  have x0 : w2.cell? ⟨y, 0, none⟩ = some _ := HRY2.out.cell 0
  have y0 : w2.cell? ⟨w.heap.size, 0, none⟩ = some (.string (S c.key)) := HX2.out.cell 0
  have y1 : w2.cell? ⟨w.heap.size, 1, none⟩ = some (.int .i64 c.seq) := HX2.out.cell 1
  have y2 : w2.cell? ⟨w.heap.size, 2, none⟩ = some (.string (S c.val)) := HX2.out.cell 2
  go_wp2_with fail
  with_reducible refine (dis1_any c hc _ d w2 HRD2.out.at_).mono ?_
  rintro e w3 ⟨rfl, h3, hg3⟩
  have hf3 : OnlyS (fun k => k = d) w2 w3 := onlyS_grown hg3 (fun q hq => by cases hq; rfl)
  have hs3 := hf3.size
  obtain ⟨Cd, hdrow⟩ : ∃ C, RowIn C 161 w2 d := by
    have := HRD2.out
    cases hp : M.lastO none pre with
    | none => rw [hp] at this; exact ⟨_, this⟩
    | some q => rw [hp] at this; obtain ⟨g, _, _, h1, _⟩ := this; exact ⟨_, h1⟩
  have HJ3 := Lib.hid (show M.nextB (M.lastO none pre) c = true → JD B x y d lb w3.heap.size (pre ++ [c]) w3 from fun hb => by
    refine ⟨⟨bx1, by omega⟩, ⟨by1, by omega⟩, ⟨bd1, by omega⟩, ⟨bl1, by omega⟩, hf3.row HRX2.out (rowIn_ne HRX2.out hdrow (by decide)), hf3.row HRY2.out (rowIn_ne HRY2.out hdrow (by decide)), ?_, v', hf3.row HL2.out (rowIn_ne HL2.out hdrow (by decide)), ?_, ?_⟩
    · rw [M.lastO_snoc]; exact (h3 hb).toM
    · exact hf3.own HO2.out (fun q hq => row_apart hdrow HO2.out (by decide) q hq)
    · intro q hq; have := (HO2.out.lt q hq).2; omega)
  have HF3 := Lib.hid (HF2.out.trans (hf3.mono (fun k hk => by subst hk; exact ⟨bd1, bd2⟩)))
  clear h3 hg3 hf3 hdrow x0 y0 y1 y2
  go_wp2_with fail
  go_ret
  exact ⟨rfl, HJ3.out, HF3.out⟩

end Go.Proofs.YtnhljlmelbiljaaGreat

/- Layer 9: cells told one by one, by a contract. -/
namespace Go.Proofs.YtnhljlmelbiljaaGreat
set_option linter.unusedVariables false
open Go Go.RowKit
attribute [local go_sem ↓] run_index_S
attribute [local go_sem] S_append S_extract

/-- What telling comes to: J of all cells, or nothing. -/
def TellR (J : Nat → List M.Cl → World → Prop) (B : Nat) (r : Option (List M.Cl)) (w : World) (e : Ending) (w' : World) : Prop := (match r with
  | some L => e = .returned (.bool true) ∧ ∃ m, m ≤ w'.heap.size ∧ J m L w'
  | none => e = .returned (.bool false)) ∧ Below B w w'
theorem M.lastK_srt {L : List M.Cl} (h : M.srt none L = true) : (M.lastK [] L).length ≤ 64 := by
  have hm := M.srt_may h
  have go : ∀ (L : List M.Cl) (k : List UInt8), k.length ≤ 64 → (∀ c ∈ L, M.mayC c = true) → (M.lastK k L).length ≤ 64 := by
    intro L
    induction L with
    | nil => intro k hk _; exact hk
    | cons c L ih => intro k hk hc; exact ih c.key (M.mayC_true.1 (hc c (by simp))).2.1 (fun x hx => hc x (by simp [hx]))
  exact go L [] (by simp) hm
theorem read_ok {s last : List UInt8} {at_ nx : Nat} {c : M.Cl} (hs : s.length ≤ 1000000) (hl : last.length ≤ 64) (h : M.readC true s at_ last = some (c, nx)) : ClOk c ∧ nx ≤ s.length := by
  obtain ⟨n, q, hn, hq, hsq, ⟨rest, hk, hd⟩, hc, hnx, _⟩ := M.readC_drop h
  have hdl := congrArg List.length hd
  simp only [List.length_drop, List.length_append, M.putT] at hdl
  refine ⟨⟨?_, by omega, ⟨by omega, by omega⟩⟩, hnx⟩
  rw [hk]; simp only [List.length_append, List.length_take]; omega
set_option maxHeartbeats 4000000 in
set_option maxRecDepth 100000 in
theorem tell9_any (J : Nat → List M.Cl → World → Prop) (B x y : Nat) (s : List UInt8) (hs : s.length ≤ 1000000)
    (hkeep : ∀ m pre W W', J m pre W → Below m W W' → J m pre W')
    (hcall : ∀ m pre c W, ClOk c → pre.length ≤ 1000000 → J m pre W → B ≤ m → m ≤ W.heap.size → Calls Tryz.prog 105 #[.agg (clA c), .pointer (some ⟨x, 0, none⟩), .pointer (some ⟨y, 0, none⟩)] W fun e W' => E1R (M.nextB (M.lastO none pre) c) (fun W' => J W'.heap.size (pre ++ [c]) W') B m W e W')
    (w : World) (hB : B ≤ w.heap.size) (h0 : J w.heap.size [] w) :
    Calls Tryz.prog 104 #[.string (S s), .func (.func 105) #[] #[.pointer (some ⟨x, 0, none⟩), .pointer (some ⟨y, 0, none⟩)]] w fun e w' => TellR J B (M.decC s) w e w' := by
  have HK := Lib.hid hkeep
  have HC := Lib.hid hcall
  have HJ := Lib.hid h0
  have C1 := Lib.hid (fun W => get_any s 0 W (by omega))
  clear hkeep hcall h0
  cases h1 : M.gets s 0 with
  | none =>
    rw [h1] at C1
    simp only [tri] at C1
    have HE := Lib.hid (M.decC_nogets h1)
    clear h1
    go_enter Tryz.func104, Tryz.ntmps104
    go_wp2_with fail
    with_reducible refine (C1.out _).mono ?_
    rintro e w1 ⟨rfl, rfl⟩
    go_wp2_with fail
    refine wp_loop_rounds 1 ?_
    rw [rounds_succ]
    go_wp2_with fail
    go_ret
    exact HE.out ▸ ⟨rfl, Below.refl _ _⟩
  | some z =>
    obtain ⟨n, a0⟩ := z
    rw [h1] at C1
    simp only [tri] at C1
    have HST := Lib.hid (M.stG_start (chk := true) h1)
    have hn9 := (M.gets_bounds h1).2.2.2.1
    have hale : a0 ≤ s.length := (M.gets_bounds h1).2.2.1
    clear h1
    go_enter Tryz.func104, Tryz.ntmps104
    go_wp2_with fail
    with_reducible refine (C1.out _).mono ?_
    rintro e w1 ⟨rfl, rfl⟩
    go_wp2_with fail
    go_loopw [5, 6, 7, 8] (fun cnt at' ok lk wr => ∃ (k a : Nat) (pre : List M.Cl) (m : Nat), cnt = .int .i64 k ∧ at' = .int .i64 a ∧ ok = .bool true ∧ lk = .string (S (M.lastK [] pre)) ∧ k ≤ 9223372036854775807 ∧ 4 * pre.length ≤ a ∧ a ≤ s.length ∧ Hid (M.StG true s pre a k) ∧ Hid (M.srt none pre = true) ∧ Hid (J m pre wr ∧ B ≤ m ∧ m ≤ wr.heap.size ∧ Below B w wr)) (fun cnt _ _ _ _ => (intOf cnt).toNat)
    case atStart => exact ⟨n, a0, [], w.heap.size, rfl, rfl, rfl, rfl, hn9, by simp, hale, HST, Lib.hid rfl, Lib.hid ⟨HJ.out, hB, Nat.le_refl _, Below.refl _ _⟩⟩
    case round =>
      obtain ⟨k, a, pre, m, rfl, rfl, rfl, rfl, hk9, hpl, hal, HS, HSR, HH⟩ := hrel
      have hlk := M.lastK_srt HSR.out
      by_cases hk0 : k = 0
      · have HE := Lib.hid (M.decC_end (by have := HS.out; rwa [hk0] at this) HSR.out)
        have hk00 : ¬ 0 < k := by omega
        have hd : decide (0 < k) = false := decide_eq_false hk00
        clear hk0
        by_cases hz : a = s.length
        · have hq : ((a : Int) == (s.length : Int)) = true := by simp; omega
          rw [if_pos hz] at HE
          clear hz
          go_wp2_with fail
          go_ret
          exact HE.out ▸ ⟨⟨rfl, m, HH.out.2.2.1, HH.out.1⟩, HH.out.2.2.2⟩
        · have hq : ((a : Int) == (s.length : Int)) = false := by simp; omega
          rw [if_neg hz] at HE
          clear hz
          go_wp2_with fail
          go_ret
          exact HE.out ▸ ⟨rfl, HH.out.2.2.2⟩
      · have hd : decide ((0 : Int) < (k : Int)) = true := by simp; omega
        have hS2 : M.StG true s pre a (k - 1 + 1) := by rw [show k - 1 + 1 = k from by omega]; exact HS.out
        have hk1 : 1 ≤ k := by omega
        clear hk0
        generalize hlke : M.lastK [] pre = lk at *
        have HLK := Lib.hid hlke
        clear hlke
        have CR := Lib.hid (fun W => read9_any s lk a hs (by omega) W)
        unfold ReadR at CR
        cases hr : M.readC true s a lk with
        | none =>
          rw [hr] at CR
          simp only at CR
          have HE := Lib.hid (M.decC_none1 hS2 (by rw [HLK.out]; exact hr))
          clear hr hS2
          go_wp2_with fail
          with_reducible refine (CR.out _).mono ?_
          rintro e w2 ⟨⟨c, rfl⟩, hb2⟩
          have HX := Lib.hid ((rowIn_new clZ9 38 wr).below hb2)
          have HBW := Lib.hid (below_step ((Below.refl wr.heap.size wr).alloc (Nat.le_refl _) _) hb2)
          clear hb2 CR
          go_wp2_with (refine wpList_store_hid rfl 38 _ _ rfl wr.heap.size _ rfl rfl 38 clZ9 HX.out ?_ rfl (clA_one c) ?_; kernel_rfl; intro w3 hrQ hbelQ hothQ hszQ; have HX3 := Lib.hid (show RowIn (clA c) 38 w3 wr.heap.size from hrQ); have HB3 := Lib.hid (hbelQ wr.heap.size wr (Nat.le_refl _) HBW.out); clear hrQ hbelQ hothQ hszQ)
          go_ret
          exact HE.out ▸ ⟨rfl, HH.out.2.2.2.trans (HB3.out.mono (Nat.le_trans HH.out.2.1 HH.out.2.2.1))⟩
        | some z =>
          obtain ⟨c, nx⟩ := z
          rw [hr] at CR
          simp only at CR
          obtain ⟨hok, hnx⟩ := read_ok hs hlk hr
          have hadv : a + 4 ≤ nx := by obtain ⟨_, _, _, _, _, _, _, _, h⟩ := M.readC_drop hr; exact h
          have HSS := Lib.hid (M.stG_step hS2 (by rw [HLK.out]; exact hr))
          have HNO := Lib.hid (fun h => M.decC_none2 hS2 (by rw [HLK.out]; exact hr) h)
          have HOK := Lib.hid hok
          clear hr hS2 hok
          go_wp2_with fail
          with_reducible refine (CR.out _).mono ?_
          rintro e w2 ⟨rfl, hb2⟩
          have HX := Lib.hid ((rowIn_new clZ9 38 wr).below hb2)
          have HBW := Lib.hid (below_step ((Below.refl wr.heap.size wr).alloc (Nat.le_refl _) _) hb2)
          clear hb2 CR
          go_wp2_with (refine wpList_store_hid rfl 38 _ _ rfl wr.heap.size _ rfl rfl 38 clZ9 HX.out ?_ rfl (clA_one c) ?_; kernel_rfl; intro w3 hrQ hbelQ hothQ hszQ; have HX3 := Lib.hid (show RowIn (clA c) 38 w3 wr.heap.size from hrQ); have HB3 := Lib.hid (hbelQ wr.heap.size wr (Nat.le_refl _) HBW.out); clear hrQ hbelQ hothQ hszQ; have z0 : w3.cell? ⟨wr.heap.size, 0, none⟩ = some (.string (S c.key)) := HX3.out.cell 0; have z1 : w3.cell? ⟨wr.heap.size, 1, none⟩ = some (.int .i64 c.seq) := HX3.out.cell 1; have z2 : w3.cell? ⟨wr.heap.size, 2, none⟩ = some (.string (S c.val)) := HX3.out.cell 2)
          have hJ3 := HK.out m pre wr w3 HH.out.1 (HB3.out.mono HH.out.2.2.1)
          have hm3 : m ≤ w3.heap.size := Nat.le_trans HH.out.2.2.1 HB3.out.size
          with_reducible refine (HC.out m pre c w3 HOK.out (by omega) hJ3 HH.out.2.1 hm3).mono ?_
          rintro e w4 ⟨rfl, hj4, hf4⟩
          have HB4 := Lib.hid (show Below B w w4 from (HH.out.2.2.2.trans (HB3.out.mono (Nat.le_trans HH.out.2.1 HH.out.2.2.1))).trans (hf4.below (fun k hk => hk.1) (Nat.le_trans HH.out.2.1 hm3)))
          have HX4 := Lib.hid (hf4.row HX3.out (fun h => by have := HH.out.2.2.1; omega))
          have HM4 := Lib.hid (show B ≤ w4.heap.size from Nat.le_trans (Nat.le_trans HH.out.2.1 hm3) hf4.size)
          clear hJ3 hm3 hf4 z0 z1 z2
          cases hnb : M.nextB (M.lastO none pre) c with
          | false =>
            have HE := Lib.hid (HNO.out hnb)
            clear hj4 hnb
            go_wp2_with fail
            go_ret
            exact HE.out ▸ ⟨rfl, HB4.out⟩
          | true =>
            have HJ4 := Lib.hid (hj4 hnb)
            have HSR4 := Lib.hid (show M.srt none (pre ++ [c]) = true from by rw [M.srt_snoc, HSR.out, hnb]; rfl)
            clear hj4 hnb
            have y0 : w4.cell? ⟨wr.heap.size, 0, none⟩ = some (.string (S c.key)) := HX4.out.cell 0
            go_wp2_with fail
            go_roundw
            case rel => exact ⟨k - 1, nx, pre ++ [c], w4.heap.size, by rw [show ((k - 1 : Nat) : Int) = (k : Int) - 1 from by omega], rfl, rfl, by rw [M.lastK_snoc], by omega, by simp; omega, hnx, HSS, HSR4, Lib.hid ⟨HJ4.out, HM4.out, Nat.le_refl _, HB4.out⟩⟩
            case measure => simp [intOf]; omega

end Go.Proofs.YtnhljlmelbiljaaGreat

/- Layer 9: the cells of bytes, by a contract. -/
namespace Go.Proofs.YtnhljlmelbiljaaGreat
set_option linter.unusedVariables false
open Go Go.RowKit
attribute [local go_sem ↓] run_index_S
attribute [local go_sem] S_append S_extract

set_option maxHeartbeats 2000000 in
set_option maxRecDepth 100000 in
theorem eachD_any (s : List UInt8) (hs : s.length ≤ 1000000) (B lb : Nat) (w : World) (hB : B ≤ lb) (hl : RowIn #[.slice none 0 0] 22 w lb) :
    Calls Tryz.prog 78 #[.string (S s), .func (.func 79) #[] #[.pointer (some ⟨lb, 0, none⟩)]] w fun e w' => TellR (JD B w.heap.size (w.heap.size + 2) (w.heap.size + 1) lb) B (M.decC s) w e w' := by
  have hmf : ∀ (fn : Fn) (first cap : Array Value) (w : World), (Instr.makeFunc fn first cap).run Tryz.prog w = .ok (.func fn first cap) w := fun _ _ _ _ => rfl
  have hlt := hl.lt
  obtain ⟨V1, hV1⟩ : ∃ v, v = Value.func (.func 79) #[] #[.pointer (some ⟨lb, 0, none⟩)] := ⟨_, rfl⟩
  obtain ⟨V2, hV2⟩ : ∃ v, v = Value.func (.func 96) #[] #[.pointer (some ⟨w.heap.size + 1, 0, none⟩)] := ⟨_, rfl⟩
  have hb := (((Below.refl w.heap.size w).alloc (Nat.le_refl _) (.cells #[V1] 143)).alloc (by rw [szA]; omega) (.cells #[.pointer none] 161)).alloc (by rw [szA, szA]; omega) (.cells #[V2] 52)
  have hx := ((rowIn_new #[V1] 143 w).more (.cells #[.pointer none] 161)).more (.cells #[V2] 52)
  have hd := (rowIn_at #[.pointer none] 161 (w.alloc (.cells #[V1] 143)) (w.heap.size + 1) (by rw [szA])).more (.cells #[V2] 52)
  have hy := rowIn_at #[V2] 52 ((w.alloc (.cells #[V1] 143)).alloc (.cells #[.pointer none] 161)) (w.heap.size + 2) (by rw [szA, szA])
  have hz : (((w.alloc (.cells #[V1] 143)).alloc (.cells #[.pointer none] 161)).alloc (.cells #[V2] 52)).heap.size = w.heap.size + 3 := by rw [szA, szA, szA]
  have HT := Lib.hid (tell9_any (JD B w.heap.size (w.heap.size + 2) (w.heap.size + 1) lb) B w.heap.size (w.heap.size + 2) s hs (fun m pre W W' h k => h.keep k) (fun m pre c W h1 h2 h3 h4 h5 => each1D_any c h1 B w.heap.size (w.heap.size + 2) (w.heap.size + 1) lb m pre h2 W h3 h4 h5)
    (((w.alloc (.cells #[V1] 143)).alloc (.cells #[.pointer none] 161)).alloc (.cells #[V2] 52)) (by rw [hz]; omega)
    ⟨⟨by omega, by rw [hz]; omega⟩, ⟨by omega, by rw [hz]; omega⟩, ⟨by omega, by rw [hz]; omega⟩, ⟨hB, by rw [hz]; omega⟩, hV1 ▸ hx, hV2 ▸ hy, hd, .slice none 0 0, hl.below hb, World.ownsRow_nil _ _ _ _, fun q hq => by simp [Value.ownBlock] at hq⟩)
  have HB := Lib.hid (hb.mono (show B ≤ w.heap.size from by omega))
  rw [hV1, hV2] at HT HB
  clear hb hx hd hy hz hl
  subst hV1 hV2
  go_enter Tryz.func78, Tryz.ntmps78
  go_wp2_with fail
  with_reducible refine (disorder_any _).mono ?_
  rintro e w1 ⟨rfl, rfl⟩
  go_wp2_with fail
  with_reducible refine (HT.out).mono ?_
  rintro e w2 h
  have HH := Lib.hid h
  clear h HT
  unfold TellR at HH
  cases hd : M.decC s with
  | none =>
    rw [hd] at HH
    simp only at HH
    obtain ⟨rfl, hb⟩ := HH.out
    have HB2 := Lib.hid (HB.out.trans hb)
    have HD := Lib.hid hd
    clear hd hb HH
    go_wp2_with fail
    go_ret
    exact HD.out ▸ ⟨rfl, HB2.out⟩
  | some L =>
    rw [hd] at HH
    simp only at HH
    obtain ⟨⟨rfl, hj⟩, hb⟩ := HH.out
    have HB2 := Lib.hid (HB.out.trans hb)
    have HJ := Lib.hid hj
    have HD := Lib.hid hd
    clear hd hb hj HH
    go_wp2_with fail
    go_ret
    exact HD.out ▸ ⟨⟨rfl, HJ.out⟩, HB2.out⟩

def DecR9 (r : Option (List M.Cl)) (w : World) (e : Ending) (w' : World) : Prop := (match r with
  | some L => ∃ ao cap, e = .returned (.tuple #[.slice ao L.length cap, .int .i64 0]) ∧ w'.ownsRow w.heap.size 38 3 (.slice ao L.length cap) L.length (cls L)
  | none => e = .returned (.tuple #[.slice none 0 0, .int .i64 30])) ∧ Below w.heap.size w w'
set_option maxHeartbeats 2000000 in
theorem decode9_any (s : List UInt8) (hs : s.length ≤ 1000000) (w : World) :
    Calls Tryz.prog 56 #[.string (S s)] w fun e w' => DecR9 (M.decC s) w e w' := by
  have hmf : ∀ (fn : Fn) (first cap : Array Value) (w : World), (Instr.makeFunc fn first cap).run Tryz.prog w = .ok (.func fn first cap) w := fun _ _ _ _ => rfl
  have HB := Lib.hid ((Below.refl w.heap.size w).alloc (Nat.le_refl _) (.cells #[.slice none 0 0] 22))
  have HE := Lib.hid (eachD_any s hs w.heap.size w.heap.size (w.alloc (.cells #[.slice none 0 0] 22)) (Nat.le_refl _) (rowIn_new _ _ _))
  go_enter Tryz.func56, Tryz.ntmps56
  go_wp2_with fail
  with_reducible refine (HE.out).mono ?_
  rintro e w2 h
  have HH := Lib.hid h
  clear h HE
  unfold TellR at HH
  cases hd : M.decC s with
  | none =>
    rw [hd] at HH
    simp only at HH
    obtain ⟨rfl, hb⟩ := HH.out
    have HB2 := Lib.hid (HB.out.trans hb)
    have HD := Lib.hid hd
    clear hd hb HH
    go_wp2_with fail
    go_ret2
    exact HD.out ▸ ⟨rfl, HB2.out⟩
  | some L =>
    rw [hd] at HH
    simp only at HH
    obtain ⟨⟨rfl, m, hm, hj⟩, hb⟩ := HH.out
    obtain ⟨v, h1, h2, -⟩ := hj.rl
    obtain ⟨ao, cap, rfl⟩ := ownP_shape h2
    have HB2 := Lib.hid (HB.out.trans hb)
    have HO := Lib.hid h2
    have HD := Lib.hid hd
    have x0 : w2.cell? ⟨w.heap.size, 0, none⟩ = some (.slice ao L.length cap) := h1.cell 0
    clear hd hb hj HH h1 h2
    go_wp2_with fail
    go_ret2
    exact HD.out ▸ ⟨⟨ao, cap, rfl, HO.out⟩, HB2.out⟩

end Go.Proofs.YtnhljlmelbiljaaGreat

/- Layer 9: the first cell of a key, by a contract. -/
namespace Go.Proofs.YtnhljlmelbiljaaGreat
set_option linter.unusedVariables false
open Go Go.RowKit
attribute [local go_sem ↓] run_index_S
attribute [local go_sem] S_append S_extract

theorem onlyS_set {A : Nat → Prop} (w : World) (b o : Nat) (v : Value) (h : A b) : OnlyS A w (w.setCell ⟨b, o, none⟩ v) :=
  ⟨rfl, rfl, rfl, by simp [World.setCell], fun k hk hn => Below.heap_setCell _ _ _ _ (fun e => hn (by cases e; exact h))⟩
/-- What Find's closure keeps: whether there was one, the key, the first one. -/
structure FindAt (fb kb xb : Nat) (key : List UInt8) (o : Option M.Cl) (w : World) : Prop where
  f : RowIn #[.bool o.isSome] 4 w fb
  k : RowIn #[.string (S key)] 9 w kb
  x : RowIn (clA (o.getD M.cl0)) 38 w xb
def nextF (key : List UInt8) (o : Option M.Cl) (c : M.Cl) : Option M.Cl := match o with
  | some x => some x
  | none => if c.key = key then some c else none
theorem FindAt.only {A : Nat → Prop} {fb kb xb : Nat} {key : List UInt8} {o : Option M.Cl} {w w' : World} (h : FindAt fb kb xb key o w) (hf : OnlyS A w w') (h1 : ¬ A fb) (h2 : ¬ A kb) (h3 : ¬ A xb) : FindAt fb kb xb key o w' := ⟨hf.row h.f h1, hf.row h.k h2, hf.row h.x h3⟩
def SeeFR (fb kb xb : Nat) (key : List UInt8) (o : Option M.Cl) (w : World) (e : Ending) (w' : World) : Prop := e = .returned (.tuple #[]) ∧ FindAt fb kb xb key o w' ∧ OnlyS (fun k => k = fb ∨ k = xb) w w'
set_option maxHeartbeats 2000000 in
set_option maxRecDepth 100000 in
theorem seeF_any (c : M.Cl) (fb kb xb : Nat) (key : List UInt8) (o : Option M.Cl) (w : World) (h : FindAt fb kb xb key o w) :
    Calls Tryz.prog 84 #[.agg (clA c), .pointer (some ⟨fb, 0, none⟩), .pointer (some ⟨kb, 0, none⟩), .pointer (some ⟨xb, 0, none⟩)] w fun e w' => SeeFR fb kb xb key (nextF key o c) w e w' := by
  have hb := (Below.refl w.heap.size w).alloc (Nat.le_refl _) (.cells (clA c) 38)
  have hfx : fb ≠ xb := rowIn_ne h.f h.x (by decide)
  have hkx : kb ≠ xb := rowIn_ne h.k h.x (by decide)
  have hkf : kb ≠ fb := rowIn_ne h.k h.f (by decide)
  have hF := h.f.below hb
  have hK := h.k.below hb
  have hX := h.x.below hb
  have f0 := hF.cell 0
  have k0 : (w.alloc (.cells (clA c) 38)).cell? ⟨kb, 0, none⟩ = some (.string (S key)) := hK.cell 0
  have HF := Lib.hid hF
  have HK := Lib.hid hK
  have HX := Lib.hid hX
  have HO := Lib.hid (onlyS_below (A := fun k => k = fb ∨ k = xb) hb)
  have HFX := Lib.hid hfx
  have HKX := Lib.hid hkx
  have HKF := Lib.hid hkf
  clear hF hK hX hb hfx hkx hkf h
  cases o with
  | some x0 =>
    have f0 : (w.alloc (.cells (clA c) 38)).cell? ⟨fb, 0, none⟩ = some (.bool true) := HF.out.cell 0
    go_enter Tryz.func84, Tryz.ntmps84
    go_wp2_with fail
    go_end0
    exact ⟨rfl, ⟨HF.out, HK.out, HX.out⟩, HO.out⟩
  | none =>
    have f0 : (w.alloc (.cells (clA c) 38)).cell? ⟨fb, 0, none⟩ = some (.bool false) := HF.out.cell 0
    by_cases he : c.key = key
    · have hq : (c.key == key) = true := by simpa using he
      have HE := Lib.hid (show nextF key none c = some c from by simp [nextF, he])
      clear he
      have x0 : (w.alloc (.cells (clA c) 38)).cell? ⟨xb, 0, none⟩ = some (.string ⟨#[]⟩) := HX.out.cell 0
      have x1 : (w.alloc (.cells (clA c) 38)).cell? ⟨xb, 1, none⟩ = some (.int .i64 0) := HX.out.cell 1
      have x2 : (w.alloc (.cells (clA c) 38)).cell? ⟨xb, 2, none⟩ = some (.string ⟨#[]⟩) := HX.out.cell 2
      have y0 := HX.out.free 0
      have y1 := HX.out.free 1
      have y2 := HX.out.free 2
      have g0 := HF.out.free 0
      have n1 : ¬ (xb = fb) := fun e => HFX.out e.symm
      have n2 : ¬ (fb = xb) := HFX.out
      go_enter Tryz.func84, Tryz.ntmps84
      go_wp2_with fail
      go_end0
      refine ⟨rfl, HE.out ▸ ⟨((((HF.out.other n2 0 _).other n2 1 _).other n2 2 _).set 0 _), ((((HK.out.other HKX.out 0 _).other HKX.out 1 _).other HKX.out 2 _).other HKF.out 0 _), ((((HX.out.set 0 _).set 1 _).set 2 _).other n1 0 _)⟩, ?_⟩
      exact (((HO.out.trans (onlyS_set _ _ _ _ (.inr rfl))).trans (onlyS_set _ _ _ _ (.inr rfl))).trans (onlyS_set _ _ _ _ (.inr rfl))).trans (onlyS_set _ _ _ _ (.inl rfl))
    · have hq : (c.key == key) = false := by simpa using he
      have HE := Lib.hid (show nextF key none c = none from by simp [nextF, he])
      clear he
      go_enter Tryz.func84, Tryz.ntmps84
      go_wp2_with fail
      go_end0
      exact ⟨rfl, by rw [HE.out]; exact ⟨HF.out, HK.out, HX.out⟩, HO.out⟩

/-- What stands between two cells. -/
structure JF (B x y d fb kb xb : Nat) (key : List UInt8) (m : Nat) (pre : List M.Cl) (W : World) : Prop where
  bx : B ≤ x ∧ x < m
  bY : B ≤ y ∧ y < m
  bd : B ≤ d ∧ d < m
  bf : B ≤ fb ∧ fb < m
  bk : kb < m
  bc : B ≤ xb ∧ xb < m
  rx : RowIn #[.func (.func 84) #[] #[.pointer (some ⟨fb, 0, none⟩), .pointer (some ⟨kb, 0, none⟩), .pointer (some ⟨xb, 0, none⟩)]] 143 W x
  rY : RowIn #[.func (.func 96) #[] #[.pointer (some ⟨d, 0, none⟩)]] 52 W y
  rd : DisM m W d (M.lastO none pre)
  rl : FindAt fb kb xb key (M.findL key pre) W
theorem JF.keep {B x y d fb kb xb m : Nat} {key : List UInt8} {pre : List M.Cl} {W W' : World} (h : JF B x y d fb kb xb key m pre W) (hb : Below m W W') : JF B x y d fb kb xb key m pre W' := by
  have hf := onlyS_from hb
  exact ⟨h.bx, h.bY, h.bd, h.bf, h.bk, h.bc, hf.row h.rx (by have := h.bx; omega), hf.row h.rY (by have := h.bY; omega), h.rd.only hf (by have := h.bd; omega) (fun g _ hg _ => by omega), h.rl.only hf (by have := h.bf; omega) (by have := h.bk; omega) (by have := h.bc; omega)⟩
theorem findL_next (key : List UInt8) (pre : List M.Cl) (c : M.Cl) : M.findL key (pre ++ [c]) = nextF key (M.findL key pre) c := by
  rw [M.findL_snoc]; rfl
set_option maxHeartbeats 2000000 in
set_option maxRecDepth 100000 in
theorem each1F_any (c : M.Cl) (hc : ClOk c) (B x y d fb kb xb m : Nat) (key : List UInt8) (pre : List M.Cl) (w : World) (hJ : JF B x y d fb kb xb key m pre w) (hB : B ≤ m) (hm : m ≤ w.heap.size) :
    Calls Tryz.prog 105 #[.agg (clA c), .pointer (some ⟨x, 0, none⟩), .pointer (some ⟨y, 0, none⟩)] w fun e w' => E1R (M.nextB (M.lastO none pre) c) (fun w' => JF B x y d fb kb xb key w'.heap.size (pre ++ [c]) w') B m w e w' := by
  obtain ⟨⟨bx1, bx2⟩, ⟨by1, by2⟩, ⟨bd1, bd2⟩, ⟨bf1, bf2⟩, bk2, ⟨bc1, bc2⟩, rx, rY, rd, rl⟩ := hJ
  have hb := (Below.refl w.heap.size w).alloc (Nat.le_refl _) (.cells (clA c) 38)
  have hf0 : OnlyS (fun k => B ≤ k ∧ k < m) w (w.alloc (.cells (clA c) 38)) := onlyS_below hb
  have hX := rowIn_new (clA c) 38 w
  have hg0 := onlyS_from (hb.mono hm)
  replace rx := rx.below hb
  replace rY := rY.below hb
  replace rl := rl.only hg0 (by omega) (by omega) (by omega)
  replace rd : DisM m (w.alloc (.cells (clA c) 38)) d (M.lastO none pre) := rd.only hg0 (by omega) (fun g _ hg _ => by omega)
  have CD := Lib.hid (seeF_any c fb kb xb key (M.findL key pre) (w.alloc (.cells (clA c) 38)) rl)
  have x0 : (w.alloc (.cells (clA c) 38)).cell? ⟨x, 0, none⟩ = some _ := rx.cell 0
  have HX := Lib.hid hX
  have HRX := Lib.hid rx
  have HRY := Lib.hid rY
  have HRD := Lib.hid rd
  have HRL := Lib.hid rl
  have HF := Lib.hid hf0
  clear hb hX rx rY rl rd hf0 hg0
  go_enter Tryz.func105, Tryz.ntmps105
  go_wp2_with fail
  with_reducible refine (CD.out).mono ?_
  rintro e w2 ⟨rfl, hl2, hf2⟩
  have HX2 := Lib.hid (hf2.row HX.out (fun h => h.elim (fun h => by omega) (fun h => by omega)))
  have HRX2 := Lib.hid (hf2.row HRX.out (fun h => h.elim (rowIn_ne HRX.out HRL.out.f (by decide)) (rowIn_ne HRX.out HRL.out.x (by decide))))
  have HRY2 := Lib.hid (hf2.row HRY.out (fun h => h.elim (rowIn_ne HRY.out HRL.out.f (by decide)) (rowIn_ne HRY.out HRL.out.x (by decide))))
  have hdrow : ∃ C, RowIn C 161 (w.alloc (.cells (clA c) 38)) d := by
    have := HRD.out
    cases hp : M.lastO none pre with
    | none => rw [hp] at this; exact ⟨_, this⟩
    | some q => rw [hp] at this; obtain ⟨g, _, _, h1, _⟩ := this; exact ⟨_, h1⟩
  obtain ⟨Cd, hdrow⟩ := hdrow
  have HRD2 := Lib.hid (HRD.out.only hf2 (fun h => h.elim (rowIn_ne hdrow HRL.out.f (by decide)) (rowIn_ne hdrow HRL.out.x (by decide))) (fun g C hg hr h => h.elim (rowIn_ne hr HRL.out.f (by decide)) (rowIn_ne hr HRL.out.x (by decide))))
  have HF2 := Lib.hid (HF.out.trans (hf2.mono (fun k hk => hk.elim (fun h => by omega) (fun h => by omega))))
  have HL2 := Lib.hid hl2
  have hs2 := hf2.size
  rw [szA] at hs2
  clear hl2 hf2 hdrow CD HX HRX HRY HRD HRL HF x0
  have x0 : w2.cell? ⟨y, 0, none⟩ = some _ := HRY2.out.cell 0
  have y0 : w2.cell? ⟨w.heap.size, 0, none⟩ = some (.string (S c.key)) := HX2.out.cell 0
  have y1 : w2.cell? ⟨w.heap.size, 1, none⟩ = some (.int .i64 c.seq) := HX2.out.cell 1
  have y2 : w2.cell? ⟨w.heap.size, 2, none⟩ = some (.string (S c.val)) := HX2.out.cell 2
  go_wp2_with fail
  with_reducible refine (dis1_any c hc _ d w2 HRD2.out.at_).mono ?_
  rintro e w3 ⟨rfl, h3, hg3⟩
  have hf3 : OnlyS (fun k => k = d) w2 w3 := onlyS_grown hg3 (fun q hq => by cases hq; rfl)
  have hs3 := hf3.size
  obtain ⟨Cd, hdrow⟩ : ∃ C, RowIn C 161 w2 d := by
    have := HRD2.out
    cases hp : M.lastO none pre with
    | none => rw [hp] at this; exact ⟨_, this⟩
    | some q => rw [hp] at this; obtain ⟨g, _, _, h1, _⟩ := this; exact ⟨_, h1⟩
  have HJ3 := Lib.hid (show M.nextB (M.lastO none pre) c = true → JF B x y d fb kb xb key w3.heap.size (pre ++ [c]) w3 from fun hb => by
    refine ⟨⟨bx1, by omega⟩, ⟨by1, by omega⟩, ⟨bd1, by omega⟩, ⟨bf1, by omega⟩, by omega, ⟨bc1, by omega⟩, hf3.row HRX2.out (rowIn_ne HRX2.out hdrow (by decide)), hf3.row HRY2.out (rowIn_ne HRY2.out hdrow (by decide)), ?_, ?_⟩
    · rw [M.lastO_snoc]; exact (h3 hb).toM
    · rw [findL_next]; exact HL2.out.only hf3 (rowIn_ne HL2.out.f hdrow (by decide)) (rowIn_ne HL2.out.k hdrow (by decide)) (rowIn_ne HL2.out.x hdrow (by decide)))
  have HF3 := Lib.hid (HF2.out.trans (hf3.mono (fun k hk => by subst hk; exact ⟨bd1, bd2⟩)))
  clear h3 hg3 hf3 hdrow x0 y0 y1 y2
  go_wp2_with fail
  go_ret
  exact ⟨rfl, HJ3.out, HF3.out⟩

set_option maxHeartbeats 2000000 in
set_option maxRecDepth 100000 in
theorem eachFd_any (s key : List UInt8) (hs : s.length ≤ 1000000) (B fb kb xb : Nat) (w : World) (hB : B ≤ fb ∧ B ≤ xb) (hl : FindAt fb kb xb key none w) :
    Calls Tryz.prog 78 #[.string (S s), .func (.func 84) #[] #[.pointer (some ⟨fb, 0, none⟩), .pointer (some ⟨kb, 0, none⟩), .pointer (some ⟨xb, 0, none⟩)]] w fun e w' => TellR (JF B w.heap.size (w.heap.size + 2) (w.heap.size + 1) fb kb xb key) B (M.decC s) w e w' := by
  have hmf : ∀ (fn : Fn) (first cap : Array Value) (w : World), (Instr.makeFunc fn first cap).run Tryz.prog w = .ok (.func fn first cap) w := fun _ _ _ _ => rfl
  have hlf := hl.f.lt
  have hlk := hl.k.lt
  have hlx := hl.x.lt
  obtain ⟨hB1, hB3⟩ := hB
  have hB0 : B ≤ w.heap.size := by omega
  obtain ⟨V1, hV1⟩ : ∃ v, v = Value.func (.func 84) #[] #[.pointer (some ⟨fb, 0, none⟩), .pointer (some ⟨kb, 0, none⟩), .pointer (some ⟨xb, 0, none⟩)] := ⟨_, rfl⟩
  obtain ⟨V2, hV2⟩ : ∃ v, v = Value.func (.func 96) #[] #[.pointer (some ⟨w.heap.size + 1, 0, none⟩)] := ⟨_, rfl⟩
  have hb := (((Below.refl w.heap.size w).alloc (Nat.le_refl _) (.cells #[V1] 143)).alloc (by rw [szA]; omega) (.cells #[.pointer none] 161)).alloc (by rw [szA, szA]; omega) (.cells #[V2] 52)
  have hx := ((rowIn_new #[V1] 143 w).more (.cells #[.pointer none] 161)).more (.cells #[V2] 52)
  have hd := (rowIn_at #[.pointer none] 161 (w.alloc (.cells #[V1] 143)) (w.heap.size + 1) (by rw [szA])).more (.cells #[V2] 52)
  have hy := rowIn_at #[V2] 52 ((w.alloc (.cells #[V1] 143)).alloc (.cells #[.pointer none] 161)) (w.heap.size + 2) (by rw [szA, szA])
  have hz : (((w.alloc (.cells #[V1] 143)).alloc (.cells #[.pointer none] 161)).alloc (.cells #[V2] 52)).heap.size = w.heap.size + 3 := by rw [szA, szA, szA]
  have HT := Lib.hid (tell9_any (JF B w.heap.size (w.heap.size + 2) (w.heap.size + 1) fb kb xb key) B w.heap.size (w.heap.size + 2) s hs (fun m pre W W' h k => h.keep k) (fun m pre c W h1 h2 h3 h4 h5 => each1F_any c h1 B w.heap.size (w.heap.size + 2) (w.heap.size + 1) fb kb xb m key pre W h3 h4 h5)
    (((w.alloc (.cells #[V1] 143)).alloc (.cells #[.pointer none] 161)).alloc (.cells #[V2] 52)) (by rw [hz]; omega)
    ⟨⟨by omega, by rw [hz]; omega⟩, ⟨by omega, by rw [hz]; omega⟩, ⟨by omega, by rw [hz]; omega⟩, ⟨hB1, by rw [hz]; omega⟩, by rw [hz]; omega, ⟨hB3, by rw [hz]; omega⟩, hV1 ▸ hx, hV2 ▸ hy, hd, hl.f.below hb, hl.k.below hb, hl.x.below hb⟩)
  have HB := Lib.hid (hb.mono (show B ≤ w.heap.size from by omega))
  rw [hV1, hV2] at HT HB
  clear hb hx hd hy hz hl
  subst hV1 hV2
  go_enter Tryz.func78, Tryz.ntmps78
  go_wp2_with fail
  with_reducible refine (disorder_any _).mono ?_
  rintro e w1 ⟨rfl, rfl⟩
  go_wp2_with fail
  with_reducible refine (HT.out).mono ?_
  rintro e w2 h
  have HH := Lib.hid h
  clear h HT
  unfold TellR at HH
  cases hd : M.decC s with
  | none =>
    rw [hd] at HH
    simp only at HH
    obtain ⟨rfl, hb⟩ := HH.out
    have HB2 := Lib.hid (HB.out.trans hb)
    have HD := Lib.hid hd
    clear hd hb HH
    go_wp2_with fail
    go_ret
    exact HD.out ▸ ⟨rfl, HB2.out⟩
  | some L =>
    rw [hd] at HH
    simp only at HH
    obtain ⟨⟨rfl, hj⟩, hb⟩ := HH.out
    have HB2 := Lib.hid (HB.out.trans hb)
    have HJ := Lib.hid hj
    have HD := Lib.hid hd
    clear hd hb hj HH
    go_wp2_with fail
    go_ret
    exact HD.out ▸ ⟨⟨rfl, HJ.out⟩, HB2.out⟩


def FindR9 (r : Option M.Cl) (w : World) (e : Ending) (w' : World) : Prop := e = .returned (.tuple #[.agg (clA (r.getD M.cl0)), .bool r.isSome]) ∧ Below w.heap.size w w'
set_option maxHeartbeats 4000000 in
set_option maxRecDepth 100000 in
theorem find9_any (s key : List UInt8) (hs : s.length ≤ 1000000) (w : World) :
    Calls Tryz.prog 60 #[.string (S s), .string (S key)] w fun e w' => FindR9 (M.findC s key) w e w' := by
  have hmf : ∀ (fn : Fn) (first cap : Array Value) (w : World), (Instr.makeFunc fn first cap).run Tryz.prog w = .ok (.func fn first cap) w := fun _ _ _ _ => rfl
  have hb := ((((Below.refl w.heap.size w).alloc (Nat.le_refl _) (.cells #[.string (S key)] 9)).alloc (by rw [szA]; omega) (.cells clZ9 38)).alloc (by rw [szA, szA]; omega) (.cells clZ9 38)).alloc (by rw [szA, szA, szA]; omega) (.cells #[.bool false] 4)
  have hk := (((rowIn_new #[.string (S key)] 9 w).more (.cells clZ9 38)).more (.cells clZ9 38)).more (.cells #[.bool false] 4)
  have hr := ((rowIn_at clZ9 38 (w.alloc (.cells #[.string (S key)] 9)) (w.heap.size + 1) (by rw [szA])).more (.cells clZ9 38)).more (.cells #[.bool false] 4)
  have hx := (rowIn_at clZ9 38 ((w.alloc (.cells #[.string (S key)] 9)).alloc (.cells clZ9 38)) (w.heap.size + 2) (by rw [szA, szA])).more (.cells #[.bool false] 4)
  have hf := rowIn_at #[.bool false] 4 (((w.alloc (.cells #[.string (S key)] 9)).alloc (.cells clZ9 38)).alloc (.cells clZ9 38)) (w.heap.size + 3) (by rw [szA, szA, szA])
  have HE := Lib.hid (eachFd_any s key hs (w.heap.size + 2) (w.heap.size + 3) w.heap.size (w.heap.size + 2) _ ⟨by omega, by omega⟩ ⟨hf, hk, hx⟩)
  have HB := Lib.hid hb
  have HR := Lib.hid hr
  clear hb hk hr hx hf
  go_enter Tryz.func60, Tryz.ntmps60
  go_wp2_with fail
  with_reducible refine (HE.out).mono ?_
  rintro e w2 h
  have HH := Lib.hid h
  clear h HE
  unfold TellR at HH
  cases hd : M.decC s with
  | none =>
    rw [hd] at HH
    simp only at HH
    obtain ⟨rfl, hb⟩ := HH.out
    have HRR := Lib.hid ((onlyS_from hb).row HR.out (by omega))
    have HB2 := Lib.hid (HB.out.trans (hb.mono (Nat.le_add_right _ 2)))
    have HD := Lib.hid (show M.findC s key = none from by rw [M.findC, hd])
    clear hd hb HH HR HB
    go_wp2_with ((refine wpList_store_hid rfl 38 _ _ rfl (w.heap.size + 1) _ rfl rfl 38 clZ9 HRR.out ?_ rfl (by simp [Value.oneCell']) ?_; kernel_rfl; intro w3 hrQ hbelQ hothQ hszQ; have HXE := Lib.hid hrQ; have HBE := Lib.hid (hbelQ w.heap.size w (Nat.le_add_right _ 1) HB2.out); clear hrQ hbelQ hothQ hszQ))
    try simp only [Exit.inBlock, Exit.then]
    exact bodyPost_ret (ret_rowP2 rfl _ _ (w.heap.size + 1) rfl (load_struct Tryz.underlying38 (by kernel_rfl) HXE.out)) rfl (show FindR9 (M.findC s key) w _ _ from by rw [HD.out]; exact ⟨rfl, HBE.out⟩)
  | some L =>
    rw [hd] at HH
    simp only at HH
    obtain ⟨⟨rfl, m, hm, hj⟩, hb⟩ := HH.out
    have HRR := Lib.hid ((onlyS_from hb).row HR.out (by omega))
    have HB2 := Lib.hid (HB.out.trans (hb.mono (Nat.le_add_right _ 2)))
    have HFA := Lib.hid hj.rl
    have HD0 : M.findC s key = M.findL key L := by rw [M.findC, hd]
    clear hd hb hj HH HR HB
    cases ho : M.findL key L with
    | none =>
      rw [ho] at HFA
      have HD := Lib.hid (HD0.trans ho)
      have f0 : w2.cell? ⟨w.heap.size + 3, 0, none⟩ = some (.bool false) := HFA.out.f.cell 0
      clear ho HD0
      go_wp2_with ((refine wpList_store_hid rfl 38 _ _ rfl (w.heap.size + 1) _ rfl rfl 38 clZ9 HRR.out ?_ rfl (by simp [Value.oneCell']) ?_; kernel_rfl; intro w3 hrQ hbelQ hothQ hszQ; have HXE := Lib.hid hrQ; have HBE := Lib.hid (hbelQ w.heap.size w (Nat.le_add_right _ 1) HB2.out); clear hrQ hbelQ hothQ hszQ))
      try simp only [Exit.inBlock, Exit.then]
      exact bodyPost_ret (ret_rowP2 rfl _ _ (w.heap.size + 1) rfl (load_struct Tryz.underlying38 (by kernel_rfl) HXE.out)) rfl (show FindR9 (M.findC s key) w _ _ from by rw [HD.out]; exact ⟨rfl, HBE.out⟩)
    | some c =>
      rw [ho] at HFA
      have HD := Lib.hid (HD0.trans ho)
      have f0 : w2.cell? ⟨w.heap.size + 3, 0, none⟩ = some (.bool true) := HFA.out.f.cell 0
      have HXX := Lib.hid HFA.out.x
      clear ho HD0
      go_wp2_with (first | (refine wpList_load_row rfl 38 _ rfl (w.heap.size + 2) rfl 38 _ (0, 0) _ HXX.out Tryz.underlying38 rfl ?_ ?_; kernel_rfl) | (refine wpList_store_hid rfl 38 _ _ rfl (w.heap.size + 1) _ rfl rfl 38 clZ9 HRR.out ?_ rfl (by simp [Value.oneCell']) ?_; kernel_rfl; intro w3 hrQ hbelQ hothQ hszQ; have HXE := Lib.hid hrQ; have HBE := Lib.hid (hbelQ w.heap.size w (Nat.le_add_right _ 1) HB2.out); clear hrQ hbelQ hothQ hszQ))
      try simp only [Exit.inBlock, Exit.then]
      exact bodyPost_ret (ret_rowP2 rfl _ _ (w.heap.size + 1) rfl (load_struct Tryz.underlying38 (by kernel_rfl) HXE.out)) rfl (show FindR9 (M.findC s key) w _ _ from by rw [HD.out]; exact ⟨rfl, HBE.out⟩)

end Go.Proofs.YtnhljlmelbiljaaGreat
