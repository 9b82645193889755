/- Two strings.Builders of one call, side by side: neither is written into the other's row. -/
import Derived.Test.YthidmgnfdikppaaZG
namespace Go.Proofs.Ythidmgnfdikppaa
set_option linter.unusedVariables false
open Go Go.RowKit

section
variable {P : Program} (w : World)
/-- Where the new slice lies. -/
theorem append_string_where (base : Nat) (t u ty e : TypeId) (i : TypeInfo) (ht : P.underlying t = some (.slice e)) (hu : P.underlying u = some .string) (hi : P.info? e = some i) (hz : i.zero = some (.int .u8 0)) (hsize : i.size = 1) (hby : i.bytes = 1)
    (v : Value) (n : Nat) (xs : List Value) (hown : w.ownsRow base e 1 v n xs) (s : ByteArray) (h63 : n + s.size ≤ maxLen) (hbytes : n + s.size ≤ 140737488355328) {v' : Value} {w' : World}
    (hr : (Builtin.append_ #[t, u] ty #[v, .string s]).run P w = .ok v' w') (hn : v' = .slice none 0 0 ↔ v = .slice none 0 0 ∧ s.size = 0) : v'.ownBlock = v.ownBlock ∨ v'.ownBlock = some w.heap.size := by
  have hsmall : n + s.size ≤ 9223372036854775807 := by simp only [maxLen] at h63; omega
  have hxl : xs.length = n := by simpa using hown.1
  rcases hown.2 with ⟨rfl, rfl⟩ | ⟨g, cap, cur, rfl, hbg, hg, hnc, hcm, hcs, htake⟩
  · by_cases hm : s.size = 0
    · left; rw [hn.2 ⟨rfl, hm⟩]
    · have hr2 := run_append_nil_string (P := P) w t u ty e i (.int .u8 0) ht hu hi hz s (by omega) (by omega) (by rw [hby]; omega)
      rw [hr] at hr2
      injection hr2 with h1 h2
      right; rw [h1]; rfl
  · by_cases hroom : n + s.size ≤ cap
    · have hr2 := Lib.run_append_room_string (P := P) w t u ty e i ht hu hi hsize g n cap cur hg s hroom (by simp at hcs; omega)
      rw [hr] at hr2
      injection hr2 with h1 h2
      left; rw [h1]; rfl
    · have holds : ∀ j u, xs[j]? = some u → w.cell? ((⟨g, 0, none⟩ : Addr).add j) = some u := hown.cells (g := g) rfl
      have hr2 := Lib.run_append_grow_string (P := P) w t u ty e i (.int .u8 0) ht hu hi hz ⟨g, 0, none⟩ n cap xs (by rw [hsize]; simpa using hxl) holds s (by omega) (by omega) (by rw [hby]; exact growslice_fits (by omega) (by omega))
      rw [hr] at hr2
      injection hr2 with h1 h2
      right; rw [h1]; rfl
theorem wpList_append_string_at {ops : Array Oper} {rest : List Oper} {o : Oper} {a : Act} {Q : Exit → Act → World → Prop} (hgd : o.guard = none) (sl x : Operand) (t u : TypeId)
    (ho : o.op = .call { callee := .builtin .append, args := #[sl, x], argTypes := #[t, u] })
    (base : Nat) (e : TypeId) (i : TypeInfo) (ht : P.underlying t = some (.slice e)) (hu : P.underlying u = some .string) (hi : P.info? e = some i) (hz : i.zero = some (.int .u8 0))
    (hsize : i.size = 1) (hby : i.bytes = 1)
    (v : Value) (n : Nat) (xs : List Value) (hs : a.eval sl = v) (hown : w.ownsRow base e 1 v n xs) (s : ByteArray) (hx : a.eval x = .string s)
    (h63 : n + s.size ≤ maxLen) (hbytes : n + s.size ≤ 140737488355328) (hbase : base ≤ w.heap.size)
    (h : ∀ v' w', w'.ownsRow base e 1 v' (n + s.size) (xs ++ Lib.strCells s) → w.grownBy w' v.ownBlock → (v'.ownBlock = v.ownBlock ∨ v'.ownBlock = some w.heap.size) → wpList P ops Q rest (a.put o.dst v') w') : wpList P ops Q (o :: rest) a w := by
  refine wpList_plain hgd fun K hK => ?_
  obtain ⟨v', w', hr, h2, h3, h4⟩ := Lib.run_append_own_string (P := P) w base t u o.type e i ht hu hi hz hsize hby v n xs hown s h63 hbytes hbase
  have h5 := append_string_where w base t u o.type e i ht hu hi hz hsize hby v n xs hown s h63 hbytes hr h4
  unfold Oper.wp execOp
  simp only [ho, resolve, invoke, builtin, Sem.run_bind, Sem.run_pure, Result.andThen_ok, List.map_toArray, List.map_cons, List.map_nil, hs, hx, hr]
  exact hK _ _ (h v' w' h2 h3 h5)
end

/-- A builder by its row. -/
structure BdV (B b : Nat) (l : List UInt8) (v : Value) (w : World) : Prop where
  hB : B ≤ b
  row : RowIn #[.pointer none, v] 94 w b ∨ RowIn #[.pointer (some ⟨b, 0, none⟩), v] 94 w b
  own : w.ownsRow B 5 1 v l.length (Lib.byteCells l)
theorem BdV.ne {B b : Nat} {l : List UInt8} {v : Value} {w : World} (h : BdV B b l v w) : v.ownBlock ≠ some b := by
  rcases h.row with k | k
  · exact fun e => row_apart k h.own (by decide) b e rfl
  · exact fun e => row_apart k h.own (by decide) b e rfl
theorem BdV.at_ {B b : Nat} {l : List UInt8} {v : Value} {w : World} (h : BdV B b l v w) : BdAt B b l w := by
  have hl : (Lib.byteCells l).length = l.length := by simp [Lib.byteCells]
  rcases h.row with k | k
  · exact .inl ⟨h.hB, v, k, by rw [hl]; exact h.own, h.ne⟩
  · exact .inr ⟨h.hB, v, k, by rw [hl]; exact h.own, h.ne⟩
theorem BdV.lt {B b : Nat} {l : List UInt8} {v : Value} {w : World} (h : BdV B b l v w) : b < w.heap.size := by
  rcases h.row with k | k <;> exact k.lt
theorem BdV.below {B b : Nat} {l : List UInt8} {v : Value} {w w' : World} (h : BdV B b l v w) (hb : Below w.heap.size w w') : BdV B b l v w' :=
  ⟨h.hB, h.row.imp (fun k => k.below hb) (fun k => k.below hb), ownP_below h.own hb⟩
theorem BdV.only {A : Nat → Prop} {B b : Nat} {l : List UInt8} {v : Value} {w w' : World} (h : BdV B b l v w) (hf : OnlyS A w w') (h1 : ¬ A b) (h2 : ∀ q, v.ownBlock = some q → ¬ A q) : BdV B b l v w' :=
  ⟨h.hB, h.row.imp (fun k => hf.row k h1) (fun k => hf.row k h1), hf.own h.own h2⟩
theorem bdV_new {w : World} {B b : Nat} (hB : B ≤ b) (h : RowIn #[.pointer none, .slice none 0 0] 94 w b) : BdV B b [] (.slice none 0 0) w := ⟨hB, .inl h, World.ownsRow_nil _ _ _ _⟩
theorem copyCheckV (B b : Nat) (l : List UInt8) (v : Value) (w : World) (h : BdV B b l v w) :
    Calls Try.prog 105 #[.pointer (some ⟨b, 0, none⟩)] w fun e w' => e = .returned (.tuple #[]) ∧ RowIn #[.pointer (some ⟨b, 0, none⟩), v] 94 w' b ∧ BdV B b l v w' ∧ OnlyS (fun k => k = b) w w' ∧ w'.heap.size = w.heap.size := by
  rcases h.row with k | k
  · refine (copyCheck_fresh b w (k.cell 0) (by unfold World.shape?; rw [k]; rfl) (k.free 0)).mono ?_
    rintro e w' ⟨rfl, rfl⟩
    have hf := onlyS_set (A := fun k => k = b) w b 0 (.pointer (some ⟨b, 0, none⟩)) rfl
    have k2 : RowIn #[.pointer (some ⟨b, 0, none⟩), v] 94 (w.setCell ⟨b, 0, none⟩ (.pointer (some ⟨b, 0, none⟩))) b := k.set 0 _
    exact ⟨rfl, k2, ⟨h.hB, .inr k2, hf.own h.own (fun q hq e => by subst e; exact h.ne hq)⟩, hf, by simp [World.setCell]⟩
  · refine (copyCheck_used b w (k.cell 0)).mono ?_
    rintro e w' ⟨rfl, rfl⟩
    exact ⟨rfl, k, h, onlyS_below (Below.refl _ _), rfl⟩
def WriteVR (B b : Nat) (l t : List UInt8) (v : Value) (w : World) (e : Ending) (w' : World) : Prop := e = .returned (.tuple #[.int .i64 t.length, .nilIface]) ∧ ∃ v', BdV B b (l ++ t) v' w' ∧ OnlyS (fun k => k = b ∨ v.ownBlock = some k) w w' ∧ (v'.ownBlock = v.ownBlock ∨ v'.ownBlock = some w.heap.size)
set_option maxHeartbeats 2000000 in
set_option maxRecDepth 100000 in
theorem writeV_any (B b : Nat) (l t : List UInt8) (v : Value) (w : World) (h : BdV B b l v w) (hlen : l.length + t.length ≤ 140737488355328) (hBw : B ≤ w.heap.size) :
    Calls Try.prog 65 #[.pointer (some ⟨b, 0, none⟩), .string (S t)] w fun e w' => WriteVR B b l t v w e w' := by
  obtain ⟨i0, hi, hz0, hz1, hz2⟩ := info_parts infoBt
  have hl : (Lib.byteCells l).length = l.length := by simp [Lib.byteCells]
  go_enter Try.func65, Try.ntmps65
  go_wp2_with fail
  refine (copyCheckV B b l v _ h).mono ?_
  rintro e w1 ⟨rfl, hrow, h1, hf1, hs1⟩
  have HR := Lib.hid hrow
  have HF1 := Lib.hid hf1
  have HS1 := Lib.hid hs1
  have HV := Lib.hid h1
  have c0 : w1.cell? ⟨b, 0, none⟩ = some (.pointer (some ⟨b, 0, none⟩)) := hrow.cell 0
  have c1 : w1.cell? ⟨b, 1, none⟩ = some v := hrow.cell 1
  have hown := h1.own
  clear hrow hf1 h1 hs1
  go_wp2_with (at_builtin; refine wpList_append_string_at _ rfl _ _ 92 9 rfl B 5 i0 Try.underlying92 Try.underlying9 hi hz0 hz1 hz2 _ _ _ rfl hown (S t) rfl ?c3 ?c4 ?c5 ?_)
  case c3 => unfold maxLen; simp [ByteArray.size]; omega
  case c4 => simp [ByteArray.size]; omega
  case c5 => rw [HS1.out]; exact hBw
  intro v' w2 hown' hgrow hat
  have HO := Lib.hid hown'
  have HF2 := Lib.hid (onlyS_grown (A := fun k => k = b ∨ v.ownBlock = some k) hgrow (fun q hq => .inr hq))
  have HW := Lib.hid (show v'.ownBlock = v.ownBlock ∨ v'.ownBlock = some w.heap.size from by rw [← HS1.out]; exact hat)
  have HR2 := Lib.hid (HR.out.grownP hgrow (row_apart HR.out hown (by decide)))
  clear hgrow hat hown'
  have d0 : w2.cell? ⟨b, 0, none⟩ = some (.pointer (some ⟨b, 0, none⟩)) := HR2.out.cell 0
  have d1 : w2.cell? ⟨b, 1, none⟩ = some v := HR2.out.cell 1
  have f1 : w2.frozen? ⟨b, 1, none⟩ = false := HR2.out.free 1
  obtain ⟨ao, n', cap, rfl⟩ : ∃ ao n' cap, v' = .slice ao n' cap := by
    rcases HO.out.2 with ⟨hv, _⟩ | ⟨g, cap, cur, hv, _⟩
    · exact ⟨_, _, _, hv⟩
    · exact ⟨_, _, _, hv⟩
  have hcells : Lib.byteCells (l ++ t) = Lib.byteCells l ++ Lib.strCells (S t) := by simp [Lib.byteCells, Lib.strCells]
  go_wp2
  go_ret2
  refine ⟨by simp, .slice ao n' cap, ⟨HV.out.hB, .inr (HR2.out.set 1 _), ?_⟩, ?_, HW.out⟩
  · have hne := row_apart HR2.out HO.out (by decide)
    have hf := onlyS_set (A := fun k => k = b) w2 b 1 (.slice ao n' cap) rfl
    have := hf.own HO.out (fun q hq e => hne q hq e)
    rw [hcells, List.length_append]
    simpa [ByteArray.size] using this
  · exact ((HF1.out.mono (fun k hk => .inl hk)).trans HF2.out).trans (onlyS_set _ _ _ _ (.inl rfl))
theorem onlyS_freeze {A : Nat → Prop} (w : World) (p : Addr) (n : Nat) (hp : A p.block) : OnlyS A w (w.freeze p n) := by
  unfold World.freeze
  split
  · exact onlyS_below (Below.refl _ _)
  · exact ⟨rfl, rfl, rfl, by simp, fun k hk hn => by
      simp only [Array.getElem?_modify]
      rw [if_neg (fun (e : p.block = k) => hn (by rw [← e]; exact hp))]⟩
def StringVR (l : List UInt8) (v : Value) (w : World) (e : Ending) (w' : World) : Prop := e = .returned (.string ⟨l.toArray⟩) ∧ OnlyS (fun k => v.ownBlock = some k) w w'
theorem onlyS_sameD {A : Nat → Prop} (w : World) : OnlyS A w w.drew := ⟨rfl, rfl, rfl, Nat.le_refl _, fun _ _ _ => rfl⟩
theorem unsafeS_none (W : World) (q : Option Addr) : (Builtin.unsafeString_ #[145, 3] 9 #[.pointer q, .int .i64 0]).run Try.prog W = .ok (.string .empty) W :=
  Lib.run_unsafeString_none W _ _ _ q
set_option maxHeartbeats 2000000 in
set_option maxRecDepth 100000 in
theorem stringV_some (b g : Nat) (p : Value) (l : List UInt8) (h0 : l ≠ []) (cap : Nat) (cur : Array Value) (w : World) (hr : RowIn #[p, .slice (some ⟨g, 0, none⟩) l.length cap] 94 w b) (hg : w.heap[g]? = some (.cells cur 5 (0, 0)))
    (hnc : l.length ≤ cap) (hcm : cap ≤ maxLen) (hcs : cur.size = cap) (hc : ∀ j u, (Lib.byteCells l)[j]? = some u → w.cell? ((⟨g, 0, none⟩ : Addr).add j) = some u) :
    Calls Try.prog 72 #[.pointer (some ⟨b, 0, none⟩)] w fun e w' => StringVR l (.slice (some ⟨g, 0, none⟩) l.length cap) w e w' := by
  have hl0 : l.length ≠ 0 := by simpa using h0
  have c1 : w.drew.cell? ⟨b, 1, none⟩ = some (.slice (some ⟨g, 0, none⟩) l.length cap) := RowIn.cell (w := w.drew) hr 1
  have hSD : (Builtin.unsafeSliceData_ #[92] 145 #[.slice (some ⟨g, 0, none⟩) l.length cap]).run Try.prog w.drew = .ok (.pointer (some ⟨g, 0, none⟩)) w.drew :=
    Lib.run_unsafeSliceData_row _ _ _ _ _ _ (by omega)
  have hUS : (Builtin.unsafeString_ #[145, 3] 9 #[.pointer (some ⟨g, 0, none⟩), .int .i64 l.length]).run Try.prog w.drew = .ok (.string ⟨l.toArray⟩) (w.drew.freeze ⟨g, 0, none⟩ l.length) := by
    refine Lib.run_unsafeString_row w.drew 145 3 9 5 Try.underlying145 (by kernel_rfl) g cur.size (by have hg' : w.drew.heap[g]? = some (.cells cur 5 (0, 0)) := hg; simp [World.shape?, hg']) l h0 (by omega) (by unfold maxLen at hcm; omega) ?_
    intro j x hx
    exact hc j (.int .u8 x.toNat) (by simp [Lib.byteCells, hx])
  have HO := Lib.hid (onlyS_freeze (A := fun k => (Value.slice (some ⟨g, 0, none⟩) l.length cap).ownBlock = some k) w.drew ⟨g, 0, none⟩ l.length rfl)
  clear hc hcs hcm hnc
  go_enter Try.func72, Try.ntmps72
  go_wp2
  go_region
  all_goals (go_wp2; go_ret; exact ⟨rfl, (onlyS_sameD w).trans HO.out⟩)
set_option maxHeartbeats 2000000 in
set_option maxRecDepth 100000 in
theorem stringV_nil (b : Nat) (p : Value) (w : World) (hr : RowIn #[p, .slice none 0 0] 94 w b) :
    Calls Try.prog 72 #[.pointer (some ⟨b, 0, none⟩)] w fun e w' => StringVR [] (.slice none 0 0) w e w' := by
  have hUS := unsafeS_none
  have c1 : w.drew.cell? ⟨b, 1, none⟩ = some (.slice none 0 0) := RowIn.cell (w := w.drew) hr 1
  have hSD : (Builtin.unsafeSliceData_ #[92] 145 #[.slice none 0 0]).run Try.prog w.drew = .ok (.pointer none) w.drew := rfl
  go_enter Try.func72, Try.ntmps72
  go_wp2
  go_region
  all_goals (go_wp2; go_ret; exact ⟨rfl, onlyS_sameD w⟩)
set_option maxHeartbeats 2000000 in
set_option maxRecDepth 100000 in
theorem stringV_room (b g : Nat) (p : Value) (cap : Nat) (h0 : cap ≠ 0) (w : World) (hr : RowIn #[p, .slice (some ⟨g, 0, none⟩) 0 cap] 94 w b) :
    Calls Try.prog 72 #[.pointer (some ⟨b, 0, none⟩)] w fun e w' => StringVR [] (.slice (some ⟨g, 0, none⟩) 0 cap) w e w' := by
  have hUS := unsafeS_none
  have c1 : w.drew.cell? ⟨b, 1, none⟩ = some (.slice (some ⟨g, 0, none⟩) 0 cap) := RowIn.cell (w := w.drew) hr 1
  have hSD : (Builtin.unsafeSliceData_ #[92] 145 #[.slice (some ⟨g, 0, none⟩) 0 cap]).run Try.prog w.drew = .ok (.pointer (some ⟨g, 0, none⟩)) w.drew :=
    Lib.run_unsafeSliceData_row _ _ _ _ _ _ h0
  clear h0
  go_enter Try.func72, Try.ntmps72
  go_wp2
  go_region
  all_goals (go_wp2; go_ret; exact ⟨rfl, onlyS_sameD w⟩)
set_option maxHeartbeats 2000000 in
set_option maxRecDepth 100000 in
theorem stringV_noroom (b g : Nat) (p : Value) (cur : Array Value) (w : World) (hr : RowIn #[p, .slice (some ⟨g, 0, none⟩) 0 0] 94 w b) (hg : w.heap[g]? = some (.cells cur 5 (0, 0))) :
    Calls Try.prog 72 #[.pointer (some ⟨b, 0, none⟩)] w fun e w' => StringVR [] (.slice (some ⟨g, 0, none⟩) 0 0) w e w' := by
  have hUS := unsafeS_none
  have c1 : w.drew.cell? ⟨b, 1, none⟩ = some (.slice (some ⟨g, 0, none⟩) 0 0) := RowIn.cell (w := w.drew) hr 1
  have hSD : (Builtin.unsafeSliceData_ #[92] 145 #[.slice (some ⟨g, 0, none⟩) 0 0]).run Try.prog w.drew = .ok (.pointer (some ⟨w.drew.heap.size, 0, none⟩)) (w.drew.alloc (.view ⟨g, 0, none⟩ 5)) :=
    Lib.run_unsafeSliceData_zero w.drew _ _ 5 Try.underlying145 ⟨g, 0, none⟩ 0 (5, cur.size) (by have hg' : w.drew.heap[g]? = some (.cells cur 5 (0, 0)) := hg; simp [World.shape?, hg'])
  have c2 : (w.drew.alloc (.view ⟨g, 0, none⟩ 5)).cell? ⟨b, 1, none⟩ = some (.slice (some ⟨g, 0, none⟩) 0 0) := RowIn.cell (RowIn.more (w := w.drew) hr _) 1
  have c3 : (w.alloc (.view ⟨g, 0, none⟩ 5)).drew.cell? ⟨b, 1, none⟩ = some (.slice (some ⟨g, 0, none⟩) 0 0) := c2
  have c0 : w.cell? ⟨b, 1, none⟩ = some (.slice (some ⟨g, 0, none⟩) 0 0) := c1
  have HO := Lib.hid (onlyS_below (A := fun k => (Value.slice (some ⟨g, 0, none⟩) 0 0).ownBlock = some k) ((Below.refl w.heap.size w).alloc (Nat.le_refl _) (.view ⟨g, 0, none⟩ 5)))
  go_enter Try.func72, Try.ntmps72
  go_wp2
  go_region
  all_goals (go_wp2; go_ret; exact ⟨rfl, ⟨HO.out.os, HO.out.tape, HO.out.output, HO.out.size, HO.out.block⟩⟩)
theorem stringV_any (B b : Nat) (l : List UInt8) (v : Value) (w : World) (h : BdV B b l v w) :
    Calls Try.prog 72 #[.pointer (some ⟨b, 0, none⟩)] w fun e w' => StringVR l v w e w' := by
  obtain ⟨p, hr⟩ : ∃ p, RowIn #[p, v] 94 w b := by rcases h.row with k | k <;> exact ⟨_, k⟩
  rcases h.own.2 with ⟨rfl, h0⟩ | ⟨g, cap, cur, rfl, hB, hg, hnc, hcm, hcs, ht⟩
  · obtain rfl : l = [] := List.eq_nil_of_length_eq_zero h0
    exact stringV_nil b p w hr
  · by_cases h0 : l = []
    · subst h0
      by_cases hc : cap = 0
      · subst hc; exact stringV_noroom b g p cur w hr hg
      · exact stringV_room b g p cap hc w hr
    · exact stringV_some b g p l h0 cap cur w hr hg hnc hcm (by simpa using hcs) (fun j u hu => h.own.cells (g := g) rfl j u hu)
/-- Two of them. -/
structure Bd2 (B b c : Nat) (l m : List UInt8) (w : World) : Prop where
  ne : b ≠ c
  two : ∃ v u, BdV B b l v w ∧ BdV B c m u w ∧ (∀ q, v.ownBlock = some q → u.ownBlock ≠ some q)
theorem Bd2.symm {B b c : Nat} {l m : List UInt8} {w : World} (h : Bd2 B b c l m w) : Bd2 B c b m l w := by
  obtain ⟨h1, v, u, h2, h3, h4⟩ := h
  exact ⟨h1.symm, u, v, h3, h2, fun q hq e => h4 q e hq⟩
theorem Bd2.below {B b c : Nat} {l m : List UInt8} {w w' : World} (h : Bd2 B b c l m w) (hb : Below w.heap.size w w') : Bd2 B b c l m w' := by
  obtain ⟨h1, v, u, h2, h3, h4⟩ := h
  exact ⟨h1, v, u, h2.below hb, h3.below hb, h4⟩
instance car_bd2 {w w' : World} {B b c : Nat} {l m : List UInt8} : Car w w' (Bd2 B b c l m w) (Bd2 B b c l m w') := ⟨fun hb h => Bd2.below h hb⟩
theorem Bd2.first {B b c : Nat} {l m : List UInt8} {w : World} (h : Bd2 B b c l m w) : BdAt B b l w := by
  obtain ⟨h1, v, u, h2, h3, h4⟩ := h
  exact h2.at_
theorem bd2_new {w : World} {B b c : Nat} (hB : B ≤ b) (hC : B ≤ c) (hne : b ≠ c) (h : RowIn #[.pointer none, .slice none 0 0] 94 w b) (k : RowIn #[.pointer none, .slice none 0 0] 94 w c) : Bd2 B b c [] [] w :=
  ⟨hne, _, _, bdV_new hB h, bdV_new hC k, fun q hq => by simp [Value.ownBlock] at hq⟩
theorem write2_any (B b c : Nat) (l m t : List UInt8) (w : World) (h : Bd2 B b c l m w) (hlen : l.length + t.length ≤ 140737488355328) (hBw : B ≤ w.heap.size) :
    Calls Try.prog 65 #[.pointer (some ⟨b, 0, none⟩), .string (S t)] w fun e w' => e = .returned (.tuple #[.int .i64 t.length, .nilIface]) ∧ Bd2 B b c (l ++ t) m w' ∧ Below B w w' ∧ KeptB b w w' := by
  obtain ⟨h1, v, u, h2, h3, h4⟩ := h
  refine (writeV_any B b l t v w h2 hlen hBw).mono ?_
  rintro e w' ⟨rfl, v', k1, k2, k3⟩
  have hb := k2.below (B := B) (fun k hk => hk.elim (fun e => e ▸ h2.hB) (fun e => (h2.own.lt k e).1)) hBw
  refine ⟨rfl, ⟨h1, v', u, k1, h3.only k2 (fun e => e.elim (fun e => h1 e.symm) (fun e => ?_)) (fun q hq e => e.elim (fun e => ?_) (fun e => h4 q e hq)), fun q hq e => ?_⟩, hb, fun C T g hT hg hr => k2.row hr (fun e => e.elim hg (fun e => row_apart hr h2.own hT g e rfl))⟩
  · rcases h3.row with r | r
    · exact row_apart r h2.own (by decide) c e rfl
    · exact row_apart r h2.own (by decide) c e rfl
  · subst e
    rcases h2.row with r | r
    · exact row_apart r h3.own (by decide) q hq rfl
    · exact row_apart r h3.own (by decide) q hq rfl
  · rcases k3 with k3 | k3
    · exact h4 q (k3 ▸ hq) e
    · rw [k3] at hq
      injection hq with hq
      have := (h3.own.lt q e).2
      omega

theorem string2_any (B b c : Nat) (l m : List UInt8) (w : World) (h : Bd2 B b c l m w) (hBw : B ≤ w.heap.size) :
    Calls Try.prog 72 #[.pointer (some ⟨b, 0, none⟩)] w fun e w' => e = .returned (.string ⟨l.toArray⟩) ∧ BdAt B c m w' ∧ Below B w w' := by
  obtain ⟨h1, v, u, h2, h3, h4⟩ := h
  refine (stringV_any B b l v w h2).mono ?_
  rintro e w' ⟨rfl, k2⟩
  refine ⟨rfl, (h3.only k2 (fun e => ?_) (fun q hq e => h4 q e hq)).at_, k2.below (fun k hk => (h2.own.lt k hk).1) hBw⟩
  rcases h3.row with r | r
  · exact row_apart r h2.own (by decide) c e rfl
  · exact row_apart r h2.own (by decide) c e rfl

end Go.Proofs.Ythidmgnfdikppaa
