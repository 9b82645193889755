/- Layer 15: slices.Insert, by contracts: where there is room, and where there is none. -/
import Derived.Test.YthidmgnfdikppaaInsG
import Derived.Deep.RegionLaw
namespace Go.Proofs.Ythidmgnfdikppaa
set_option linter.unusedVariables false
set_option linter.unusedSimpArgs false
open Go Go.RowKit

section
variable {P : Program}
theorem wp_copy_run15 (w : World) {o : Oper} {a : Act} {K : Act → World → Prop} {Q : Exit → Act → World → Prop} (d s : Operand) (t t' : TypeId)
    (ho : o.op = .call { callee := .builtin .copy, args := #[d, s], argTypes := #[t, t'] }) (v u : Value) (hd : a.eval d = v) (hs : a.eval s = u) {v' : Value} {w' : World}
    (hr : (Builtin.copy_ #[t, t'] o.type #[v, u]).run P w = .ok v' w') (h : K (a.put o.dst v') w') : o.wp P a w K Q := by
  unfold Oper.wp execOp
  simp only [ho, resolve, invoke, builtin, Sem.run_bind, Sem.run_pure, Result.andThen_ok, List.map_toArray, List.map_cons, List.map_nil, hd, hs, hr]
  exact h
theorem wpList_copy_run15 (w : World) {ops : Array Oper} {rest : List Oper} {o : Oper} {a : Act} {Q : Exit → Act → World → Prop} (hgd : o.guard = none) (d s : Operand) (t t' : TypeId)
    (ho : o.op = .call { callee := .builtin .copy, args := #[d, s], argTypes := #[t, t'] }) (v u : Value) (hd : a.eval d = v) (hs : a.eval s = u) {v' : Value} {w' : World}
    (hr : (Builtin.copy_ #[t, t'] o.type #[v, u]).run P w = .ok v' w') (h : wpList P ops Q rest (a.put o.dst v') w') : wpList P ops Q (o :: rest) a w :=
  wpList_plain hgd fun _ hK => wp_copy_run15 w d s t t' ho v u hd hs hr (hK _ _ h)
theorem step_copy_run15 {ops : Array Oper} {o : Oper} {a : Act} {w : World} {K : Act → World → Prop} {Q : Exit → Act → World → Prop} {E : Prop}
    (hg : o.guard = none) (d x : Operand) (dT sT : TypeId) (hop : o.op = Op.call { callee := Callee.builtin Builtin.copy, args := #[d, x], argTypes := #[dT, sT] })
    (v u : Value) (hd : a.eval d = v) (hx : a.eval x = u) {v' : Value} {w' : World} (hr : (Builtin.copy_ #[dT, sT] o.type #[v, u]).run P w = .ok v' w') (hK : K (a.put o.dst v') w') :
    if Region.wanted o (yielded ops a.tmps) = true then Oper.wp P o a w K Q else E := by
  have hw : Region.wanted o (yielded ops a.tmps) = true := by simp [Region.wanted, hg]
  rw [if_pos hw]
  exact wp_copy_run15 w d x dT sT hop v u hd hx hr hK
theorem wpList_append_run15 (w : World) {ops : Array Oper} {rest : List Oper} {o : Oper} {a : Act} {Q : Exit → Act → World → Prop} (hgd : o.guard = none) (s x : Operand) (t tn : TypeId)
    (ho : o.op = .call { callee := .builtin .append, args := #[s, x], argTypes := #[t, tn] }) (vs vx : Value) (hs : a.eval s = vs) (hx : a.eval x = vx)
    (v' : Value) (w' : World) (hr : (Builtin.append_ #[t, tn] o.type #[vs, vx]).run P w = .ok v' w') (h : wpList P ops Q rest (a.put o.dst v') w') : wpList P ops Q (o :: rest) a w :=
  Lib.wpList_append_run w hgd s x t tn ho vs vx hs hx v' w' hr h
end
/-- copy, into a row that the call owns. -/
theorem copy_own15 {P : Program} (w : World) (dT sT elem : TypeId) (sz : Nat) (hu : P.underlying dT = some (.slice elem)) (hs : (P.info? elem).map (·.size) = some sz)
    (B g n c : Nat) (xs : List Value) (hO : w.ownsRow B elem sz (.slice (some ⟨g, 0, none⟩) n c) n xs) (i dLen : Nat) (a : Addr) (sLen : Nat) (cs : List Value) (k : Nat) (hk : Nat.min sLen dLen = k) (hcs : cs.length = k * sz) (hik : i + k ≤ n)
    (hsrc : ∀ j v, cs[j]? = some v → w.cell? (a.add j) = some v) (h1 : ∀ v ∈ cs, v.oneCell' = true) :
    ∃ w', (∀ ty dCap sCap, (Builtin.copy_ #[dT, sT] ty #[.slice (some ⟨g, i * sz, none⟩) dLen dCap, .slice (some a) sLen sCap]).run P w = .ok (goInt k) w') ∧ w'.ownsRow B elem sz (.slice (some ⟨g, 0, none⟩) n c) n (xs.take (i * sz) ++ cs ++ xs.drop (i * sz + cs.length)) ∧ w.grownBy w' (some g) := by
  obtain ⟨cur, hg, hcz, hct, hnc, hcm, hB⟩ := setRow_own15 hO
  have hxl : xs.length = n * sz := hO.1
  have hcl : cur.toList = xs ++ cur.toList.drop (n * sz) := by rw [← hct, List.take_append_drop]
  have hfit : i * sz + cs.length ≤ n * sz := by rw [hcs, ← Nat.add_mul]; exact Nat.mul_le_mul_right _ hik
  have hnc2 : n * sz ≤ c * sz := Nat.mul_le_mul_right _ hnc
  refine ⟨_, fun ty dCap sCap => ?_, own_setRow15 (t := elem) hg (cur.toList.take (i * sz) ++ cs ++ cur.toList.drop (i * sz + cs.length)) _ ?_ hnc hcm ?_ ?_ hB⟩
  · have h := run_copy15 (P := P) w dT sT ty elem sz g (i * sz) dLen dCap a sLen sCap cur elem cs hu hs hg (by rw [hk]; exact hcs) hsrc (by rw [hcz]; omega) h1
    rw [hk] at h
    exact h
  · simp only [List.length_append, List.length_take, List.length_drop, Array.length_toList, hcz]; omega
  · simp only [List.length_append, List.length_take, List.length_drop, hxl]; omega
  · rw [hcl]
    have e1 : (xs ++ cur.toList.drop (n * sz)).take (i * sz) = xs.take (i * sz) := List.take_append_of_le_length (by omega)
    have e2 : (xs ++ cur.toList.drop (n * sz)).drop (i * sz + cs.length) = xs.drop (i * sz + cs.length) ++ cur.toList.drop (n * sz) := List.drop_append_of_le_length (by omega)
    rw [e1, e2, ← List.append_assoc, show n * sz = (xs.take (i * sz) ++ cs ++ xs.drop (i * sz + cs.length)).length from by simp only [List.length_append, List.length_take, List.length_drop, hxl]; omega]
    exact List.take_left
def insV (xs : List Value) (k : Nat) (vs : List Value) : List Value := xs.take k ++ vs ++ xs.drop k
theorem mixed15 : Try.prog.follows Departure.mixedOrders = true := by kernel_rfl
theorem rowIn_shape15 {C : Array Value} {T : TypeId} {w : World} {b : Nat} (h : RowIn C T w b) : w.shape? b = some (T, C.size) := by
  unfold RowIn at h
  simp [World.shape?, h]
theorem rowIn_src15 {l : List Value} {T : TypeId} {w : World} {b : Nat} (h : RowIn l.toArray T w b) : ∀ j v, l[j]? = some v → w.cell? ((⟨b, 0, none⟩ : Addr).add j) = some v := fun j v hj => by
  rw [Addr.add_lit, Nat.zero_add, h.cell j]
  simpa using hj
theorem infoPg_parts : ∃ (i0 : TypeInfo) (z : Value), Try.prog.info? 136 = some i0 ∧ i0.zero = some z ∧ i0.size = 1 ∧ i0.bytes = 24 ∧ z.cells.size = 1 := by
  have h : (Try.prog.info? 136).map (fun i => (i.zero.map (fun z => z.cells.size), i.size, i.bytes)) = some (some 1, 1, 24) := by kernel_rfl
  cases hi : Try.prog.info? 136 with
  | none => rw [hi] at h; cases h
  | some i0 =>
    rw [hi] at h
    cases hz : i0.zero with
    | none => simp [hz] at h
    | some z =>
      simp [hz] at h
      exact ⟨i0, z, rfl, hz, h.2.1, h.2.2, h.1⟩
set_option maxHeartbeats 4000000 in
set_option maxRecDepth 100000 in
/-- Room: in place. -/
theorem insRoomC (B : Nat) (w : World) (g n cap i X : Nat) (xs vs : List Value) (hO : w.ownsRow B 38 3 (.slice (some ⟨g, 0, none⟩) n cap) n xs) (h1x : ∀ u ∈ xs, u.oneCell' = true) (hi : i ≤ n) (hc : n < cap) (T : TypeId) (hX : RowIn vs.toArray T w X) (hvs : vs.length = 3) (h1v : ∀ u ∈ vs, u.oneCell' = true) (hXg : X ≠ g) :
    Calls Try.prog 130 #[.slice (some ⟨g, 0, none⟩) n cap, .int .i64 i, .slice (some ⟨X, 0, none⟩) 1 1] w fun e w' =>
      e = .returned (.slice (some ⟨g, 0, none⟩) (n + 1) cap) ∧ w'.ownsRow B 38 3 (.slice (some ⟨g, 0, none⟩) (n + 1) cap) (n + 1) (insV xs (i * 3) vs) ∧ w.grownBy w' (some g) := by
  obtain ⟨i0, z0, hi0, hz0, hz1, hz2, hz3⟩ := infoCl_parts
  obtain ⟨cur, hg, hcs, hct, hnc, hcm, hB⟩ := setRow_own15 hO
  have hxl : xs.length = n * 3 := hO.1
  have hm63 : cap ≤ 9223372036854775807 := by simp only [maxLen] at hcm; omega
  have hsz : (Try.prog.info? 38).map (·.size) = some 3 := by rw [hi0]; simp [hz1]
  have hci : ¬ (cap = i) := by omega
  have hi1 : (0 : Int) ≤ (i : Int) := by omega
  have hi2 : (i : Int) ≤ (n : Int) := by omega
  have hi3 : (n : Int) ≤ (cap : Int) := by omega
  have hn1 : (n : Int) + 1 ≤ (cap : Int) := by omega
  have hn2 : (0 : Int) ≤ (n : Int) + 1 := by omega
  have hn3 : ((n : Int) + 1).toNat = n + 1 := by omega
  have hw1 : IntKind.i64.wrap ((n : Int) + 1) = (n : Int) + 1 := IntWalk.i64_in _ (by omega)
  have hcl : cur.toList = xs ++ cur.toList.drop (n * 3) := by rw [← hct, List.take_append_drop]
  have hspl : (cur.toList.drop (n * 3)).length = (cap - n) * 3 := by simp [hcs, Nat.sub_mul]
  have hsp1 : 3 ≤ (cur.toList.drop (n * 3)).length := by rw [hspl]; omega
  by_cases hin : i = n
  · subst hin
    have hq : decide ((i : Int) = (i : Int)) = true := by simp
    have hr : ∀ ty, (Builtin.append_ #[136, 22] ty #[.slice (some ⟨g, 0, none⟩) i cap, .slice (some ⟨X, 0, none⟩) 1 1]).run Try.prog w = .ok (.slice (some ⟨g, 0, none⟩) (i + 1) cap) (w.setRow g (cur.toList.take (i * 3) ++ vs ++ cur.toList.drop (i * 3 + vs.length)).toArray) := fun ty => by
      rw [append_types15 w 136 22 ty 38 38 Try.underlying136 Try.underlying22]
      have := run_append_room (P := Try.prog) w 136 ty 38 i0 Try.underlying136 hi0 g i cap cur hg ⟨X, 0, none⟩ 1 1 vs (by rw [hvs, hz1]) (rowIn_src15 hX) h1v (by omega) (by rw [hvs, hcs, hz1]; have := Nat.mul_le_mul_right 3 (show i + 1 ≤ cap from hc); omega)
      rw [hz1] at this
      exact this
    have HR := Lib.hid (own_setRow15 (B := B) (t := 38) (sz := 3) (m := i + 1) (cap := cap) hg (cur.toList.take (i * 3) ++ vs ++ cur.toList.drop (i * 3 + vs.length)) (insV xs (i * 3) vs) (by simp only [List.length_append, List.length_take, List.length_drop, Array.length_toList, hcs, hvs]; omega) hc hcm (by simp only [insV, List.length_append, List.length_take, List.length_drop, hxl, hvs]; omega) (by
      unfold insV
      rw [hct, List.drop_eq_nil_of_le (show xs.length ≤ i * 3 by omega), List.append_nil, List.take_of_length_le (show xs.length ≤ i * 3 by omega)]
      rw [show (i + 1) * 3 = (xs ++ vs).length from by simp only [List.length_append, hxl, hvs]; omega]
      exact List.take_left) hB)
    generalize (w.setRow g (cur.toList.take (i * 3) ++ vs ++ cur.toList.drop (i * 3 + vs.length)).toArray) = w2 at *
    have HR := HR.out
    try simp only [Nat.mul_one] at HR hr
    replace HR := Lib.hid HR
    go_enter Try.func130, Try.ntmps130
    go_wp2_with (at_builtin; refine wpList_append_run15 _ rfl _ _ 136 22 rfl _ _ rfl rfl _ _ (hr _) ?_)
    go_ret
    exact ⟨rfl, HR.out.1, HR.out.2⟩
  · have hq : decide ((i : Int) = (n : Int)) = false := by simp; omega
    have hq1 : ¬ ((i : Int) = (n : Int)) := by omega
    have hq2 : ((i : Int) == (n : Int)) = false := by rw [beq_eq_false_iff_ne]; omega
    have hw2 : IntKind.i64.wrap ((i : Int) + 1) = (i : Int) + 1 := IntWalk.i64_in _ (by omega)
    have hj1 : (0 : Int) ≤ (i : Int) + 1 := by omega
    have hj2 : ((i : Int) + 1).toNat = i + 1 := by omega
    have hj3 : ¬ (cap = i + 1) := by omega
    have hj4 : (i : Int) + 1 ≤ (n : Int) + 1 := by omega
    have hj5 : (i : Int) ≤ (n : Int) + 1 := by omega
    have hov : ∀ lb cb, (callFunc 144 #[.slice (some ⟨X, 0, none⟩) 1 1, .slice (some ⟨g, (i + 1) * 3, none⟩) lb cb]).run Try.prog w = .ok (.value (.bool false)) w := fun lb cb => by
      rw [run_callFunc_extern Try.func144 (by kernel_rfl) (by kernel_rfl) (by kernel_rfl) (e := Extern.SlicesOverlaps.overlaps #[22, 22] #[4]) (by kernel_rfl),
        Lib.run_overlaps_apart w 22 4 38 Try.underlying22 3 (fun w => by simp [sizeOf, typeInfo, hi0, hz1]) ⟨X, 0, none⟩ ⟨g, (i + 1) * 3, none⟩ 1 1 lb cb hXg T 38 vs.toArray.size cur.size (rowIn_shape15 hX) (rowIn_shape15 hg) (by rw [hcs]; have := Nat.mul_le_mul_right 3 (show 1 ≤ cap by omega); omega) (hX.free 0) (hX.free _)]
      rfl
    have hdl : (xs.drop (i * 3)).length = (n - i) * 3 := by rw [List.length_drop, hxl, Nat.sub_mul]
    have hmin : Nat.min (n + 1 - i) (n - i) = n - i := by simp only [Nat.min_def]; split <;> omega
    have hxc : ∀ j v, xs[j]? = some v → w.cell? ⟨g, j, none⟩ = some v := fun j v hj => by
      have hjl : j < xs.length := (List.getElem?_eq_some_iff.1 hj).1
      rw [(show RowIn cur 38 w g from hg).cell j, ← Array.getElem?_toList, hcl, List.getElem?_append_left hjl, hj]
    have hcp1 : ∀ ty dc sc, (Builtin.copy_ #[136, 136] ty #[.slice (some ⟨g, (i + 1) * 3, none⟩) (n - i) dc, .slice (some ⟨g, i * 3, none⟩) (n + 1 - i) sc]).run Try.prog w.drew = .ok (goInt (Nat.min (n + 1 - i) (n - i))) (w.drew.setRow g (cur.toList.take ((i + 1) * 3) ++ xs.drop (i * 3) ++ cur.toList.drop ((i + 1) * 3 + (xs.drop (i * 3)).length)).toArray) := fun ty dc sc =>
      run_copy15 w.drew 136 136 ty 38 3 g ((i + 1) * 3) (n - i) dc ⟨g, i * 3, none⟩ (n + 1 - i) sc cur 38 (xs.drop (i * 3)) Try.underlying136 hsz hg (by rw [hdl, hmin])
        (fun j v hj => by rw [Addr.add_lit]; exact hxc (i * 3 + j) v (by rwa [List.getElem?_drop] at hj)) (by rw [hdl, hcs, ← Nat.add_mul]; exact Nat.mul_le_mul_right _ (by omega)) (fun v hv => h1x v (List.mem_of_mem_drop hv))
    obtain ⟨A, hA⟩ : ∃ A, A = cur.toList.take ((i + 1) * 3) ++ xs.drop (i * 3) ++ cur.toList.drop ((i + 1) * 3 + (xs.drop (i * 3)).length) := ⟨_, rfl⟩
    have hAl : A.length = cap * 3 := by
      rw [hA]
      simp only [List.length_append, List.length_take, List.length_drop, Array.length_toList, hcs, hxl]
      have := Nat.mul_le_mul_right 3 (show n + 1 ≤ cap by omega)
      omega
    obtain ⟨W1, hW1⟩ : ∃ W1, W1 = w.drew.setRow g A.toArray := ⟨_, rfl⟩
    have hg1 : W1.heap[g]? = some (.cells A.toArray 38 (0, 0)) := by rw [hW1]; exact setRow_heap w.drew g cur _ 38 _ hg
    have hX1 : RowIn vs.toArray T W1 X := by rw [hW1]; exact (setRow_other w.drew g X _ hXg).trans hX
    rw [← hA, ← hW1] at hcp1
    have hcp2 : ∀ ty dc, (Builtin.copy_ #[136, 22] ty #[.slice (some ⟨g, i * 3, none⟩) (n + 1 - i) dc, .slice (some ⟨X, 0, none⟩) 1 1]).run Try.prog W1 = .ok (goInt (Nat.min 1 (n + 1 - i))) (W1.setRow g (A.take (i * 3) ++ vs ++ A.drop (i * 3 + vs.length)).toArray) := fun ty dc => by
      have := run_copy15 (P := Try.prog) W1 136 22 ty 38 3 g (i * 3) (n + 1 - i) dc ⟨X, 0, none⟩ 1 1 A.toArray 38 vs Try.underlying136 hsz hg1 (by rw [hvs]; simp only [Nat.min_def]; split <;> omega) (rowIn_src15 hX1) (by rw [hvs]; simp only [List.size_toArray, hAl]; have := Nat.mul_le_mul_right 3 (show i + 1 ≤ cap by omega); omega) h1v
      simpa using this
    have HR := Lib.hid (show (W1.setRow g (A.take (i * 3) ++ vs ++ A.drop (i * 3 + vs.length)).toArray).ownsRow B 38 3 (.slice (some ⟨g, 0, none⟩) (n + 1) cap) (n + 1) (insV xs (i * 3) vs) ∧ w.grownBy (W1.setRow g (A.take (i * 3) ++ vs ++ A.drop (i * 3 + vs.length)).toArray) (some g) from by
      have h := own_setRow15 (B := B) (t := 38) (sz := 3) (m := n + 1) (cap := cap) hg1 (A.take (i * 3) ++ vs ++ A.drop (i * 3 + vs.length)) (insV xs (i * 3) vs) (by
        simp only [List.length_append, List.length_take, List.length_drop, hAl, hvs]
        have := Nat.mul_le_mul_right 3 (show i + 1 ≤ cap by omega)
        omega) hc hcm (by
        simp only [insV, List.length_append, List.length_take, List.length_drop, hxl, hvs]
        have := Nat.mul_le_mul_right 3 hi
        omega) (by
        have k := lay_in15 xs (cur.toList.drop (n * 3)) vs (i * 3) (by rw [hxl]; exact Nat.mul_le_mul_right _ hi) (by rw [hvs]; exact hsp1)
        rw [← hcl, hvs] at k
        rw [hA, hvs, show (i + 1) * 3 = i * 3 + 3 from by omega, show (n + 1) * 3 = xs.length + 3 from by omega]
        unfold insV
        exact k) hB
      refine ⟨h.1, ?_⟩
      rw [hW1, setRow_setRow]
      exact ⟨rfl, rfl, rfl, by simp [World.setRow], fun k _ hk => setRow_other w.drew g k _ (fun e => hk (by rw [e]))⟩)
    generalize (W1.setRow g (A.take (i * 3) ++ vs ++ A.drop (i * 3 + vs.length)).toArray) = w2 at *
    have HR := HR.out
    try simp only [Nat.mul_one] at HR
    try simp only [Nat.mul_one] at hcp1
    try simp only [Nat.mul_one] at hcp2
    try simp only [Nat.mul_one] at hov
    replace HR := Lib.hid HR
    clear hA hAl hW1 hg1 hcl hspl hsp1 hct hO hg hX1
    have mixed := mixed15
    go_enter Try.func130, Try.ntmps130
    go_wp2_with (simp only [hov])
    go_region_law_o (refine step_copy_run15 rfl _ _ 136 136 rfl _ _ (by simp [Act.eval, Act.put]) (by simp [Act.eval, Act.put]) (hcp1 _ _ _) ?_)
    go_wp2_with (at_builtin; refine wpList_copy_run15 _ rfl _ _ 136 22 rfl _ _ rfl rfl (hcp2 _ _) ?_)
    go_ret
    exact ⟨rfl, HR.out.1, HR.out.2⟩
theorem insFull_lastC {n i : Nat} (w : World) (q o : Nat) (xs vs : List Value) (hxl : xs.length = n * 3) (hxs : ∀ j v, xs[j]? = some v → w.cell? ⟨q, o + j, none⟩ = some v) (h1x : ∀ u ∈ xs, u.oneCell' = true) (hi : i ≤ n) (hin : ¬ i = n) (T : TypeId) {X : Nat} (hX : RowIn vs.toArray T w X) (hvs : vs.length = 3) (h1v : ∀ u ∈ vs, u.oneCell' = true) :
    ∀ c2 w2 zs, zs.length = (n + 1 - i) * 3 → w2.ownsRow w.heap.size 38 3 (.slice (some ⟨w.heap.size, 0, none⟩) (n + 1) c2) (n + 1) (xs.take (i * 3) ++ zs) → Below w.heap.size w w2 →
      ∃ w3 w4, (∀ ty dc, (Builtin.copy_ #[136, 22] ty #[.slice (some ⟨w.heap.size, i * 3, none⟩) (n + 1 - i) dc, .slice (some ⟨X, 0, none⟩) 1 1]).run Try.prog w2 = .ok (goInt 1) w3) ∧
        (∀ ty dc sc, (Builtin.copy_ #[136, 136] ty #[.slice (some ⟨w.heap.size, (i + 1) * 3, none⟩) (n - i) dc, .slice (some ⟨q, o + i * 3, none⟩) (n - i) sc]).run Try.prog w3.drew = .ok (goInt ((n - i : Nat) : Int)) w4) ∧
        w4.ownsRow w.heap.size 38 3 (.slice (some ⟨w.heap.size, 0, none⟩) (n + 1) c2) (n + 1) (insV xs (i * 3) vs) ∧ Below w.heap.size w w4 := fun c2 w2 zs hz ho hb => by
  obtain ⟨i0, z0, hi0, hz0, hz1, hz2, hz3⟩ := infoCl_parts
  have hsz : (Try.prog.info? 38).map (·.size) = some 3 := by rw [hi0]; simp [hz1]
  have hq : q < w.heap.size := by
    have h := hxs 0 (xs[0]'(by omega)) (List.getElem?_eq_getElem (by omega))
    exact block_lt_of_cell h
  obtain ⟨cA, hcA⟩ : ∃ c : Nat, c = 0 := ⟨_, rfl⟩
  obtain ⟨w3, hr3, ho3, hg3⟩ := copy_own15 (P := Try.prog) w2 136 22 38 3 Try.underlying136 hsz w.heap.size w.heap.size (n + 1) c2 _ ho i (n + 1 - i) ⟨X, 0, none⟩ 1 vs 1 (by simp only [Nat.min_def]; split <;> omega) (by rw [hvs]) (by omega) (rowIn_src15 (hX.below hb)) h1v
  have hb3 : Below w.heap.size w w3 := hb.grown hg3 hb.size (fun k hk => by cases hk; exact Nat.le_refl _)
  obtain ⟨w4, hr4, ho4, hg4⟩ := copy_own15 (P := Try.prog) w3.drew 136 136 38 3 Try.underlying136 hsz w.heap.size w.heap.size (n + 1) c2 _ (show w3.drew.ownsRow _ _ _ _ _ _ from ho3) (i + 1) (n - i) ⟨q, o + i * 3, none⟩ (n - i) (xs.drop (i * 3)) (n - i) (Nat.min_self _) (by rw [List.length_drop, hxl, Nat.sub_mul]) (by omega) (fun j v hj => by
    rw [Addr.add_lit, Nat.add_assoc]
    rw [List.getElem?_drop] at hj
    exact (hb3.cell (p := ⟨q, o + (i * 3 + j), none⟩) hq).trans (hxs _ v hj)) (fun v hv => h1x v (List.mem_of_mem_drop hv))
  have hb4 : Below w.heap.size w w4 := hb3.drew.grown hg4 hb3.size (fun k hk => by cases hk; exact Nat.le_refl _)
  refine ⟨w3, w4, fun ty dc => hr3 ty dc 1, fun ty dc sc => hr4 ty dc sc, ?_, hb4⟩
  · have e : insV xs (i * 3) vs = (((xs.take (i * 3) ++ zs).take (i * 3) ++ vs ++ (xs.take (i * 3) ++ zs).drop (i * 3 + vs.length)).take ((i + 1) * 3) ++ xs.drop (i * 3) ++ ((xs.take (i * 3) ++ zs).take (i * 3) ++ vs ++ (xs.take (i * 3) ++ zs).drop (i * 3 + vs.length)).drop ((i + 1) * 3 + (xs.drop (i * 3)).length)) := by
      have hm := Nat.mul_le_mul_right 3 hi
      have l1 : (xs.take (i * 3)).length = i * 3 := by simp only [List.length_take, hxl]; omega
      have a1 : (xs.take (i * 3) ++ zs).take (i * 3) = xs.take (i * 3) := by
        have := List.take_left (l₁ := xs.take (i * 3)) (l₂ := zs)
        rwa [l1] at this
      rw [a1]
      have a2 : (xs.take (i * 3) ++ vs ++ (xs.take (i * 3) ++ zs).drop (i * 3 + vs.length)).take ((i + 1) * 3) = xs.take (i * 3) ++ vs := by
        have := List.take_left (l₁ := xs.take (i * 3) ++ vs) (l₂ := (xs.take (i * 3) ++ zs).drop (i * 3 + vs.length))
        rwa [show (xs.take (i * 3) ++ vs).length = (i + 1) * 3 from by simp only [List.length_append, l1, hvs]; omega] at this
      have a3 : (xs.take (i * 3) ++ vs ++ (xs.take (i * 3) ++ zs).drop (i * 3 + vs.length)).drop ((i + 1) * 3 + (xs.drop (i * 3)).length) = [] := List.drop_eq_nil_of_le (by simp only [List.length_append, List.length_drop, l1, hvs, hz, hxl]; omega)
      rw [a2, a3, List.append_nil]
      unfold insV
      try simp only [Nat.mul_one]
    rw [e]
    exact ho4
set_option maxHeartbeats 4000000 in
set_option maxRecDepth 100000 in
/-- No room: a new row. -/
theorem insFullC (w : World) (q o n i X : Nat) (xs vs : List Value) (hxl : xs.length = n * 3) (hxs : ∀ j v, xs[j]? = some v → w.cell? ⟨q, o + j, none⟩ = some v) (h1x : ∀ u ∈ xs, u.oneCell' = true) (hi : i ≤ n) (hnl : n ≤ 1000000) (T : TypeId) (hX : RowIn vs.toArray T w X) (hvs : vs.length = 3) (h1v : ∀ u ∈ vs, u.oneCell' = true) :
    Calls Try.prog 130 #[.slice (some ⟨q, o, none⟩) n n, .int .i64 i, .slice (some ⟨X, 0, none⟩) 1 1] w fun e w' =>
      ∃ c, e = .returned (.slice (some ⟨w.heap.size, 0, none⟩) (n + 1) c) ∧ w'.ownsRow w.heap.size 38 3 (.slice (some ⟨w.heap.size, 0, none⟩) (n + 1) c) (n + 1) (insV xs (i * 3) vs) ∧ Below w.heap.size w w' := by
  obtain ⟨i0, z0, hi0, hz0, hz1, hz2, hz3⟩ := infoCl_parts
  have hsz : (Try.prog.info? 38).map (·.size) = some 3 := by rw [hi0]; simp [hz1]
  have hi1 : (0 : Int) ≤ (i : Int) := by omega
  have hi2 : (i : Int) ≤ (n : Int) := by omega
  have hw1 : IntKind.i64.wrap ((n : Int) + 1) = (n : Int) + 1 := IntWalk.i64_in _ (by omega)
  have hXlt := hX.lt
  by_cases hin : i = n
  · subst hin
    have hq : decide ((i : Int) = (i : Int)) = true := by simp
    have hrr : ∀ ty, ∃ c' w', (Builtin.append_ #[136, 22] ty #[.slice (some ⟨q, o, none⟩) i i, .slice (some ⟨X, 0, none⟩) 1 1]).run Try.prog w = .ok (.slice (some ⟨w.heap.size, 0, none⟩) (i + 1) c') w' ∧ w'.ownsRow w.heap.size 38 3 (.slice (some ⟨w.heap.size, 0, none⟩) (i + 1) c') (i + 1) (xs ++ vs) ∧ Below w.heap.size w w' := fun ty =>
      append_full15 (P := Try.prog) w 136 22 ty 38 38 i0 z0 3 40 Try.underlying136 Try.underlying22 hi0 hz0 hz1 hz2 hz3 ⟨q, o, none⟩ i i xs hxl (fun j v hj => by rw [Addr.add_lit]; exact hxs j v hj) ⟨X, 0, none⟩ 1 1 vs (by rw [hvs]) (rowIn_src15 hX) (by omega) (by unfold maxLen; omega) (by omega)
    have he : xs ++ vs = insV xs (i * 3) vs := by
      unfold insV
      rw [List.drop_eq_nil_of_le (show xs.length ≤ i * 3 by omega), List.append_nil, List.take_of_length_le (show xs.length ≤ i * 3 by omega)]
    rw [he] at hrr
    go_enter Try.func130, Try.ntmps130
    go_wp2_with (at_builtin; obtain ⟨c2, w2, hr, ho, hb⟩ := hrr _; refine wpList_append_run15 _ rfl _ _ 136 22 rfl _ _ rfl rfl _ _ hr ?_; have HR := Lib.hid (And.intro ho hb); clear hr ho hb hrr)
    go_ret
    exact ⟨c2, rfl, HR.out⟩
  · have hq : decide ((i : Int) = (n : Int)) = false := by simp; omega
    have hq1 : ¬ ((i : Int) = (n : Int)) := by omega
    have hq2 : ((i : Int) == (n : Int)) = false := by rw [beq_eq_false_iff_ne]; omega
    have hq3 : ¬ (n = i) := by omega
    have hw2 : IntKind.i64.wrap ((i : Int) + 1) = (i : Int) + 1 := IntWalk.i64_in _ (by omega)
    have hw3 : IntKind.i64.wrap ((n : Int) + 1 - (i : Int)) = ((n + 1 - i : Nat) : Int) := by rw [IntWalk.i64_in _ (by omega)]; omega
    have hd1 : decide ((n : Int) < (n : Int) + 1) = true := by simp; omega
    have hj1 : (0 : Int) ≤ (i : Int) + 1 := by omega
    have hj2 : ((i : Int) + 1).toNat = i + 1 := by omega
    have hmk : ∀ ty, ∃ c' w' zs, (Builtin.append_ #[136, 3] ty #[.slice (some ⟨q, o, none⟩) i n, .int .i64 ((n + 1 - i : Nat) : Int)]).run Try.prog w = .ok (.slice (some ⟨w.heap.size, 0, none⟩) (n + 1) c') w' ∧ zs.length = (n + 1 - i) * 3 ∧ n + 1 ≤ c' ∧ w'.ownsRow w.heap.size 38 3 (.slice (some ⟨w.heap.size, 0, none⟩) (n + 1) c') (n + 1) (xs.take (i * 3) ++ zs) ∧ Below w.heap.size w w' := fun ty => by
      have h := append_make15 (P := Try.prog) w 136 3 ty 38 i0 z0 .i64 3 40 Try.underlying136 Try.underlying3 hi0 hz0 hz1 hz2 hz3 (by decide) ⟨q, o, none⟩ i n (xs.take (i * 3)) (by simp only [List.length_take, hxl]; omega) (fun j v hj => by
        rw [Addr.add_lit]
        rw [List.getElem?_take] at hj
        split at hj
        · exact hxs j v hj
        · cases hj) (n + 1 - i) (by omega) (by omega) (by unfold maxLen; omega) (by omega)
      rwa [show i + (n + 1 - i) = n + 1 from by omega] at h
    have mixed := mixed15
    go_enter Try.func130, Try.ntmps130
    have HFin := Lib.hid (insFull_lastC (n := n) (i := i) w q o xs vs hxl hxs h1x hi hin T hX hvs h1v)
    clear hxs h1x hX h1v
    go_wp2_with (first
      | (have _t := HO2; clear _t; at_builtin; refine wpList_copy_run15 _ rfl _ _ 136 22 rfl _ _ rfl rfl (hcA _ _) ?_)
      | (at_builtin; obtain ⟨c2, w2, zs, hr, hzl, hc2, ho, hb⟩ := hmk _; refine wpList_append_run15 _ rfl _ _ 136 3 rfl _ _ rfl rfl _ _ hr ?_; have HO2 := Lib.hid hzl; obtain ⟨w3, w4, hcA, hcB, hF⟩ := HFin.out c2 w2 zs hzl ho hb; have HF := Lib.hid hF; have hc3 : ¬ (c2 = i) := (by omega); have hc4 : ¬ (c2 = i + 1) := (by omega); have hc5 : (i : Int) + 1 ≤ (n : Int) + 1 := (by omega); have hc6 : (i : Int) ≤ (n : Int) + 1 := (by omega); have hc7 : (n : Int) + 1 ≤ (c2 : Int) := (by omega); try simp only [Nat.mul_one] at hcA; try simp only [Nat.mul_one] at hcB; clear hr ho hb hmk hzl hF))
    go_region_law_o (refine step_copy_run15 rfl _ _ 136 136 rfl _ _ (by simp [Act.eval, Act.put]) (by simp [Act.eval, Act.put]) (hcB _) ?_)
    go_wp2_with fail
    go_ret
    exact ⟨c2, rfl, HF.out⟩
set_option maxHeartbeats 4000000 in
set_option maxRecDepth 100000 in
/-- Room: in place. -/
theorem insRoomP (B : Nat) (w : World) (g n cap i X : Nat) (xs vs : List Value) (hO : w.ownsRow B 136 1 (.slice (some ⟨g, 0, none⟩) n cap) n xs) (h1x : ∀ u ∈ xs, u.oneCell' = true) (hi : i ≤ n) (hc : n < cap) (T : TypeId) (hX : RowIn vs.toArray T w X) (hvs : vs.length = 1) (h1v : ∀ u ∈ vs, u.oneCell' = true) (hXg : X ≠ g) :
    Calls Try.prog 131 #[.slice (some ⟨g, 0, none⟩) n cap, .int .i64 i, .slice (some ⟨X, 0, none⟩) 1 1] w fun e w' =>
      e = .returned (.slice (some ⟨g, 0, none⟩) (n + 1) cap) ∧ w'.ownsRow B 136 1 (.slice (some ⟨g, 0, none⟩) (n + 1) cap) (n + 1) (insV xs (i) vs) ∧ w.grownBy w' (some g) := by
  obtain ⟨i0, z0, hi0, hz0, hz1, hz2, hz3⟩ := infoPg_parts
  obtain ⟨cur, hg, hcs, hct, hnc, hcm, hB⟩ := setRow_own15 hO
  have hxl : xs.length = n * 1 := hO.1
  have hm63 : cap ≤ 9223372036854775807 := by simp only [maxLen] at hcm; omega
  have hsz : (Try.prog.info? 136).map (·.size) = some 1 := by rw [hi0]; simp [hz1]
  have hci : ¬ (cap = i) := by omega
  have hi1 : (0 : Int) ≤ (i : Int) := by omega
  have hi2 : (i : Int) ≤ (n : Int) := by omega
  have hi3 : (n : Int) ≤ (cap : Int) := by omega
  have hn1 : (n : Int) + 1 ≤ (cap : Int) := by omega
  have hn2 : (0 : Int) ≤ (n : Int) + 1 := by omega
  have hn3 : ((n : Int) + 1).toNat = n + 1 := by omega
  have hw1 : IntKind.i64.wrap ((n : Int) + 1) = (n : Int) + 1 := IntWalk.i64_in _ (by omega)
  have hcl : cur.toList = xs ++ cur.toList.drop (n * 1) := by rw [← hct, List.take_append_drop]
  have hspl : (cur.toList.drop (n * 1)).length = (cap - n) * 1 := by simp [hcs, Nat.sub_mul]
  have hsp1 : 1 ≤ (cur.toList.drop (n * 1)).length := by rw [hspl]; omega
  by_cases hin : i = n
  · subst hin
    have hq : decide ((i : Int) = (i : Int)) = true := by simp
    have hr : ∀ ty, (Builtin.append_ #[130, 130] ty #[.slice (some ⟨g, 0, none⟩) i cap, .slice (some ⟨X, 0, none⟩) 1 1]).run Try.prog w = .ok (.slice (some ⟨g, 0, none⟩) (i + 1) cap) (w.setRow g (cur.toList.take (i * 1) ++ vs ++ cur.toList.drop (i * 1 + vs.length)).toArray) := fun ty => by
      rw [append_types15 w 130 130 ty 136 136 Try.underlying130 Try.underlying130]
      have := run_append_room (P := Try.prog) w 130 ty 136 i0 Try.underlying130 hi0 g i cap cur hg ⟨X, 0, none⟩ 1 1 vs (by rw [hvs, hz1]) (rowIn_src15 hX) h1v (by omega) (by rw [hvs, hcs, hz1]; have := Nat.mul_le_mul_right 1 (show i + 1 ≤ cap from hc); omega)
      rw [hz1] at this
      exact this
    have HR := Lib.hid (own_setRow15 (B := B) (t := 136) (sz := 1) (m := i + 1) (cap := cap) hg (cur.toList.take (i * 1) ++ vs ++ cur.toList.drop (i * 1 + vs.length)) (insV xs (i * 1) vs) (by simp only [List.length_append, List.length_take, List.length_drop, Array.length_toList, hcs, hvs]; omega) hc hcm (by simp only [insV, List.length_append, List.length_take, List.length_drop, hxl, hvs]; omega) (by
      unfold insV
      rw [hct, List.drop_eq_nil_of_le (show xs.length ≤ i * 1 by omega), List.append_nil, List.take_of_length_le (show xs.length ≤ i * 1 by omega)]
      rw [show (i + 1) * 1 = (xs ++ vs).length from by simp only [List.length_append, hxl, hvs]; omega]
      exact List.take_left) hB)
    generalize (w.setRow g (cur.toList.take (i * 1) ++ vs ++ cur.toList.drop (i * 1 + vs.length)).toArray) = w2 at *
    have HR := HR.out
    try simp only [Nat.mul_one] at HR hr
    replace HR := Lib.hid HR
    go_enter Try.func131, Try.ntmps131
    go_wp2_with (at_builtin; refine wpList_append_run15 _ rfl _ _ 130 130 rfl _ _ rfl rfl _ _ (hr _) ?_)
    go_ret
    exact ⟨rfl, HR.out.1, HR.out.2⟩
  · have hq : decide ((i : Int) = (n : Int)) = false := by simp; omega
    have hq1 : ¬ ((i : Int) = (n : Int)) := by omega
    have hq2 : ((i : Int) == (n : Int)) = false := by rw [beq_eq_false_iff_ne]; omega
    have hw2 : IntKind.i64.wrap ((i : Int) + 1) = (i : Int) + 1 := IntWalk.i64_in _ (by omega)
    have hj1 : (0 : Int) ≤ (i : Int) + 1 := by omega
    have hj2 : ((i : Int) + 1).toNat = i + 1 := by omega
    have hj3 : ¬ (cap = i + 1) := by omega
    have hj4 : (i : Int) + 1 ≤ (n : Int) + 1 := by omega
    have hj5 : (i : Int) ≤ (n : Int) + 1 := by omega
    have hov : ∀ lb cb, (callFunc 146 #[.slice (some ⟨X, 0, none⟩) 1 1, .slice (some ⟨g, (i + 1) * 1, none⟩) lb cb]).run Try.prog w = .ok (.value (.bool false)) w := fun lb cb => by
      rw [run_callFunc_extern Try.func146 (by kernel_rfl) (by kernel_rfl) (by kernel_rfl) (e := Extern.SlicesOverlaps.overlaps #[130, 130] #[4]) (by kernel_rfl),
        Lib.run_overlaps_apart w 130 4 136 Try.underlying130 1 (fun w => by simp [sizeOf, typeInfo, hi0, hz1]) ⟨X, 0, none⟩ ⟨g, (i + 1) * 1, none⟩ 1 1 lb cb hXg T 136 vs.toArray.size cur.size (rowIn_shape15 hX) (rowIn_shape15 hg) (by rw [hcs]; have := Nat.mul_le_mul_right 1 (show 1 ≤ cap by omega); omega) (hX.free 0) (hX.free _)]
      rfl
    have hdl : (xs.drop (i * 1)).length = (n - i) * 1 := by rw [List.length_drop, hxl, Nat.sub_mul]
    have hmin : Nat.min (n + 1 - i) (n - i) = n - i := by simp only [Nat.min_def]; split <;> omega
    have hxc : ∀ j v, xs[j]? = some v → w.cell? ⟨g, j, none⟩ = some v := fun j v hj => by
      have hjl : j < xs.length := (List.getElem?_eq_some_iff.1 hj).1
      rw [(show RowIn cur 136 w g from hg).cell j, ← Array.getElem?_toList, hcl, List.getElem?_append_left hjl, hj]
    have hcp1 : ∀ ty dc sc, (Builtin.copy_ #[130, 130] ty #[.slice (some ⟨g, (i + 1) * 1, none⟩) (n - i) dc, .slice (some ⟨g, i * 1, none⟩) (n + 1 - i) sc]).run Try.prog w.drew = .ok (goInt (Nat.min (n + 1 - i) (n - i))) (w.drew.setRow g (cur.toList.take ((i + 1) * 1) ++ xs.drop (i * 1) ++ cur.toList.drop ((i + 1) * 1 + (xs.drop (i * 1)).length)).toArray) := fun ty dc sc =>
      run_copy15 w.drew 130 130 ty 136 1 g ((i + 1) * 1) (n - i) dc ⟨g, i * 1, none⟩ (n + 1 - i) sc cur 136 (xs.drop (i * 1)) Try.underlying130 hsz hg (by rw [hdl, hmin])
        (fun j v hj => by rw [Addr.add_lit]; exact hxc (i * 1 + j) v (by rwa [List.getElem?_drop] at hj)) (by rw [hdl, hcs, ← Nat.add_mul]; exact Nat.mul_le_mul_right _ (by omega)) (fun v hv => h1x v (List.mem_of_mem_drop hv))
    obtain ⟨A, hA⟩ : ∃ A, A = cur.toList.take ((i + 1) * 1) ++ xs.drop (i * 1) ++ cur.toList.drop ((i + 1) * 1 + (xs.drop (i * 1)).length) := ⟨_, rfl⟩
    have hAl : A.length = cap * 1 := by
      rw [hA]
      simp only [List.length_append, List.length_take, List.length_drop, Array.length_toList, hcs, hxl]
      have := Nat.mul_le_mul_right 1 (show n + 1 ≤ cap by omega)
      omega
    obtain ⟨W1, hW1⟩ : ∃ W1, W1 = w.drew.setRow g A.toArray := ⟨_, rfl⟩
    have hg1 : W1.heap[g]? = some (.cells A.toArray 136 (0, 0)) := by rw [hW1]; exact setRow_heap w.drew g cur _ 136 _ hg
    have hX1 : RowIn vs.toArray T W1 X := by rw [hW1]; exact (setRow_other w.drew g X _ hXg).trans hX
    rw [← hA, ← hW1] at hcp1
    have hcp2 : ∀ ty dc, (Builtin.copy_ #[130, 130] ty #[.slice (some ⟨g, i * 1, none⟩) (n + 1 - i) dc, .slice (some ⟨X, 0, none⟩) 1 1]).run Try.prog W1 = .ok (goInt (Nat.min 1 (n + 1 - i))) (W1.setRow g (A.take (i * 1) ++ vs ++ A.drop (i * 1 + vs.length)).toArray) := fun ty dc => by
      have := run_copy15 (P := Try.prog) W1 130 130 ty 136 1 g (i * 1) (n + 1 - i) dc ⟨X, 0, none⟩ 1 1 A.toArray 136 vs Try.underlying130 hsz hg1 (by rw [hvs]; simp only [Nat.min_def]; split <;> omega) (rowIn_src15 hX1) (by rw [hvs]; simp only [List.size_toArray, hAl]; have := Nat.mul_le_mul_right 1 (show i + 1 ≤ cap by omega); omega) h1v
      simpa using this
    have HR := Lib.hid (show (W1.setRow g (A.take (i * 1) ++ vs ++ A.drop (i * 1 + vs.length)).toArray).ownsRow B 136 1 (.slice (some ⟨g, 0, none⟩) (n + 1) cap) (n + 1) (insV xs (i * 1) vs) ∧ w.grownBy (W1.setRow g (A.take (i * 1) ++ vs ++ A.drop (i * 1 + vs.length)).toArray) (some g) from by
      have h := own_setRow15 (B := B) (t := 136) (sz := 1) (m := n + 1) (cap := cap) hg1 (A.take (i * 1) ++ vs ++ A.drop (i * 1 + vs.length)) (insV xs (i * 1) vs) (by
        simp only [List.length_append, List.length_take, List.length_drop, hAl, hvs]
        have := Nat.mul_le_mul_right 1 (show i + 1 ≤ cap by omega)
        omega) hc hcm (by
        simp only [insV, List.length_append, List.length_take, List.length_drop, hxl, hvs]
        have := Nat.mul_le_mul_right 1 hi
        omega) (by
        have k := lay_in15 xs (cur.toList.drop (n * 1)) vs (i * 1) (by rw [hxl]; exact Nat.mul_le_mul_right _ hi) (by rw [hvs]; exact hsp1)
        rw [← hcl, hvs] at k
        rw [hA, hvs, show (i + 1) * 1 = i * 1 + 1 from by omega, show (n + 1) * 1 = xs.length + 1 from by omega]
        unfold insV
        exact k) hB
      refine ⟨h.1, ?_⟩
      rw [hW1, setRow_setRow]
      exact ⟨rfl, rfl, rfl, by simp [World.setRow], fun k _ hk => setRow_other w.drew g k _ (fun e => hk (by rw [e]))⟩)
    generalize (W1.setRow g (A.take (i * 1) ++ vs ++ A.drop (i * 1 + vs.length)).toArray) = w2 at *
    have HR := HR.out
    try simp only [Nat.mul_one] at HR
    try simp only [Nat.mul_one] at hcp1
    try simp only [Nat.mul_one] at hcp2
    try simp only [Nat.mul_one] at hov
    replace HR := Lib.hid HR
    clear hA hAl hW1 hg1 hcl hspl hsp1 hct hO hg hX1
    have mixed := mixed15
    go_enter Try.func131, Try.ntmps131
    go_wp2_with (simp only [hov])
    go_region_law_o (refine step_copy_run15 rfl _ _ 130 130 rfl _ _ (by simp [Act.eval, Act.put]) (by simp [Act.eval, Act.put]) (hcp1 _ _ _) ?_)
    go_wp2_with (at_builtin; refine wpList_copy_run15 _ rfl _ _ 130 130 rfl _ _ rfl rfl (hcp2 _ _) ?_)
    go_ret
    exact ⟨rfl, HR.out.1, HR.out.2⟩
theorem insFull_lastP {n i : Nat} (w : World) (q o : Nat) (xs vs : List Value) (hxl : xs.length = n * 1) (hxs : ∀ j v, xs[j]? = some v → w.cell? ⟨q, o + j, none⟩ = some v) (h1x : ∀ u ∈ xs, u.oneCell' = true) (hi : i ≤ n) (hin : ¬ i = n) (T : TypeId) {X : Nat} (hX : RowIn vs.toArray T w X) (hvs : vs.length = 1) (h1v : ∀ u ∈ vs, u.oneCell' = true) :
    ∀ c2 w2 zs, zs.length = (n + 1 - i) * 1 → w2.ownsRow w.heap.size 136 1 (.slice (some ⟨w.heap.size, 0, none⟩) (n + 1) c2) (n + 1) (xs.take (i * 1) ++ zs) → Below w.heap.size w w2 →
      ∃ w3 w4, (∀ ty dc, (Builtin.copy_ #[130, 130] ty #[.slice (some ⟨w.heap.size, i * 1, none⟩) (n + 1 - i) dc, .slice (some ⟨X, 0, none⟩) 1 1]).run Try.prog w2 = .ok (goInt 1) w3) ∧
        (∀ ty dc sc, (Builtin.copy_ #[130, 130] ty #[.slice (some ⟨w.heap.size, (i + 1) * 1, none⟩) (n - i) dc, .slice (some ⟨q, o + i * 1, none⟩) (n - i) sc]).run Try.prog w3.drew = .ok (goInt ((n - i : Nat) : Int)) w4) ∧
        w4.ownsRow w.heap.size 136 1 (.slice (some ⟨w.heap.size, 0, none⟩) (n + 1) c2) (n + 1) (insV xs (i) vs) ∧ Below w.heap.size w w4 := fun c2 w2 zs hz ho hb => by
  obtain ⟨i0, z0, hi0, hz0, hz1, hz2, hz3⟩ := infoPg_parts
  have hsz : (Try.prog.info? 136).map (·.size) = some 1 := by rw [hi0]; simp [hz1]
  have hq : q < w.heap.size := by
    have h := hxs 0 (xs[0]'(by omega)) (List.getElem?_eq_getElem (by omega))
    exact block_lt_of_cell h
  obtain ⟨cA, hcA⟩ : ∃ c : Nat, c = 0 := ⟨_, rfl⟩
  obtain ⟨w3, hr3, ho3, hg3⟩ := copy_own15 (P := Try.prog) w2 130 130 136 1 Try.underlying130 hsz w.heap.size w.heap.size (n + 1) c2 _ ho i (n + 1 - i) ⟨X, 0, none⟩ 1 vs 1 (by simp only [Nat.min_def]; split <;> omega) (by rw [hvs]) (by omega) (rowIn_src15 (hX.below hb)) h1v
  have hb3 : Below w.heap.size w w3 := hb.grown hg3 hb.size (fun k hk => by cases hk; exact Nat.le_refl _)
  obtain ⟨w4, hr4, ho4, hg4⟩ := copy_own15 (P := Try.prog) w3.drew 130 130 136 1 Try.underlying130 hsz w.heap.size w.heap.size (n + 1) c2 _ (show w3.drew.ownsRow _ _ _ _ _ _ from ho3) (i + 1) (n - i) ⟨q, o + i * 1, none⟩ (n - i) (xs.drop (i * 1)) (n - i) (Nat.min_self _) (by rw [List.length_drop, hxl, Nat.sub_mul]) (by omega) (fun j v hj => by
    rw [Addr.add_lit, Nat.add_assoc]
    rw [List.getElem?_drop] at hj
    exact (hb3.cell (p := ⟨q, o + (i * 1 + j), none⟩) hq).trans (hxs _ v hj)) (fun v hv => h1x v (List.mem_of_mem_drop hv))
  have hb4 : Below w.heap.size w w4 := hb3.drew.grown hg4 hb3.size (fun k hk => by cases hk; exact Nat.le_refl _)
  refine ⟨w3, w4, fun ty dc => hr3 ty dc 1, fun ty dc sc => hr4 ty dc sc, ?_, hb4⟩
  · have e : insV xs (i) vs = (((xs.take (i * 1) ++ zs).take (i * 1) ++ vs ++ (xs.take (i * 1) ++ zs).drop (i * 1 + vs.length)).take ((i + 1) * 1) ++ xs.drop (i * 1) ++ ((xs.take (i * 1) ++ zs).take (i * 1) ++ vs ++ (xs.take (i * 1) ++ zs).drop (i * 1 + vs.length)).drop ((i + 1) * 1 + (xs.drop (i * 1)).length)) := by
      have hm := Nat.mul_le_mul_right 1 hi
      have l1 : (xs.take (i * 1)).length = i * 1 := by simp only [List.length_take, hxl]; omega
      have a1 : (xs.take (i * 1) ++ zs).take (i * 1) = xs.take (i * 1) := by
        have := List.take_left (l₁ := xs.take (i * 1)) (l₂ := zs)
        rwa [l1] at this
      rw [a1]
      have a2 : (xs.take (i * 1) ++ vs ++ (xs.take (i * 1) ++ zs).drop (i * 1 + vs.length)).take ((i + 1) * 1) = xs.take (i * 1) ++ vs := by
        have := List.take_left (l₁ := xs.take (i * 1) ++ vs) (l₂ := (xs.take (i * 1) ++ zs).drop (i * 1 + vs.length))
        rwa [show (xs.take (i * 1) ++ vs).length = (i + 1) * 1 from by simp only [List.length_append, l1, hvs]; omega] at this
      have a3 : (xs.take (i * 1) ++ vs ++ (xs.take (i * 1) ++ zs).drop (i * 1 + vs.length)).drop ((i + 1) * 1 + (xs.drop (i * 1)).length) = [] := List.drop_eq_nil_of_le (by simp only [List.length_append, List.length_drop, l1, hvs, hz, hxl]; omega)
      rw [a2, a3, List.append_nil]
      unfold insV
      try simp only [Nat.mul_one]
    rw [e]
    exact ho4
set_option maxHeartbeats 4000000 in
set_option maxRecDepth 100000 in
/-- No room: a new row. -/
theorem insFullP (w : World) (q o n i X : Nat) (xs vs : List Value) (hxl : xs.length = n * 1) (hxs : ∀ j v, xs[j]? = some v → w.cell? ⟨q, o + j, none⟩ = some v) (h1x : ∀ u ∈ xs, u.oneCell' = true) (hi : i ≤ n) (hnl : n ≤ 1000000) (T : TypeId) (hX : RowIn vs.toArray T w X) (hvs : vs.length = 1) (h1v : ∀ u ∈ vs, u.oneCell' = true) :
    Calls Try.prog 131 #[.slice (some ⟨q, o, none⟩) n n, .int .i64 i, .slice (some ⟨X, 0, none⟩) 1 1] w fun e w' =>
      ∃ c, e = .returned (.slice (some ⟨w.heap.size, 0, none⟩) (n + 1) c) ∧ w'.ownsRow w.heap.size 136 1 (.slice (some ⟨w.heap.size, 0, none⟩) (n + 1) c) (n + 1) (insV xs (i) vs) ∧ Below w.heap.size w w' := by
  obtain ⟨i0, z0, hi0, hz0, hz1, hz2, hz3⟩ := infoPg_parts
  have hsz : (Try.prog.info? 136).map (·.size) = some 1 := by rw [hi0]; simp [hz1]
  have hi1 : (0 : Int) ≤ (i : Int) := by omega
  have hi2 : (i : Int) ≤ (n : Int) := by omega
  have hw1 : IntKind.i64.wrap ((n : Int) + 1) = (n : Int) + 1 := IntWalk.i64_in _ (by omega)
  have hXlt := hX.lt
  by_cases hin : i = n
  · subst hin
    have hq : decide ((i : Int) = (i : Int)) = true := by simp
    have hrr : ∀ ty, ∃ c' w', (Builtin.append_ #[130, 130] ty #[.slice (some ⟨q, o, none⟩) i i, .slice (some ⟨X, 0, none⟩) 1 1]).run Try.prog w = .ok (.slice (some ⟨w.heap.size, 0, none⟩) (i + 1) c') w' ∧ w'.ownsRow w.heap.size 136 1 (.slice (some ⟨w.heap.size, 0, none⟩) (i + 1) c') (i + 1) (xs ++ vs) ∧ Below w.heap.size w w' := fun ty =>
      append_full15 (P := Try.prog) w 130 130 ty 136 136 i0 z0 1 24 Try.underlying130 Try.underlying130 hi0 hz0 hz1 hz2 hz3 ⟨q, o, none⟩ i i xs hxl (fun j v hj => by rw [Addr.add_lit]; exact hxs j v hj) ⟨X, 0, none⟩ 1 1 vs (by rw [hvs]) (rowIn_src15 hX) (by omega) (by unfold maxLen; omega) (by omega)
    have he : xs ++ vs = insV xs (i) vs := by
      unfold insV
      rw [List.drop_eq_nil_of_le (show xs.length ≤ i by omega), List.append_nil, List.take_of_length_le (show xs.length ≤ i by omega)]
    rw [he] at hrr
    go_enter Try.func131, Try.ntmps131
    go_wp2_with (at_builtin; obtain ⟨c2, w2, hr, ho, hb⟩ := hrr _; refine wpList_append_run15 _ rfl _ _ 130 130 rfl _ _ rfl rfl _ _ hr ?_; have HR := Lib.hid (And.intro ho hb); clear hr ho hb hrr)
    go_ret
    exact ⟨c2, rfl, HR.out⟩
  · have hq : decide ((i : Int) = (n : Int)) = false := by simp; omega
    have hq1 : ¬ ((i : Int) = (n : Int)) := by omega
    have hq2 : ((i : Int) == (n : Int)) = false := by rw [beq_eq_false_iff_ne]; omega
    have hq3 : ¬ (n = i) := by omega
    have hw2 : IntKind.i64.wrap ((i : Int) + 1) = (i : Int) + 1 := IntWalk.i64_in _ (by omega)
    have hw3 : IntKind.i64.wrap ((n : Int) + 1 - (i : Int)) = ((n + 1 - i : Nat) : Int) := by rw [IntWalk.i64_in _ (by omega)]; omega
    have hd1 : decide ((n : Int) < (n : Int) + 1) = true := by simp; omega
    have hj1 : (0 : Int) ≤ (i : Int) + 1 := by omega
    have hj2 : ((i : Int) + 1).toNat = i + 1 := by omega
    have hmk : ∀ ty, ∃ c' w' zs, (Builtin.append_ #[130, 3] ty #[.slice (some ⟨q, o, none⟩) i n, .int .i64 ((n + 1 - i : Nat) : Int)]).run Try.prog w = .ok (.slice (some ⟨w.heap.size, 0, none⟩) (n + 1) c') w' ∧ zs.length = (n + 1 - i) * 1 ∧ n + 1 ≤ c' ∧ w'.ownsRow w.heap.size 136 1 (.slice (some ⟨w.heap.size, 0, none⟩) (n + 1) c') (n + 1) (xs.take (i * 1) ++ zs) ∧ Below w.heap.size w w' := fun ty => by
      have h := append_make15 (P := Try.prog) w 130 3 ty 136 i0 z0 .i64 1 24 Try.underlying130 Try.underlying3 hi0 hz0 hz1 hz2 hz3 (by decide) ⟨q, o, none⟩ i n (xs.take (i * 1)) (by simp only [List.length_take, hxl]; omega) (fun j v hj => by
        rw [Addr.add_lit]
        rw [List.getElem?_take] at hj
        split at hj
        · exact hxs j v hj
        · cases hj) (n + 1 - i) (by omega) (by omega) (by unfold maxLen; omega) (by omega)
      rwa [show i + (n + 1 - i) = n + 1 from by omega] at h
    have mixed := mixed15
    go_enter Try.func131, Try.ntmps131
    have HFin := Lib.hid (insFull_lastP (n := n) (i := i) w q o xs vs hxl hxs h1x hi hin T hX hvs h1v)
    clear hxs h1x hX h1v
    go_wp2_with (first
      | (have _t := HO2; clear _t; at_builtin; refine wpList_copy_run15 _ rfl _ _ 130 130 rfl _ _ rfl rfl (hcA _ _) ?_)
      | (at_builtin; obtain ⟨c2, w2, zs, hr, hzl, hc2, ho, hb⟩ := hmk _; refine wpList_append_run15 _ rfl _ _ 130 3 rfl _ _ rfl rfl _ _ hr ?_; have HO2 := Lib.hid hzl; obtain ⟨w3, w4, hcA, hcB, hF⟩ := HFin.out c2 w2 zs hzl ho hb; have HF := Lib.hid hF; have hc3 : ¬ (c2 = i) := (by omega); have hc4 : ¬ (c2 = i + 1) := (by omega); have hc5 : (i : Int) + 1 ≤ (n : Int) + 1 := (by omega); have hc6 : (i : Int) ≤ (n : Int) + 1 := (by omega); have hc7 : (n : Int) + 1 ≤ (c2 : Int) := (by omega); try simp only [Nat.mul_one] at hcA; try simp only [Nat.mul_one] at hcB; clear hr ho hb hmk hzl hF))
    go_region_law_o (refine step_copy_run15 rfl _ _ 130 130 rfl _ _ (by simp [Act.eval, Act.put]) (by simp [Act.eval, Act.put]) (hcB _) ?_)
    go_wp2_with fail
    go_ret
    exact ⟨c2, rfl, HF.out⟩

end Go.Proofs.Ythidmgnfdikppaa
