/- Layer 11: a row's next cell laid in, by a contract. -/
import Derived.Test.YthidmgnfdikppaaZL
namespace Go.Proofs.Ythidmgnfdikppaa
set_option linter.unusedVariables false
open Go Go.RowKit
attribute [local go_sem ↓] run_index_S
attribute [local go_sem] S_append S_extract

theorem Hq.below {B bi : Nat} {ao : Option Addr} {n cap : Nat} {H : List M.Hd} {w w' : World} (h : Hq B bi ao n cap H w) (hb : Below w.heap.size w w') : Hq B bi ao n cap H w' :=
  h.grown (own_below11 h.own hb) h.len (grown_below11 hb)
/-- The head of a row that begins with c, and goes on with t. -/
def M.hdOf (c : M.Cl) (t : List M.Cl) (q off k r : Nat) : M.Hd := ⟨c, t, if k = 1 then some ⟨q, off, none⟩ else some ⟨q, off + 3, none⟩, k - 1, r⟩
set_option maxHeartbeats 4000000 in
set_option maxRecDepth 100000 in
theorem lay11_any (B bi : Nat) (ao : Option Addr) (n cap : Nat) (H : List M.Hd) (c : M.Cl) (t : List M.Cl) (q off k r : Nat) (w : World) (h : Hq B bi ao n cap H w) (hn : n + 1 ≤ 1000000) (hp : M.Hp H n) (hc : ClOff c w q off) (hk : t.length + 1 ≤ k) :
    Calls Try.prog 95 #[.pointer (some ⟨bi, 0, none⟩), .slice (some ⟨q, off, none⟩) (t.length + 1) k, .int .i64 r] w (HPushR B bi ao n cap (H ++ [M.hdOf c t q off k r]) w) := by
  have HC := Lib.hid ((hpush11_any B bi ao n cap H (M.hdOf c t q off k r) w.drew (h.below (Below.refl _ _).drew) hn hp).mono fun e w' hh => (show HPushR B bi ao n cap (H ++ [M.hdOf c t q off k r]) w e w' from ⟨hh.1, by
    obtain ⟨a1, a2, a3, a4, a5, a6, a7, a8⟩ := hh.2
    exact ⟨a1, a2, a3, a4, a5, a6, ⟨a7.os, a7.tape, a7.output, a7.size, a7.block⟩, a8⟩⟩))
  obtain ⟨x0, x1, x2⟩ := hc
  have hi : (0 : Int) < ((t.length + 1 : Nat) : Int) := by omega
  have d1 : decide ((0 : Int) < ((t.length + 1 : Nat) : Int)) = true := by simp
  have d2 : decide (0 < t.length + 1) = true := by simp
  have hk1 : 1 ≤ k := by omega
  have hk2 : (1 : Int) ≤ (k : Int) := by omega
  have hk3 : (((t.length + 1 : Nat) : Int)) ≤ (k : Int) := by omega
  have hk4 : t.length + 1 ≤ k := by omega
  have hk5 : (1 : Int) ≤ ((t.length + 1 : Nat) : Int) := by omega
  have hk6 : (1 : Int) ≤ (t.length : Int) + 1 := by omega
  clear h hp
  go_enter Try.func95, Try.ntmps95
  go_wp2_with fail
  refine wp_region_any (by kernel_rfl) ?_
  change wpAny _ _ _ _ _ _ _ (World.drew _)
  refine wpAny_take (i := 0) (oi := { dst := some 9, op := Op.move (Operand.tmp 0), type := 64, pos := "merges.go:55", after := #[], guard := none }) (v := ?_) rfl (by kernel_rfl) (by kernel_rfl) (by kernel_rfl) (fun _ _ _ h => h) (Or.inl ⟨by rfl, ?_⟩) ?_
  rotate_left
  · (intro w; go_simp); (first | done | with_reducible rfl)
  try simp only [Act.put, List.setIfInBounds_toArray, List.set_cons_zero, List.set_cons_succ]
  refine wpAny_take (i := 1) (oi := { dst := some 10, op := Op.nilCheck (Operand.tmp 9), type := 0, pos := "merges.go:55", after := #[{ on := 0, ground := Ground.data }], guard := none }) (v := ?_) rfl (by kernel_rfl) (by kernel_rfl) (by kernel_rfl) (fun _ _ _ h => h) (Or.inl ⟨by rfl, ?_⟩) ?_
  rotate_left
  · (intro w; go_simp); (first | done | with_reducible rfl)
  try simp only [Act.put, List.setIfInBounds_toArray, List.set_cons_zero, List.set_cons_succ]
  refine wpAny_take (i := 2) (oi := { dst := some 11, op := Op.fieldAddr 71 (Operand.tmp 10) 0, type := 0, pos := "merges.go:55", after := #[{ on := 1, ground := Ground.data }], guard := none }) (v := ?_) rfl (by kernel_rfl) (by kernel_rfl) (by kernel_rfl) (fun _ _ _ h => h) (Or.inl ⟨by rfl, ?_⟩) ?_
  rotate_left
  · (intro w; go_simp); (first | done | with_reducible rfl)
  try simp only [Act.put, List.setIfInBounds_toArray, List.set_cons_zero, List.set_cons_succ]
  refine wpAny_take (i := 3) (oi := { dst := some 12, op := Op.makeInterface 129 (Operand.tmp 11), type := 158, pos := "merges.go:55", after := #[{ on := 2, ground := Ground.data }], guard := none }) (v := ?_) rfl (by kernel_rfl) (by kernel_rfl) (by kernel_rfl) (fun _ _ _ h => h) (Or.inl ⟨by rfl, ?_⟩) ?_
  rotate_left
  · (intro w; go_simp); (first | done | with_reducible rfl)
  try simp only [Act.put, List.setIfInBounds_toArray, List.set_cons_zero, List.set_cons_succ]
  refine wpAny_take (i := 4) (oi := { dst := some 13, op := Op.move (Operand.tmp 1), type := 22, pos := "merges.go:55", after := #[], guard := none }) (v := ?_) rfl (by kernel_rfl) (by kernel_rfl) (by kernel_rfl) (fun _ _ _ h => h) (Or.inl ⟨by rfl, ?_⟩) ?_
  rotate_left
  · (intro w; go_simp); (first | done | with_reducible rfl)
  try simp only [Act.put, List.setIfInBounds_toArray, List.set_cons_zero, List.set_cons_succ]
  refine wpAny_take (i := 5) (oi := { dst := some 14, op := Op.indexAddr 22 (Operand.tmp 13) (Operand.const (Value.int IntKind.i64 0)), type := 0, pos := "merges.go:55", after := #[{ on := 4, ground := Ground.data }], guard := none }) (v := ?_) rfl (by kernel_rfl) (by kernel_rfl) (by kernel_rfl) (fun _ _ _ h => h) (Or.inl ⟨by rfl, ?_⟩) ?_
  rotate_left
  · (intro w; go_simp); (first | done | with_reducible rfl)
  try simp only [Act.put, List.setIfInBounds_toArray, List.set_cons_zero, List.set_cons_succ]
  refine wpAny_take (i := 7) (oi := { dst := some 16, op := Op.move (Operand.tmp 1), type := 22, pos := "merges.go:55", after := #[], guard := none }) (v := ?_) rfl (by kernel_rfl) (by kernel_rfl) (by kernel_rfl) (fun _ _ _ h => h) (Or.inl ⟨by rfl, ?_⟩) ?_
  rotate_left
  · (intro w; go_simp); (first | done | with_reducible rfl)
  try simp only [Act.put, List.setIfInBounds_toArray, List.set_cons_zero, List.set_cons_succ]
  refine wpAny_take (i := 8) (oi := { dst := some 17, op := Op.slice 22 (Operand.tmp 16) (some (Operand.const (Value.int IntKind.i64 1))) none none, type := 22, pos := "merges.go:55", after := #[{ on := 7, ground := Ground.data }], guard := none }) (v := ?_) rfl (by kernel_rfl) (by kernel_rfl) (by kernel_rfl) (fun _ _ _ h => h) (Or.inl ⟨by rfl, ?_⟩) ?_
  rotate_left
  · (intro w; go_simp); (first | done | with_reducible rfl)
  try simp only [Act.put, List.setIfInBounds_toArray, List.set_cons_zero, List.set_cons_succ]
  refine wpAny_take (i := 9) (oi := { dst := some 18, op := Op.move (Operand.tmp 2), type := 3, pos := "merges.go:55", after := #[], guard := none }) (v := ?_) rfl (by kernel_rfl) (by kernel_rfl) (by kernel_rfl) (fun _ _ _ h => h) (Or.inl ⟨by rfl, ?_⟩) ?_
  rotate_left
  · (intro w; go_simp); (first | done | with_reducible rfl)
  try simp only [Act.put, List.setIfInBounds_toArray, List.set_cons_zero, List.set_cons_succ]
  refine wpAny_ready (rs := [6]) (by kernel_rfl) (by simp) ?_
  refine AllReady.cons (o := { dst := some 15, op := Op.load 38 (Operand.tmp 14), type := 38, pos := "merges.go:55", after := #[{ on := 5, ground := Ground.data }], guard := none }) rfl (fun K hK => ?_) AllReady.nil
  go_simp
  refine hK _ _ ?_
  clear hK K
  try simp only [Act.put, List.setIfInBounds_toArray, List.set_cons_zero, List.set_cons_succ]
  refine wpAny_take (i := 10) (oi := { dst := some 19, op := Op.build 127 #[(0, Operand.tmp 15), (1, Operand.tmp 17), (2, Operand.tmp 18)], type := 127, pos := "merges.go:55", after := #[{ on := 6, ground := Ground.data }, { on := 8, ground := Ground.data }, { on := 9, ground := Ground.data }], guard := none }) (v := ?_) rfl (by kernel_rfl) (by kernel_rfl) (by kernel_rfl) (fun _ _ _ h => h) (Or.inl ⟨by rfl, ?_⟩) ?_
  rotate_left
  · (intro w; go_simp); (first | done | with_reducible rfl)
  try simp only [Act.put, List.setIfInBounds_toArray, List.set_cons_zero, List.set_cons_succ]
  refine wpAny_take (i := 11) (oi := { dst := some 20, op := Op.makeInterface 127 (Operand.tmp 19), type := 20, pos := "merges.go:55", after := #[{ on := 10, ground := Ground.data }], guard := none }) (v := ?_) rfl (by kernel_rfl) (by kernel_rfl) (by kernel_rfl) (fun _ _ _ h => h) (Or.inl ⟨by rfl, ?_⟩) ?_
  rotate_left
  · (intro w; go_simp); (first | done | with_reducible rfl)
  try simp only [Act.put, List.setIfInBounds_toArray, List.set_cons_zero, List.set_cons_succ]
  refine wpAny_ready (rs := [12]) (by kernel_rfl) (by simp) ?_
  refine AllReady.cons (o := { dst := some 21, op := Op.call { callee := Callee.value (Operand.func 127), args := #[Operand.tmp 12, Operand.tmp 20], argTypes := #[158, 20] }, type := 0, pos := "merges.go:55", after := #[{ on := 3, ground := Ground.data }, { on := 11, ground := Ground.data }], guard := none }) rfl (fun K hK => ?_) AllReady.nil
  go_simp
  go_at_call 127
  refine (HC.out).mono ?_
  rintro e w1 ⟨rfl, hE⟩
  have HE := Lib.hid hE
  clear hE
  refine hK _ _ ?_
  clear hK K
  refine wpAny_done (by kernel_rfl) ?_ _
  go_end0
  exact ⟨rfl, HE.out⟩
theorem layNil11_any (bi : Nat) (o : Option Addr) (k r : Nat) (w : World) :
    Calls Try.prog 95 #[.pointer (some ⟨bi, 0, none⟩), .slice o 0 k, .int .i64 r] w fun e w' => e = .returned (.tuple #[]) ∧ w' = w := by
  go_enter Try.func95, Try.ntmps95
  go_wp2_with fail
  go_end0
  exact ⟨rfl, rfl⟩

end Go.Proofs.Ythidmgnfdikppaa
