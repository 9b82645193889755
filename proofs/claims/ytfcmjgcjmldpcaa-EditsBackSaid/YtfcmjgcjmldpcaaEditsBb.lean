/- Layer 16: what a writer's methods put, by contracts. -/
import Derived.Test.YtfcmjgcjmldpcaaEditsBa
import Derived.Test.YtfcmjgcjmldpcaaEditsAu
import Derived.Test.YtfcmjgcjmldpcaaIntsC2
import Derived.Deep.RegionHeld
namespace Go.Proofs.Ytfcmjgcjmldpcaa
set_option linter.unusedVariables false
set_option linter.unusedSimpArgs false
open Go Go.RowKit
attribute [local go_sem ↓] run_index_S
attribute [local go_sem] S_append S_extract

/-- A number's bytes, one below 0 as 0. -/
def Ed.pn (n : Int) : List UInt8 := M.putN (max n 0).toNat
def Ed.pns (ns : List Int) : List UInt8 := ns.flatMap Ed.pn
def Ed.pt (l : List UInt8) : List UInt8 := M.putN l.length ++ l
def Ed.pl (ns : List Int) : List UInt8 := Ed.pn ns.length ++ Ed.pns ns
theorem Ed.pn_len (n : Int) : (Ed.pn n).length ≤ 10 := (M.putN_length _).2
theorem Ed.pns_app (a b : List Int) : Ed.pns (a ++ b) = Ed.pns a ++ Ed.pns b := by simp [Ed.pns]
theorem Ed.pns_one (n : Int) : Ed.pns [n] = Ed.pn n := by simp [Ed.pns]
theorem Ed.pns_len (l : List Int) : (Ed.pns l).length ≤ 10 * l.length := by
  induction l with
  | nil => simp [Ed.pns]
  | cons n t ih =>
    have h := Ed.pn_len n
    simp only [Ed.pns, List.flatMap_cons, List.length_append, List.length_cons] at *
    omega
theorem Ed.pl_len (l : List Int) : (Ed.pl l).length ≤ 10 * l.length + 10 := by
  have h := Ed.pn_len l.length
  have h2 := Ed.pns_len l
  simp only [Ed.pl, List.length_append]
  omega
theorem KeptW.trans {b : Nat} {w w' w'' : World} (h : KeptW b w w') (h2 : KeptW b w' w'') : KeptW b w w'' := fun C T g hT hg hr => h2 C T g hT hg (h C T g hT hg hr)
theorem KeptW.of_below {b : Nat} {w w' : World} (h : Below w.heap.size w w') : KeptW b w w' := fun C T g hT hg hr => BkIn.below (w := w) hr h
/-- What a writer's method leaves: B the base, b the writer's block. -/
structure WrK (B b : Nat) (l : List UInt8) (w w' : World) : Prop where
  at_ : WrAt B b l w'
  bel : Below B w w'
  kept : KeptW b w w'
theorem WrK.below {B b : Nat} {l : List UInt8} {w w1 w' : World} (h : WrK B b l w w1) (hB : B ≤ w1.heap.size) (hb : Below w1.heap.size w1 w') : WrK B b l w w' :=
  ⟨WrAt.below h.at_ hb, h.bel.trans (hb.mono hB), h.kept.trans (KeptW.of_below hb)⟩
theorem WrK.step {B b : Nat} {l t : List UInt8} {w w1 w' : World} (h : WrK B b l w w1) (h1 : WrK B b t w1 w') : WrK B b t w w' := ⟨h1.at_, h.bel.trans h1.bel, h.kept.trans h1.kept⟩
/-- Numbers that stay where they are whatever the writer writes. -/
def NsSt (B b : Nat) (w : World) (ao : Option Addr) (ns : List Int) : Prop := ∀ w', Below B w w' → KeptW b w w' → NsAt w' ao ns
theorem put_max (n : Int) (hn : n ≤ 9223372036854775807) (w : World) :
    Calls Try.prog 57 #[.int .i64 (max n 0)] w fun e w' => e = .returned (.string (S (Ed.pn n))) ∧ Below w.heap.size w w' := by
  have h := put_nat (max n 0).toNat w (by omega)
  rwa [show (((max n 0).toNat : Nat) : Int) = max n 0 from by omega] at h
theorem write_k (B b : Nat) (l t : List UInt8) (w0 w : World) (h : WrK B b l w0 w) (hlen : l.length + t.length ≤ 140737488355328) (hB : B ≤ w.heap.size) :
    Calls Try.prog 56 #[.pointer (some ⟨b, 0, none⟩), .string (S t)] w fun e w' => e = .returned (.tuple #[.int .i64 t.length, .nilIface]) ∧ WrK B b (l ++ t) w0 w' :=
  (writeW_any B b l t w h.at_ hlen hB).mono (fun e w' ⟨h1, h2, h3, h4⟩ => ⟨h1, h.step ⟨h2, h3, h4⟩⟩)
theorem take_snoc16 (l : List Int) (k : Nat) (h : k < l.length) : l.take (k + 1) = l.take k ++ [l.getD k 0] := Ed.take_snoc l k 0 h
set_option maxHeartbeats 4000000 in
theorem numbers16_any (B b : Nat) (l : List UInt8) (ns : List Int) (hn : ∀ n ∈ ns, n ≤ 9223372036854775807) (hlen : l.length + 10 * ns.length ≤ 140737488355328) (ao : Option Addr) (cap : Nat) (w : World) (h : WrAt B b l w) (hB : B ≤ w.heap.size) (ha : NsSt B b w ao ns) :
    Calls Try.prog 39 #[.pointer (some ⟨b, 0, none⟩), .slice ao ns.length cap] w fun e w' => e = .returned (.tuple #[]) ∧ WrK B b (l ++ Ed.pns ns) w w' := by
  have HW0 := Lib.hid (show WrK B b (l ++ Ed.pns (ns.take 0)) w w from ⟨by simpa [Ed.pns] using h, Below.refl _ _, fun _ _ _ _ _ h => h⟩)
  have HA := Lib.hid ha
  have HB := Lib.hid hB
  have HN := Lib.hid hn
  have hl48 : ns.length ≤ 140737488355328 := by omega
  have HLN := Lib.hid hlen
  clear h ha hB hn hlen
  go_enter Try.func39, Try.ntmps39
  go_wp2_with fail
  go_loopw [8] (fun i wr => ∃ (k : Nat), k ≤ ns.length ∧ i = .int .i64 k ∧ Hid (WrK B b (l ++ Ed.pns (ns.take k)) w wr)) (fun i _ => ns.length - (intOf i).toNat)
  case atStart => exact ⟨0, Nat.zero_le _, rfl, HW0⟩
  case round =>
    obtain ⟨k, hk, rfl, HW⟩ := hrel
    clear HW0
    by_cases hlt : k < ns.length
    · have hki : (k : Int) < (ns.length : Int) := by omega
      obtain ⟨g, off, rfl, hc⟩ := (HA.out wr HW.out.bel HW.out.kept).off k hlt
      have HT := Lib.hid (take_snoc16 ns k hlt)
      have CP := Lib.hid (fun x => put_max (ns.getD k 0) (HN.out _ (Ed.gD_mem (d := 0) hlt)) x)
      have HLn := Lib.hid (show (l ++ Ed.pns (ns.take k)).length + (Ed.pn (ns.getD k 0)).length ≤ 140737488355328 from by
        have h1 := Ed.pns_len (ns.take k)
        have h2 := Ed.pn_len (ns.getD k 0)
        have h3 := HLN.out
        simp only [List.length_append, List.length_take] at *
        omega)
      generalize ns.getD k 0 = n at *
      go_wp2_with fail
      refine wp_region_held_drew (S := fun _ => True) (by kernel_rfl) True.intro (fun hHeld => ?_)
      replace HW := Lib.hid (HW.out.below (Nat.le_trans HB.out HW.out.bel.size) (Below.refl _ wr).drew)
      obtain ⟨wd, hwd⟩ : ∃ x, x = World.drew wr := ⟨_, rfl⟩
      rw [← hwd] at HW ⊢
      clear hwd
      refine wpAnyH_take (i := 0) (oi := { dst := some 12, op := Op.move (Operand.tmp 0), type := 87, pos := "bytes.go:16", after := #[], guard := none }) (v := ?_) rfl (by kernel_rfl) (by kernel_rfl) (by kernel_rfl) (fun _ _ _ h => h) (Or.inl ⟨by rfl, ?_⟩) (by assumption) ?_
      rotate_left
      · (intro w hSw; (try dsimp only at hSw); go_simp); (first | done | with_reducible rfl)
      try simp only [Act.put, List.setIfInBounds_toArray, List.set_cons_zero, List.set_cons_succ]
      refine wpAnyH_take (i := 1) (oi := { dst := some 13, op := Op.nilCheck (Operand.tmp 12), type := 0, pos := "bytes.go:16", after := #[{ on := 0, ground := Ground.data }], guard := none }) (v := ?_) rfl (by kernel_rfl) (by kernel_rfl) (by kernel_rfl) (fun _ _ _ h => h) (Or.inl ⟨by rfl, ?_⟩) (by assumption) ?_
      rotate_left
      · (intro w hSw; (try dsimp only at hSw); go_simp); (first | done | with_reducible rfl)
      try simp only [Act.put, List.setIfInBounds_toArray, List.set_cons_zero, List.set_cons_succ]
      refine wpAnyH_take (i := 2) (oi := { dst := some 14, op := Op.fieldAddr 71 (Operand.tmp 13) 0, type := 0, pos := "bytes.go:16", after := #[{ on := 1, ground := Ground.data }], guard := none }) (v := ?_) rfl (by kernel_rfl) (by kernel_rfl) (by kernel_rfl) (fun _ _ _ h => h) (Or.inl ⟨by rfl, ?_⟩) (by assumption) ?_
      rotate_left
      · (intro w hSw; (try dsimp only at hSw); go_simp); (first | done | with_reducible rfl)
      try simp only [Act.put, List.setIfInBounds_toArray, List.set_cons_zero, List.set_cons_succ]
      refine wpAnyH_take (i := 3) (oi := { dst := some 15, op := Op.move (Operand.tmp 5), type := 3, pos := "bytes.go:16", after := #[], guard := none }) (v := ?_) rfl (by kernel_rfl) (by kernel_rfl) (by kernel_rfl) (fun _ _ _ h => h) (Or.inl ⟨by rfl, ?_⟩) (by assumption) ?_
      rotate_left
      · (intro w hSw; (try dsimp only at hSw); go_simp); (first | done | with_reducible rfl)
      try simp only [Act.put, List.setIfInBounds_toArray, List.set_cons_zero, List.set_cons_succ]
      refine wpAnyH_take (i := 4) (oi := { dst := some 16, op := Op.call { callee := Callee.builtin Builtin.max, args := #[Operand.tmp 15, Operand.const (Value.int IntKind.i64 0)], argTypes := #[3, 3] }, type := 3, pos := "bytes.go:16", after := #[{ on := 3, ground := Ground.data }], guard := none }) (v := ?_) rfl (by kernel_rfl) (by kernel_rfl) (by kernel_rfl) (fun _ _ _ h => h) (Or.inl ⟨by rfl, ?_⟩) (by assumption) ?_
      rotate_left
      · (intro w hSw; (try dsimp only at hSw); go_simp); (first | done | with_reducible rfl)
      try simp only [Act.put, List.setIfInBounds_toArray, List.set_cons_zero, List.set_cons_succ]
      refine wpAnyH_ready (rs := [5]) (by kernel_rfl) (by simp) ?_
      refine AllReadyH.cons (o := { dst := some 17, op := Op.call { callee := Callee.value (Operand.func 57), args := #[Operand.tmp 16], argTypes := #[3] }, type := 9, pos := "bytes.go:16", after := #[{ on := 4, ground := Ground.data }], guard := none }) rfl (fun K hK => ?_) (AllReadyH.nil)
      go_simp
      go_at_call 57
      with_reducible refine (CP.out _).mono ?_
      rintro e w2 ⟨rfl, hb2⟩
      replace HW := Lib.hid (HW.out.below (Nat.le_trans HB.out HW.out.bel.size) hb2)
      clear hb2
      refine hK.out _ _ ?_ (fun hHeld => ?_)
      · exact True.intro
      clear hK K
      try simp only [Act.put, List.setIfInBounds_toArray, List.set_cons_zero, List.set_cons_succ]
      refine wpAnyH_ready (rs := [6]) (by kernel_rfl) (by simp) ?_
      refine AllReadyH.cons (o := { dst := some 18, op := Op.call { callee := Callee.value (Operand.func 56), args := #[Operand.tmp 14, Operand.tmp 17], argTypes := #[69, 9] }, type := 90, pos := "bytes.go:16", after := #[{ on := 2, ground := Ground.data }, { on := 5, ground := Ground.data }, { on := 5, ground := Ground.chain }], guard := none }) rfl (fun K hK => ?_) (AllReadyH.nil)
      go_simp
      go_at_call 56
      with_reducible refine (write_k B b _ _ _ _ HW.out (HLn.out) (Nat.le_trans HB.out HW.out.bel.size)).mono ?_
      rintro e w3 ⟨rfl, hw3⟩
      replace HW := Lib.hid hw3
      clear hw3
      refine hK.out _ _ ?_ (fun hHeld => ?_)
      · exact True.intro
      clear hK K
      try simp only [Act.put, List.setIfInBounds_toArray, List.set_cons_zero, List.set_cons_succ]
      refine wpAnyH_done (by kernel_rfl) ?_ _
      clear hHeld CP HLn
      have HW2 := Lib.hid (show WrK B b (l ++ Ed.pns (ns.take (k + 1))) w w3 from by rw [HT.out, Ed.pns_app, Ed.pns_one, ← List.append_assoc]; exact HW.out)
      clear HW HT
      go_wp2_with fail
      go_roundw
      case rel => exact ⟨k + 1, by omega, by go_num, HW2⟩
      case measure => simp [intOf]; omega
    · obtain rfl : k = ns.length := by omega
      have HW2 := Lib.hid (show WrK B b (l ++ Ed.pns ns) w wr from by have := HW.out; rwa [List.take_length] at this)
      clear HW
      go_wp2_with fail
      go_end0
      exact ⟨rfl, HW2.out⟩
theorem numbers16_m (B b : Nat) (l : List UInt8) (ns : List Int) (m : Nat) (hm : ns.length = m) (hn : ∀ n ∈ ns, n ≤ 9223372036854775807) (hlen : l.length + 10 * m ≤ 140737488355328) (ao : Option Addr) (cap : Nat) (w : World) (h : WrAt B b l w) (hB : B ≤ w.heap.size) (ha : NsSt B b w ao ns) :
    Calls Try.prog 39 #[.pointer (some ⟨b, 0, none⟩), .slice ao m cap] w fun e w' => e = .returned (.tuple #[]) ∧ WrK B b (l ++ Ed.pns ns) w w' := by
  subst hm
  exact numbers16_any B b l ns hn hlen ao cap w h hB ha
set_option maxHeartbeats 4000000 in
theorem textW16_any (B b : Nat) (l t : List UInt8) (hlen : l.length + t.length ≤ 140737488355300) (w : World) (h : WrAt B b l w) (hB : B ≤ w.heap.size) :
    Calls Try.prog 40 #[.pointer (some ⟨b, 0, none⟩), .string (S t)] w fun e w' => e = .returned (.tuple #[]) ∧ WrK B b (l ++ Ed.pt t) w w' := by
  have HW := Lib.hid (show WrK B b l w w from ⟨h, Below.refl _ _, fun _ _ _ _ _ h => h⟩)
  have HB := Lib.hid hB
  have CP := Lib.hid (fun x => putText_any t x (by omega))
  have HLn := Lib.hid (show l.length + (M.putN t.length ++ t).length ≤ 140737488355328 from by
    have h2 := (M.putN_length t.length).2
    simp only [List.length_append]
    omega)
  clear h hB hlen
  go_enter Try.func40, Try.ntmps40
  go_wp2_with fail
  refine wp_region_held_drew (S := fun _ => True) (by kernel_rfl) True.intro (fun hHeld => ?_)
  replace HW := Lib.hid (HW.out.below (Nat.le_trans HB.out HW.out.bel.size) (Below.refl _ w).drew)
  obtain ⟨wd, hwd⟩ : ∃ x, x = World.drew w := ⟨_, rfl⟩
  rw [← hwd] at HW ⊢
  clear hwd
  refine wpAnyH_take (i := 0) (oi := { dst := some 4, op := Op.move (Operand.tmp 0), type := 87, pos := "bytes.go:20", after := #[], guard := none }) (v := ?_) rfl (by kernel_rfl) (by kernel_rfl) (by kernel_rfl) (fun _ _ _ h => h) (Or.inl ⟨by rfl, ?_⟩) (by assumption) ?_
  rotate_left
  · (intro w hSw; (try dsimp only at hSw); go_simp); (first | done | with_reducible rfl)
  try simp only [Act.put, List.setIfInBounds_toArray, List.set_cons_zero, List.set_cons_succ]
  refine wpAnyH_take (i := 1) (oi := { dst := some 5, op := Op.nilCheck (Operand.tmp 4), type := 0, pos := "bytes.go:20", after := #[{ on := 0, ground := Ground.data }], guard := none }) (v := ?_) rfl (by kernel_rfl) (by kernel_rfl) (by kernel_rfl) (fun _ _ _ h => h) (Or.inl ⟨by rfl, ?_⟩) (by assumption) ?_
  rotate_left
  · (intro w hSw; (try dsimp only at hSw); go_simp); (first | done | with_reducible rfl)
  try simp only [Act.put, List.setIfInBounds_toArray, List.set_cons_zero, List.set_cons_succ]
  refine wpAnyH_take (i := 2) (oi := { dst := some 6, op := Op.fieldAddr 71 (Operand.tmp 5) 0, type := 0, pos := "bytes.go:20", after := #[{ on := 1, ground := Ground.data }], guard := none }) (v := ?_) rfl (by kernel_rfl) (by kernel_rfl) (by kernel_rfl) (fun _ _ _ h => h) (Or.inl ⟨by rfl, ?_⟩) (by assumption) ?_
  rotate_left
  · (intro w hSw; (try dsimp only at hSw); go_simp); (first | done | with_reducible rfl)
  try simp only [Act.put, List.setIfInBounds_toArray, List.set_cons_zero, List.set_cons_succ]
  refine wpAnyH_take (i := 3) (oi := { dst := some 7, op := Op.move (Operand.tmp 1), type := 9, pos := "bytes.go:20", after := #[], guard := none }) (v := ?_) rfl (by kernel_rfl) (by kernel_rfl) (by kernel_rfl) (fun _ _ _ h => h) (Or.inl ⟨by rfl, ?_⟩) (by assumption) ?_
  rotate_left
  · (intro w hSw; (try dsimp only at hSw); go_simp); (first | done | with_reducible rfl)
  try simp only [Act.put, List.setIfInBounds_toArray, List.set_cons_zero, List.set_cons_succ]
  refine wpAnyH_ready (rs := [4]) (by kernel_rfl) (by simp) ?_
  refine AllReadyH.cons (o := { dst := some 8, op := Op.call { callee := Callee.value (Operand.func 58), args := #[Operand.tmp 7], argTypes := #[9] }, type := 9, pos := "bytes.go:20", after := #[{ on := 3, ground := Ground.data }], guard := none }) rfl (fun K hK => ?_) (AllReadyH.nil)
  go_simp
  go_at_call 58
  with_reducible refine (CP.out _).mono ?_
  rintro e w2 ⟨rfl, hb2⟩
  replace HW := Lib.hid (HW.out.below (Nat.le_trans HB.out HW.out.bel.size) hb2)
  clear hb2
  refine hK.out _ _ ?_ (fun hHeld => ?_)
  · exact True.intro
  clear hK K
  try simp only [Act.put, List.setIfInBounds_toArray, List.set_cons_zero, List.set_cons_succ]
  refine wpAnyH_ready (rs := [5]) (by kernel_rfl) (by simp) ?_
  refine AllReadyH.cons (o := { dst := some 9, op := Op.call { callee := Callee.value (Operand.func 56), args := #[Operand.tmp 6, Operand.tmp 8], argTypes := #[69, 9] }, type := 90, pos := "bytes.go:20", after := #[{ on := 2, ground := Ground.data }, { on := 4, ground := Ground.data }, { on := 4, ground := Ground.chain }], guard := none }) rfl (fun K hK => ?_) (AllReadyH.nil)
  go_simp
  go_at_call 56
  with_reducible refine (write_k B b _ _ _ _ HW.out (HLn.out) (Nat.le_trans HB.out HW.out.bel.size)).mono ?_
  rintro e w3 ⟨rfl, hw3⟩
  replace HW := Lib.hid hw3
  clear hw3
  refine hK.out _ _ ?_ (fun hHeld => ?_)
  · exact True.intro
  clear hK K
  try simp only [Act.put, List.setIfInBounds_toArray, List.set_cons_zero, List.set_cons_succ]
  refine wpAnyH_done (by kernel_rfl) ?_ _
  go_wp2_with fail
  go_end0
  exact ⟨rfl, HW.out⟩
set_option maxHeartbeats 4000000 in
theorem listW16_any (B b : Nat) (l : List UInt8) (ns : List Int) (hn : ∀ n ∈ ns, n ≤ 9223372036854775807) (hlen : l.length + 10 * ns.length ≤ 140737488355300) (ao : Option Addr) (cap : Nat) (w : World) (h : WrAt B b l w) (hB : B ≤ w.heap.size) (ha : NsSt B b w ao ns) :
    Calls Try.prog 41 #[.pointer (some ⟨b, 0, none⟩), .slice ao ns.length cap] w fun e w' => e = .returned (.tuple #[]) ∧ WrK B b (l ++ Ed.pl ns) w w' := by
  have HW := Lib.hid (show WrK B b l w w from ⟨h, Below.refl _ _, fun _ _ _ _ _ h => h⟩)
  have HA := Lib.hid ha
  have HB := Lib.hid hB
  have HN := Lib.hid hn
  have HG := Lib.hid (show b < w.heap.size from by rcases h with ⟨_, v, k, _⟩ | ⟨_, v, k, _⟩ <;> exact BkIn.lt (w := w) k)
  have HLN := Lib.hid hlen
  clear h ha hB hn hlen
  go_enter Try.func41, Try.ntmps41
  go_wp2_with fail
  have hb1 := (Below.refl w.heap.size w).alloc (Nat.le_refl _) (.cells #[.int .i64 ns.length] 3)
  have HX := Lib.hid (bkIn_new #[.int .i64 ns.length] 3 w)
  have HW1 := Lib.hid (HW.out.below HB.out hb1)
  have hs : (w.alloc (.cells #[.int .i64 ns.length] 3)).heap.size = w.heap.size + 1 := by simp
  clear hb1 HW
  generalize w.alloc (.cells #[.int .i64 ns.length] 3) = w1 at *
  have HB1 := Lib.hid (Nat.le_trans HB.out HW1.out.bel.size)
  have HNS := Lib.hid (show NsSt B b w1 (some ⟨w.heap.size, 0, none⟩) [(ns.length : Int)] from fun w' _ hk => nsAt_one (hk _ _ _ (by decide) (by have := HG.out; omega) HX.out))
  with_reducible refine (numbers16_m B b l [(ns.length : Int)] 1 rfl (fun n hn => by rw [List.mem_singleton.1 hn]; have := HLN.out; omega) (by have := HLN.out; omega) (some ⟨w.heap.size, 0, none⟩) 1 w1 HW1.out.at_ HB1.out HNS.out).mono ?_
  rintro e w2 ⟨rfl, hw2⟩
  have HW2 := Lib.hid (HW1.out.step hw2)
  clear hw2 HX
  go_wp2_with fail
  have HNS2 := Lib.hid (show NsSt B b w2 ao ns from fun w' hb hk => HA.out w' (HW2.out.bel.trans hb) (HW2.out.kept.trans hk))
  with_reducible refine (numbers16_any B b _ ns HN.out (by have := HLN.out; have := Ed.pn_len ns.length; rw [Ed.pns_one, List.length_append]; omega) ao cap w2 HW2.out.at_ (Nat.le_trans HB.out HW2.out.bel.size) HNS2.out).mono ?_
  rintro e w3 ⟨rfl, hw3⟩
  have HW3 := Lib.hid (HW2.out.step hw3)
  rw [Ed.pns_one, List.append_assoc] at HW3
  clear hw3 HW2 HW1
  go_wp2_with fail
  go_end0
  exact ⟨rfl, HW3.out⟩

end Go.Proofs.Ytfcmjgcjmldpcaa
