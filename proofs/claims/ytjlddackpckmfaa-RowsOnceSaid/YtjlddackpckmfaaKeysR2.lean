/- Layer 8: the document's Parse, by contracts, case by case. -/
import Derived.Test.YtjlddackpckmfaaKeysR
import Derived.StillTailTactics
namespace Go.Proofs.Ytjlddackpckmfaa
set_option linter.unusedVariables false
open Go Go.RowKit Go.Sort
attribute [local go_sem ↓] run_index_S
attribute [local go_sem] S_append S_extract

set_option maxHeartbeats 2000000 in
set_option maxRecDepth 100000 in
theorem rp_a1 (l : List UInt8) (hl : l.length ≤ 140737488351232) (h17 : l.length = 17) (h0 : l.getD 0 0 = 115) (h1 : M.ofBigs l 1 = none) (w : World) :
    Calls Try.prog 38 #[.string (S l)] w fun e w' => e = .returned (.tuple #[.agg pt0, .bool false]) ∧ Below w.heap.size w w' := by
  have q17 : ((l.length : Int) == 17) = true := by rw [h17]; rfl
  have b0 : (B l 0 == 115) = true := by unfold B; rw [h0]; rfl
  have g1 : 17 ≤ l.length := by omega
  have co1 := fun W => refOfBig_any l 1 W (by omega)
  have co2 := fun W => refOfBig_any l 9 W (by omega)
  obtain ⟨n2, v2, e2⟩ : ∃ n v, duo (M.ofBigs l 9) = .tuple #[.int .i64 n, .bool v] := by cases M.ofBigs l 9 <;> exact ⟨_, _, rfl⟩
  rw [e2] at co2
  rw [h1] at co1
  simp only [duo] at co1
  have CO1 := Lib.hid co1
  have CO2 := Lib.hid co2
  clear co1 co2 h1 e2 h17 h0
  have HR := Lib.hid (rowIn_new pt0 68 w)
  have HB := Lib.hid ((Below.refl w.heap.size w).alloc (Nat.le_refl _) (.cells pt0 68))
  go_enter Try.func38, Try.ntmps38
  go_wp2_with fail
  with_reducible refine (CO1.out _).mono ?_
  rintro e w1 ⟨rfl, rfl⟩
  generalize w.alloc (.cells pt0 68) = W0 at *
  go_wp2_with fail
  with_reducible refine (CO2.out _).mono ?_
  rintro e w1 ⟨rfl, rfl⟩
  go_wp2_with ((with_reducible show wpList _ _ _ _ _ _); refine wpList_store_row rfl 68 _ _ rfl w.heap.size _ rfl rfl 68 pt0 HR.out ?_ rfl ?_ ?_; kernel_rfl; simp [Value.oneCell'])
  try simp only [Exit.inBlock, Exit.then]
  exact bodyPost_ret (ret_row2 Try.underlying68 (by kernel_rfl) rfl _ _ w.heap.size rfl (HR.out.row)) rfl ⟨rfl, below_setRow HB.out (Nat.le_refl _) _⟩

set_option maxHeartbeats 2000000 in
set_option maxRecDepth 100000 in
theorem rp_a2 (l : List UInt8) (hl : l.length ≤ 140737488351232) (h17 : l.length = 17) (h0 : l.getD 0 0 = 115) (t : Nat) (h1 : M.ofBigs l 1 = some t) (h2 : M.ofBigs l 9 = none) (w : World) :
    Calls Try.prog 38 #[.string (S l)] w fun e w' => e = .returned (.tuple #[.agg pt0, .bool false]) ∧ Below w.heap.size w w' := by
  have q17 : ((l.length : Int) == 17) = true := by rw [h17]; rfl
  have b0 : (B l 0 == 115) = true := by unfold B; rw [h0]; rfl
  have g1 : 17 ≤ l.length := by omega
  have co1 := fun W => refOfBig_any l 1 W (by omega)
  have co2 := fun W => refOfBig_any l 9 W (by omega)
  rw [h1] at co1
  rw [h2] at co2
  simp only [duo] at co1 co2
  have CO1 := Lib.hid co1
  have CO2 := Lib.hid co2
  clear co1 co2 h1 h2 h17 h0
  have HR := Lib.hid (rowIn_new pt0 68 w)
  have HB := Lib.hid ((Below.refl w.heap.size w).alloc (Nat.le_refl _) (.cells pt0 68))
  go_enter Try.func38, Try.ntmps38
  go_wp2_with fail
  with_reducible refine (CO1.out _).mono ?_
  rintro e w1 ⟨rfl, rfl⟩
  generalize w.alloc (.cells pt0 68) = W0 at *
  go_wp2_with fail
  with_reducible refine (CO2.out _).mono ?_
  rintro e w1 ⟨rfl, rfl⟩
  go_wp2_with ((with_reducible show wpList _ _ _ _ _ _); refine wpList_store_row rfl 68 _ _ rfl w.heap.size _ rfl rfl 68 pt0 HR.out ?_ rfl ?_ ?_; kernel_rfl; simp [Value.oneCell'])
  try simp only [Exit.inBlock, Exit.then]
  exact bodyPost_ret (ret_row2 Try.underlying68 (by kernel_rfl) rfl _ _ w.heap.size rfl (HR.out.row)) rfl ⟨rfl, below_setRow HB.out (Nat.le_refl _) _⟩

set_option maxHeartbeats 2000000 in
set_option maxRecDepth 100000 in
theorem rp_a4 (l : List UInt8) (hl : l.length ≤ 140737488351232) (h17 : l.length = 17) (h0 : l.getD 0 0 = 115) (t i : Nat) (h1 : M.ofBigs l 1 = some t) (h2 : M.ofBigs l 9 = some i) (hi1 : M.idB t = false) (w : World) :
    Calls Try.prog 38 #[.string (S l)] w fun e w' => e = .returned (.tuple #[.agg pt0, .bool false]) ∧ Below w.heap.size w w' := by
  have q17 : ((l.length : Int) == 17) = true := by rw [h17]; rfl
  have b0 : (B l 0 == 115) = true := by unfold B; rw [h0]; rfl
  have g1 : 17 ≤ l.length := by omega
  have co1 := fun W => refOfBig_any l 1 W (by omega)
  have co2 := fun W => refOfBig_any l 9 W (by omega)
  rw [h1] at co1
  rw [h2] at co2
  simp only [duo] at co1 co2
  have CO1 := Lib.hid co1
  have CO2 := Lib.hid co2
  have ci1 := fun W => refIsID_any (t : Int) W
  rw [hi1] at ci1
  have CI1 := Lib.hid ci1
  clear co1 co2 ci1 h1 h2 hi1 h17 h0
  have HR := Lib.hid (rowIn_new pt0 68 w)
  have HB := Lib.hid ((Below.refl w.heap.size w).alloc (Nat.le_refl _) (.cells pt0 68))
  go_enter Try.func38, Try.ntmps38
  go_wp2_with fail
  with_reducible refine (CO1.out _).mono ?_
  rintro e w1 ⟨rfl, rfl⟩
  generalize w.alloc (.cells pt0 68) = W0 at *
  go_wp2_with fail
  with_reducible refine (CO2.out _).mono ?_
  rintro e w1 ⟨rfl, rfl⟩
  go_wp2_with fail
  with_reducible refine (CI1.out _).mono ?_
  rintro e w1 ⟨rfl, rfl⟩
  go_wp2_with ((with_reducible show wpList _ _ _ _ _ _); refine wpList_store_row rfl 68 _ _ rfl w.heap.size _ rfl rfl 68 pt0 HR.out ?_ rfl ?_ ?_; kernel_rfl; simp [Value.oneCell'])
  try simp only [Exit.inBlock, Exit.then]
  exact bodyPost_ret (ret_row2 Try.underlying68 (by kernel_rfl) rfl _ _ w.heap.size rfl (HR.out.row)) rfl ⟨rfl, below_setRow HB.out (Nat.le_refl _) _⟩

set_option maxHeartbeats 2000000 in
set_option maxRecDepth 100000 in
theorem rp_a5 (l : List UInt8) (hl : l.length ≤ 140737488351232) (h17 : l.length = 17) (h0 : l.getD 0 0 = 115) (t i : Nat) (h1 : M.ofBigs l 1 = some t) (h2 : M.ofBigs l 9 = some i) (hi1 : M.idB t = true) (hi2 : M.idB i = false) (w : World) :
    Calls Try.prog 38 #[.string (S l)] w fun e w' => e = .returned (.tuple #[.agg pt0, .bool false]) ∧ Below w.heap.size w w' := by
  have q17 : ((l.length : Int) == 17) = true := by rw [h17]; rfl
  have b0 : (B l 0 == 115) = true := by unfold B; rw [h0]; rfl
  have g1 : 17 ≤ l.length := by omega
  have co1 := fun W => refOfBig_any l 1 W (by omega)
  have co2 := fun W => refOfBig_any l 9 W (by omega)
  rw [h1] at co1
  rw [h2] at co2
  simp only [duo] at co1 co2
  have CO1 := Lib.hid co1
  have CO2 := Lib.hid co2
  have ci1 := fun W => refIsID_any (t : Int) W
  rw [hi1] at ci1
  have CI1 := Lib.hid ci1
  have ci2 := fun W => refIsID_any (i : Int) W
  rw [hi2] at ci2
  have CI2 := Lib.hid ci2
  clear co1 co2 ci1 ci2 h1 h2 hi1 hi2 h17 h0
  have HR := Lib.hid (rowIn_new pt0 68 w)
  have HB := Lib.hid ((Below.refl w.heap.size w).alloc (Nat.le_refl _) (.cells pt0 68))
  go_enter Try.func38, Try.ntmps38
  go_wp2_with fail
  with_reducible refine (CO1.out _).mono ?_
  rintro e w1 ⟨rfl, rfl⟩
  generalize w.alloc (.cells pt0 68) = W0 at *
  go_wp2_with fail
  with_reducible refine (CO2.out _).mono ?_
  rintro e w1 ⟨rfl, rfl⟩
  go_wp2_with fail
  with_reducible refine (CI1.out _).mono ?_
  rintro e w1 ⟨rfl, rfl⟩
  go_wp2_with fail
  with_reducible refine (CI2.out _).mono ?_
  rintro e w1 ⟨rfl, rfl⟩
  go_wp2_with ((with_reducible show wpList _ _ _ _ _ _); refine wpList_store_row rfl 68 _ _ rfl w.heap.size _ rfl rfl 68 pt0 HR.out ?_ rfl ?_ ?_; kernel_rfl; simp [Value.oneCell'])
  try simp only [Exit.inBlock, Exit.then]
  exact bodyPost_ret (ret_row2 Try.underlying68 (by kernel_rfl) rfl _ _ w.heap.size rfl (HR.out.row)) rfl ⟨rfl, below_setRow HB.out (Nat.le_refl _) _⟩

set_option maxHeartbeats 2000000 in
set_option maxRecDepth 100000 in
theorem rp_aok (l : List UInt8) (hl : l.length ≤ 140737488351232) (h17 : l.length = 17) (h0 : l.getD 0 0 = 115) (t i : Nat) (h1 : M.ofBigs l 1 = some t) (h2 : M.ofBigs l 9 = some i) (hi1 : M.idB t = true) (hi2 : M.idB i = true) (w : World) :
    Calls Try.prog 38 #[.string (S l)] w fun e w' => e = .returned (ptR (some ⟨115, t, i, 0, [], []⟩)) ∧ Below w.heap.size w w' := by
  have q17 : ((l.length : Int) == 17) = true := by rw [h17]; rfl
  have b0 : (B l 0 == 115) = true := by unfold B; rw [h0]; rfl
  have g1 : 17 ≤ l.length := by omega
  have co1 := fun W => refOfBig_any l 1 W (by omega)
  have co2 := fun W => refOfBig_any l 9 W (by omega)
  rw [h1] at co1
  rw [h2] at co2
  simp only [duo] at co1 co2
  have CO1 := Lib.hid co1
  have CO2 := Lib.hid co2
  have ci1 := fun W => refIsID_any (t : Int) W
  rw [hi1] at ci1
  have CI1 := Lib.hid ci1
  have ci2 := fun W => refIsID_any (i : Int) W
  rw [hi2] at ci2
  have CI2 := Lib.hid ci2
  clear co1 co2 ci1 ci2 h1 h2 hi1 hi2 h17 h0
  have HR := Lib.hid (rowIn_new pt0 68 w)
  have HB := Lib.hid ((Below.refl w.heap.size w).alloc (Nat.le_refl _) (.cells pt0 68))
  go_enter Try.func38, Try.ntmps38
  go_wp2_with fail
  with_reducible refine (CO1.out _).mono ?_
  rintro e w1 ⟨rfl, rfl⟩
  generalize w.alloc (.cells pt0 68) = W0 at *
  go_wp2_with fail
  with_reducible refine (CO2.out _).mono ?_
  rintro e w1 ⟨rfl, rfl⟩
  go_wp2_with fail
  with_reducible refine (CI1.out _).mono ?_
  rintro e w1 ⟨rfl, rfl⟩
  go_wp2_with fail
  with_reducible refine (CI2.out _).mono ?_
  rintro e w1 ⟨rfl, rfl⟩
  go_wp2_with ((with_reducible show wpList _ _ _ _ _ _); refine wpList_store_row rfl 68 _ _ rfl w.heap.size _ rfl rfl 68 pt0 HR.out ?_ rfl ?_ ?_; kernel_rfl; simp [Value.oneCell'])
  try simp only [Exit.inBlock, Exit.then]
  exact bodyPost_ret (ret_row2 Try.underlying68 (by kernel_rfl) rfl _ _ w.heap.size rfl (HR.out.row (D := #[.int .u8 115, .int .i64 (t : Int), .int .i64 (i : Int), .int .i64 0, .string ⟨#[]⟩, .string ⟨#[]⟩]))) rfl ⟨rfl, below_setRow HB.out (Nat.le_refl _) _⟩

set_option maxHeartbeats 2000000 in
set_option maxRecDepth 100000 in
theorem rp_s (l : List UInt8) (hl : l.length ≤ 140737488351232) (hs : l.length = 0) (w : World) :
    Calls Try.prog 38 #[.string (S l)] w fun e w' => e = .returned (.tuple #[.agg pt0, .bool false]) ∧ Below w.heap.size w w' := by
  have q17 : ((l.length : Int) == 17) = false := by rw [hs]; rfl
  have d1 : decide ((l.length : Int) < 1) = true := by simp; omega
  have g2 : l.length ≤ 0 := by omega
  clear hs
  have HR := Lib.hid (rowIn_new pt0 68 w)
  have HB := Lib.hid ((Below.refl w.heap.size w).alloc (Nat.le_refl _) (.cells pt0 68))
  go_enter Try.func38, Try.ntmps38
  go_wp2_with ((with_reducible show wpList _ _ _ _ _ _); refine wpList_store_row rfl 68 _ _ rfl w.heap.size _ rfl rfl 68 pt0 HR.out ?_ rfl ?_ ?_; kernel_rfl; simp [Value.oneCell'])
  try simp only [Exit.inBlock, Exit.then]
  exact bodyPost_ret (ret_row2 Try.underlying68 (by kernel_rfl) rfl _ _ w.heap.size rfl (HR.out.row)) rfl ⟨rfl, below_setRow HB.out (Nat.le_refl _) _⟩

set_option maxHeartbeats 2000000 in
set_option maxRecDepth 100000 in
theorem rp_nL (l : List UInt8) (hl : l.length ≤ 140737488351232) (h17 : ¬ l.length = 17) (hp : 1 ≤ l.length) (hx : ¬ l.getD 0 0 = 120) (w : World) :
    Calls Try.prog 38 #[.string (S l)] w fun e w' => e = .returned (.tuple #[.agg pt0, .bool false]) ∧ Below w.heap.size w w' := by
  have q17 : ((l.length : Int) == 17) = false := by rw [beq_eq_false_iff_ne]; omega
  have d1 : decide ((l.length : Int) < 1) = false := by simp; omega
  have b1 : (B l 0 == 120) = false := by
    rw [beq_eq_false_iff_ne]
    intro e
    exact hx (UInt8.toNat_inj.1 (by unfold B at e; have : (l.getD 0 0).toNat = 120 := by omega
                                    rw [this]; rfl))
  clear h17 hx
  have HR := Lib.hid (rowIn_new pt0 68 w)
  have HB := Lib.hid ((Below.refl w.heap.size w).alloc (Nat.le_refl _) (.cells pt0 68))
  go_enter Try.func38, Try.ntmps38
  go_wp2_with ((with_reducible show wpList _ _ _ _ _ _); refine wpList_store_row rfl 68 _ _ rfl w.heap.size _ rfl rfl 68 pt0 HR.out ?_ rfl ?_ ?_; kernel_rfl; simp [Value.oneCell'])
  try simp only [Exit.inBlock, Exit.then]
  exact bodyPost_ret (ret_row2 Try.underlying68 (by kernel_rfl) rfl _ _ w.heap.size rfl (HR.out.row)) rfl ⟨rfl, below_setRow HB.out (Nat.le_refl _) _⟩

set_option maxHeartbeats 2000000 in
set_option maxRecDepth 100000 in
theorem rp_zL (l : List UInt8) (hl : l.length ≤ 140737488351232) (h17 : ¬ l.length = 17) (hp : 1 ≤ l.length) (hx : l.getD 0 0 = 120) (hz : zf l 1 = -1) (w : World) :
    Calls Try.prog 38 #[.string (S l)] w fun e w' => e = .returned (.tuple #[.agg pt0, .bool false]) ∧ Below w.heap.size w w' := by
  have q17 : ((l.length : Int) == 17) = false := by rw [beq_eq_false_iff_ne]; omega
  have d1 : decide ((l.length : Int) < 1) = false := by simp; omega
  have b1 : (B l 0 == 120) = true := by unfold B; rw [hx]; rfl
  have cz1 := fun W => zero_fn l hl 1 (by omega) W
  rw [show ((1 : Nat) : Int) = 1 from rfl] at cz1
  rw [hz] at cz1
  have CZ1 := Lib.hid cz1
  clear cz1 hz h17 hx
  have HR := Lib.hid (rowIn_new pt0 68 w)
  have HB := Lib.hid ((Below.refl w.heap.size w).alloc (Nat.le_refl _) (.cells pt0 68))
  go_enter Try.func38, Try.ntmps38
  go_wp2_with fail
  with_reducible refine (CZ1.out _).mono ?_
  rintro e w1 ⟨rfl, rfl⟩
  generalize w.alloc (.cells pt0 68) = W0 at *
  go_wp2_with ((with_reducible show wpList _ _ _ _ _ _); refine wpList_store_row rfl 68 _ _ rfl w.heap.size _ rfl rfl 68 pt0 HR.out ?_ rfl ?_ ?_; kernel_rfl; simp [Value.oneCell'])
  try simp only [Exit.inBlock, Exit.then]
  exact bodyPost_ret (ret_row2 Try.underlying68 (by kernel_rfl) rfl _ _ w.heap.size rfl (HR.out.row)) rfl ⟨rfl, below_setRow HB.out (Nat.le_refl _) _⟩

set_option maxHeartbeats 2000000 in
set_option maxRecDepth 100000 in
theorem rp_yL (l : List UInt8) (hl : l.length ≤ 140737488351232) (h17 : ¬ l.length = 17) (hp : 1 ≤ l.length) (hx : l.getD 0 0 = 120) (i : Nat) (hi : i < l.length) (hz1 : zf l 1 = i) (hz2 : zf l (i + 1) = -1) (w : World) :
    Calls Try.prog 38 #[.string (S l)] w fun e w' => e = .returned (.tuple #[.agg pt0, .bool false]) ∧ Below w.heap.size w w' := by
  have q17 : ((l.length : Int) == 17) = false := by rw [beq_eq_false_iff_ne]; omega
  have d1 : decide ((l.length : Int) < 1) = false := by simp; omega
  have b1 : (B l 0 == 120) = true := by unfold B; rw [hx]; rfl
  have cz1 := fun W => zero_fn l hl 1 (by omega) W
  rw [show ((1 : Nat) : Int) = 1 from rfl] at cz1
  have cz2 := fun W => zero_fn l hl (i + 1) (by omega) W
  rw [show ((i + 1 : Nat) : Int) = (i : Int) + 1 from rfl] at cz2
  rw [hz1] at cz1
  rw [hz2] at cz2
  have CZ1 := Lib.hid cz1
  have CZ2 := Lib.hid cz2
  clear cz1 cz2 hz1 hz2 h17 hx
  have HR := Lib.hid (rowIn_new pt0 68 w)
  have HB := Lib.hid ((Below.refl w.heap.size w).alloc (Nat.le_refl _) (.cells pt0 68))
  go_enter Try.func38, Try.ntmps38
  go_wp2_with fail
  with_reducible refine (CZ1.out _).mono ?_
  rintro e w1 ⟨rfl, rfl⟩
  generalize w.alloc (.cells pt0 68) = W0 at *
  go_wp2_with fail
  with_reducible refine (CZ2.out _).mono ?_
  rintro e w1 ⟨rfl, rfl⟩
  go_wp2_with ((with_reducible show wpList _ _ _ _ _ _); refine wpList_store_row rfl 68 _ _ rfl w.heap.size _ rfl rfl 68 pt0 HR.out ?_ rfl ?_ ?_; kernel_rfl; simp [Value.oneCell'])
  try simp only [Exit.inBlock, Exit.then]
  exact bodyPost_ret (ret_row2 Try.underlying68 (by kernel_rfl) rfl _ _ w.heap.size rfl (HR.out.row)) rfl ⟨rfl, below_setRow HB.out (Nat.le_refl _) _⟩

set_option maxHeartbeats 2000000 in
set_option maxRecDepth 100000 in
theorem rp_lL (l : List UInt8) (hl : l.length ≤ 140737488351232) (h17 : ¬ l.length = 17) (hp : 1 ≤ l.length) (hx : l.getD 0 0 = 120) (i : Nat) (hi : i < l.length) (hz1 : zf l 1 = i) (k : Nat) (hk : k < l.length) (hz2 : zf l (i + 1) = k) (hlen : ¬ l.length = k + 25) (w : World) :
    Calls Try.prog 38 #[.string (S l)] w fun e w' => e = .returned (.tuple #[.agg pt0, .bool false]) ∧ Below w.heap.size w w' := by
  have q17 : ((l.length : Int) == 17) = false := by rw [beq_eq_false_iff_ne]; omega
  have d1 : decide ((l.length : Int) < 1) = false := by simp; omega
  have b1 : (B l 0 == 120) = true := by unfold B; rw [hx]; rfl
  have cz1 := fun W => zero_fn l hl 1 (by omega) W
  rw [show ((1 : Nat) : Int) = 1 from rfl] at cz1
  have cz2 := fun W => zero_fn l hl (i + 1) (by omega) W
  rw [show ((i + 1 : Nat) : Int) = (i : Int) + 1 from rfl] at cz2
  rw [hz1] at cz1
  rw [hz2] at cz2
  have CZ1 := Lib.hid cz1
  have CZ2 := Lib.hid cz2
  have q25 : ((l.length : Int) != (k : Int) + 25) = true := by rw [bne, show ((l.length : Int) == (k : Int) + 25) = false by rw [beq_eq_false_iff_ne]; omega]; rfl
  clear cz1 cz2 hz1 hz2 hlen h17 hx
  have HR := Lib.hid (rowIn_new pt0 68 w)
  have HB := Lib.hid ((Below.refl w.heap.size w).alloc (Nat.le_refl _) (.cells pt0 68))
  go_enter Try.func38, Try.ntmps38
  go_wp2_with fail
  with_reducible refine (CZ1.out _).mono ?_
  rintro e w1 ⟨rfl, rfl⟩
  generalize w.alloc (.cells pt0 68) = W0 at *
  go_wp2_with fail
  with_reducible refine (CZ2.out _).mono ?_
  rintro e w1 ⟨rfl, rfl⟩
  go_wp2_with ((with_reducible show wpList _ _ _ _ _ _); refine wpList_store_row rfl 68 _ _ rfl w.heap.size _ rfl rfl 68 pt0 HR.out ?_ rfl ?_ ?_; kernel_rfl; simp [Value.oneCell'])
  try simp only [Exit.inBlock, Exit.then]
  exact bodyPost_ret (ret_row2 Try.underlying68 (by kernel_rfl) rfl _ _ w.heap.size rfl (HR.out.row)) rfl ⟨rfl, below_setRow HB.out (Nat.le_refl _) _⟩

set_option maxHeartbeats 2000000 in
set_option maxRecDepth 100000 in
theorem rp_nM (l : List UInt8) (hl : l.length ≤ 140737488351232) (h17 : l.length = 17) (h0 : ¬ l.getD 0 0 = 115) (hp : 1 ≤ l.length) (hx : ¬ l.getD 0 0 = 120) (w : World) :
    Calls Try.prog 38 #[.string (S l)] w fun e w' => e = .returned (.tuple #[.agg pt0, .bool false]) ∧ Below w.heap.size w w' := by
  have q17 : ((l.length : Int) == 17) = true := by rw [h17]; rfl
  have g1 : 17 ≤ l.length := by omega
  have b0 : (B l 0 == 115) = false := by
    rw [beq_eq_false_iff_ne]
    intro e
    exact h0 (UInt8.toNat_inj.1 (by unfold B at e; have : (l.getD 0 0).toNat = 115 := by omega
                                    rw [this]; rfl))
  have d1 : decide ((l.length : Int) < 1) = false := by simp; omega
  have b1 : (B l 0 == 120) = false := by
    rw [beq_eq_false_iff_ne]
    intro e
    exact hx (UInt8.toNat_inj.1 (by unfold B at e; have : (l.getD 0 0).toNat = 120 := by omega
                                    rw [this]; rfl))
  clear h17 h0 hx
  have HR := Lib.hid (rowIn_new pt0 68 w)
  have HB := Lib.hid ((Below.refl w.heap.size w).alloc (Nat.le_refl _) (.cells pt0 68))
  go_enter Try.func38, Try.ntmps38
  go_wp2_with ((with_reducible show wpList _ _ _ _ _ _); refine wpList_store_row rfl 68 _ _ rfl w.heap.size _ rfl rfl 68 pt0 HR.out ?_ rfl ?_ ?_; kernel_rfl; simp [Value.oneCell'])
  try simp only [Exit.inBlock, Exit.then]
  exact bodyPost_ret (ret_row2 Try.underlying68 (by kernel_rfl) rfl _ _ w.heap.size rfl (HR.out.row)) rfl ⟨rfl, below_setRow HB.out (Nat.le_refl _) _⟩

set_option maxHeartbeats 2000000 in
set_option maxRecDepth 100000 in
theorem rp_zM (l : List UInt8) (hl : l.length ≤ 140737488351232) (h17 : l.length = 17) (h0 : ¬ l.getD 0 0 = 115) (hp : 1 ≤ l.length) (hx : l.getD 0 0 = 120) (hz : zf l 1 = -1) (w : World) :
    Calls Try.prog 38 #[.string (S l)] w fun e w' => e = .returned (.tuple #[.agg pt0, .bool false]) ∧ Below w.heap.size w w' := by
  have q17 : ((l.length : Int) == 17) = true := by rw [h17]; rfl
  have g1 : 17 ≤ l.length := by omega
  have b0 : (B l 0 == 115) = false := by
    rw [beq_eq_false_iff_ne]
    intro e
    exact h0 (UInt8.toNat_inj.1 (by unfold B at e; have : (l.getD 0 0).toNat = 115 := by omega
                                    rw [this]; rfl))
  have d1 : decide ((l.length : Int) < 1) = false := by simp; omega
  have b1 : (B l 0 == 120) = true := by unfold B; rw [hx]; rfl
  have cz1 := fun W => zero_fn l hl 1 (by omega) W
  rw [show ((1 : Nat) : Int) = 1 from rfl] at cz1
  rw [hz] at cz1
  have CZ1 := Lib.hid cz1
  clear cz1 hz h17 h0 hx
  have HR := Lib.hid (rowIn_new pt0 68 w)
  have HB := Lib.hid ((Below.refl w.heap.size w).alloc (Nat.le_refl _) (.cells pt0 68))
  go_enter Try.func38, Try.ntmps38
  go_wp2_with fail
  with_reducible refine (CZ1.out _).mono ?_
  rintro e w1 ⟨rfl, rfl⟩
  generalize w.alloc (.cells pt0 68) = W0 at *
  go_wp2_with ((with_reducible show wpList _ _ _ _ _ _); refine wpList_store_row rfl 68 _ _ rfl w.heap.size _ rfl rfl 68 pt0 HR.out ?_ rfl ?_ ?_; kernel_rfl; simp [Value.oneCell'])
  try simp only [Exit.inBlock, Exit.then]
  exact bodyPost_ret (ret_row2 Try.underlying68 (by kernel_rfl) rfl _ _ w.heap.size rfl (HR.out.row)) rfl ⟨rfl, below_setRow HB.out (Nat.le_refl _) _⟩

set_option maxHeartbeats 2000000 in
set_option maxRecDepth 100000 in
theorem rp_yM (l : List UInt8) (hl : l.length ≤ 140737488351232) (h17 : l.length = 17) (h0 : ¬ l.getD 0 0 = 115) (hp : 1 ≤ l.length) (hx : l.getD 0 0 = 120) (i : Nat) (hi : i < l.length) (hz1 : zf l 1 = i) (hz2 : zf l (i + 1) = -1) (w : World) :
    Calls Try.prog 38 #[.string (S l)] w fun e w' => e = .returned (.tuple #[.agg pt0, .bool false]) ∧ Below w.heap.size w w' := by
  have q17 : ((l.length : Int) == 17) = true := by rw [h17]; rfl
  have g1 : 17 ≤ l.length := by omega
  have b0 : (B l 0 == 115) = false := by
    rw [beq_eq_false_iff_ne]
    intro e
    exact h0 (UInt8.toNat_inj.1 (by unfold B at e; have : (l.getD 0 0).toNat = 115 := by omega
                                    rw [this]; rfl))
  have d1 : decide ((l.length : Int) < 1) = false := by simp; omega
  have b1 : (B l 0 == 120) = true := by unfold B; rw [hx]; rfl
  have cz1 := fun W => zero_fn l hl 1 (by omega) W
  rw [show ((1 : Nat) : Int) = 1 from rfl] at cz1
  have cz2 := fun W => zero_fn l hl (i + 1) (by omega) W
  rw [show ((i + 1 : Nat) : Int) = (i : Int) + 1 from rfl] at cz2
  rw [hz1] at cz1
  rw [hz2] at cz2
  have CZ1 := Lib.hid cz1
  have CZ2 := Lib.hid cz2
  clear cz1 cz2 hz1 hz2 h17 h0 hx
  have HR := Lib.hid (rowIn_new pt0 68 w)
  have HB := Lib.hid ((Below.refl w.heap.size w).alloc (Nat.le_refl _) (.cells pt0 68))
  go_enter Try.func38, Try.ntmps38
  go_wp2_with fail
  with_reducible refine (CZ1.out _).mono ?_
  rintro e w1 ⟨rfl, rfl⟩
  generalize w.alloc (.cells pt0 68) = W0 at *
  go_wp2_with fail
  with_reducible refine (CZ2.out _).mono ?_
  rintro e w1 ⟨rfl, rfl⟩
  go_wp2_with ((with_reducible show wpList _ _ _ _ _ _); refine wpList_store_row rfl 68 _ _ rfl w.heap.size _ rfl rfl 68 pt0 HR.out ?_ rfl ?_ ?_; kernel_rfl; simp [Value.oneCell'])
  try simp only [Exit.inBlock, Exit.then]
  exact bodyPost_ret (ret_row2 Try.underlying68 (by kernel_rfl) rfl _ _ w.heap.size rfl (HR.out.row)) rfl ⟨rfl, below_setRow HB.out (Nat.le_refl _) _⟩

set_option maxHeartbeats 2000000 in
set_option maxRecDepth 100000 in
theorem rp_lM (l : List UInt8) (hl : l.length ≤ 140737488351232) (h17 : l.length = 17) (h0 : ¬ l.getD 0 0 = 115) (hp : 1 ≤ l.length) (hx : l.getD 0 0 = 120) (i : Nat) (hi : i < l.length) (hz1 : zf l 1 = i) (k : Nat) (hk : k < l.length) (hz2 : zf l (i + 1) = k) (hlen : ¬ l.length = k + 25) (w : World) :
    Calls Try.prog 38 #[.string (S l)] w fun e w' => e = .returned (.tuple #[.agg pt0, .bool false]) ∧ Below w.heap.size w w' := by
  have q17 : ((l.length : Int) == 17) = true := by rw [h17]; rfl
  have g1 : 17 ≤ l.length := by omega
  have b0 : (B l 0 == 115) = false := by
    rw [beq_eq_false_iff_ne]
    intro e
    exact h0 (UInt8.toNat_inj.1 (by unfold B at e; have : (l.getD 0 0).toNat = 115 := by omega
                                    rw [this]; rfl))
  have d1 : decide ((l.length : Int) < 1) = false := by simp; omega
  have b1 : (B l 0 == 120) = true := by unfold B; rw [hx]; rfl
  have cz1 := fun W => zero_fn l hl 1 (by omega) W
  rw [show ((1 : Nat) : Int) = 1 from rfl] at cz1
  have cz2 := fun W => zero_fn l hl (i + 1) (by omega) W
  rw [show ((i + 1 : Nat) : Int) = (i : Int) + 1 from rfl] at cz2
  rw [hz1] at cz1
  rw [hz2] at cz2
  have CZ1 := Lib.hid cz1
  have CZ2 := Lib.hid cz2
  have q25 : ((l.length : Int) != (k : Int) + 25) = true := by rw [bne, show ((l.length : Int) == (k : Int) + 25) = false by rw [beq_eq_false_iff_ne]; omega]; rfl
  clear cz1 cz2 hz1 hz2 hlen h17 h0 hx
  have HR := Lib.hid (rowIn_new pt0 68 w)
  have HB := Lib.hid ((Below.refl w.heap.size w).alloc (Nat.le_refl _) (.cells pt0 68))
  go_enter Try.func38, Try.ntmps38
  go_wp2_with fail
  with_reducible refine (CZ1.out _).mono ?_
  rintro e w1 ⟨rfl, rfl⟩
  generalize w.alloc (.cells pt0 68) = W0 at *
  go_wp2_with fail
  with_reducible refine (CZ2.out _).mono ?_
  rintro e w1 ⟨rfl, rfl⟩
  go_wp2_with ((with_reducible show wpList _ _ _ _ _ _); refine wpList_store_row rfl 68 _ _ rfl w.heap.size _ rfl rfl 68 pt0 HR.out ?_ rfl ?_ ?_; kernel_rfl; simp [Value.oneCell'])
  try simp only [Exit.inBlock, Exit.then]
  exact bodyPost_ret (ret_row2 Try.underlying68 (by kernel_rfl) rfl _ _ w.heap.size rfl (HR.out.row)) rfl ⟨rfl, below_setRow HB.out (Nat.le_refl _) _⟩

set_option maxHeartbeats 2000000 in
set_option maxRecDepth 100000 in
theorem rp_k1 (l : List UInt8) (hl : l.length ≤ 140737488351232) (hx : l.getD 0 0 = 120) (i k : Nat) (hi1 : 1 ≤ i) (hik : i + 1 ≤ k) (hz1 : zf l 1 = i) (hz2 : zf l (i + 1) = k) (hlen : l.length = k + 25) (a b : List UInt8) (ha : piece l 1 i = a) (hb : piece l (i + 1) k = b) (h1 : M.ofBigs l ((k : Int) + 1) = none) (w : World) :
    Calls Try.prog 38 #[.string (S l)] w fun e w' => e = .returned (.tuple #[.agg pt0, .bool false]) ∧ Below w.heap.size w w' := by
  have hp : 1 ≤ l.length := by omega
  have q17 : ((l.length : Int) == 17) = false := by rw [beq_eq_false_iff_ne]; omega
  have d1 : decide ((l.length : Int) < 1) = false := by simp; omega
  have b1 : (B l 0 == 120) = true := by unfold B; rw [hx]; rfl
  have cz1 := fun W => zero_fn l hl 1 (by omega) W
  rw [show ((1 : Nat) : Int) = 1 from rfl] at cz1
  have cz2 := fun W => zero_fn l hl (i + 1) (by omega) W
  rw [show ((i + 1 : Nat) : Int) = (i : Int) + 1 from rfl] at cz2
  rw [hz1] at cz1
  rw [hz2] at cz2
  have CZ1 := Lib.hid cz1
  have CZ2 := Lib.hid cz2
  have q25 : ((l.length : Int) != (k : Int) + 25) = false := by rw [bne, show ((l.length : Int) == (k : Int) + 25) = true by rw [beq_iff_eq]; omega]; rfl
  have g1 : k + 25 ≤ l.length := by omega
  have sa := fun W q q' => run_piece (P := Try.prog) 9 Try.underlying9 l 1 (i : Int) 1 i rfl rfl hi1 (by omega) W q q'
  rw [ha] at sa
  have sb := fun W q q' => run_piece (P := Try.prog) 9 Try.underlying9 l ((i : Int) + 1) (k : Int) (i + 1) k rfl rfl hik (by omega) W q q'
  rw [hb] at sb
  have e1 : IntKind.i64.wrap ((i : Int) + 1) = (i : Int) + 1 := IntWalk.i64_in _ (by omega)
  have co1 := fun W => refOfBig_any l ((k : Int) + 1) W (by omega)
  have co2 := fun W => refOfBig_any l ((k : Int) + 9) W (by omega)
  have co3 := fun W => refOfBig_any l ((k : Int) + 17) W (by omega)
  rw [h1] at co1
  simp only [duo] at co1
  obtain ⟨n2, v2, ee2⟩ : ∃ n v, duo (M.ofBigs l ((k : Int) + 9)) = .tuple #[.int .i64 n, .bool v] := by cases M.ofBigs l ((k : Int) + 9) <;> exact ⟨_, _, rfl⟩
  rw [ee2] at co2
  obtain ⟨n3, v3, ee3⟩ : ∃ n v, duo (M.ofBigs l ((k : Int) + 17)) = .tuple #[.int .i64 n, .bool v] := by cases M.ofBigs l ((k : Int) + 17) <;> exact ⟨_, _, rfl⟩
  rw [ee3] at co3
  have CO1 := Lib.hid co1
  have CO2 := Lib.hid co2
  have CO3 := Lib.hid co3
  clear co1 co2 co3 cz1 cz2 hz1 hz2 hlen hx ha hb h1 ee2 ee3
  have HR := Lib.hid (rowIn_new pt0 68 w)
  have HB := Lib.hid ((Below.refl w.heap.size w).alloc (Nat.le_refl _) (.cells pt0 68))
  go_enter Try.func38, Try.ntmps38
  go_wp2_with fail
  with_reducible refine (CZ1.out _).mono ?_
  rintro e w1 ⟨rfl, rfl⟩
  generalize w.alloc (.cells pt0 68) = W0 at *
  go_wp2_with fail
  with_reducible refine (CZ2.out _).mono ?_
  rintro e w1 ⟨rfl, rfl⟩
  go_wp2_with fail
  with_reducible refine (CO1.out _).mono ?_
  rintro e w1 ⟨rfl, rfl⟩
  go_wp2_with fail
  with_reducible refine (CO2.out _).mono ?_
  rintro e w1 ⟨rfl, rfl⟩
  go_wp2_with fail
  with_reducible refine (CO3.out _).mono ?_
  rintro e w1 ⟨rfl, rfl⟩
  go_wp2_with fail
  go_region
  have HQ := Lib.hid (show RowIn #[.int .i64 n2, .int .i64 n3, .int .i64 0, .string (S a), .string (S b), .int .i64 0, .int .i64 0, .string ⟨#[]⟩] 23 (W0.alloc (.cells #[.int .i64 n2, .int .i64 n3, .int .i64 0, .string (S a), .string (S b), .int .i64 0, .int .i64 0, .string ⟨#[]⟩] 23)).drew W0.heap.size from rowIn_new #[.int .i64 n2, .int .i64 n3, .int .i64 0, .string (S a), .string (S b), .int .i64 0, .int .i64 0, .string ⟨#[]⟩] 23 W0)
  have HR2 := Lib.hid (show RowIn pt0 68 (W0.alloc (.cells #[.int .i64 n2, .int .i64 n3, .int .i64 0, .string (S a), .string (S b), .int .i64 0, .int .i64 0, .string ⟨#[]⟩] 23)).drew w.heap.size from HR.out.more (.cells #[.int .i64 n2, .int .i64 n3, .int .i64 0, .string (S a), .string (S b), .int .i64 0, .int .i64 0, .string ⟨#[]⟩] 23))
  have HB2 := Lib.hid ((HB.out.alloc HB.out.size (.cells #[.int .i64 n2, .int .i64 n3, .int .i64 0, .string (S a), .string (S b), .int .i64 0, .int .i64 0, .string ⟨#[]⟩] 23)).drew)
  clear HR HB
  generalize (W0.alloc (.cells #[.int .i64 n2, .int .i64 n3, .int .i64 0, .string (S a), .string (S b), .int .i64 0, .int .i64 0, .string ⟨#[]⟩] 23)).drew = W1 at *
  go_wp2_with ((with_reducible show wpList _ _ _ _ _ _); refine wpList_store_row rfl 68 _ _ rfl w.heap.size _ rfl rfl 68 pt0 HR2.out ?_ rfl ?_ ?_; kernel_rfl; simp [Value.oneCell'])
  try simp only [Exit.inBlock, Exit.then]
  exact bodyPost_ret (ret_row2 Try.underlying68 (by kernel_rfl) rfl _ _ w.heap.size rfl (HR2.out.row)) rfl ⟨rfl, below_setRow HB2.out (Nat.le_refl _) _⟩

set_option maxHeartbeats 2000000 in
set_option maxRecDepth 100000 in
theorem rp_k2 (l : List UInt8) (hl : l.length ≤ 140737488351232) (hx : l.getD 0 0 = 120) (i k : Nat) (hi1 : 1 ≤ i) (hik : i + 1 ≤ k) (hz1 : zf l 1 = i) (hz2 : zf l (i + 1) = k) (hlen : l.length = k + 25) (a b : List UInt8) (ha : piece l 1 i = a) (hb : piece l (i + 1) k = b) (st : Nat) (h1 : M.ofBigs l ((k : Int) + 1) = some st) (h2 : M.ofBigs l ((k : Int) + 9) = none) (w : World) :
    Calls Try.prog 38 #[.string (S l)] w fun e w' => e = .returned (.tuple #[.agg pt0, .bool false]) ∧ Below w.heap.size w w' := by
  have hp : 1 ≤ l.length := by omega
  have q17 : ((l.length : Int) == 17) = false := by rw [beq_eq_false_iff_ne]; omega
  have d1 : decide ((l.length : Int) < 1) = false := by simp; omega
  have b1 : (B l 0 == 120) = true := by unfold B; rw [hx]; rfl
  have cz1 := fun W => zero_fn l hl 1 (by omega) W
  rw [show ((1 : Nat) : Int) = 1 from rfl] at cz1
  have cz2 := fun W => zero_fn l hl (i + 1) (by omega) W
  rw [show ((i + 1 : Nat) : Int) = (i : Int) + 1 from rfl] at cz2
  rw [hz1] at cz1
  rw [hz2] at cz2
  have CZ1 := Lib.hid cz1
  have CZ2 := Lib.hid cz2
  have q25 : ((l.length : Int) != (k : Int) + 25) = false := by rw [bne, show ((l.length : Int) == (k : Int) + 25) = true by rw [beq_iff_eq]; omega]; rfl
  have g1 : k + 25 ≤ l.length := by omega
  have sa := fun W q q' => run_piece (P := Try.prog) 9 Try.underlying9 l 1 (i : Int) 1 i rfl rfl hi1 (by omega) W q q'
  rw [ha] at sa
  have sb := fun W q q' => run_piece (P := Try.prog) 9 Try.underlying9 l ((i : Int) + 1) (k : Int) (i + 1) k rfl rfl hik (by omega) W q q'
  rw [hb] at sb
  have e1 : IntKind.i64.wrap ((i : Int) + 1) = (i : Int) + 1 := IntWalk.i64_in _ (by omega)
  have co1 := fun W => refOfBig_any l ((k : Int) + 1) W (by omega)
  have co2 := fun W => refOfBig_any l ((k : Int) + 9) W (by omega)
  have co3 := fun W => refOfBig_any l ((k : Int) + 17) W (by omega)
  rw [h1] at co1
  simp only [duo] at co1
  rw [h2] at co2
  simp only [duo] at co2
  obtain ⟨n3, v3, ee3⟩ : ∃ n v, duo (M.ofBigs l ((k : Int) + 17)) = .tuple #[.int .i64 n, .bool v] := by cases M.ofBigs l ((k : Int) + 17) <;> exact ⟨_, _, rfl⟩
  rw [ee3] at co3
  have CO1 := Lib.hid co1
  have CO2 := Lib.hid co2
  have CO3 := Lib.hid co3
  clear co1 co2 co3 cz1 cz2 hz1 hz2 hlen hx ha hb h1 h2 ee3
  have HR := Lib.hid (rowIn_new pt0 68 w)
  have HB := Lib.hid ((Below.refl w.heap.size w).alloc (Nat.le_refl _) (.cells pt0 68))
  go_enter Try.func38, Try.ntmps38
  go_wp2_with fail
  with_reducible refine (CZ1.out _).mono ?_
  rintro e w1 ⟨rfl, rfl⟩
  generalize w.alloc (.cells pt0 68) = W0 at *
  go_wp2_with fail
  with_reducible refine (CZ2.out _).mono ?_
  rintro e w1 ⟨rfl, rfl⟩
  go_wp2_with fail
  with_reducible refine (CO1.out _).mono ?_
  rintro e w1 ⟨rfl, rfl⟩
  go_wp2_with fail
  with_reducible refine (CO2.out _).mono ?_
  rintro e w1 ⟨rfl, rfl⟩
  go_wp2_with fail
  with_reducible refine (CO3.out _).mono ?_
  rintro e w1 ⟨rfl, rfl⟩
  go_wp2_with fail
  go_region
  have HQ := Lib.hid (show RowIn #[.int .i64 0, .int .i64 n3, .int .i64 0, .string (S a), .string (S b), .int .i64 (st : Int), .int .i64 0, .string ⟨#[]⟩] 23 (W0.alloc (.cells #[.int .i64 0, .int .i64 n3, .int .i64 0, .string (S a), .string (S b), .int .i64 (st : Int), .int .i64 0, .string ⟨#[]⟩] 23)).drew W0.heap.size from rowIn_new #[.int .i64 0, .int .i64 n3, .int .i64 0, .string (S a), .string (S b), .int .i64 (st : Int), .int .i64 0, .string ⟨#[]⟩] 23 W0)
  have HR2 := Lib.hid (show RowIn pt0 68 (W0.alloc (.cells #[.int .i64 0, .int .i64 n3, .int .i64 0, .string (S a), .string (S b), .int .i64 (st : Int), .int .i64 0, .string ⟨#[]⟩] 23)).drew w.heap.size from HR.out.more (.cells #[.int .i64 0, .int .i64 n3, .int .i64 0, .string (S a), .string (S b), .int .i64 (st : Int), .int .i64 0, .string ⟨#[]⟩] 23))
  have HB2 := Lib.hid ((HB.out.alloc HB.out.size (.cells #[.int .i64 0, .int .i64 n3, .int .i64 0, .string (S a), .string (S b), .int .i64 (st : Int), .int .i64 0, .string ⟨#[]⟩] 23)).drew)
  clear HR HB
  generalize (W0.alloc (.cells #[.int .i64 0, .int .i64 n3, .int .i64 0, .string (S a), .string (S b), .int .i64 (st : Int), .int .i64 0, .string ⟨#[]⟩] 23)).drew = W1 at *
  go_wp2_with ((with_reducible show wpList _ _ _ _ _ _); refine wpList_store_row rfl 68 _ _ rfl w.heap.size _ rfl rfl 68 pt0 HR2.out ?_ rfl ?_ ?_; kernel_rfl; simp [Value.oneCell'])
  try simp only [Exit.inBlock, Exit.then]
  exact bodyPost_ret (ret_row2 Try.underlying68 (by kernel_rfl) rfl _ _ w.heap.size rfl (HR2.out.row)) rfl ⟨rfl, below_setRow HB2.out (Nat.le_refl _) _⟩

set_option maxHeartbeats 2000000 in
set_option maxRecDepth 100000 in
theorem rp_k3 (l : List UInt8) (hl : l.length ≤ 140737488351232) (hx : l.getD 0 0 = 120) (i k : Nat) (hi1 : 1 ≤ i) (hik : i + 1 ≤ k) (hz1 : zf l 1 = i) (hz2 : zf l (i + 1) = k) (hlen : l.length = k + 25) (a b : List UInt8) (ha : piece l 1 i = a) (hb : piece l (i + 1) k = b) (st : Nat) (h1 : M.ofBigs l ((k : Int) + 1) = some st) (t : Nat) (h2 : M.ofBigs l ((k : Int) + 9) = some t) (h3 : M.ofBigs l ((k : Int) + 17) = none) (w : World) :
    Calls Try.prog 38 #[.string (S l)] w fun e w' => e = .returned (.tuple #[.agg pt0, .bool false]) ∧ Below w.heap.size w w' := by
  have hp : 1 ≤ l.length := by omega
  have q17 : ((l.length : Int) == 17) = false := by rw [beq_eq_false_iff_ne]; omega
  have d1 : decide ((l.length : Int) < 1) = false := by simp; omega
  have b1 : (B l 0 == 120) = true := by unfold B; rw [hx]; rfl
  have cz1 := fun W => zero_fn l hl 1 (by omega) W
  rw [show ((1 : Nat) : Int) = 1 from rfl] at cz1
  have cz2 := fun W => zero_fn l hl (i + 1) (by omega) W
  rw [show ((i + 1 : Nat) : Int) = (i : Int) + 1 from rfl] at cz2
  rw [hz1] at cz1
  rw [hz2] at cz2
  have CZ1 := Lib.hid cz1
  have CZ2 := Lib.hid cz2
  have q25 : ((l.length : Int) != (k : Int) + 25) = false := by rw [bne, show ((l.length : Int) == (k : Int) + 25) = true by rw [beq_iff_eq]; omega]; rfl
  have g1 : k + 25 ≤ l.length := by omega
  have sa := fun W q q' => run_piece (P := Try.prog) 9 Try.underlying9 l 1 (i : Int) 1 i rfl rfl hi1 (by omega) W q q'
  rw [ha] at sa
  have sb := fun W q q' => run_piece (P := Try.prog) 9 Try.underlying9 l ((i : Int) + 1) (k : Int) (i + 1) k rfl rfl hik (by omega) W q q'
  rw [hb] at sb
  have e1 : IntKind.i64.wrap ((i : Int) + 1) = (i : Int) + 1 := IntWalk.i64_in _ (by omega)
  have co1 := fun W => refOfBig_any l ((k : Int) + 1) W (by omega)
  have co2 := fun W => refOfBig_any l ((k : Int) + 9) W (by omega)
  have co3 := fun W => refOfBig_any l ((k : Int) + 17) W (by omega)
  rw [h1] at co1
  simp only [duo] at co1
  rw [h2] at co2
  simp only [duo] at co2
  rw [h3] at co3
  simp only [duo] at co3
  have CO1 := Lib.hid co1
  have CO2 := Lib.hid co2
  have CO3 := Lib.hid co3
  clear co1 co2 co3 cz1 cz2 hz1 hz2 hlen hx ha hb h1 h2 h3
  have HR := Lib.hid (rowIn_new pt0 68 w)
  have HB := Lib.hid ((Below.refl w.heap.size w).alloc (Nat.le_refl _) (.cells pt0 68))
  go_enter Try.func38, Try.ntmps38
  go_wp2_with fail
  with_reducible refine (CZ1.out _).mono ?_
  rintro e w1 ⟨rfl, rfl⟩
  generalize w.alloc (.cells pt0 68) = W0 at *
  go_wp2_with fail
  with_reducible refine (CZ2.out _).mono ?_
  rintro e w1 ⟨rfl, rfl⟩
  go_wp2_with fail
  with_reducible refine (CO1.out _).mono ?_
  rintro e w1 ⟨rfl, rfl⟩
  go_wp2_with fail
  with_reducible refine (CO2.out _).mono ?_
  rintro e w1 ⟨rfl, rfl⟩
  go_wp2_with fail
  with_reducible refine (CO3.out _).mono ?_
  rintro e w1 ⟨rfl, rfl⟩
  go_wp2_with fail
  go_region
  have HQ := Lib.hid (show RowIn #[.int .i64 (t : Int), .int .i64 0, .int .i64 0, .string (S a), .string (S b), .int .i64 (st : Int), .int .i64 0, .string ⟨#[]⟩] 23 (W0.alloc (.cells #[.int .i64 (t : Int), .int .i64 0, .int .i64 0, .string (S a), .string (S b), .int .i64 (st : Int), .int .i64 0, .string ⟨#[]⟩] 23)).drew W0.heap.size from rowIn_new #[.int .i64 (t : Int), .int .i64 0, .int .i64 0, .string (S a), .string (S b), .int .i64 (st : Int), .int .i64 0, .string ⟨#[]⟩] 23 W0)
  have HR2 := Lib.hid (show RowIn pt0 68 (W0.alloc (.cells #[.int .i64 (t : Int), .int .i64 0, .int .i64 0, .string (S a), .string (S b), .int .i64 (st : Int), .int .i64 0, .string ⟨#[]⟩] 23)).drew w.heap.size from HR.out.more (.cells #[.int .i64 (t : Int), .int .i64 0, .int .i64 0, .string (S a), .string (S b), .int .i64 (st : Int), .int .i64 0, .string ⟨#[]⟩] 23))
  have HB2 := Lib.hid ((HB.out.alloc HB.out.size (.cells #[.int .i64 (t : Int), .int .i64 0, .int .i64 0, .string (S a), .string (S b), .int .i64 (st : Int), .int .i64 0, .string ⟨#[]⟩] 23)).drew)
  clear HR HB
  generalize (W0.alloc (.cells #[.int .i64 (t : Int), .int .i64 0, .int .i64 0, .string (S a), .string (S b), .int .i64 (st : Int), .int .i64 0, .string ⟨#[]⟩] 23)).drew = W1 at *
  go_wp2_with ((with_reducible show wpList _ _ _ _ _ _); refine wpList_store_row rfl 68 _ _ rfl w.heap.size _ rfl rfl 68 pt0 HR2.out ?_ rfl ?_ ?_; kernel_rfl; simp [Value.oneCell'])
  try simp only [Exit.inBlock, Exit.then]
  exact bodyPost_ret (ret_row2 Try.underlying68 (by kernel_rfl) rfl _ _ w.heap.size rfl (HR2.out.row)) rfl ⟨rfl, below_setRow HB2.out (Nat.le_refl _) _⟩

set_option maxHeartbeats 2000000 in
set_option maxRecDepth 100000 in
theorem rp_k4 (l : List UInt8) (hl : l.length ≤ 140737488351232) (hx : l.getD 0 0 = 120) (i k : Nat) (hi1 : 1 ≤ i) (hik : i + 1 ≤ k) (hz1 : zf l 1 = i) (hz2 : zf l (i + 1) = k) (hlen : l.length = k + 25) (a b : List UInt8) (ha : piece l 1 i = a) (hb : piece l (i + 1) k = b) (st : Nat) (h1 : M.ofBigs l ((k : Int) + 1) = some st) (t : Nat) (h2 : M.ofBigs l ((k : Int) + 9) = some t) (d : Nat) (h3 : M.ofBigs l ((k : Int) + 17) = some d) (hm : M.mayB ⟨(t : Int), (d : Int), 0, a, b, (st : Int), 0, []⟩ = false) (hfa : a.length ≤ 140737488351232) (hfb : b.length ≤ 140737488351232) (f1 : st ≤ 9223372036854775807) (f2 : t ≤ 9223372036854775807) (f3 : d ≤ 9223372036854775807) (w : World) :
    Calls Try.prog 38 #[.string (S l)] w fun e w' => e = .returned (.tuple #[.agg pt0, .bool false]) ∧ Below w.heap.size w w' := by
  have hp : 1 ≤ l.length := by omega
  have q17 : ((l.length : Int) == 17) = false := by rw [beq_eq_false_iff_ne]; omega
  have d1 : decide ((l.length : Int) < 1) = false := by simp; omega
  have b1 : (B l 0 == 120) = true := by unfold B; rw [hx]; rfl
  have cz1 := fun W => zero_fn l hl 1 (by omega) W
  rw [show ((1 : Nat) : Int) = 1 from rfl] at cz1
  have cz2 := fun W => zero_fn l hl (i + 1) (by omega) W
  rw [show ((i + 1 : Nat) : Int) = (i : Int) + 1 from rfl] at cz2
  rw [hz1] at cz1
  rw [hz2] at cz2
  have CZ1 := Lib.hid cz1
  have CZ2 := Lib.hid cz2
  have q25 : ((l.length : Int) != (k : Int) + 25) = false := by rw [bne, show ((l.length : Int) == (k : Int) + 25) = true by rw [beq_iff_eq]; omega]; rfl
  have g1 : k + 25 ≤ l.length := by omega
  have sa := fun W q q' => run_piece (P := Try.prog) 9 Try.underlying9 l 1 (i : Int) 1 i rfl rfl hi1 (by omega) W q q'
  rw [ha] at sa
  have sb := fun W q q' => run_piece (P := Try.prog) 9 Try.underlying9 l ((i : Int) + 1) (k : Int) (i + 1) k rfl rfl hik (by omega) W q q'
  rw [hb] at sb
  have e1 : IntKind.i64.wrap ((i : Int) + 1) = (i : Int) + 1 := IntWalk.i64_in _ (by omega)
  have co1 := fun W => refOfBig_any l ((k : Int) + 1) W (by omega)
  have co2 := fun W => refOfBig_any l ((k : Int) + 9) W (by omega)
  have co3 := fun W => refOfBig_any l ((k : Int) + 17) W (by omega)
  rw [h1] at co1
  simp only [duo] at co1
  rw [h2] at co2
  simp only [duo] at co2
  rw [h3] at co3
  simp only [duo] at co3
  have cm : ∀ W, Calls Try.prog 47 #[.agg #[.int .i64 (t : Int), .int .i64 (d : Int), .int .i64 0, .string (S a), .string (S b), .int .i64 (st : Int), .int .i64 0, .string ⟨#[]⟩]] W fun e w' => e = .returned (.bool false) ∧ Below W.heap.size W w' := fun W => by
    have := refMay_any ⟨(t : Int), (d : Int), 0, a, b, (st : Int), 0, []⟩ (by constructor <;> simp <;> omega) W
    rw [hm] at this
    exact this
  have CM := Lib.hid cm
  clear cm hm
  have CO1 := Lib.hid co1
  have CO2 := Lib.hid co2
  have CO3 := Lib.hid co3
  clear co1 co2 co3 cz1 cz2 hz1 hz2 hlen hx ha hb h1 h2 h3
  have HR := Lib.hid (rowIn_new pt0 68 w)
  have HB := Lib.hid ((Below.refl w.heap.size w).alloc (Nat.le_refl _) (.cells pt0 68))
  go_enter Try.func38, Try.ntmps38
  go_wp2_with fail
  with_reducible refine (CZ1.out _).mono ?_
  rintro e w1 ⟨rfl, rfl⟩
  generalize w.alloc (.cells pt0 68) = W0 at *
  go_wp2_with fail
  with_reducible refine (CZ2.out _).mono ?_
  rintro e w1 ⟨rfl, rfl⟩
  go_wp2_with fail
  with_reducible refine (CO1.out _).mono ?_
  rintro e w1 ⟨rfl, rfl⟩
  go_wp2_with fail
  with_reducible refine (CO2.out _).mono ?_
  rintro e w1 ⟨rfl, rfl⟩
  go_wp2_with fail
  with_reducible refine (CO3.out _).mono ?_
  rintro e w1 ⟨rfl, rfl⟩
  go_wp2_with fail
  go_region
  have HQ := Lib.hid (show RowIn #[.int .i64 (t : Int), .int .i64 (d : Int), .int .i64 0, .string (S a), .string (S b), .int .i64 (st : Int), .int .i64 0, .string ⟨#[]⟩] 23 (W0.alloc (.cells #[.int .i64 (t : Int), .int .i64 (d : Int), .int .i64 0, .string (S a), .string (S b), .int .i64 (st : Int), .int .i64 0, .string ⟨#[]⟩] 23)).drew W0.heap.size from rowIn_new #[.int .i64 (t : Int), .int .i64 (d : Int), .int .i64 0, .string (S a), .string (S b), .int .i64 (st : Int), .int .i64 0, .string ⟨#[]⟩] 23 W0)
  have HR2 := Lib.hid (show RowIn pt0 68 (W0.alloc (.cells #[.int .i64 (t : Int), .int .i64 (d : Int), .int .i64 0, .string (S a), .string (S b), .int .i64 (st : Int), .int .i64 0, .string ⟨#[]⟩] 23)).drew w.heap.size from HR.out.more (.cells #[.int .i64 (t : Int), .int .i64 (d : Int), .int .i64 0, .string (S a), .string (S b), .int .i64 (st : Int), .int .i64 0, .string ⟨#[]⟩] 23))
  have HB2 := Lib.hid ((HB.out.alloc HB.out.size (.cells #[.int .i64 (t : Int), .int .i64 (d : Int), .int .i64 0, .string (S a), .string (S b), .int .i64 (st : Int), .int .i64 0, .string ⟨#[]⟩] 23)).drew)
  clear HR HB
  generalize (W0.alloc (.cells #[.int .i64 (t : Int), .int .i64 (d : Int), .int .i64 0, .string (S a), .string (S b), .int .i64 (st : Int), .int .i64 0, .string ⟨#[]⟩] 23)).drew = W1 at *
  have m0 := HQ.out.cell 0
  have m1 := HQ.out.cell 1
  have m2 := HQ.out.cell 2
  have m3 := HQ.out.cell 3
  have m4 := HQ.out.cell 4
  have m5 := HQ.out.cell 5
  have m6 := HQ.out.cell 6
  have m7 := HQ.out.cell 7
  simp only [List.getElem?_toArray, List.getElem?_cons_zero, List.getElem?_cons_succ] at m0 m1 m2 m3 m4 m5 m6 m7
  go_wp2_with fail
  with_reducible refine (CM.out _).mono ?_
  rintro e w3 ⟨rfl, hb3⟩
  have HR3 := Lib.hid (HR2.out.below hb3)
  have HQ3 := Lib.hid (HQ.out.below hb3)
  have HB3 := Lib.hid (below_step HB2.out hb3)
  clear m0 m1 m2 m3 m4 m5 m6 m7 hb3
  go_wp2_with ((with_reducible show wpList _ _ _ _ _ _); refine wpList_store_row rfl 68 _ _ rfl w.heap.size _ rfl rfl 68 pt0 HR3.out ?_ rfl ?_ ?_; kernel_rfl; simp [Value.oneCell'])
  try simp only [Exit.inBlock, Exit.then]
  exact bodyPost_ret (ret_row2 Try.underlying68 (by kernel_rfl) rfl _ _ w.heap.size rfl (HR3.out.row)) rfl ⟨rfl, below_setRow HB3.out (Nat.le_refl _) _⟩

set_option maxHeartbeats 2000000 in
set_option maxRecDepth 100000 in
theorem rp_k5 (l : List UInt8) (hl : l.length ≤ 140737488351232) (hx : l.getD 0 0 = 120) (i k : Nat) (hi1 : 1 ≤ i) (hik : i + 1 ≤ k) (hz1 : zf l 1 = i) (hz2 : zf l (i + 1) = k) (hlen : l.length = k + 25) (a b : List UInt8) (ha : piece l 1 i = a) (hb : piece l (i + 1) k = b) (st : Nat) (h1 : M.ofBigs l ((k : Int) + 1) = some st) (t : Nat) (h2 : M.ofBigs l ((k : Int) + 9) = some t) (d : Nat) (h3 : M.ofBigs l ((k : Int) + 17) = some d) (hm : M.mayB ⟨(t : Int), (d : Int), 0, a, b, (st : Int), 0, []⟩ = true) (hfa : a.length ≤ 140737488351232) (hfb : b.length ≤ 140737488351232) (f1 : st ≤ 9223372036854775807) (f2 : t ≤ 9223372036854775807) (f3 : d ≤ 9223372036854775807) (w : World) :
    Calls Try.prog 38 #[.string (S l)] w fun e w' => e = .returned (ptR (some ⟨120, t, d, st, a, b⟩)) ∧ Below w.heap.size w w' := by
  have hp : 1 ≤ l.length := by omega
  have q17 : ((l.length : Int) == 17) = false := by rw [beq_eq_false_iff_ne]; omega
  have d1 : decide ((l.length : Int) < 1) = false := by simp; omega
  have b1 : (B l 0 == 120) = true := by unfold B; rw [hx]; rfl
  have cz1 := fun W => zero_fn l hl 1 (by omega) W
  rw [show ((1 : Nat) : Int) = 1 from rfl] at cz1
  have cz2 := fun W => zero_fn l hl (i + 1) (by omega) W
  rw [show ((i + 1 : Nat) : Int) = (i : Int) + 1 from rfl] at cz2
  rw [hz1] at cz1
  rw [hz2] at cz2
  have CZ1 := Lib.hid cz1
  have CZ2 := Lib.hid cz2
  have q25 : ((l.length : Int) != (k : Int) + 25) = false := by rw [bne, show ((l.length : Int) == (k : Int) + 25) = true by rw [beq_iff_eq]; omega]; rfl
  have g1 : k + 25 ≤ l.length := by omega
  have sa := fun W q q' => run_piece (P := Try.prog) 9 Try.underlying9 l 1 (i : Int) 1 i rfl rfl hi1 (by omega) W q q'
  rw [ha] at sa
  have sb := fun W q q' => run_piece (P := Try.prog) 9 Try.underlying9 l ((i : Int) + 1) (k : Int) (i + 1) k rfl rfl hik (by omega) W q q'
  rw [hb] at sb
  have e1 : IntKind.i64.wrap ((i : Int) + 1) = (i : Int) + 1 := IntWalk.i64_in _ (by omega)
  have co1 := fun W => refOfBig_any l ((k : Int) + 1) W (by omega)
  have co2 := fun W => refOfBig_any l ((k : Int) + 9) W (by omega)
  have co3 := fun W => refOfBig_any l ((k : Int) + 17) W (by omega)
  rw [h1] at co1
  simp only [duo] at co1
  rw [h2] at co2
  simp only [duo] at co2
  rw [h3] at co3
  simp only [duo] at co3
  have cm : ∀ W, Calls Try.prog 47 #[.agg #[.int .i64 (t : Int), .int .i64 (d : Int), .int .i64 0, .string (S a), .string (S b), .int .i64 (st : Int), .int .i64 0, .string ⟨#[]⟩]] W fun e w' => e = .returned (.bool true) ∧ Below W.heap.size W w' := fun W => by
    have := refMay_any ⟨(t : Int), (d : Int), 0, a, b, (st : Int), 0, []⟩ (by constructor <;> simp <;> omega) W
    rw [hm] at this
    exact this
  have CM := Lib.hid cm
  clear cm hm
  have CO1 := Lib.hid co1
  have CO2 := Lib.hid co2
  have CO3 := Lib.hid co3
  clear co1 co2 co3 cz1 cz2 hz1 hz2 hlen hx ha hb h1 h2 h3
  have HR := Lib.hid (rowIn_new pt0 68 w)
  have HB := Lib.hid ((Below.refl w.heap.size w).alloc (Nat.le_refl _) (.cells pt0 68))
  go_enter Try.func38, Try.ntmps38
  go_wp2_with fail
  with_reducible refine (CZ1.out _).mono ?_
  rintro e w1 ⟨rfl, rfl⟩
  generalize w.alloc (.cells pt0 68) = W0 at *
  go_wp2_with fail
  with_reducible refine (CZ2.out _).mono ?_
  rintro e w1 ⟨rfl, rfl⟩
  go_wp2_with fail
  with_reducible refine (CO1.out _).mono ?_
  rintro e w1 ⟨rfl, rfl⟩
  go_wp2_with fail
  with_reducible refine (CO2.out _).mono ?_
  rintro e w1 ⟨rfl, rfl⟩
  go_wp2_with fail
  with_reducible refine (CO3.out _).mono ?_
  rintro e w1 ⟨rfl, rfl⟩
  go_wp2_with fail
  go_region
  have HQ := Lib.hid (show RowIn #[.int .i64 (t : Int), .int .i64 (d : Int), .int .i64 0, .string (S a), .string (S b), .int .i64 (st : Int), .int .i64 0, .string ⟨#[]⟩] 23 (W0.alloc (.cells #[.int .i64 (t : Int), .int .i64 (d : Int), .int .i64 0, .string (S a), .string (S b), .int .i64 (st : Int), .int .i64 0, .string ⟨#[]⟩] 23)).drew W0.heap.size from rowIn_new #[.int .i64 (t : Int), .int .i64 (d : Int), .int .i64 0, .string (S a), .string (S b), .int .i64 (st : Int), .int .i64 0, .string ⟨#[]⟩] 23 W0)
  have HR2 := Lib.hid (show RowIn pt0 68 (W0.alloc (.cells #[.int .i64 (t : Int), .int .i64 (d : Int), .int .i64 0, .string (S a), .string (S b), .int .i64 (st : Int), .int .i64 0, .string ⟨#[]⟩] 23)).drew w.heap.size from HR.out.more (.cells #[.int .i64 (t : Int), .int .i64 (d : Int), .int .i64 0, .string (S a), .string (S b), .int .i64 (st : Int), .int .i64 0, .string ⟨#[]⟩] 23))
  have HB2 := Lib.hid ((HB.out.alloc HB.out.size (.cells #[.int .i64 (t : Int), .int .i64 (d : Int), .int .i64 0, .string (S a), .string (S b), .int .i64 (st : Int), .int .i64 0, .string ⟨#[]⟩] 23)).drew)
  clear HR HB
  generalize (W0.alloc (.cells #[.int .i64 (t : Int), .int .i64 (d : Int), .int .i64 0, .string (S a), .string (S b), .int .i64 (st : Int), .int .i64 0, .string ⟨#[]⟩] 23)).drew = W1 at *
  have m0 := HQ.out.cell 0
  have m1 := HQ.out.cell 1
  have m2 := HQ.out.cell 2
  have m3 := HQ.out.cell 3
  have m4 := HQ.out.cell 4
  have m5 := HQ.out.cell 5
  have m6 := HQ.out.cell 6
  have m7 := HQ.out.cell 7
  simp only [List.getElem?_toArray, List.getElem?_cons_zero, List.getElem?_cons_succ] at m0 m1 m2 m3 m4 m5 m6 m7
  go_wp2_with fail
  with_reducible refine (CM.out _).mono ?_
  rintro e w3 ⟨rfl, hb3⟩
  have HR3 := Lib.hid (HR2.out.below hb3)
  have HQ3 := Lib.hid (HQ.out.below hb3)
  have HB3 := Lib.hid (below_step HB2.out hb3)
  clear m0 m1 m2 m3 m4 m5 m6 m7 hb3
  have m3 := HQ3.out.cell 3
  have m4 := HQ3.out.cell 4
  simp only [List.getElem?_toArray, List.getElem?_cons_zero, List.getElem?_cons_succ] at m3 m4
  go_wp2_with ((with_reducible show wpList _ _ _ _ _ _); refine wpList_store_row rfl 68 _ _ rfl w.heap.size _ rfl rfl 68 pt0 HR3.out ?_ rfl ?_ ?_; kernel_rfl; simp [Value.oneCell'])
  try simp only [Exit.inBlock, Exit.then]
  exact bodyPost_ret (ret_row2 Try.underlying68 (by kernel_rfl) rfl _ _ w.heap.size rfl (HR3.out.row (D := #[.int .u8 120, .int .i64 (t : Int), .int .i64 (d : Int), .int .i64 (st : Int), .string (S a), .string (S b)]))) rfl ⟨rfl, below_setRow HB3.out (Nat.le_refl _) _⟩

end Go.Proofs.Ytjlddackpckmfaa
