/- Layer 4: the laws' walks: FramesLimit. -/
import Derived.Test.YtehcedepiepbiaaFramesK
import Derived.Test.YtehcedepiepbiaaSumsL
namespace Go.Proofs.Ytehcedepiepbiaa
set_option linter.unusedVariables false
open Go Go.RowKit
attribute [local go_sem ↓] run_index_S
attribute [local go_sem] S_append S_extract

/-- Block b has n bytes; the first k of them are x. -/
def FillAt (w : World) (b : Nat) (e : TypeId) (n k : Nat) (x : Int) : Prop :=
  ∃ C : Array Value, w.heap[b]? = some (.cells C e (0, 0)) ∧ C.size = n ∧ ∀ j, j < k → C[j]? = some (.int .u8 x)
section
variable {w : World} {b : Nat} {e : TypeId} {n k : Nat} {x : Int}
theorem FillAt.cell (h : FillAt w b e n k x) (j : Nat) (hj : j < n) : ∃ v, w.cell? ⟨b, j, none⟩ = some v := by
  obtain ⟨C, h1, h2, h3⟩ := h
  exact ⟨C[j]'(by omega), by simp [World.cell?, h1, show j < C.size from by omega]⟩
theorem FillAt.free (h : FillAt w b e n k x) (j : Nat) : w.frozen? ⟨b, j, none⟩ = false := by
  obtain ⟨C, h1, h2, h3⟩ := h
  simp [World.frozen?, h1]
theorem FillAt.at_ (h : FillAt w b e n k x) (j : Nat) (hj : j < k) : w.cell? ⟨b, j, none⟩ = some (.int .u8 x) := by
  obtain ⟨C, h1, h2, h3⟩ := h
  have := h3 j hj
  simp [World.cell?, h1, this]
theorem FillAt.set (h : FillAt w b e n k x) (hk : k < n) : FillAt (w.setCell ⟨b, k, none⟩ (.int .u8 x)) b e n (k + 1) x := by
  obtain ⟨C, h1, h2, h3⟩ := h
  refine ⟨C.setIfInBounds k (.int .u8 x), ?_, by simpa using h2, ?_⟩
  · have hlt : b < w.heap.size := (Array.getElem?_eq_some_iff.1 h1).1
    have hget : w.heap[b] = .cells C e (0, 0) := by
      have := h1; rw [Array.getElem?_eq_getElem hlt] at this; exact Option.some.inj this
    simp [World.setCell, Array.getElem?_modify, h1]
  · intro j hj
    rw [Array.getElem?_setIfInBounds]
    by_cases hij : k = j
    · subst hij
      rw [if_pos rfl, if_pos (by omega)]
    · rw [if_neg hij, h3 j (by omega)]
theorem FillAt.below {w' : World} {B' : Nat} (h : FillAt w b e n k x) (hb : Below B' w w') (hlt : b < B') : FillAt w' b e n k x := by
  obtain ⟨C, h1, h2, h3⟩ := h
  exact ⟨C, by rw [hb.block b hlt]; exact h1, h2, h3⟩
theorem FillAt.lt (h : FillAt w b e n k x) : b < w.heap.size := by
  obtain ⟨C, h1, h2, h3⟩ := h
  exact (Array.getElem?_eq_some_iff.1 h1).1
end
theorem fill_conv {P : Program} {w : World} {b : Nat} {e : TypeId} {x : Int} (l : List UInt8) (hx : ∀ j (h : j < l.length), (l[j].toNat : Int) = x) (h : FillAt w b e l.length l.length x) (src dst : TypeId) (hs : P.underlying src = some (.slice e)) (he : P.underlying e = some (.int .u8)) (hd : P.underlying dst = some .string) (cap : Nat) :
    (convert src dst (.slice (some ⟨b, 0, none⟩) l.length cap)).run P w = .ok (.string ⟨l.toArray⟩) w :=
  run_convert_bytes_back w src dst e ⟨b, 0, none⟩ cap l hs he hd (fun j hj => by rw [Addr.add_lit, Nat.zero_add, h.at_ j hj, hx j hj])
theorem same_at (n : Nat) (c : Nat) (hc : c < 256) : ∃ l : List UInt8, l.length = n ∧ ∀ j (h : j < l.length), (l[j].toNat : Int) = (c : Int) :=
  ⟨List.replicate n (UInt8.ofNat c), List.length_replicate, fun j h => by simp; omega⟩

set_option maxHeartbeats 2000000 in
set_option maxRecDepth 100000 in
theorem framesLimit_calls (o : Int) (wo : (Lit.int .u8 o).wf = true) (c : Int) (wc : (Lit.int .u8 c).wf = true) (w : World) :
    Calls Try.prog 6 #[.int .u8 o, .int .u8 c] w fun e w' => e = .returned (.bool true) ∧ Below w.heap.size w w' := by
  have ho := u8_range wo
  have hc := u8_range wc
  obtain ⟨c, rfl⟩ := Int.eq_ofNat_of_zero_le hc.1
  obtain ⟨n, hn⟩ : ∃ n : Nat, (n : Int) = 16382 + o % 5 := ⟨(16382 + o % 5).toNat, by omega⟩
  obtain ⟨l, hll, hlx⟩ := same_at n c (by omega)
  obtain ⟨C, hmk, hsC, hzC⟩ := make_bytes (P := Try.prog) w 35 5 Try.underlying35 (by kernel_rfl) n (by omega) .i64 .i64
  rw [hn] at hmk
  go_enter Try.func6, Try.ntmps6
  go_wp2_with fail
  simp only [← hn]
  have hn1 : 16382 ≤ n := by omega
  have hn2 : n ≤ 16386 := by omega
  have f0 : FillAt (w.alloc (.cells C 5)) w.heap.size 5 n 0 c := ⟨C, World.alloc_heap_new w _, hsC, fun j hj => by omega⟩
  have hb0 := (Below.refl w.heap.size w).alloc (Nat.le_refl _) (.cells C 5)
  generalize w.alloc (.cells C 5) = W0 at *
  clear hmk hsC hzC hn
  go_loopw [7] (fun i wr => ∃ k : Nat, k ≤ n ∧ i = .int .i64 k ∧ FillAt wr w.heap.size 5 n k c ∧ Below w.heap.size w wr) (fun i _ => n - (intOf i).toNat)
  case atStart => exact ⟨0, by omega, rfl, f0, hb0⟩
  case round =>
    rename_i wr
    obtain ⟨k, hk, rfl, hf, hb⟩ := hrel
    by_cases hkn : k < n
    · have d1 : decide ((k : Int) < (n : Int)) = true := by simp; omega
      obtain ⟨v, hcell⟩ := hf.cell k hkn
      have hfree := hf.free k
      have HS := Lib.hid (hf.set hkn)
      have HB := Lib.hid (hb.setCell (p := ⟨w.heap.size, k, none⟩) (Nat.le_refl _) (.int .u8 (c : Int)))
      clear hf hb f0 hb0
      go_wp2_with fail
      go_roundw
      case rel => exact ⟨k + 1, by omega, by go_num, HS.out, HB.out⟩
      case measure => simp [intOf]; omega
    · obtain rfl : k = n := by omega
      have d1 : decide ((k : Int) < (k : Int)) = false := by simp
      have hcv := fill_conv (P := Try.prog) l hlx (by rw [hll]; exact hf) 35 9 Try.underlying35 Try.underlying5 Try.underlying9 k
      rw [hll] at hcv
      have c1 := fun W => frame_any l W
      have HF := Lib.hid hf
      have HB := Lib.hid hb
      clear hf hb f0 hb0
      by_cases hbig : 16384 < k
      · have d2 : decide (16384 < (k : Int)) = true := by simp; omega
        rw [if_neg (by omega), if_neg (by omega)] at c1
        have C1 := Lib.hid c1
        clear c1
        go_wp2_with fail
        with_reducible refine (C1.out _).mono ?_
        rintro e w1 ⟨rfl, hb1⟩
        have HB1 := Lib.hid (below_step HB.out hb1)
        clear hb1 hcv
        go_wp2_with fail
        with_reducible refine (known_any _).mono ?_
        rintro e w2 ⟨rfl, hb2⟩
        go_wp2_with fail
        go_ret
        exact ⟨rfl, below_step HB1.out hb2⟩
      · have d2 : decide (16384 < (k : Int)) = false := by simp; omega
        rw [if_pos (by omega), if_pos (by omega)] at c1
        have c2 := fun W => next_any (120 :: M.frameP l) (by simp [M.frameP_length]; omega) 1 W
        have hnx := (M.next_at [120] l [] (by omega)).2
        have hnx2 : M.nextI (120 :: M.frameP l) 1 = some (l, k + 9) := by
          rw [show (1 : Int) = ((1 : Nat) : Int) from rfl, M.nextI_nat]
          simp only [List.append_nil, List.singleton_append, List.length_singleton] at hnx
          rw [hnx, hll]
          congr 2
          omega
        rw [hnx2] at c2
        simp only [triF] at c2
        have C1 := Lib.hid c1
        have C2 := Lib.hid c2
        clear c1 c2 hnx hnx2
        have hfr : (M.frameP l).length ≤ 16400 := by rw [M.frameP_length]; omega
        generalize M.frameP l = fr at *
        go_wp2_with fail
        with_reducible refine (C1.out _).mono ?_
        rintro e w1 ⟨rfl, hb1⟩
        have HB1 := Lib.hid (below_step HB.out hb1)
        have HF1 := Lib.hid (HF.out.below hb1 HF.out.lt)
        clear hb1 hcv
        go_wp2_with fail
        with_reducible refine (C2.out _).mono ?_
        rintro e w2 ⟨rfl, hb2⟩
        have HB2 := Lib.hid (below_step HB1.out hb2)
        have hcv2 := fill_conv (P := Try.prog) l hlx (by rw [hll]; exact HF1.out.below hb2 HF1.out.lt) 35 9 Try.underlying35 Try.underlying5 Try.underlying9 k
        rw [hll] at hcv2
        have e9 : ((k + 9 : Nat) : Int) = (k : Int) + 9 := by omega
        clear hb2 hlx hll
        go_wp2_with fail
        with_reducible refine (known_any _).mono ?_
        rintro e w3 ⟨rfl, hb3⟩
        go_wp2_with fail
        go_ret
        exact ⟨rfl, below_step HB2.out hb3⟩

end Go.Proofs.Ytehcedepiepbiaa
