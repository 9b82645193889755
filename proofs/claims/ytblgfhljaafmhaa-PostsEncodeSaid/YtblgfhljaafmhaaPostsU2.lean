/- Layer 12: PostsCut, walked. -/
import Derived.Test.YtblgfhljaafmhaaPostsQ
namespace Go.Proofs.Ytblgfhljaafmhaa
set_option linter.unusedVariables false
open Go Go.RowKit
attribute [local go_sem ↓] run_index_S
attribute [local go_sem] S_append S_extract

def decBE (r : Option M.Bt) : Int := match r with
  | some _ => 0
  | none => 30
theorem DecB.shape {r : Option M.Bt} {w w' : World} {e : Ending} (h : DecB r w e w') : ∃ (h f : Int) (ao : Option Addr) (n cap : Nat), e = .returned (.tuple #[.agg #[.int .i64 h, .int .i64 f, .slice ao n cap], .int .i64 (decBE r)]) ∧ Below w.heap.size w w' := by
  cases r with
  | none => exact ⟨0, 0, none, 0, 0, h.1, h.2⟩
  | some b =>
    obtain ⟨ao, cap, he, _, hb⟩ := h
    exact ⟨b.host, b.first, ao, b.sps.length, cap, he, hb⟩
theorem decB_any (l : List UInt8) (hl : l.length ≤ 140737488351232) (w : World) : Calls Try.prog 16 #[.string (S l)] w fun e w' => ∃ (h f : Int) (ao : Option Addr) (n cap : Nat), e = .returned (.tuple #[.agg #[.int .i64 h, .int .i64 f, .slice ao n cap], .int .i64 (decBE (M.decB l))]) ∧ Below w.heap.size w w' :=
  (decBatch_any l hl w).mono fun e w' h => h.shape
/-- The bytes of a batch, and of an ack, or none. -/
def encBl (b : M.Bt) : List UInt8 := if M.bOk b then M.encB b else []
def encAl (a : M.Ak) : List UInt8 := if M.aMay a then M.encA a else []
theorem encBl_len (b : M.Bt) : (encBl b).length ≤ 800 := by
  unfold encBl
  split
  · exact M.encB_len (by assumption)
  · simp
theorem encAl_len (a : M.Ak) : (encAl a).length ≤ 800 := by
  unfold encAl
  split
  · unfold M.encA
    have h := M.encN_len [a.host.toNat, a.first.toNat, (a.next - a.first).toNat]
    simp only [List.length_cons, List.length_nil] at h ⊢
    omega
  · simp
theorem encBl_cut {b : M.Bt} (hf : ∀ x ∈ b.sps, x.fits) (i : Nat) (hi : i < (encBl b).length) : M.decB ((encBl b).take i) = none := by
  unfold encBl at *
  split at hi
  · rename_i h
    rw [if_pos h]; exact M.decB_cut hf h i hi
  · simp at hi
theorem encAl_cut {a : M.Ak} (i : Nat) (hi : i < (encAl a).length) : M.decA ((encAl a).take i) = none := by
  unfold encAl at *
  split at hi
  · rename_i h
    rw [if_pos h]; exact M.decA_cut h i hi
  · simp at hi
theorem encBl_more {b : M.Bt} (hf : ∀ x ∈ b.sps, x.fits) (h : M.bOk b = true) (m : List UInt8) : decBE (M.decB (encBl b ++ m)) = if m = [] then 0 else 30 := by
  unfold encBl
  rw [if_pos h]
  by_cases hm : m = []
  · rw [hm, List.append_nil, M.decB_enc hf h]; rfl
  · rw [M.decB_more (M.decB_enc hf h) hm, if_neg hm]; rfl
theorem encAl_more {a : M.Ak} (h : M.aMay a = true) (m : List UInt8) : akE (M.decA (encAl a ++ m)) = if m = [] then 0 else 30 := by
  unfold encAl
  rw [if_pos h]
  by_cases hm : m = []
  · rw [hm, List.append_nil, M.decA_enc h]; rfl
  · rw [M.decA_more (M.decA_enc h) hm, if_neg hm]; rfl
theorem encB_l (b : M.Bt) (ao : Option Addr) (cap : Nat) (w : World) (hl : b.sps.length ≤ 140737488351232) (hx : ∀ x ∈ b.sps, x.fits) (hs : SpsAt w ao b.sps) :
    Calls Try.prog 10 #[.agg #[.int .i64 b.host, .int .i64 b.first, .slice ao b.sps.length cap]] w fun e w' => e = .returned (.tuple #[.string (S (encBl b)), .int .i64 (M.errOf (M.bOk b))]) ∧ Below w.heap.size w w' := encBatch_any b ao cap w hl hx hs
theorem encA_l (a : M.Ak) (w : World) :
    Calls Try.prog 12 #[.agg #[.int .i64 a.host, .int .i64 a.first, .int .i64 a.next]] w fun e w' => e = .returned (.tuple #[.string (S (encAl a)), .int .i64 (M.errOf (M.aMay a))]) ∧ Below w.heap.size w w' := encAck_any a w

set_option maxHeartbeats 8000000 in
set_option maxRecDepth 100000 in
theorem postsCut_calls (W : World) (v : Value) (hv : UBt W v) (u : Value) (hu : UAk u) (m : List UInt8) (hml : m.length ≤ 140737488351232) :
    Calls Try.prog 7 #[v, u, .string (S m)] W fun e w' => e = .returned (.bool true) ∧ Below W.heap.size W w' := by
  obtain ⟨h, f, L, ao, cap, rfl, hbd, hlen, hint, hcap, hs⟩ := hv
  obtain ⟨a, rfl, hai⟩ := hu
  have bw := ((Below.refl W.heap.size W).alloc (Nat.le_refl _) (.cells #[.int .i64 h, .int .i64 f, .slice ao L.length cap] 24)).alloc (by rw [szA]; omega) (.cells #[.int .i64 a.host, .int .i64 a.first, .int .i64 a.next] 26)
  have HB0 := Lib.hid bw
  have HS0 := Lib.hid (hs.below bw)
  have HR0 := Lib.hid ((rowIn_new #[.int .i64 h, .int .i64 f, .slice ao L.length cap] 24 W).more (.cells #[.int .i64 a.host, .int .i64 a.first, .int .i64 a.next] 26))
  have HA0 := Lib.hid (rowIn_at #[.int .i64 a.host, .int .i64 a.first, .int .i64 a.next] 26 (W.alloc (.cells #[.int .i64 h, .int .i64 f, .slice ao L.length cap] 24)) (W.heap.size + 1) (by rw [szA]))
  have CG := Lib.hid (fun W' hs' => great12_any (w := W') (ao := ao) h f L cap hs' hlen)
  clear bw hs
  go_enter Try.func7, Try.ntmps7
  go_wp2_with fail
  with_reducible refine (CG.out _ HS0.out).mono ?_
  rintro e w1 ⟨rfl | ⟨rfl, hsm⟩, hb1⟩
  · go_wp2_with fail
    go_ret
    exact ⟨rfl, below_step HB0.out hb1⟩
  by_cases hm1 : 100 < m.length
  · have d1 : decide (100 < (m.length : Int)) = true := by simp; omega
    go_wp2_with fail
    go_ret
    exact ⟨rfl, below_step HB0.out hb1⟩
  have d1 : decide (100 < (m.length : Int)) = false := by simp; omega
  have hf := fun x (hx : x ∈ L) => by
    have h1 := hsm.2 x hx
    exact (hint x hx).fits (by have := h1.1; omega) (by have := h1.2.1; omega) (by have := h1.2.2; omega)
  have h50 := hsm.1
  have hl1 := encBl_len ⟨h, f, L⟩
  have hl2 := encAl_len a
  have HC1 := Lib.hid (fun i hi => encBl_cut (b := ⟨h, f, L⟩) hf i hi)
  have HC2 := Lib.hid (fun i hi => encAl_cut (a := a) i hi)
  have HM1 := Lib.hid (fun hb => encBl_more (b := ⟨h, f, L⟩) hf hb m)
  have HM2 := Lib.hid (fun hb => encAl_more (a := a) hb m)
  have CB := Lib.hid (fun W' hs' => encB_l ⟨h, f, L⟩ ao cap W' (by dsimp only; omega) hf hs')
  have CA := Lib.hid (fun W' => encA_l a W')
  dsimp only at CB
  have HR1 := Lib.hid (HR0.out.below hb1)
  have HA1 := Lib.hid (HA0.out.below hb1)
  have HS1 := Lib.hid (HS0.out.below hb1)
  have HB1 := Lib.hid (below_step HB0.out hb1)
  clear hb1 hsm hint hlen hcap hf
  generalize encBl ⟨h, f, L⟩ = s at *
  generalize encAl a = t at *
  have r0 : w1.cell? ⟨W.heap.size, 0, none⟩ = some (.int .i64 h) := HR1.out.cell 0
  have r1 : w1.cell? ⟨W.heap.size, 1, none⟩ = some (.int .i64 f) := HR1.out.cell 1
  have r2 : w1.cell? ⟨W.heap.size, 2, none⟩ = some (.slice ao L.length cap) := HR1.out.cell 2
  go_wp2_with fail
  with_reducible refine (CB.out _ HS1.out).mono ?_
  rintro e w2 ⟨rfl, hb2⟩
  have HA2 := Lib.hid (HA1.out.below hb2)
  have HB2 := Lib.hid (below_step HB1.out hb2)
  clear hb2 r0 r1 r2
  have q0 : w2.cell? ⟨W.heap.size + 1, 0, none⟩ = some (.int .i64 a.host) := HA2.out.cell 0
  have q1 : w2.cell? ⟨W.heap.size + 1, 1, none⟩ = some (.int .i64 a.first) := HA2.out.cell 1
  have q2 : w2.cell? ⟨W.heap.size + 1, 2, none⟩ = some (.int .i64 a.next) := HA2.out.cell 2
  go_wp2_with fail
  with_reducible refine (CA.out _).mono ?_
  rintro e w3 ⟨rfl, hb3⟩
  have HB3 := Lib.hid (below_step HB2.out hb3)
  clear hb3 q0 q1 q2
  go_wp2_with fail
  go_loopw [11] (fun i wr => ∃ k : Nat, k ≤ s.length ∧ i = .int .i64 k ∧ Below W.heap.size W wr) (fun i _ => s.length - (intOf i).toNat)
  case atStart => exact ⟨0, by omega, rfl, HB3.out⟩
  case round =>
    rename_i wr
    obtain ⟨k, hk, rfl, hb⟩ := hrel
    have HBr := Lib.hid hb
    clear hb
    by_cases hlt : k < s.length
    · have d2 : decide ((k : Int) < (s.length : Int)) = true := by simp; omega
      have hsl := run_piece_to (P := Try.prog) 9 Try.underlying9 s (k : Int) k rfl (by omega)
      have CD := Lib.hid (fun W' => by have := decB_any (s.take k) (by rw [List.length_take]; omega) W'; rw [HC1.out k hlt] at this; simp only [decBE] at this; exact this)
      go_wp2_with fail
      with_reducible refine (CD.out _).mono ?_
      rintro e w4 ⟨h', f', ao', n', cap', rfl, hb4⟩
      have HB4 := Lib.hid (below_step HBr.out hb4)
      clear hb4
      go_wp2_with (refine wpList_store_hid rfl 24 _ _ rfl w4.heap.size _ rfl rfl 24 bz (rowIn_new bz 24 w4) ?_ rfl (btC_one h' f' ao' n' cap') ?_; kernel_rfl; intro w5 hr hbel hoth hsz; have hb := hbel w4.heap.size w4 (Nat.le_refl _) ((Below.refl _ _).alloc (Nat.le_refl _) _); have HB5 := Lib.hid (below_step HB4.out hb); clear hr hbel hoth hsz hb)
      go_roundw
      case rel => exact ⟨k + 1, by omega, by go_num, HB5.out⟩
      case measure => simp [intOf]; omega
    · obtain rfl : k = s.length := by omega
      have d2 : decide ((s.length : Int) < (s.length : Int)) = false := by simp
      go_wp2_with fail
      go_loopw [14] (fun i wr => ∃ k : Nat, k ≤ t.length ∧ i = .int .i64 k ∧ Below W.heap.size W wr) (fun i _ => t.length - (intOf i).toNat)
      case atStart => exact ⟨0, by omega, rfl, HBr.out⟩
      case round =>
        rename_i wq
        obtain ⟨j, hj, rfl, hb⟩ := hrel
        have HBq := Lib.hid hb
        clear hb
        by_cases hlt : j < t.length
        · have d2 : decide ((j : Int) < (t.length : Int)) = true := by simp; omega
          have hsl := run_piece_to (P := Try.prog) 9 Try.underlying9 t (j : Int) j rfl (by omega)
          have CD := Lib.hid (fun W' => by have := decAck_any (t.take j) (by rw [List.length_take]; omega) W'; rw [HC2.out j hlt] at this; exact this)
          simp only [decAV, akE] at CD
          go_wp2_with fail
          with_reducible refine (CD.out _).mono ?_
          rintro e w4 ⟨rfl, hb4⟩
          have HB4 := Lib.hid (below_step HBq.out hb4)
          clear hb4
          go_wp2_with (refine wpList_store_hid rfl 26 _ _ rfl w4.heap.size _ rfl rfl 26 (akC ak0) (rowIn_new (akC ak0) 26 w4) ?_ rfl (akC_one _) ?_; kernel_rfl; intro w5 hr hbel hoth hsz; have hb := hbel w4.heap.size w4 (Nat.le_refl _) ((Below.refl _ _).alloc (Nat.le_refl _) _); have HB5 := Lib.hid (below_step HB4.out hb); clear hr hbel hoth hsz hb)
          go_roundw
          case rel => exact ⟨j + 1, by omega, by go_num, HB5.out⟩
          case measure => simp [intOf]; omega
        · obtain rfl : j = t.length := by omega
          have d2 : decide ((t.length : Int) < (t.length : Int)) = false := by simp
          have CD1 := Lib.hid (fun W' => decB_any (s ++ m) (by rw [List.length_append]; omega) W')
          have CD2 := Lib.hid (fun W' => decAck_any (t ++ m) (by rw [List.length_append]; omega) W')
          simp only [decAV] at CD2
          generalize hg1 : decBE (M.decB (s ++ m)) = g1 at *
          generalize hg2 : akE (M.decA (t ++ m)) = g2 at *
          generalize akX (M.decA (t ++ m)) = ax at *
          clear hg1 hg2
          by_cases hmz : m = []
          · simp only [hmz, if_true] at HM1 HM2
            subst hmz
            simp only [List.append_nil] at CD1 CD2
            cases hbo : M.bOk ⟨h, f, L⟩
            all_goals
              cases ham : M.aMay a
              all_goals
                (try have hv1 := HM1.out hbo)
                (try have hv2 := HM2.out ham)
                (try subst hv1)
                (try subst hv2)
                clear hbo ham
                simp only [M.errOf]
                go_wp2_with fail
                with_reducible refine (CD1.out _).mono ?_
                rintro e w4 ⟨h', f', ao', n', cap', rfl, hb4⟩
                have HB4 := Lib.hid (below_step HBq.out hb4)
                clear hb4
                go_wp2_with (refine wpList_store_hid rfl 24 _ _ rfl w4.heap.size _ rfl rfl 24 bz (rowIn_new bz 24 w4) ?_ rfl (btC_one h' f' ao' n' cap') ?_; kernel_rfl; intro w5 hr hbel hoth hsz; have hb := hbel w4.heap.size w4 (Nat.le_refl _) ((Below.refl _ _).alloc (Nat.le_refl _) _); have HB5 := Lib.hid (below_step HB4.out hb); clear hr hbel hoth hsz hb)
                with_reducible refine (CD2.out _).mono ?_
                rintro e w6 ⟨rfl, hb6⟩
                have HB6 := Lib.hid (below_step HB5.out hb6)
                clear hb6
                go_wp2_with (first | (refine wpList_store_hid rfl 26 _ _ rfl w6.heap.size _ rfl rfl 26 (akC ak0) (rowIn_new (akC ak0) 26 w6) ?_ rfl (akC_one _) ?_; kernel_rfl; intro w7 hr hbel hoth hsz; have hb := hbel w6.heap.size w6 (Nat.le_refl _) ((Below.refl _ _).alloc (Nat.le_refl _) _); have HB7 := Lib.hid (below_step HB6.out hb); clear hr hbel hoth hsz hb) | (go_at_call 15; refine (does12 _).mono ?_; rintro e w8 ⟨rfl, hb8⟩))
                all_goals
                  go_ret
                  exact ⟨rfl, below_step HB7.out (by assumption)⟩
          · simp only [hmz, if_false] at HM1 HM2
            have hz1 : (m == []) = false := by simpa using hmz
            have hz2 : m.isEmpty = false := by simpa using hmz
            cases hbo : M.bOk ⟨h, f, L⟩
            all_goals
              cases ham : M.aMay a
              all_goals
                (try have hv1 := HM1.out hbo)
                (try have hv2 := HM2.out ham)
                (try subst hv1)
                (try subst hv2)
                clear hbo ham
                simp only [M.errOf]
                go_wp2_with fail
                with_reducible refine (CD1.out _).mono ?_
                rintro e w4 ⟨h', f', ao', n', cap', rfl, hb4⟩
                have HB4 := Lib.hid (below_step HBq.out hb4)
                clear hb4
                go_wp2_with (refine wpList_store_hid rfl 24 _ _ rfl w4.heap.size _ rfl rfl 24 bz (rowIn_new bz 24 w4) ?_ rfl (btC_one h' f' ao' n' cap') ?_; kernel_rfl; intro w5 hr hbel hoth hsz; have hb := hbel w4.heap.size w4 (Nat.le_refl _) ((Below.refl _ _).alloc (Nat.le_refl _) _); have HB5 := Lib.hid (below_step HB4.out hb); clear hr hbel hoth hsz hb)
                with_reducible refine (CD2.out _).mono ?_
                rintro e w6 ⟨rfl, hb6⟩
                have HB6 := Lib.hid (below_step HB5.out hb6)
                clear hb6
                go_wp2_with (first | (refine wpList_store_hid rfl 26 _ _ rfl w6.heap.size _ rfl rfl 26 (akC ak0) (rowIn_new (akC ak0) 26 w6) ?_ rfl (akC_one _) ?_; kernel_rfl; intro w7 hr hbel hoth hsz; have hb := hbel w6.heap.size w6 (Nat.le_refl _) ((Below.refl _ _).alloc (Nat.le_refl _) _); have HB7 := Lib.hid (below_step HB6.out hb); clear hr hbel hoth hsz hb) | (go_at_call 15; refine (does12 _).mono ?_; rintro e w8 ⟨rfl, hb8⟩))
                all_goals
                  go_ret
                  exact ⟨rfl, below_step HB7.out (by assumption)⟩

end Go.Proofs.Ytblgfhljaafmhaa
