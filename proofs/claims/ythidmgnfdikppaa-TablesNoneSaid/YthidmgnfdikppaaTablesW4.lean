/- Layer 10: TablesEach, walked. -/
import Derived.Test.YthidmgnfdikppaaTablesX
namespace Go.Proofs.Ythidmgnfdikppaa
set_option linter.unusedVariables false
open Go Go.RowKit
attribute [local go_sem ↓] run_index_S
attribute [local go_sem] S_append S_extract

/-- What the walk of one cell stands on. -/
structure Ea10 (W : World) (L : List M.Cl) (p g off : Nat) (w : World) : Prop where
  b : Below W.heap.size W w
  t : TabAt L p w
  c : ∀ j, j < L.length → ClOff (L.getD j M.cl0) w g (off + j * 3)
theorem Ea10.drew {W : World} {L : List M.Cl} {p g off : Nat} {w : World} (h : Ea10 W L p g off w) : Ea10 W L p g off w.drew :=
  ⟨h.b.drew, h.t.same10 rfl, fun j hj => h.c j hj⟩
theorem Ea10.drewN {W : World} {L : List M.Cl} {p g off : Nat} {w : World} (h : Ea10 W L p g off w) (n : Nat) : Ea10 W L p g off (w.drewN n) := by
  have e : ∀ n (w : World), (w.drewN n).heap = w.heap := fun n => by
    induction n with
    | zero => intro w; rfl
    | succ n ih => intro w; exact ih _
  exact ⟨below_drewN h.b n, h.t.same10 (e n w), fun j hj => by
    have := h.c j hj
    unfold ClOff World.cell? at *
    rw [e n w]; exact this⟩
theorem ClOff.below10 {c : M.Cl} {w w' : World} {g o : Nat} (h : ClOff c w g o) (hb : Below w.heap.size w w') : ClOff c w' g o :=
  ⟨(hb.cell (block_lt_of_cell h.1)).trans h.1, (hb.cell (block_lt_of_cell h.2.1)).trans h.2.1, (hb.cell (block_lt_of_cell h.2.2)).trans h.2.2⟩
theorem Ea10.below {W : World} {L : List M.Cl} {p g off : Nat} {w w' : World} (h : Ea10 W L p g off w) (hb : Below w.heap.size w w') : Ea10 W L p g off w' :=
  ⟨below_step h.b hb, h.t.below hb, fun j hj => (h.c j hj).below10 hb⟩
theorem Ea10.alloc {W : World} {L : List M.Cl} {p g off : Nat} {w : World} (h : Ea10 W L p g off w) (o : Obj) : Ea10 W L p g off (w.alloc o) :=
  h.below ((Below.refl _ _).alloc (Nat.le_refl _) o)
/-- With the cell that Get gave, and the two of the list that are read. -/
structure Eb10 (W : World) (L : List M.Cl) (p g off : Nat) (cf : M.Cl) (b2 f i : Nat) (ki : List UInt8) (w : World) : Prop where
  e : Ea10 W L p g off w
  x : RowIn (clA cf) 38 w b2
  f : ClOff cf w g (off + f * 3)
  i : w.cell? ⟨g, off + i * 3, none⟩ = some (.string (S ki))
theorem Eb10.below {W : World} {L : List M.Cl} {p g off : Nat} {cf : M.Cl} {b2 f i : Nat} {ki : List UInt8} {w w' : World} (h : Eb10 W L p g off cf b2 f i ki w) (hb : Below w.heap.size w w') : Eb10 W L p g off cf b2 f i ki w' :=
  ⟨h.e.below hb, h.x.below hb, h.f.below10 hb, (hb.cell (block_lt_of_cell h.i)).trans h.i⟩
theorem Eb10.drew {W : World} {L : List M.Cl} {p g off : Nat} {cf : M.Cl} {b2 f i : Nat} {ki : List UInt8} {w : World} (h : Eb10 W L p g off cf b2 f i ki w) : Eb10 W L p g off cf b2 f i ki w.drew :=
  ⟨h.e.drew, h.x, h.f, h.i⟩
theorem Eb10.s {W : World} {L : List M.Cl} {p g off : Nat} {cf : M.Cl} {b2 f i : Nat} {ki : List UInt8} {V : World} (h : Eb10 W L p g off cf b2 f i ki V) :
    V.cell? ⟨b2, 0, none⟩ = some (.string (S cf.key)) ∧ V.cell? ⟨b2, 1, none⟩ = some (.int .i64 cf.seq) ∧ V.cell? ⟨b2, 2, none⟩ = some (.string (S cf.val)) ∧ V.cell? ⟨g, off + f * 3, none⟩ = some (.string (S cf.key)) ∧ V.cell? ⟨g, off + f * 3 + 1, none⟩ = some (.int .i64 cf.seq) ∧ V.cell? ⟨g, off + f * 3 + 2, none⟩ = some (.string (S cf.val)) ∧ V.cell? ⟨g, off + i * 3, none⟩ = some (.string (S ki)) :=
  ⟨h.x.cell 0, h.x.cell 1, h.x.cell 2, h.f.1, h.f.2.1, h.f.2.2, h.i⟩
def RngC (K : List M.Cl) (w : World) (e : Ending) (w' : World) : Prop := ∃ a c, e = .returned (.slice a K.length c) ∧ ClsAt w' a K ∧ Below w.heap.size w w'
theorem rng_cls {K : List M.Cl} {w : World} {e : Ending} {w' : World} (h : RangeR10 K w e w') : RngC K w e w' := by
  obtain ⟨a, c, h1, h2, h3⟩ := h
  exact ⟨a, c, h1, clsAt_own h2 rfl, h3⟩
theorem rng_one10 (L : List M.Cl) (p : Nat) (ki : List UInt8) (V : World) (h : TabAt L p V) (hs : M.srt none L = true) (hl : L.length ≤ 4096) (hq : ∀ c ∈ L, c.seq ≤ 9223372036854775807) (h1 : ki.length ≤ 64) :
    Calls Try.prog 32 #[.pointer (some ⟨p, 0, none⟩), .string (S ki), .string { data := (ki ++ [0]).toArray }] V fun e w' => RngC (M.rangeL ki (ki ++ [0]) L) V e w' := by
  have h0 : ({ data := (ki ++ [0]).toArray } : ByteArray) = S (ki ++ [0]) := rfl
  rw [h0]
  exact (range10_any L p ki (ki ++ [0]) V h hs hl hq (by omega) (by simp; omega)).mono fun e w' h => rng_cls h
theorem rng_all10 (L : List M.Cl) (p : Nat) (ki : List UInt8) (V : World) (h : TabAt L p V) (hs : M.srt none L = true) (hl : L.length ≤ 4096) (hq : ∀ c ∈ L, c.seq ≤ 9223372036854775807) (h1 : ki.length ≤ 64) :
    Calls Try.prog 32 #[.pointer (some ⟨p, 0, none⟩), .string (S ki), .string { data := #[] }] V fun e w' => RngC (M.rangeL ki [] L) V e w' := by
  have h0 : ({ data := #[] } : ByteArray) = S [] := rfl
  rw [h0]
  exact (range10_any L p ki [] V h hs hl hq (by omega) (by simp)).mono fun e w' h => rng_cls h
theorem cut_tail (L : List M.Cl) (ao : Option Addr) (cap i : Nat) (h1 : i ≤ L.length) (h3 : L.length ≤ cap) : ∃ ao' : Option Addr,
    (∀ (w : World) (k : IntKind), (Instr.slice 22 (.slice ao L.length cap) (some (.int k (i : Int))) none none).run Try.prog w = .ok (.slice ao' (pieceC L i L.length).length (cap - i)) w) ∧
    (∀ w : World, ClsAt w ao L → ClsAt w ao' (pieceC L i L.length)) := by
  obtain ⟨ao', hr, hk⟩ := cut_cells L ao cap i L.length h1 (Nat.le_refl _) h3
  refine ⟨ao', fun w k => ?_, hk⟩
  have := hr w k .i64
  rw [run_slice_lh w 22 ao L.length cap (by rw [elemCl10]; exact Try.underlying22) k .i64 _ _ (by omega) (by omega) (by omega)] at this
  rw [run_slice_l w 22 ao L.length cap (by rw [elemCl10]; exact Try.underlying22) k _ (by omega) (by omega)]
  simpa using this
set_option maxHeartbeats 8000000 in
set_option maxRecDepth 100000 in
theorem tablesEach_calls (W : World) (v : Value) (hv : UCs W v) :
    Calls Try.prog 9 #[v] W fun e w' => e = .returned (.bool true) ∧ Below W.heap.size W w' := by
  obtain ⟨L, ao, cap, rfl, hl, hi, hc, hL⟩ := hv
  have CG := Lib.hid (show Calls Try.prog 22 #[.slice ao L.length cap, .int .i64 200] W fun e w' => GreatR9 L 200 W e w' from great9_any L cap 200 (by omega) hL hl)
  unfold GreatR9 at CG
  have CN := Lib.hid (fun (h : SmallCs9 L 200) V (h1 : ClsAt V ao L) hs => opened10_no L ao cap V h1 (by have := h.1; omega) hc (h.oks hi) hs)
  have CY := Lib.hid (fun (h : SmallCs9 L 200) V (h1 : ClsAt V ao L) hs => opened10_yes L ao cap V h1 (by have := h.1; omega) hc hi (h.oks hi) hs)
  have CD := Lib.hid does10
  have HLw := Lib.hid hL
  have HB := Lib.hid (Below.refl W.heap.size W)
  have HI := Lib.hid hi
  clear hL hi
  go_enter Try.func9, Try.ntmps9
  go_wp2_with fail
  with_reducible refine CG.out.mono ?_
  rintro e w0 ⟨rfl | ⟨rfl, hsm⟩, rfl⟩
  · go_wp2_with fail
    go_ret
    exact ⟨rfl, HB.out⟩
  replace CN := Lib.hid (CN.out hsm)
  replace CY := Lib.hid (CY.out hsm)
  have hl2 : L.length ≤ 200 := hsm.1
  have HOK := Lib.hid (hsm.oks HI.out)
  clear hsm CG hl
  go_wp2_with fail
  cases hs : M.srt none L with
  | false =>
    with_reducible refine (CN.out _ HLw.out hs).mono ?_
    rintro e w1 ⟨rfl, hbq⟩
    replace HB := carry hbq HB
    clear hbq hs
    go_wp2_with fail
    with_reducible refine (CD.out _).mono ?_
    rintro e w2 ⟨rfl, hbq⟩
    replace HB := carry hbq HB
    clear hbq
    go_wp2_with fail
    go_ret
    exact ⟨rfl, HB.out⟩
  | true =>
    have HS := Lib.hid hs
    have HQ : Hid (∀ c ∈ L, c.seq ≤ 9223372036854775807) := Lib.hid fun c hc => (HI.out c hc).h2
    have HKL : Hid (∀ c ∈ L, c.key.length ≤ 64) := Lib.hid fun c hc => (M.mayC_true.1 (M.srt_may hs c hc)).2.1
    with_reducible refine (CY.out _ HLw.out hs).mono ?_
    rintro e w1 ⟨p, rfl, ht, hbq⟩
    replace HB := carry hbq HB
    replace HLw := carry hbq HLw
    have HT := Lib.hid ht
    clear hbq hs ht CN CY
    go_wp2_with fail
    go_loopw [5] (fun v5 wr => ∃ i : Nat, i ≤ L.length ∧ v5 = .int .i64 i ∧ Hid (Below W.heap.size W wr) ∧ Hid (TabAt L p wr) ∧ Hid (ClsAt wr ao L)) (fun v _ => L.length - (intOf v).toNat)
    case atStart => exact ⟨0, Nat.zero_le _, rfl, HB, HT, HLw⟩
    case round =>
      clear HB HT HLw
      obtain ⟨i, hi, rfl, HB, HT, HLw⟩ := hrel
      by_cases hlt : i < L.length
      · have d1 : decide ((i : Int) < (L.length : Int)) = true := by simp; omega
        have d2 : decide (i < L.length) = true := by simp; omega
        have hii : (i : Int) < (L.length : Int) := by omega
        obtain ⟨g, off, rfl, hcs⟩ := HLw.out (by intro e; subst e; simp at hlt)
        have HE := Lib.hid (show Ea10 W L p g off wr from ⟨HB.out, HT.out, hcs⟩)
        have HKI := HKL.out _ (M.getD_memC hlt)
        obtain ⟨ki, hki⟩ : ∃ ki, (L.getD i M.cl0).key = ki := ⟨_, rfl⟩
        rw [hki] at HKI
        clear HB HT HLw hcs
        go_wp2_with fail
        go_loopw [6] (fun v6 wr => ∃ f : Nat, f ≤ i ∧ v6 = .int .i64 f ∧ Hid (∀ k, f ≤ k → k ≤ i → (L.getD k M.cl0).key = ki) ∧ Hid (Ea10 W L p g off wr)) (fun v _ => (intOf v).toNat)
        case atStart => exact ⟨i, Nat.le_refl _, rfl, Lib.hid (fun k h1 h2 => by obtain rfl : k = i := by omega
                                                                                 exact hki), HE⟩
        case round =>
          clear HE
          obtain ⟨f, hf, rfl, HF, HE⟩ := hrel
          obtain ⟨z0, -, -⟩ := HE.out.c i hlt
          rw [hki] at z0
          have HX1 : Hid (0 < f → ClOff (L.getD (f - 1) M.cl0) wr g (off + (f - 1) * 3)) := Lib.hid fun h => HE.out.c (f - 1) (by omega)
          have hq : (f = 0) ∨ (0 < f ∧ ((L.getD (f - 1) M.cl0).key = ki) ∨ (0 < f ∧ (L.getD (f - 1) M.cl0).key ≠ ki)) := by
            rcases Nat.eq_zero_or_pos f with h | h
            · exact .inl h
            · exact .inr (by by_cases q : (L.getD (f - 1) M.cl0).key = ki; exact .inl ⟨h, q⟩; exact .inr ⟨h, q⟩)
          rcases hq with hq | ⟨h0, hq⟩ | ⟨h0, hq⟩
          rotate_left
          · obtain ⟨y0, -, -⟩ := HX1.out h0
            rw [hq] at y0
            have hd0 : decide (0 < f) = true := by simp; omega
            have hd1 : (0 : Int) < (f : Int) := by omega
            have hw1 : IntKind.i64.wrap ((f : Int) - 1) = ((f - 1 : Nat) : Int) := by rw [IntWalk.i64_in _ (by omega)]; omega
            have hw2 : ((f - 1 : Nat) : Int) < (L.length : Int) := by omega
            have hw3 : (0 : Int) ≤ ((f - 1 : Nat) : Int) := by omega
            have HF2 := Lib.hid (show ∀ k, f - 1 ≤ k → k ≤ i → (L.getD k M.cl0).key = ki from fun k h1 h2 => by
              by_cases e : k = f - 1
              · subst e; exact hq
              · exact HF.out k (by omega) h2)
            clear hq HX1 HF
            go_wp2_with fail
            go_quiet (fail)
            replace HE := Lib.hid (HE.out.drewN nq)
            clear z0 y0
            go_wp2_with fail
            go_roundw
            case rel => exact ⟨f - 1, by omega, rfl, HF2, HE⟩
            case measure => simp [intOf]; omega
          · obtain ⟨y0, -, -⟩ := HX1.out h0
            obtain ⟨kf, hkf⟩ : ∃ kf, (L.getD (f - 1) M.cl0).key = kf := ⟨_, rfl⟩
            rw [hkf] at y0 hq
            have hqb : (kf == ki) = false := by simpa using hq
            have hd0 : decide (0 < f) = true := by simp; omega
            have hd1 : (0 : Int) < (f : Int) := by omega
            have hw1 : IntKind.i64.wrap ((f : Int) - 1) = ((f - 1 : Nat) : Int) := by rw [IntWalk.i64_in _ (by omega)]; omega
            have hw2 : ((f - 1 : Nat) : Int) < (L.length : Int) := by omega
            have hw3 : (0 : Int) ≤ ((f - 1 : Nat) : Int) := by omega
            have HF1 := Lib.hid (show f = 0 ∨ (L.getD (f - 1) M.cl0).key ≠ ki from .inr (by rw [hkf]; exact hq))
            clear hq HX1 hkf
            go_wp2_with fail
            go_quiet (fail)
            replace HE := Lib.hid (HE.out.drewN nq)
            clear z0 y0 hd0 hd1 hw1 hw2 hw3 hqb
            go_wp2_with fail
            go_loopw [7] (fun v7 wr => ∃ l : Nat, i ≤ l ∧ l ≤ L.length ∧ v7 = .int .i64 l ∧ Hid (∀ k, i ≤ k → k < l → (L.getD k M.cl0).key = ki) ∧ Hid (Ea10 W L p g off wr)) (fun v _ => L.length - (intOf v).toNat)
            case atStart => exact ⟨i, Nat.le_refl _, hi, rfl, Lib.hid (fun k h1 h2 => by omega), HE⟩
            case round =>
              clear HE
              obtain ⟨l, hil, hln, rfl, HL2, HE⟩ := hrel
              obtain ⟨z0, -, -⟩ := HE.out.c i hlt
              rw [hki] at z0
              have HX1 : Hid (l < L.length → ClOff (L.getD l M.cl0) wr g (off + l * 3)) := Lib.hid fun h => HE.out.c l h
              have hq : (l = L.length) ∨ (l < L.length ∧ ((L.getD l M.cl0).key = ki) ∨ (l < L.length ∧ (L.getD l M.cl0).key ≠ ki)) := by
                rcases Nat.lt_or_ge l L.length with h | h
                · exact .inr (by by_cases q : (L.getD l M.cl0).key = ki; exact .inl ⟨h, q⟩; exact .inr ⟨h, q⟩)
                · exact .inl (by omega)
              rcases hq with hq | ⟨h0, hq⟩ | ⟨h0, hq⟩
              rotate_left
              · obtain ⟨y0, -, -⟩ := HX1.out h0
                rw [hq] at y0
                have hd0 : decide ((l : Int) < (L.length : Int)) = true := by simp; omega
                have hd2 : decide (l < L.length) = true := by simp; omega
                have hd1 : (l : Int) < (L.length : Int) := by omega
                have HL3 := Lib.hid (show ∀ k, i ≤ k → k < l + 1 → (L.getD k M.cl0).key = ki from fun k h1 h2 => by
                  by_cases e : k = l
                  · subst e; exact hq
                  · exact HL2.out k h1 (by omega))
                clear hq HX1 HL2
                go_wp2_with fail
                go_quiet (fail)
                replace HE := Lib.hid (HE.out.drewN nq)
                clear z0 y0
                go_wp2_with fail
                go_roundw
                case rel => exact ⟨l + 1, by omega, by omega, by go_num, HL3, HE⟩
                case measure => simp [intOf]; omega
              · obtain ⟨y0, -, -⟩ := HX1.out h0
                have hli : i < l := by
                  rcases Nat.lt_or_ge i l with h | h
                  · exact h
                  · obtain rfl : l = i := by omega
                    exact absurd hki hq
                have HG := Lib.hid (show M.Grp L ki f l from by
                  subst hki
                  exact M.grp_of HS.out hlt hf hli hln HF.out HF1.out HL2.out (.inr hq))
                obtain ⟨kl, hkl⟩ : ∃ kl, (L.getD l M.cl0).key = kl := ⟨_, rfl⟩
                rw [hkl] at y0 hq
                have hqb : (kl == ki) = false := by simpa using hq
                have hd0 : decide ((l : Int) < (L.length : Int)) = true := by simp; omega
                have hd2 : decide (l < L.length) = true := by simp; omega
                have hd1 : (l : Int) < (L.length : Int) := by omega
                clear hq HX1 hkl HL2 HF HF1
                go_wp2_with fail
                go_quiet (fail)
                replace HE := Lib.hid (HE.out.drewN nq)
                clear z0 y0 hd0 hd2 hd1 hqb
                obtain ⟨wq, hwq⟩ : ∃ x, x = wr.drewN nq := ⟨_, rfl⟩
                rw [← hwq] at HE ⊢
                clear hwq
                obtain ⟨z0, -, -⟩ := HE.out.c i hlt
                rw [hki] at z0
                have hfl := HG.out.fl
                have CGt := Lib.hid (get10_any L p ki wq HE.out.t HS.out (by omega) HQ.out (by omega))
                rw [HG.out.find] at CGt
                unfold FindR9 at CGt
                simp only [Option.getD_some, Option.isSome_some] at CGt
                go_wp2_with fail
                with_reducible refine (CGt.out).mono ?_
                rintro e w2 ⟨rfl, hbq⟩
                replace HE := Lib.hid (HE.out.below hbq)
                clear hbq CGt z0
                have HX := Lib.hid (rowIn_new (clA (L.getD f M.cl0)) 38 w2)
                replace HE := Lib.hid (HE.out.alloc (.cells (clA (L.getD f M.cl0)) 38))
                generalize hcf : L.getD f M.cl0 = cf at *
                go_wp2_with fail
                have hfn : f < L.length := by omega
                have HE3 := Lib.hid (show Eb10 W L p g off cf w2.heap.size f i ki (w2.alloc (.cells #[.string (S cf.key), .int .i64 cf.seq, .string (S cf.val)] 38)) from ⟨HE.out, HX.out, by have := HE.out.c f hfn; rwa [hcf] at this, by have := (HE.out.c i hlt).1; rwa [hki] at this⟩)
                clear HE HX
                have HE := HE3
                clear HE3
                obtain ⟨aF, hr1, hk1⟩ := cut_cells L (some ⟨g, off, none⟩) cap f l (by omega) hln hc
                obtain ⟨aG, hr2, hk2⟩ := cut_tail L (some ⟨g, off, none⟩) cap f (by omega) hc
                have hp1 := pieceC_len L (i := f) (j := l) (by omega) hln
                have hp2 := pieceC_len L (i := f) (j := L.length) (by omega) (Nat.le_refl _)
                have CR1 := Lib.hid (fun V (h : TabAt L p V) => rng_one10 L p ki V h HS.out (by omega) HQ.out (by omega))
                have CR2 := Lib.hid (fun V (h : TabAt L p V) => rng_all10 L p ki V h HS.out (by omega) HQ.out (by omega))
                rw [HG.out.one] at CR1
                rw [HG.out.all] at CR2
                have CS1 := Lib.hid (fun V a c (h : Ea10 W L p g off V) (h1 : ClsAt V a (pieceC L f l)) => sameCells9_yes (pieceC L f l) (pieceC L f l).length rfl a aF c (cap - f) (by omega) (w := V) h1 (hk1 V (fun _ => ⟨g, off, rfl, h.c⟩)))
                have CS2 := Lib.hid (fun V a c (h : Ea10 W L p g off V) (h1 : ClsAt V a (pieceC L f L.length)) => sameCells9_yes (pieceC L f L.length) (pieceC L f L.length).length rfl a aG c (cap - f) (by omega) (w := V) h1 (hk2 V (fun _ => ⟨g, off, rfl, h.c⟩)))
                unfold RngC at CR1 CR2
                clear hk1 hk2 hp1 hp2 HG hcf
                have hfi : (f : Int) < (L.length : Int) := by omega
                generalize pieceC L f l = K1 at *
                generalize pieceC L f L.length = K2 at *
                generalize w2.alloc (.cells #[.string (S cf.key), .int .i64 cf.seq, .string (S cf.val)] 38) = w3 at *
                generalize w2.heap.size = b2 at *
                refine wp_region_held_drew (S := fun V => V.cell? ⟨b2, 0, none⟩ = some (.string (S cf.key)) ∧ V.cell? ⟨b2, 1, none⟩ = some (.int .i64 cf.seq) ∧ V.cell? ⟨b2, 2, none⟩ = some (.string (S cf.val)) ∧ V.cell? ⟨g, off + f * 3, none⟩ = some (.string (S cf.key)) ∧ V.cell? ⟨g, off + f * 3 + 1, none⟩ = some (.int .i64 cf.seq) ∧ V.cell? ⟨g, off + f * 3 + 2, none⟩ = some (.string (S cf.val)) ∧ V.cell? ⟨g, off + i * 3, none⟩ = some (.string (S ki))) (by kernel_rfl) ?_ (fun hHeld => ?_)
                · exact HE.out.drew.s
                replace HE := Lib.hid HE.out.drew
                refine wpAnyH_take (i := 0) (oi := { dst := some 75, op := Op.move (Operand.tmp 9), type := 4, pos := "outright.go:102", after := #[], guard := none }) (v := ?_) rfl (by kernel_rfl) (by kernel_rfl) (by kernel_rfl) (fun _ _ _ h => h) (Or.inl ⟨by rfl, ?_⟩) (by assumption) ?_
                rotate_left
                · (intro w hSw; (try dsimp only at hSw); go_simp); (first | done | with_reducible rfl)
                try simp only [Act.put, List.setIfInBounds_toArray, List.set_cons_zero, List.set_cons_succ]
                refine wpAnyH_take (i := 1) (oi := { dst := some 76, op := Op.unOp UnOp.not 4 (Operand.tmp 75), type := 4, pos := "outright.go:102", after := #[{ on := 0, ground := Ground.data }], guard := none }) (v := ?_) rfl (by kernel_rfl) (by kernel_rfl) (by kernel_rfl) (fun _ _ _ h => h) (Or.inl ⟨by rfl, ?_⟩) (by assumption) ?_
                rotate_left
                · (intro w hSw; (try dsimp only at hSw); go_simp); (first | done | with_reducible rfl)
                try simp only [Act.put, List.setIfInBounds_toArray, List.set_cons_zero, List.set_cons_succ]
                refine wpAnyH_take (i := 2) (oi := { dst := some 77, op := Op.move (Operand.tmp 76), type := 4, pos := "outright.go:102", after := #[{ on := 1, ground := Ground.data }], guard := none }) (v := ?_) rfl (by kernel_rfl) (by kernel_rfl) (by kernel_rfl) (fun _ _ _ h => h) (Or.inl ⟨by rfl, ?_⟩) (by assumption) ?_
                rotate_left
                · (intro w hSw; (try dsimp only at hSw); go_simp); (first | done | with_reducible rfl)
                try simp only [Act.put, List.setIfInBounds_toArray, List.set_cons_zero, List.set_cons_succ]
                refine wpAnyH_take (i := 3) (oi := { dst := some 78, op := Op.load 38 (Operand.tmp 8), type := 38, pos := "outright.go:102", after := #[{ on := 2, ground := Ground.guard }], guard := some (2, false) }) (v := ?_) rfl (by kernel_rfl) (by kernel_rfl) (by kernel_rfl) (fun _ _ _ h => h) (Or.inl ⟨by rfl, ?_⟩) (by assumption) ?_
                rotate_left
                · (intro w hSw; (try dsimp only at hSw); go_simp); (first | done | with_reducible rfl)
                try simp only [Act.put, List.setIfInBounds_toArray, List.set_cons_zero, List.set_cons_succ]
                refine wpAnyH_take (i := 4) (oi := { dst := some 79, op := Op.move (Operand.tmp 0), type := 22, pos := "outright.go:102", after := #[{ on := 2, ground := Ground.guard }], guard := some (2, false) }) (v := ?_) rfl (by kernel_rfl) (by kernel_rfl) (by kernel_rfl) (fun _ _ _ h => h) (Or.inl ⟨by rfl, ?_⟩) (by assumption) ?_
                rotate_left
                · (intro w hSw; (try dsimp only at hSw); go_simp); (first | done | with_reducible rfl)
                try simp only [Act.put, List.setIfInBounds_toArray, List.set_cons_zero, List.set_cons_succ]
                refine wpAnyH_take (i := 5) (oi := { dst := some 80, op := Op.move (Operand.tmp 6), type := 3, pos := "outright.go:102", after := #[{ on := 2, ground := Ground.guard }], guard := some (2, false) }) (v := ?_) rfl (by kernel_rfl) (by kernel_rfl) (by kernel_rfl) (fun _ _ _ h => h) (Or.inl ⟨by rfl, ?_⟩) (by assumption) ?_
                rotate_left
                · (intro w hSw; (try dsimp only at hSw); go_simp); (first | done | with_reducible rfl)
                try simp only [Act.put, List.setIfInBounds_toArray, List.set_cons_zero, List.set_cons_succ]
                refine wpAnyH_take (i := 6) (oi := { dst := some 81, op := Op.indexAddr 22 (Operand.tmp 79) (Operand.tmp 80), type := 0, pos := "outright.go:102", after := #[{ on := 4, ground := Ground.data }, { on := 5, ground := Ground.data }, { on := 2, ground := Ground.guard }], guard := some (2, false) }) (v := ?_) rfl (by kernel_rfl) (by kernel_rfl) (by kernel_rfl) (fun _ _ _ h => h) (Or.inl ⟨by rfl, ?_⟩) (by assumption) ?_
                rotate_left
                · (intro w hSw; (try dsimp only at hSw); go_simp); (first | done | with_reducible rfl)
                try simp only [Act.put, List.setIfInBounds_toArray, List.set_cons_zero, List.set_cons_succ]
                refine wpAnyH_take (i := 7) (oi := { dst := some 82, op := Op.load 38 (Operand.tmp 81), type := 38, pos := "outright.go:102", after := #[{ on := 6, ground := Ground.data }, { on := 2, ground := Ground.guard }], guard := some (2, false) }) (v := ?_) rfl (by kernel_rfl) (by kernel_rfl) (by kernel_rfl) (fun _ _ _ h => h) (Or.inl ⟨by rfl, ?_⟩) (by assumption) ?_
                rotate_left
                · (intro w hSw; (try dsimp only at hSw); go_simp); (first | done | with_reducible rfl)
                try simp only [Act.put, List.setIfInBounds_toArray, List.set_cons_zero, List.set_cons_succ]
                refine wpAnyH_take (i := 8) (oi := { dst := some 83, op := Op.binOp BinOp.neq 38 (Operand.tmp 78) (Operand.tmp 82) 38, type := 4, pos := "outright.go:102", after := #[{ on := 3, ground := Ground.data }, { on := 7, ground := Ground.data }, { on := 2, ground := Ground.guard }], guard := some (2, false) }) (v := ?_) rfl (by kernel_rfl) (by kernel_rfl) (by kernel_rfl) (fun _ _ _ h => h) (Or.inl ⟨by rfl, ?_⟩) (by assumption) ?_
                rotate_left
                · (intro w hSw; (try dsimp only at hSw); go_simp); (first | done | with_reducible rfl)
                try simp only [Act.put, List.setIfInBounds_toArray, List.set_cons_zero, List.set_cons_succ]
                refine wpAnyH_take (i := 9) (oi := { dst := some 84, op := Op.pick (Operand.tmp 77) (Operand.const (Value.bool true)) (Operand.tmp 83), type := 4, pos := "outright.go:102", after := #[{ on := 2, ground := Ground.data }, { on := 8, ground := Ground.data }], guard := none }) (v := ?_) rfl (by kernel_rfl) (by kernel_rfl) (by kernel_rfl) (fun _ _ _ h => h) (Or.inl ⟨by rfl, ?_⟩) (by assumption) ?_
                rotate_left
                · (intro w hSw; (try dsimp only at hSw); go_simp); (first | done | with_reducible rfl)
                try simp only [Act.put, List.setIfInBounds_toArray, List.set_cons_zero, List.set_cons_succ]
                refine wpAnyH_take (i := 10) (oi := { dst := some 85, op := Op.move (Operand.tmp 84), type := 4, pos := "outright.go:102", after := #[{ on := 9, ground := Ground.data }, { on := 2, ground := Ground.chain }], guard := none }) (v := ?_) rfl (by kernel_rfl) (by kernel_rfl) (by kernel_rfl) (fun _ _ _ h => h) (Or.inl ⟨by rfl, ?_⟩) (by assumption) ?_
                rotate_left
                · (intro w hSw; (try dsimp only at hSw); go_simp); (first | done | with_reducible rfl)
                try simp only [Act.put, List.setIfInBounds_toArray, List.set_cons_zero, List.set_cons_succ]
                refine wpAnyH_take (i := 11) (oi := { dst := some 86, op := Op.move (Operand.tmp 3), type := 32, pos := "outright.go:102", after := #[{ on := 10, ground := Ground.guard }], guard := some (10, false) }) (v := ?_) rfl (by kernel_rfl) (by kernel_rfl) (by kernel_rfl) (fun _ _ _ h => h) (Or.inl ⟨by rfl, ?_⟩) (by assumption) ?_
                rotate_left
                · (intro w hSw; (try dsimp only at hSw); go_simp); (first | done | with_reducible rfl)
                try simp only [Act.put, List.setIfInBounds_toArray, List.set_cons_zero, List.set_cons_succ]
                refine wpAnyH_take (i := 12) (oi := { dst := some 87, op := Op.move (Operand.tmp 0), type := 22, pos := "outright.go:102", after := #[{ on := 10, ground := Ground.guard }], guard := some (10, false) }) (v := ?_) rfl (by kernel_rfl) (by kernel_rfl) (by kernel_rfl) (fun _ _ _ h => h) (Or.inl ⟨by rfl, ?_⟩) (by assumption) ?_
                rotate_left
                · (intro w hSw; (try dsimp only at hSw); go_simp); (first | done | with_reducible rfl)
                try simp only [Act.put, List.setIfInBounds_toArray, List.set_cons_zero, List.set_cons_succ]
                refine wpAnyH_take (i := 13) (oi := { dst := some 88, op := Op.move (Operand.tmp 5), type := 3, pos := "outright.go:102", after := #[{ on := 10, ground := Ground.guard }], guard := some (10, false) }) (v := ?_) rfl (by kernel_rfl) (by kernel_rfl) (by kernel_rfl) (fun _ _ _ h => h) (Or.inl ⟨by rfl, ?_⟩) (by assumption) ?_
                rotate_left
                · (intro w hSw; (try dsimp only at hSw); go_simp); (first | done | with_reducible rfl)
                try simp only [Act.put, List.setIfInBounds_toArray, List.set_cons_zero, List.set_cons_succ]
                refine wpAnyH_take (i := 14) (oi := { dst := some 89, op := Op.indexAddr 22 (Operand.tmp 87) (Operand.tmp 88), type := 0, pos := "outright.go:102", after := #[{ on := 12, ground := Ground.data }, { on := 13, ground := Ground.data }, { on := 10, ground := Ground.guard }], guard := some (10, false) }) (v := ?_) rfl (by kernel_rfl) (by kernel_rfl) (by kernel_rfl) (fun _ _ _ h => h) (Or.inl ⟨by rfl, ?_⟩) (by assumption) ?_
                rotate_left
                · (intro w hSw; (try dsimp only at hSw); go_simp); (first | done | with_reducible rfl)
                try simp only [Act.put, List.setIfInBounds_toArray, List.set_cons_zero, List.set_cons_succ]
                refine wpAnyH_take (i := 15) (oi := { dst := some 90, op := Op.fieldAddr 38 (Operand.tmp 89) 0, type := 0, pos := "outright.go:102", after := #[{ on := 14, ground := Ground.data }, { on := 10, ground := Ground.guard }], guard := some (10, false) }) (v := ?_) rfl (by kernel_rfl) (by kernel_rfl) (by kernel_rfl) (fun _ _ _ h => h) (Or.inl ⟨by rfl, ?_⟩) (by assumption) ?_
                rotate_left
                · (intro w hSw; (try dsimp only at hSw); go_simp); (first | done | with_reducible rfl)
                try simp only [Act.put, List.setIfInBounds_toArray, List.set_cons_zero, List.set_cons_succ]
                refine wpAnyH_take (i := 16) (oi := { dst := some 91, op := Op.load 9 (Operand.tmp 90), type := 9, pos := "outright.go:102", after := #[{ on := 15, ground := Ground.data }, { on := 10, ground := Ground.guard }], guard := some (10, false) }) (v := ?_) rfl (by kernel_rfl) (by kernel_rfl) (by kernel_rfl) (fun _ _ _ h => h) (Or.inl ⟨by rfl, ?_⟩) (by assumption) ?_
                rotate_left
                · (intro w hSw; (try dsimp only at hSw); go_simp); (first | done | with_reducible rfl)
                try simp only [Act.put, List.setIfInBounds_toArray, List.set_cons_zero, List.set_cons_succ]
                refine wpAnyH_take (i := 17) (oi := { dst := some 92, op := Op.move (Operand.tmp 0), type := 22, pos := "outright.go:102", after := #[{ on := 10, ground := Ground.guard }], guard := some (10, false) }) (v := ?_) rfl (by kernel_rfl) (by kernel_rfl) (by kernel_rfl) (fun _ _ _ h => h) (Or.inl ⟨by rfl, ?_⟩) (by assumption) ?_
                rotate_left
                · (intro w hSw; (try dsimp only at hSw); go_simp); (first | done | with_reducible rfl)
                try simp only [Act.put, List.setIfInBounds_toArray, List.set_cons_zero, List.set_cons_succ]
                refine wpAnyH_take (i := 18) (oi := { dst := some 93, op := Op.move (Operand.tmp 5), type := 3, pos := "outright.go:102", after := #[{ on := 10, ground := Ground.guard }], guard := some (10, false) }) (v := ?_) rfl (by kernel_rfl) (by kernel_rfl) (by kernel_rfl) (fun _ _ _ h => h) (Or.inl ⟨by rfl, ?_⟩) (by assumption) ?_
                rotate_left
                · (intro w hSw; (try dsimp only at hSw); go_simp); (first | done | with_reducible rfl)
                try simp only [Act.put, List.setIfInBounds_toArray, List.set_cons_zero, List.set_cons_succ]
                refine wpAnyH_take (i := 19) (oi := { dst := some 94, op := Op.indexAddr 22 (Operand.tmp 92) (Operand.tmp 93), type := 0, pos := "outright.go:102", after := #[{ on := 17, ground := Ground.data }, { on := 18, ground := Ground.data }, { on := 10, ground := Ground.guard }], guard := some (10, false) }) (v := ?_) rfl (by kernel_rfl) (by kernel_rfl) (by kernel_rfl) (fun _ _ _ h => h) (Or.inl ⟨by rfl, ?_⟩) (by assumption) ?_
                rotate_left
                · (intro w hSw; (try dsimp only at hSw); go_simp); (first | done | with_reducible rfl)
                try simp only [Act.put, List.setIfInBounds_toArray, List.set_cons_zero, List.set_cons_succ]
                refine wpAnyH_take (i := 20) (oi := { dst := some 95, op := Op.fieldAddr 38 (Operand.tmp 94) 0, type := 0, pos := "outright.go:102", after := #[{ on := 19, ground := Ground.data }, { on := 10, ground := Ground.guard }], guard := some (10, false) }) (v := ?_) rfl (by kernel_rfl) (by kernel_rfl) (by kernel_rfl) (fun _ _ _ h => h) (Or.inl ⟨by rfl, ?_⟩) (by assumption) ?_
                rotate_left
                · (intro w hSw; (try dsimp only at hSw); go_simp); (first | done | with_reducible rfl)
                try simp only [Act.put, List.setIfInBounds_toArray, List.set_cons_zero, List.set_cons_succ]
                refine wpAnyH_take (i := 21) (oi := { dst := some 96, op := Op.load 9 (Operand.tmp 95), type := 9, pos := "outright.go:102", after := #[{ on := 20, ground := Ground.data }, { on := 10, ground := Ground.guard }], guard := some (10, false) }) (v := ?_) rfl (by kernel_rfl) (by kernel_rfl) (by kernel_rfl) (fun _ _ _ h => h) (Or.inl ⟨by rfl, ?_⟩) (by assumption) ?_
                rotate_left
                · (intro w hSw; (try dsimp only at hSw); go_simp); (first | done | with_reducible rfl)
                try simp only [Act.put, List.setIfInBounds_toArray, List.set_cons_zero, List.set_cons_succ]
                refine wpAnyH_take (i := 22) (oi := { dst := some 97, op := Op.binOp BinOp.add 9 (Operand.tmp 96) (Operand.const (Value.string { data := #[0] })) 9, type := 9, pos := "outright.go:102", after := #[{ on := 21, ground := Ground.data }, { on := 10, ground := Ground.guard }], guard := some (10, false) }) (v := ?_) rfl (by kernel_rfl) (by kernel_rfl) (by kernel_rfl) (fun _ _ _ h => h) (Or.inl ⟨by rfl, ?_⟩) (by assumption) ?_
                rotate_left
                · (intro w hSw; (try dsimp only at hSw); go_simp; rw [if_neg (by omega)])
                try simp only [Act.put, List.setIfInBounds_toArray, List.set_cons_zero, List.set_cons_succ]
                refine wpAnyH_take (i := 24) (oi := { dst := some 99, op := Op.move (Operand.tmp 0), type := 22, pos := "outright.go:102", after := #[{ on := 10, ground := Ground.guard }], guard := some (10, false) }) (v := ?_) rfl (by kernel_rfl) (by kernel_rfl) (by kernel_rfl) (fun _ _ _ h => h) (Or.inl ⟨by rfl, ?_⟩) (by assumption) ?_
                rotate_left
                · (intro w hSw; (try dsimp only at hSw); go_simp); (first | done | with_reducible rfl)
                try simp only [Act.put, List.setIfInBounds_toArray, List.set_cons_zero, List.set_cons_succ]
                refine wpAnyH_take (i := 25) (oi := { dst := some 100, op := Op.move (Operand.tmp 6), type := 3, pos := "outright.go:102", after := #[{ on := 10, ground := Ground.guard }], guard := some (10, false) }) (v := ?_) rfl (by kernel_rfl) (by kernel_rfl) (by kernel_rfl) (fun _ _ _ h => h) (Or.inl ⟨by rfl, ?_⟩) (by assumption) ?_
                rotate_left
                · (intro w hSw; (try dsimp only at hSw); go_simp); (first | done | with_reducible rfl)
                try simp only [Act.put, List.setIfInBounds_toArray, List.set_cons_zero, List.set_cons_succ]
                refine wpAnyH_take (i := 26) (oi := { dst := some 101, op := Op.move (Operand.tmp 7), type := 3, pos := "outright.go:102", after := #[{ on := 10, ground := Ground.guard }], guard := some (10, false) }) (v := ?_) rfl (by kernel_rfl) (by kernel_rfl) (by kernel_rfl) (fun _ _ _ h => h) (Or.inl ⟨by rfl, ?_⟩) (by assumption) ?_
                rotate_left
                · (intro w hSw; (try dsimp only at hSw); go_simp); (first | done | with_reducible rfl)
                try simp only [Act.put, List.setIfInBounds_toArray, List.set_cons_zero, List.set_cons_succ]
                refine wpAnyH_take (i := 27) (oi := { dst := some 102, op := Op.slice 22 (Operand.tmp 99) (some (Operand.tmp 100)) (some (Operand.tmp 101)) none, type := 22, pos := "outright.go:102", after := #[{ on := 24, ground := Ground.data }, { on := 25, ground := Ground.data }, { on := 26, ground := Ground.data }, { on := 10, ground := Ground.guard }], guard := some (10, false) }) (v := ?_) rfl (by kernel_rfl) (by kernel_rfl) (by kernel_rfl) (fun _ _ _ h => h) (Or.inl ⟨by rfl, ?_⟩) (by assumption) ?_
                rotate_left
                · (intro w hSw; (try dsimp only at hSw); go_simp); (first | done | with_reducible rfl)
                try simp only [Act.put, List.setIfInBounds_toArray, List.set_cons_zero, List.set_cons_succ]
                refine wpAnyH_ready (rs := [23]) (by kernel_rfl) (by simp) ?_
                refine AllReadyH.cons (o := { dst := some 98, op := Op.call { callee := Callee.value (Operand.func 32), args := #[Operand.tmp 86, Operand.tmp 91, Operand.tmp 97], argTypes := #[32, 9, 9] }, type := 22, pos := "outright.go:102", after := #[{ on := 11, ground := Ground.data }, { on := 16, ground := Ground.data }, { on := 22, ground := Ground.data }, { on := 10, ground := Ground.chain }, { on := 10, ground := Ground.guard }], guard := some (10, false) }) rfl (fun K hK => ?_) AllReadyH.nil
                go_simp
                go_at_call 32
                with_reducible refine (CR1.out _ HE.out.e.t).mono ?_
                rintro e w5 ⟨aw5, cw5, rfl, hw5, hbq⟩
                replace HE := Lib.hid (HE.out.below hbq)
                have HK := Lib.hid hw5
                clear hbq hw5
                go_wp2_with fail
                refine hK.out _ _ ?_ (fun hHeld => ?_)
                · exact HE.out.s
                clear hK K
                try simp only [Act.put, List.setIfInBounds_toArray, List.set_cons_zero, List.set_cons_succ]
                refine wpAnyH_ready (rs := [28]) (by kernel_rfl) (by simp) ?_
                refine AllReadyH.cons (o := { dst := some 103, op := Op.call { callee := Callee.value (Operand.func 35), args := #[Operand.tmp 98, Operand.tmp 102], argTypes := #[22, 22] }, type := 4, pos := "outright.go:102", after := #[{ on := 23, ground := Ground.data }, { on := 27, ground := Ground.data }, { on := 23, ground := Ground.chain }, { on := 10, ground := Ground.guard }], guard := some (10, false) }) rfl (fun K hK => ?_) AllReadyH.nil
                go_simp
                go_at_call 35
                with_reducible refine (CS1.out _ _ _ HE.out.e HK.out).mono ?_
                rintro e w6 ⟨rfl, hbq⟩
                replace HE := Lib.hid (HE.out.below hbq)
                clear hbq HK
                go_wp2_with fail
                refine hK.out _ _ ?_ (fun hHeld => ?_)
                · exact HE.out.s
                clear hK K
                try simp only [Act.put, List.setIfInBounds_toArray, List.set_cons_zero, List.set_cons_succ]
                refine wpAnyH_take (i := 29) (oi := { dst := some 104, op := Op.unOp UnOp.not 4 (Operand.tmp 103), type := 4, pos := "outright.go:102", after := #[{ on := 28, ground := Ground.data }, { on := 10, ground := Ground.guard }], guard := some (10, false) }) (v := ?_) rfl (by kernel_rfl) (by kernel_rfl) (by kernel_rfl) (fun _ _ _ h => h) (Or.inl ⟨by rfl, ?_⟩) (by assumption) ?_
                rotate_left
                · (intro w hSw; (try dsimp only at hSw); go_simp); (first | done | with_reducible rfl)
                try simp only [Act.put, List.setIfInBounds_toArray, List.set_cons_zero, List.set_cons_succ]
                refine wpAnyH_take (i := 30) (oi := { dst := some 105, op := Op.pick (Operand.tmp 85) (Operand.const (Value.bool true)) (Operand.tmp 104), type := 4, pos := "outright.go:102", after := #[{ on := 10, ground := Ground.data }, { on := 29, ground := Ground.data }], guard := none }) (v := ?_) rfl (by kernel_rfl) (by kernel_rfl) (by kernel_rfl) (fun _ _ _ h => h) (Or.inl ⟨by rfl, ?_⟩) (by assumption) ?_
                rotate_left
                · (intro w hSw; (try dsimp only at hSw); go_simp); (first | done | with_reducible rfl)
                try simp only [Act.put, List.setIfInBounds_toArray, List.set_cons_zero, List.set_cons_succ]
                refine wpAnyH_take (i := 31) (oi := { dst := some 106, op := Op.move (Operand.tmp 105), type := 4, pos := "outright.go:102", after := #[{ on := 30, ground := Ground.data }, { on := 28, ground := Ground.chain }], guard := none }) (v := ?_) rfl (by kernel_rfl) (by kernel_rfl) (by kernel_rfl) (fun _ _ _ h => h) (Or.inl ⟨by rfl, ?_⟩) (by assumption) ?_
                rotate_left
                · (intro w hSw; (try dsimp only at hSw); go_simp); (first | done | with_reducible rfl)
                try simp only [Act.put, List.setIfInBounds_toArray, List.set_cons_zero, List.set_cons_succ]
                refine wpAnyH_take (i := 32) (oi := { dst := some 107, op := Op.move (Operand.tmp 3), type := 32, pos := "outright.go:102", after := #[{ on := 31, ground := Ground.guard }], guard := some (31, false) }) (v := ?_) rfl (by kernel_rfl) (by kernel_rfl) (by kernel_rfl) (fun _ _ _ h => h) (Or.inl ⟨by rfl, ?_⟩) (by assumption) ?_
                rotate_left
                · (intro w hSw; (try dsimp only at hSw); go_simp); (first | done | with_reducible rfl)
                try simp only [Act.put, List.setIfInBounds_toArray, List.set_cons_zero, List.set_cons_succ]
                refine wpAnyH_take (i := 33) (oi := { dst := some 108, op := Op.move (Operand.tmp 0), type := 22, pos := "outright.go:102", after := #[{ on := 31, ground := Ground.guard }], guard := some (31, false) }) (v := ?_) rfl (by kernel_rfl) (by kernel_rfl) (by kernel_rfl) (fun _ _ _ h => h) (Or.inl ⟨by rfl, ?_⟩) (by assumption) ?_
                rotate_left
                · (intro w hSw; (try dsimp only at hSw); go_simp); (first | done | with_reducible rfl)
                try simp only [Act.put, List.setIfInBounds_toArray, List.set_cons_zero, List.set_cons_succ]
                refine wpAnyH_take (i := 34) (oi := { dst := some 109, op := Op.move (Operand.tmp 5), type := 3, pos := "outright.go:102", after := #[{ on := 31, ground := Ground.guard }], guard := some (31, false) }) (v := ?_) rfl (by kernel_rfl) (by kernel_rfl) (by kernel_rfl) (fun _ _ _ h => h) (Or.inl ⟨by rfl, ?_⟩) (by assumption) ?_
                rotate_left
                · (intro w hSw; (try dsimp only at hSw); go_simp); (first | done | with_reducible rfl)
                try simp only [Act.put, List.setIfInBounds_toArray, List.set_cons_zero, List.set_cons_succ]
                refine wpAnyH_take (i := 35) (oi := { dst := some 110, op := Op.indexAddr 22 (Operand.tmp 108) (Operand.tmp 109), type := 0, pos := "outright.go:102", after := #[{ on := 33, ground := Ground.data }, { on := 34, ground := Ground.data }, { on := 31, ground := Ground.guard }], guard := some (31, false) }) (v := ?_) rfl (by kernel_rfl) (by kernel_rfl) (by kernel_rfl) (fun _ _ _ h => h) (Or.inl ⟨by rfl, ?_⟩) (by assumption) ?_
                rotate_left
                · (intro w hSw; (try dsimp only at hSw); go_simp); (first | done | with_reducible rfl)
                try simp only [Act.put, List.setIfInBounds_toArray, List.set_cons_zero, List.set_cons_succ]
                refine wpAnyH_take (i := 36) (oi := { dst := some 111, op := Op.fieldAddr 38 (Operand.tmp 110) 0, type := 0, pos := "outright.go:102", after := #[{ on := 35, ground := Ground.data }, { on := 31, ground := Ground.guard }], guard := some (31, false) }) (v := ?_) rfl (by kernel_rfl) (by kernel_rfl) (by kernel_rfl) (fun _ _ _ h => h) (Or.inl ⟨by rfl, ?_⟩) (by assumption) ?_
                rotate_left
                · (intro w hSw; (try dsimp only at hSw); go_simp); (first | done | with_reducible rfl)
                try simp only [Act.put, List.setIfInBounds_toArray, List.set_cons_zero, List.set_cons_succ]
                refine wpAnyH_take (i := 37) (oi := { dst := some 112, op := Op.load 9 (Operand.tmp 111), type := 9, pos := "outright.go:102", after := #[{ on := 36, ground := Ground.data }, { on := 31, ground := Ground.guard }], guard := some (31, false) }) (v := ?_) rfl (by kernel_rfl) (by kernel_rfl) (by kernel_rfl) (fun _ _ _ h => h) (Or.inl ⟨by rfl, ?_⟩) (by assumption) ?_
                rotate_left
                · (intro w hSw; (try dsimp only at hSw); go_simp); (first | done | with_reducible rfl)
                try simp only [Act.put, List.setIfInBounds_toArray, List.set_cons_zero, List.set_cons_succ]
                refine wpAnyH_take (i := 39) (oi := { dst := some 114, op := Op.move (Operand.tmp 0), type := 22, pos := "outright.go:102", after := #[{ on := 31, ground := Ground.guard }], guard := some (31, false) }) (v := ?_) rfl (by kernel_rfl) (by kernel_rfl) (by kernel_rfl) (fun _ _ _ h => h) (Or.inl ⟨by rfl, ?_⟩) (by assumption) ?_
                rotate_left
                · (intro w hSw; (try dsimp only at hSw); go_simp); (first | done | with_reducible rfl)
                try simp only [Act.put, List.setIfInBounds_toArray, List.set_cons_zero, List.set_cons_succ]
                refine wpAnyH_take (i := 40) (oi := { dst := some 115, op := Op.move (Operand.tmp 6), type := 3, pos := "outright.go:102", after := #[{ on := 31, ground := Ground.guard }], guard := some (31, false) }) (v := ?_) rfl (by kernel_rfl) (by kernel_rfl) (by kernel_rfl) (fun _ _ _ h => h) (Or.inl ⟨by rfl, ?_⟩) (by assumption) ?_
                rotate_left
                · (intro w hSw; (try dsimp only at hSw); go_simp); (first | done | with_reducible rfl)
                try simp only [Act.put, List.setIfInBounds_toArray, List.set_cons_zero, List.set_cons_succ]
                refine wpAnyH_take (i := 41) (oi := { dst := some 116, op := Op.slice 22 (Operand.tmp 114) (some (Operand.tmp 115)) none none, type := 22, pos := "outright.go:102", after := #[{ on := 39, ground := Ground.data }, { on := 40, ground := Ground.data }, { on := 31, ground := Ground.guard }], guard := some (31, false) }) (v := ?_) rfl (by kernel_rfl) (by kernel_rfl) (by kernel_rfl) (fun _ _ _ h => h) (Or.inl ⟨by rfl, ?_⟩) (by assumption) ?_
                rotate_left
                · (intro w hSw; (try dsimp only at hSw); go_simp); (first | done | with_reducible rfl)
                try simp only [Act.put, List.setIfInBounds_toArray, List.set_cons_zero, List.set_cons_succ]
                refine wpAnyH_ready (rs := [38]) (by kernel_rfl) (by simp) ?_
                refine AllReadyH.cons (o := { dst := some 113, op := Op.call { callee := Callee.value (Operand.func 32), args := #[Operand.tmp 107, Operand.tmp 112, Operand.const (Value.string { data := #[] })], argTypes := #[32, 9, 9] }, type := 22, pos := "outright.go:102", after := #[{ on := 32, ground := Ground.data }, { on := 37, ground := Ground.data }, { on := 31, ground := Ground.chain }, { on := 31, ground := Ground.guard }], guard := some (31, false) }) rfl (fun K hK => ?_) AllReadyH.nil
                go_simp
                go_at_call 32
                with_reducible refine (CR2.out _ HE.out.e.t).mono ?_
                rintro e w7 ⟨aw7, cw7, rfl, hw7, hbq⟩
                replace HE := Lib.hid (HE.out.below hbq)
                have HK := Lib.hid hw7
                clear hbq hw7
                go_wp2_with fail
                refine hK.out _ _ ?_ (fun hHeld => ?_)
                · exact HE.out.s
                clear hK K
                try simp only [Act.put, List.setIfInBounds_toArray, List.set_cons_zero, List.set_cons_succ]
                refine wpAnyH_ready (rs := [42]) (by kernel_rfl) (by simp) ?_
                refine AllReadyH.cons (o := { dst := some 117, op := Op.call { callee := Callee.value (Operand.func 35), args := #[Operand.tmp 113, Operand.tmp 116], argTypes := #[22, 22] }, type := 4, pos := "outright.go:102", after := #[{ on := 38, ground := Ground.data }, { on := 41, ground := Ground.data }, { on := 38, ground := Ground.chain }, { on := 31, ground := Ground.guard }], guard := some (31, false) }) rfl (fun K hK => ?_) AllReadyH.nil
                go_simp
                go_at_call 35
                with_reducible refine (CS2.out _ _ _ HE.out.e HK.out).mono ?_
                rintro e w8 ⟨rfl, hbq⟩
                replace HE := Lib.hid (HE.out.below hbq)
                clear hbq HK
                go_wp2_with fail
                refine hK.out _ _ ?_ (fun hHeld => ?_)
                · exact HE.out.s
                clear hK K
                try simp only [Act.put, List.setIfInBounds_toArray, List.set_cons_zero, List.set_cons_succ]
                refine wpAnyH_take (i := 43) (oi := { dst := some 118, op := Op.unOp UnOp.not 4 (Operand.tmp 117), type := 4, pos := "outright.go:102", after := #[{ on := 42, ground := Ground.data }, { on := 31, ground := Ground.guard }], guard := some (31, false) }) (v := ?_) rfl (by kernel_rfl) (by kernel_rfl) (by kernel_rfl) (fun _ _ _ h => h) (Or.inl ⟨by rfl, ?_⟩) (by assumption) ?_
                rotate_left
                · (intro w hSw; (try dsimp only at hSw); go_simp); (first | done | with_reducible rfl)
                try simp only [Act.put, List.setIfInBounds_toArray, List.set_cons_zero, List.set_cons_succ]
                refine wpAnyH_take (i := 44) (oi := { dst := some 119, op := Op.pick (Operand.tmp 106) (Operand.const (Value.bool true)) (Operand.tmp 118), type := 4, pos := "outright.go:102", after := #[{ on := 31, ground := Ground.data }, { on := 43, ground := Ground.data }], guard := none }) (v := ?_) rfl (by kernel_rfl) (by kernel_rfl) (by kernel_rfl) (fun _ _ _ h => h) (Or.inl ⟨by rfl, ?_⟩) (by assumption) ?_
                rotate_left
                · (intro w hSw; (try dsimp only at hSw); go_simp); (first | done | with_reducible rfl)
                refine wpAnyH_done (by kernel_rfl) ?_ _
                go_wp2_with fail
                go_roundw
                case rel => exact ⟨i + 1, by omega, by go_num, Lib.hid HE.out.e.b, Lib.hid HE.out.e.t, Lib.hid (fun _ => ⟨g, off, rfl, HE.out.e.c⟩)⟩
                case measure => simp [intOf]; omega
              · have hd0 : decide ((l : Int) < (L.length : Int)) = false := by simp; omega
                have hd2 : decide (l < L.length) = false := by simp; omega
                have hli : i < l := by omega
                have HG := Lib.hid (show M.Grp L ki f l from by
                  subst hki
                  exact M.grp_of HS.out hlt hf hli hln HF.out HF1.out HL2.out (.inl hq))
                clear hq HX1 HL2 HF HF1
                go_wp2_with fail
                go_quiet (fail)
                replace HE := Lib.hid (HE.out.drewN nq)
                clear z0 hd0 hd2
                obtain ⟨wq, hwq⟩ : ∃ x, x = wr.drewN nq := ⟨_, rfl⟩
                rw [← hwq] at HE ⊢
                clear hwq
                obtain ⟨z0, -, -⟩ := HE.out.c i hlt
                rw [hki] at z0
                have hfl := HG.out.fl
                have CGt := Lib.hid (get10_any L p ki wq HE.out.t HS.out (by omega) HQ.out (by omega))
                rw [HG.out.find] at CGt
                unfold FindR9 at CGt
                simp only [Option.getD_some, Option.isSome_some] at CGt
                go_wp2_with fail
                with_reducible refine (CGt.out).mono ?_
                rintro e w2 ⟨rfl, hbq⟩
                replace HE := Lib.hid (HE.out.below hbq)
                clear hbq CGt z0
                have HX := Lib.hid (rowIn_new (clA (L.getD f M.cl0)) 38 w2)
                replace HE := Lib.hid (HE.out.alloc (.cells (clA (L.getD f M.cl0)) 38))
                generalize hcf : L.getD f M.cl0 = cf at *
                go_wp2_with fail
                have hfn : f < L.length := by omega
                have HE3 := Lib.hid (show Eb10 W L p g off cf w2.heap.size f i ki (w2.alloc (.cells #[.string (S cf.key), .int .i64 cf.seq, .string (S cf.val)] 38)) from ⟨HE.out, HX.out, by have := HE.out.c f hfn; rwa [hcf] at this, by have := (HE.out.c i hlt).1; rwa [hki] at this⟩)
                clear HE HX
                have HE := HE3
                clear HE3
                obtain ⟨aF, hr1, hk1⟩ := cut_cells L (some ⟨g, off, none⟩) cap f l (by omega) hln hc
                obtain ⟨aG, hr2, hk2⟩ := cut_tail L (some ⟨g, off, none⟩) cap f (by omega) hc
                have hp1 := pieceC_len L (i := f) (j := l) (by omega) hln
                have hp2 := pieceC_len L (i := f) (j := L.length) (by omega) (Nat.le_refl _)
                have CR1 := Lib.hid (fun V (h : TabAt L p V) => rng_one10 L p ki V h HS.out (by omega) HQ.out (by omega))
                have CR2 := Lib.hid (fun V (h : TabAt L p V) => rng_all10 L p ki V h HS.out (by omega) HQ.out (by omega))
                rw [HG.out.one] at CR1
                rw [HG.out.all] at CR2
                have CS1 := Lib.hid (fun V a c (h : Ea10 W L p g off V) (h1 : ClsAt V a (pieceC L f l)) => sameCells9_yes (pieceC L f l) (pieceC L f l).length rfl a aF c (cap - f) (by omega) (w := V) h1 (hk1 V (fun _ => ⟨g, off, rfl, h.c⟩)))
                have CS2 := Lib.hid (fun V a c (h : Ea10 W L p g off V) (h1 : ClsAt V a (pieceC L f L.length)) => sameCells9_yes (pieceC L f L.length) (pieceC L f L.length).length rfl a aG c (cap - f) (by omega) (w := V) h1 (hk2 V (fun _ => ⟨g, off, rfl, h.c⟩)))
                unfold RngC at CR1 CR2
                clear hk1 hk2 hp1 hp2 HG hcf
                have hfi : (f : Int) < (L.length : Int) := by omega
                generalize pieceC L f l = K1 at *
                generalize pieceC L f L.length = K2 at *
                generalize w2.alloc (.cells #[.string (S cf.key), .int .i64 cf.seq, .string (S cf.val)] 38) = w3 at *
                generalize w2.heap.size = b2 at *
                refine wp_region_held_drew (S := fun V => V.cell? ⟨b2, 0, none⟩ = some (.string (S cf.key)) ∧ V.cell? ⟨b2, 1, none⟩ = some (.int .i64 cf.seq) ∧ V.cell? ⟨b2, 2, none⟩ = some (.string (S cf.val)) ∧ V.cell? ⟨g, off + f * 3, none⟩ = some (.string (S cf.key)) ∧ V.cell? ⟨g, off + f * 3 + 1, none⟩ = some (.int .i64 cf.seq) ∧ V.cell? ⟨g, off + f * 3 + 2, none⟩ = some (.string (S cf.val)) ∧ V.cell? ⟨g, off + i * 3, none⟩ = some (.string (S ki))) (by kernel_rfl) ?_ (fun hHeld => ?_)
                · exact HE.out.drew.s
                replace HE := Lib.hid HE.out.drew
                refine wpAnyH_take (i := 0) (oi := { dst := some 75, op := Op.move (Operand.tmp 9), type := 4, pos := "outright.go:102", after := #[], guard := none }) (v := ?_) rfl (by kernel_rfl) (by kernel_rfl) (by kernel_rfl) (fun _ _ _ h => h) (Or.inl ⟨by rfl, ?_⟩) (by assumption) ?_
                rotate_left
                · (intro w hSw; (try dsimp only at hSw); go_simp); (first | done | with_reducible rfl)
                try simp only [Act.put, List.setIfInBounds_toArray, List.set_cons_zero, List.set_cons_succ]
                refine wpAnyH_take (i := 1) (oi := { dst := some 76, op := Op.unOp UnOp.not 4 (Operand.tmp 75), type := 4, pos := "outright.go:102", after := #[{ on := 0, ground := Ground.data }], guard := none }) (v := ?_) rfl (by kernel_rfl) (by kernel_rfl) (by kernel_rfl) (fun _ _ _ h => h) (Or.inl ⟨by rfl, ?_⟩) (by assumption) ?_
                rotate_left
                · (intro w hSw; (try dsimp only at hSw); go_simp); (first | done | with_reducible rfl)
                try simp only [Act.put, List.setIfInBounds_toArray, List.set_cons_zero, List.set_cons_succ]
                refine wpAnyH_take (i := 2) (oi := { dst := some 77, op := Op.move (Operand.tmp 76), type := 4, pos := "outright.go:102", after := #[{ on := 1, ground := Ground.data }], guard := none }) (v := ?_) rfl (by kernel_rfl) (by kernel_rfl) (by kernel_rfl) (fun _ _ _ h => h) (Or.inl ⟨by rfl, ?_⟩) (by assumption) ?_
                rotate_left
                · (intro w hSw; (try dsimp only at hSw); go_simp); (first | done | with_reducible rfl)
                try simp only [Act.put, List.setIfInBounds_toArray, List.set_cons_zero, List.set_cons_succ]
                refine wpAnyH_take (i := 3) (oi := { dst := some 78, op := Op.load 38 (Operand.tmp 8), type := 38, pos := "outright.go:102", after := #[{ on := 2, ground := Ground.guard }], guard := some (2, false) }) (v := ?_) rfl (by kernel_rfl) (by kernel_rfl) (by kernel_rfl) (fun _ _ _ h => h) (Or.inl ⟨by rfl, ?_⟩) (by assumption) ?_
                rotate_left
                · (intro w hSw; (try dsimp only at hSw); go_simp); (first | done | with_reducible rfl)
                try simp only [Act.put, List.setIfInBounds_toArray, List.set_cons_zero, List.set_cons_succ]
                refine wpAnyH_take (i := 4) (oi := { dst := some 79, op := Op.move (Operand.tmp 0), type := 22, pos := "outright.go:102", after := #[{ on := 2, ground := Ground.guard }], guard := some (2, false) }) (v := ?_) rfl (by kernel_rfl) (by kernel_rfl) (by kernel_rfl) (fun _ _ _ h => h) (Or.inl ⟨by rfl, ?_⟩) (by assumption) ?_
                rotate_left
                · (intro w hSw; (try dsimp only at hSw); go_simp); (first | done | with_reducible rfl)
                try simp only [Act.put, List.setIfInBounds_toArray, List.set_cons_zero, List.set_cons_succ]
                refine wpAnyH_take (i := 5) (oi := { dst := some 80, op := Op.move (Operand.tmp 6), type := 3, pos := "outright.go:102", after := #[{ on := 2, ground := Ground.guard }], guard := some (2, false) }) (v := ?_) rfl (by kernel_rfl) (by kernel_rfl) (by kernel_rfl) (fun _ _ _ h => h) (Or.inl ⟨by rfl, ?_⟩) (by assumption) ?_
                rotate_left
                · (intro w hSw; (try dsimp only at hSw); go_simp); (first | done | with_reducible rfl)
                try simp only [Act.put, List.setIfInBounds_toArray, List.set_cons_zero, List.set_cons_succ]
                refine wpAnyH_take (i := 6) (oi := { dst := some 81, op := Op.indexAddr 22 (Operand.tmp 79) (Operand.tmp 80), type := 0, pos := "outright.go:102", after := #[{ on := 4, ground := Ground.data }, { on := 5, ground := Ground.data }, { on := 2, ground := Ground.guard }], guard := some (2, false) }) (v := ?_) rfl (by kernel_rfl) (by kernel_rfl) (by kernel_rfl) (fun _ _ _ h => h) (Or.inl ⟨by rfl, ?_⟩) (by assumption) ?_
                rotate_left
                · (intro w hSw; (try dsimp only at hSw); go_simp); (first | done | with_reducible rfl)
                try simp only [Act.put, List.setIfInBounds_toArray, List.set_cons_zero, List.set_cons_succ]
                refine wpAnyH_take (i := 7) (oi := { dst := some 82, op := Op.load 38 (Operand.tmp 81), type := 38, pos := "outright.go:102", after := #[{ on := 6, ground := Ground.data }, { on := 2, ground := Ground.guard }], guard := some (2, false) }) (v := ?_) rfl (by kernel_rfl) (by kernel_rfl) (by kernel_rfl) (fun _ _ _ h => h) (Or.inl ⟨by rfl, ?_⟩) (by assumption) ?_
                rotate_left
                · (intro w hSw; (try dsimp only at hSw); go_simp); (first | done | with_reducible rfl)
                try simp only [Act.put, List.setIfInBounds_toArray, List.set_cons_zero, List.set_cons_succ]
                refine wpAnyH_take (i := 8) (oi := { dst := some 83, op := Op.binOp BinOp.neq 38 (Operand.tmp 78) (Operand.tmp 82) 38, type := 4, pos := "outright.go:102", after := #[{ on := 3, ground := Ground.data }, { on := 7, ground := Ground.data }, { on := 2, ground := Ground.guard }], guard := some (2, false) }) (v := ?_) rfl (by kernel_rfl) (by kernel_rfl) (by kernel_rfl) (fun _ _ _ h => h) (Or.inl ⟨by rfl, ?_⟩) (by assumption) ?_
                rotate_left
                · (intro w hSw; (try dsimp only at hSw); go_simp); (first | done | with_reducible rfl)
                try simp only [Act.put, List.setIfInBounds_toArray, List.set_cons_zero, List.set_cons_succ]
                refine wpAnyH_take (i := 9) (oi := { dst := some 84, op := Op.pick (Operand.tmp 77) (Operand.const (Value.bool true)) (Operand.tmp 83), type := 4, pos := "outright.go:102", after := #[{ on := 2, ground := Ground.data }, { on := 8, ground := Ground.data }], guard := none }) (v := ?_) rfl (by kernel_rfl) (by kernel_rfl) (by kernel_rfl) (fun _ _ _ h => h) (Or.inl ⟨by rfl, ?_⟩) (by assumption) ?_
                rotate_left
                · (intro w hSw; (try dsimp only at hSw); go_simp); (first | done | with_reducible rfl)
                try simp only [Act.put, List.setIfInBounds_toArray, List.set_cons_zero, List.set_cons_succ]
                refine wpAnyH_take (i := 10) (oi := { dst := some 85, op := Op.move (Operand.tmp 84), type := 4, pos := "outright.go:102", after := #[{ on := 9, ground := Ground.data }, { on := 2, ground := Ground.chain }], guard := none }) (v := ?_) rfl (by kernel_rfl) (by kernel_rfl) (by kernel_rfl) (fun _ _ _ h => h) (Or.inl ⟨by rfl, ?_⟩) (by assumption) ?_
                rotate_left
                · (intro w hSw; (try dsimp only at hSw); go_simp); (first | done | with_reducible rfl)
                try simp only [Act.put, List.setIfInBounds_toArray, List.set_cons_zero, List.set_cons_succ]
                refine wpAnyH_take (i := 11) (oi := { dst := some 86, op := Op.move (Operand.tmp 3), type := 32, pos := "outright.go:102", after := #[{ on := 10, ground := Ground.guard }], guard := some (10, false) }) (v := ?_) rfl (by kernel_rfl) (by kernel_rfl) (by kernel_rfl) (fun _ _ _ h => h) (Or.inl ⟨by rfl, ?_⟩) (by assumption) ?_
                rotate_left
                · (intro w hSw; (try dsimp only at hSw); go_simp); (first | done | with_reducible rfl)
                try simp only [Act.put, List.setIfInBounds_toArray, List.set_cons_zero, List.set_cons_succ]
                refine wpAnyH_take (i := 12) (oi := { dst := some 87, op := Op.move (Operand.tmp 0), type := 22, pos := "outright.go:102", after := #[{ on := 10, ground := Ground.guard }], guard := some (10, false) }) (v := ?_) rfl (by kernel_rfl) (by kernel_rfl) (by kernel_rfl) (fun _ _ _ h => h) (Or.inl ⟨by rfl, ?_⟩) (by assumption) ?_
                rotate_left
                · (intro w hSw; (try dsimp only at hSw); go_simp); (first | done | with_reducible rfl)
                try simp only [Act.put, List.setIfInBounds_toArray, List.set_cons_zero, List.set_cons_succ]
                refine wpAnyH_take (i := 13) (oi := { dst := some 88, op := Op.move (Operand.tmp 5), type := 3, pos := "outright.go:102", after := #[{ on := 10, ground := Ground.guard }], guard := some (10, false) }) (v := ?_) rfl (by kernel_rfl) (by kernel_rfl) (by kernel_rfl) (fun _ _ _ h => h) (Or.inl ⟨by rfl, ?_⟩) (by assumption) ?_
                rotate_left
                · (intro w hSw; (try dsimp only at hSw); go_simp); (first | done | with_reducible rfl)
                try simp only [Act.put, List.setIfInBounds_toArray, List.set_cons_zero, List.set_cons_succ]
                refine wpAnyH_take (i := 14) (oi := { dst := some 89, op := Op.indexAddr 22 (Operand.tmp 87) (Operand.tmp 88), type := 0, pos := "outright.go:102", after := #[{ on := 12, ground := Ground.data }, { on := 13, ground := Ground.data }, { on := 10, ground := Ground.guard }], guard := some (10, false) }) (v := ?_) rfl (by kernel_rfl) (by kernel_rfl) (by kernel_rfl) (fun _ _ _ h => h) (Or.inl ⟨by rfl, ?_⟩) (by assumption) ?_
                rotate_left
                · (intro w hSw; (try dsimp only at hSw); go_simp); (first | done | with_reducible rfl)
                try simp only [Act.put, List.setIfInBounds_toArray, List.set_cons_zero, List.set_cons_succ]
                refine wpAnyH_take (i := 15) (oi := { dst := some 90, op := Op.fieldAddr 38 (Operand.tmp 89) 0, type := 0, pos := "outright.go:102", after := #[{ on := 14, ground := Ground.data }, { on := 10, ground := Ground.guard }], guard := some (10, false) }) (v := ?_) rfl (by kernel_rfl) (by kernel_rfl) (by kernel_rfl) (fun _ _ _ h => h) (Or.inl ⟨by rfl, ?_⟩) (by assumption) ?_
                rotate_left
                · (intro w hSw; (try dsimp only at hSw); go_simp); (first | done | with_reducible rfl)
                try simp only [Act.put, List.setIfInBounds_toArray, List.set_cons_zero, List.set_cons_succ]
                refine wpAnyH_take (i := 16) (oi := { dst := some 91, op := Op.load 9 (Operand.tmp 90), type := 9, pos := "outright.go:102", after := #[{ on := 15, ground := Ground.data }, { on := 10, ground := Ground.guard }], guard := some (10, false) }) (v := ?_) rfl (by kernel_rfl) (by kernel_rfl) (by kernel_rfl) (fun _ _ _ h => h) (Or.inl ⟨by rfl, ?_⟩) (by assumption) ?_
                rotate_left
                · (intro w hSw; (try dsimp only at hSw); go_simp); (first | done | with_reducible rfl)
                try simp only [Act.put, List.setIfInBounds_toArray, List.set_cons_zero, List.set_cons_succ]
                refine wpAnyH_take (i := 17) (oi := { dst := some 92, op := Op.move (Operand.tmp 0), type := 22, pos := "outright.go:102", after := #[{ on := 10, ground := Ground.guard }], guard := some (10, false) }) (v := ?_) rfl (by kernel_rfl) (by kernel_rfl) (by kernel_rfl) (fun _ _ _ h => h) (Or.inl ⟨by rfl, ?_⟩) (by assumption) ?_
                rotate_left
                · (intro w hSw; (try dsimp only at hSw); go_simp); (first | done | with_reducible rfl)
                try simp only [Act.put, List.setIfInBounds_toArray, List.set_cons_zero, List.set_cons_succ]
                refine wpAnyH_take (i := 18) (oi := { dst := some 93, op := Op.move (Operand.tmp 5), type := 3, pos := "outright.go:102", after := #[{ on := 10, ground := Ground.guard }], guard := some (10, false) }) (v := ?_) rfl (by kernel_rfl) (by kernel_rfl) (by kernel_rfl) (fun _ _ _ h => h) (Or.inl ⟨by rfl, ?_⟩) (by assumption) ?_
                rotate_left
                · (intro w hSw; (try dsimp only at hSw); go_simp); (first | done | with_reducible rfl)
                try simp only [Act.put, List.setIfInBounds_toArray, List.set_cons_zero, List.set_cons_succ]
                refine wpAnyH_take (i := 19) (oi := { dst := some 94, op := Op.indexAddr 22 (Operand.tmp 92) (Operand.tmp 93), type := 0, pos := "outright.go:102", after := #[{ on := 17, ground := Ground.data }, { on := 18, ground := Ground.data }, { on := 10, ground := Ground.guard }], guard := some (10, false) }) (v := ?_) rfl (by kernel_rfl) (by kernel_rfl) (by kernel_rfl) (fun _ _ _ h => h) (Or.inl ⟨by rfl, ?_⟩) (by assumption) ?_
                rotate_left
                · (intro w hSw; (try dsimp only at hSw); go_simp); (first | done | with_reducible rfl)
                try simp only [Act.put, List.setIfInBounds_toArray, List.set_cons_zero, List.set_cons_succ]
                refine wpAnyH_take (i := 20) (oi := { dst := some 95, op := Op.fieldAddr 38 (Operand.tmp 94) 0, type := 0, pos := "outright.go:102", after := #[{ on := 19, ground := Ground.data }, { on := 10, ground := Ground.guard }], guard := some (10, false) }) (v := ?_) rfl (by kernel_rfl) (by kernel_rfl) (by kernel_rfl) (fun _ _ _ h => h) (Or.inl ⟨by rfl, ?_⟩) (by assumption) ?_
                rotate_left
                · (intro w hSw; (try dsimp only at hSw); go_simp); (first | done | with_reducible rfl)
                try simp only [Act.put, List.setIfInBounds_toArray, List.set_cons_zero, List.set_cons_succ]
                refine wpAnyH_take (i := 21) (oi := { dst := some 96, op := Op.load 9 (Operand.tmp 95), type := 9, pos := "outright.go:102", after := #[{ on := 20, ground := Ground.data }, { on := 10, ground := Ground.guard }], guard := some (10, false) }) (v := ?_) rfl (by kernel_rfl) (by kernel_rfl) (by kernel_rfl) (fun _ _ _ h => h) (Or.inl ⟨by rfl, ?_⟩) (by assumption) ?_
                rotate_left
                · (intro w hSw; (try dsimp only at hSw); go_simp); (first | done | with_reducible rfl)
                try simp only [Act.put, List.setIfInBounds_toArray, List.set_cons_zero, List.set_cons_succ]
                refine wpAnyH_take (i := 22) (oi := { dst := some 97, op := Op.binOp BinOp.add 9 (Operand.tmp 96) (Operand.const (Value.string { data := #[0] })) 9, type := 9, pos := "outright.go:102", after := #[{ on := 21, ground := Ground.data }, { on := 10, ground := Ground.guard }], guard := some (10, false) }) (v := ?_) rfl (by kernel_rfl) (by kernel_rfl) (by kernel_rfl) (fun _ _ _ h => h) (Or.inl ⟨by rfl, ?_⟩) (by assumption) ?_
                rotate_left
                · (intro w hSw; (try dsimp only at hSw); go_simp; rw [if_neg (by omega)])
                try simp only [Act.put, List.setIfInBounds_toArray, List.set_cons_zero, List.set_cons_succ]
                refine wpAnyH_take (i := 24) (oi := { dst := some 99, op := Op.move (Operand.tmp 0), type := 22, pos := "outright.go:102", after := #[{ on := 10, ground := Ground.guard }], guard := some (10, false) }) (v := ?_) rfl (by kernel_rfl) (by kernel_rfl) (by kernel_rfl) (fun _ _ _ h => h) (Or.inl ⟨by rfl, ?_⟩) (by assumption) ?_
                rotate_left
                · (intro w hSw; (try dsimp only at hSw); go_simp); (first | done | with_reducible rfl)
                try simp only [Act.put, List.setIfInBounds_toArray, List.set_cons_zero, List.set_cons_succ]
                refine wpAnyH_take (i := 25) (oi := { dst := some 100, op := Op.move (Operand.tmp 6), type := 3, pos := "outright.go:102", after := #[{ on := 10, ground := Ground.guard }], guard := some (10, false) }) (v := ?_) rfl (by kernel_rfl) (by kernel_rfl) (by kernel_rfl) (fun _ _ _ h => h) (Or.inl ⟨by rfl, ?_⟩) (by assumption) ?_
                rotate_left
                · (intro w hSw; (try dsimp only at hSw); go_simp); (first | done | with_reducible rfl)
                try simp only [Act.put, List.setIfInBounds_toArray, List.set_cons_zero, List.set_cons_succ]
                refine wpAnyH_take (i := 26) (oi := { dst := some 101, op := Op.move (Operand.tmp 7), type := 3, pos := "outright.go:102", after := #[{ on := 10, ground := Ground.guard }], guard := some (10, false) }) (v := ?_) rfl (by kernel_rfl) (by kernel_rfl) (by kernel_rfl) (fun _ _ _ h => h) (Or.inl ⟨by rfl, ?_⟩) (by assumption) ?_
                rotate_left
                · (intro w hSw; (try dsimp only at hSw); go_simp); (first | done | with_reducible rfl)
                try simp only [Act.put, List.setIfInBounds_toArray, List.set_cons_zero, List.set_cons_succ]
                refine wpAnyH_take (i := 27) (oi := { dst := some 102, op := Op.slice 22 (Operand.tmp 99) (some (Operand.tmp 100)) (some (Operand.tmp 101)) none, type := 22, pos := "outright.go:102", after := #[{ on := 24, ground := Ground.data }, { on := 25, ground := Ground.data }, { on := 26, ground := Ground.data }, { on := 10, ground := Ground.guard }], guard := some (10, false) }) (v := ?_) rfl (by kernel_rfl) (by kernel_rfl) (by kernel_rfl) (fun _ _ _ h => h) (Or.inl ⟨by rfl, ?_⟩) (by assumption) ?_
                rotate_left
                · (intro w hSw; (try dsimp only at hSw); go_simp); (first | done | with_reducible rfl)
                try simp only [Act.put, List.setIfInBounds_toArray, List.set_cons_zero, List.set_cons_succ]
                refine wpAnyH_ready (rs := [23]) (by kernel_rfl) (by simp) ?_
                refine AllReadyH.cons (o := { dst := some 98, op := Op.call { callee := Callee.value (Operand.func 32), args := #[Operand.tmp 86, Operand.tmp 91, Operand.tmp 97], argTypes := #[32, 9, 9] }, type := 22, pos := "outright.go:102", after := #[{ on := 11, ground := Ground.data }, { on := 16, ground := Ground.data }, { on := 22, ground := Ground.data }, { on := 10, ground := Ground.chain }, { on := 10, ground := Ground.guard }], guard := some (10, false) }) rfl (fun K hK => ?_) AllReadyH.nil
                go_simp
                go_at_call 32
                with_reducible refine (CR1.out _ HE.out.e.t).mono ?_
                rintro e w5 ⟨aw5, cw5, rfl, hw5, hbq⟩
                replace HE := Lib.hid (HE.out.below hbq)
                have HK := Lib.hid hw5
                clear hbq hw5
                go_wp2_with fail
                refine hK.out _ _ ?_ (fun hHeld => ?_)
                · exact HE.out.s
                clear hK K
                try simp only [Act.put, List.setIfInBounds_toArray, List.set_cons_zero, List.set_cons_succ]
                refine wpAnyH_ready (rs := [28]) (by kernel_rfl) (by simp) ?_
                refine AllReadyH.cons (o := { dst := some 103, op := Op.call { callee := Callee.value (Operand.func 35), args := #[Operand.tmp 98, Operand.tmp 102], argTypes := #[22, 22] }, type := 4, pos := "outright.go:102", after := #[{ on := 23, ground := Ground.data }, { on := 27, ground := Ground.data }, { on := 23, ground := Ground.chain }, { on := 10, ground := Ground.guard }], guard := some (10, false) }) rfl (fun K hK => ?_) AllReadyH.nil
                go_simp
                go_at_call 35
                with_reducible refine (CS1.out _ _ _ HE.out.e HK.out).mono ?_
                rintro e w6 ⟨rfl, hbq⟩
                replace HE := Lib.hid (HE.out.below hbq)
                clear hbq HK
                go_wp2_with fail
                refine hK.out _ _ ?_ (fun hHeld => ?_)
                · exact HE.out.s
                clear hK K
                try simp only [Act.put, List.setIfInBounds_toArray, List.set_cons_zero, List.set_cons_succ]
                refine wpAnyH_take (i := 29) (oi := { dst := some 104, op := Op.unOp UnOp.not 4 (Operand.tmp 103), type := 4, pos := "outright.go:102", after := #[{ on := 28, ground := Ground.data }, { on := 10, ground := Ground.guard }], guard := some (10, false) }) (v := ?_) rfl (by kernel_rfl) (by kernel_rfl) (by kernel_rfl) (fun _ _ _ h => h) (Or.inl ⟨by rfl, ?_⟩) (by assumption) ?_
                rotate_left
                · (intro w hSw; (try dsimp only at hSw); go_simp); (first | done | with_reducible rfl)
                try simp only [Act.put, List.setIfInBounds_toArray, List.set_cons_zero, List.set_cons_succ]
                refine wpAnyH_take (i := 30) (oi := { dst := some 105, op := Op.pick (Operand.tmp 85) (Operand.const (Value.bool true)) (Operand.tmp 104), type := 4, pos := "outright.go:102", after := #[{ on := 10, ground := Ground.data }, { on := 29, ground := Ground.data }], guard := none }) (v := ?_) rfl (by kernel_rfl) (by kernel_rfl) (by kernel_rfl) (fun _ _ _ h => h) (Or.inl ⟨by rfl, ?_⟩) (by assumption) ?_
                rotate_left
                · (intro w hSw; (try dsimp only at hSw); go_simp); (first | done | with_reducible rfl)
                try simp only [Act.put, List.setIfInBounds_toArray, List.set_cons_zero, List.set_cons_succ]
                refine wpAnyH_take (i := 31) (oi := { dst := some 106, op := Op.move (Operand.tmp 105), type := 4, pos := "outright.go:102", after := #[{ on := 30, ground := Ground.data }, { on := 28, ground := Ground.chain }], guard := none }) (v := ?_) rfl (by kernel_rfl) (by kernel_rfl) (by kernel_rfl) (fun _ _ _ h => h) (Or.inl ⟨by rfl, ?_⟩) (by assumption) ?_
                rotate_left
                · (intro w hSw; (try dsimp only at hSw); go_simp); (first | done | with_reducible rfl)
                try simp only [Act.put, List.setIfInBounds_toArray, List.set_cons_zero, List.set_cons_succ]
                refine wpAnyH_take (i := 32) (oi := { dst := some 107, op := Op.move (Operand.tmp 3), type := 32, pos := "outright.go:102", after := #[{ on := 31, ground := Ground.guard }], guard := some (31, false) }) (v := ?_) rfl (by kernel_rfl) (by kernel_rfl) (by kernel_rfl) (fun _ _ _ h => h) (Or.inl ⟨by rfl, ?_⟩) (by assumption) ?_
                rotate_left
                · (intro w hSw; (try dsimp only at hSw); go_simp); (first | done | with_reducible rfl)
                try simp only [Act.put, List.setIfInBounds_toArray, List.set_cons_zero, List.set_cons_succ]
                refine wpAnyH_take (i := 33) (oi := { dst := some 108, op := Op.move (Operand.tmp 0), type := 22, pos := "outright.go:102", after := #[{ on := 31, ground := Ground.guard }], guard := some (31, false) }) (v := ?_) rfl (by kernel_rfl) (by kernel_rfl) (by kernel_rfl) (fun _ _ _ h => h) (Or.inl ⟨by rfl, ?_⟩) (by assumption) ?_
                rotate_left
                · (intro w hSw; (try dsimp only at hSw); go_simp); (first | done | with_reducible rfl)
                try simp only [Act.put, List.setIfInBounds_toArray, List.set_cons_zero, List.set_cons_succ]
                refine wpAnyH_take (i := 34) (oi := { dst := some 109, op := Op.move (Operand.tmp 5), type := 3, pos := "outright.go:102", after := #[{ on := 31, ground := Ground.guard }], guard := some (31, false) }) (v := ?_) rfl (by kernel_rfl) (by kernel_rfl) (by kernel_rfl) (fun _ _ _ h => h) (Or.inl ⟨by rfl, ?_⟩) (by assumption) ?_
                rotate_left
                · (intro w hSw; (try dsimp only at hSw); go_simp); (first | done | with_reducible rfl)
                try simp only [Act.put, List.setIfInBounds_toArray, List.set_cons_zero, List.set_cons_succ]
                refine wpAnyH_take (i := 35) (oi := { dst := some 110, op := Op.indexAddr 22 (Operand.tmp 108) (Operand.tmp 109), type := 0, pos := "outright.go:102", after := #[{ on := 33, ground := Ground.data }, { on := 34, ground := Ground.data }, { on := 31, ground := Ground.guard }], guard := some (31, false) }) (v := ?_) rfl (by kernel_rfl) (by kernel_rfl) (by kernel_rfl) (fun _ _ _ h => h) (Or.inl ⟨by rfl, ?_⟩) (by assumption) ?_
                rotate_left
                · (intro w hSw; (try dsimp only at hSw); go_simp); (first | done | with_reducible rfl)
                try simp only [Act.put, List.setIfInBounds_toArray, List.set_cons_zero, List.set_cons_succ]
                refine wpAnyH_take (i := 36) (oi := { dst := some 111, op := Op.fieldAddr 38 (Operand.tmp 110) 0, type := 0, pos := "outright.go:102", after := #[{ on := 35, ground := Ground.data }, { on := 31, ground := Ground.guard }], guard := some (31, false) }) (v := ?_) rfl (by kernel_rfl) (by kernel_rfl) (by kernel_rfl) (fun _ _ _ h => h) (Or.inl ⟨by rfl, ?_⟩) (by assumption) ?_
                rotate_left
                · (intro w hSw; (try dsimp only at hSw); go_simp); (first | done | with_reducible rfl)
                try simp only [Act.put, List.setIfInBounds_toArray, List.set_cons_zero, List.set_cons_succ]
                refine wpAnyH_take (i := 37) (oi := { dst := some 112, op := Op.load 9 (Operand.tmp 111), type := 9, pos := "outright.go:102", after := #[{ on := 36, ground := Ground.data }, { on := 31, ground := Ground.guard }], guard := some (31, false) }) (v := ?_) rfl (by kernel_rfl) (by kernel_rfl) (by kernel_rfl) (fun _ _ _ h => h) (Or.inl ⟨by rfl, ?_⟩) (by assumption) ?_
                rotate_left
                · (intro w hSw; (try dsimp only at hSw); go_simp); (first | done | with_reducible rfl)
                try simp only [Act.put, List.setIfInBounds_toArray, List.set_cons_zero, List.set_cons_succ]
                refine wpAnyH_take (i := 39) (oi := { dst := some 114, op := Op.move (Operand.tmp 0), type := 22, pos := "outright.go:102", after := #[{ on := 31, ground := Ground.guard }], guard := some (31, false) }) (v := ?_) rfl (by kernel_rfl) (by kernel_rfl) (by kernel_rfl) (fun _ _ _ h => h) (Or.inl ⟨by rfl, ?_⟩) (by assumption) ?_
                rotate_left
                · (intro w hSw; (try dsimp only at hSw); go_simp); (first | done | with_reducible rfl)
                try simp only [Act.put, List.setIfInBounds_toArray, List.set_cons_zero, List.set_cons_succ]
                refine wpAnyH_take (i := 40) (oi := { dst := some 115, op := Op.move (Operand.tmp 6), type := 3, pos := "outright.go:102", after := #[{ on := 31, ground := Ground.guard }], guard := some (31, false) }) (v := ?_) rfl (by kernel_rfl) (by kernel_rfl) (by kernel_rfl) (fun _ _ _ h => h) (Or.inl ⟨by rfl, ?_⟩) (by assumption) ?_
                rotate_left
                · (intro w hSw; (try dsimp only at hSw); go_simp); (first | done | with_reducible rfl)
                try simp only [Act.put, List.setIfInBounds_toArray, List.set_cons_zero, List.set_cons_succ]
                refine wpAnyH_take (i := 41) (oi := { dst := some 116, op := Op.slice 22 (Operand.tmp 114) (some (Operand.tmp 115)) none none, type := 22, pos := "outright.go:102", after := #[{ on := 39, ground := Ground.data }, { on := 40, ground := Ground.data }, { on := 31, ground := Ground.guard }], guard := some (31, false) }) (v := ?_) rfl (by kernel_rfl) (by kernel_rfl) (by kernel_rfl) (fun _ _ _ h => h) (Or.inl ⟨by rfl, ?_⟩) (by assumption) ?_
                rotate_left
                · (intro w hSw; (try dsimp only at hSw); go_simp); (first | done | with_reducible rfl)
                try simp only [Act.put, List.setIfInBounds_toArray, List.set_cons_zero, List.set_cons_succ]
                refine wpAnyH_ready (rs := [38]) (by kernel_rfl) (by simp) ?_
                refine AllReadyH.cons (o := { dst := some 113, op := Op.call { callee := Callee.value (Operand.func 32), args := #[Operand.tmp 107, Operand.tmp 112, Operand.const (Value.string { data := #[] })], argTypes := #[32, 9, 9] }, type := 22, pos := "outright.go:102", after := #[{ on := 32, ground := Ground.data }, { on := 37, ground := Ground.data }, { on := 31, ground := Ground.chain }, { on := 31, ground := Ground.guard }], guard := some (31, false) }) rfl (fun K hK => ?_) AllReadyH.nil
                go_simp
                go_at_call 32
                with_reducible refine (CR2.out _ HE.out.e.t).mono ?_
                rintro e w7 ⟨aw7, cw7, rfl, hw7, hbq⟩
                replace HE := Lib.hid (HE.out.below hbq)
                have HK := Lib.hid hw7
                clear hbq hw7
                go_wp2_with fail
                refine hK.out _ _ ?_ (fun hHeld => ?_)
                · exact HE.out.s
                clear hK K
                try simp only [Act.put, List.setIfInBounds_toArray, List.set_cons_zero, List.set_cons_succ]
                refine wpAnyH_ready (rs := [42]) (by kernel_rfl) (by simp) ?_
                refine AllReadyH.cons (o := { dst := some 117, op := Op.call { callee := Callee.value (Operand.func 35), args := #[Operand.tmp 113, Operand.tmp 116], argTypes := #[22, 22] }, type := 4, pos := "outright.go:102", after := #[{ on := 38, ground := Ground.data }, { on := 41, ground := Ground.data }, { on := 38, ground := Ground.chain }, { on := 31, ground := Ground.guard }], guard := some (31, false) }) rfl (fun K hK => ?_) AllReadyH.nil
                go_simp
                go_at_call 35
                with_reducible refine (CS2.out _ _ _ HE.out.e HK.out).mono ?_
                rintro e w8 ⟨rfl, hbq⟩
                replace HE := Lib.hid (HE.out.below hbq)
                clear hbq HK
                go_wp2_with fail
                refine hK.out _ _ ?_ (fun hHeld => ?_)
                · exact HE.out.s
                clear hK K
                try simp only [Act.put, List.setIfInBounds_toArray, List.set_cons_zero, List.set_cons_succ]
                refine wpAnyH_take (i := 43) (oi := { dst := some 118, op := Op.unOp UnOp.not 4 (Operand.tmp 117), type := 4, pos := "outright.go:102", after := #[{ on := 42, ground := Ground.data }, { on := 31, ground := Ground.guard }], guard := some (31, false) }) (v := ?_) rfl (by kernel_rfl) (by kernel_rfl) (by kernel_rfl) (fun _ _ _ h => h) (Or.inl ⟨by rfl, ?_⟩) (by assumption) ?_
                rotate_left
                · (intro w hSw; (try dsimp only at hSw); go_simp); (first | done | with_reducible rfl)
                try simp only [Act.put, List.setIfInBounds_toArray, List.set_cons_zero, List.set_cons_succ]
                refine wpAnyH_take (i := 44) (oi := { dst := some 119, op := Op.pick (Operand.tmp 106) (Operand.const (Value.bool true)) (Operand.tmp 118), type := 4, pos := "outright.go:102", after := #[{ on := 31, ground := Ground.data }, { on := 43, ground := Ground.data }], guard := none }) (v := ?_) rfl (by kernel_rfl) (by kernel_rfl) (by kernel_rfl) (fun _ _ _ h => h) (Or.inl ⟨by rfl, ?_⟩) (by assumption) ?_
                rotate_left
                · (intro w hSw; (try dsimp only at hSw); go_simp); (first | done | with_reducible rfl)
                refine wpAnyH_done (by kernel_rfl) ?_ _
                go_wp2_with fail
                go_roundw
                case rel => exact ⟨i + 1, by omega, by go_num, Lib.hid HE.out.e.b, Lib.hid HE.out.e.t, Lib.hid (fun _ => ⟨g, off, rfl, HE.out.e.c⟩)⟩
                case measure => simp [intOf]; omega
          · have hd0 : decide (0 < f) = false := by simp; omega
            have hd1 : ¬ (0 : Int) < (f : Int) := by omega
            have HF1 := Lib.hid (show f = 0 ∨ (L.getD (f - 1) M.cl0).key ≠ ki from .inl hq)
            clear hq HX1
            go_wp2_with fail
            go_quiet (fail)
            replace HE := Lib.hid (HE.out.drewN nq)
            clear z0 hd0 hd1
            go_wp2_with fail
            go_loopw [7] (fun v7 wr => ∃ l : Nat, i ≤ l ∧ l ≤ L.length ∧ v7 = .int .i64 l ∧ Hid (∀ k, i ≤ k → k < l → (L.getD k M.cl0).key = ki) ∧ Hid (Ea10 W L p g off wr)) (fun v _ => L.length - (intOf v).toNat)
            case atStart => exact ⟨i, Nat.le_refl _, hi, rfl, Lib.hid (fun k h1 h2 => by omega), HE⟩
            case round =>
              clear HE
              obtain ⟨l, hil, hln, rfl, HL2, HE⟩ := hrel
              obtain ⟨z0, -, -⟩ := HE.out.c i hlt
              rw [hki] at z0
              have HX1 : Hid (l < L.length → ClOff (L.getD l M.cl0) wr g (off + l * 3)) := Lib.hid fun h => HE.out.c l h
              have hq : (l = L.length) ∨ (l < L.length ∧ ((L.getD l M.cl0).key = ki) ∨ (l < L.length ∧ (L.getD l M.cl0).key ≠ ki)) := by
                rcases Nat.lt_or_ge l L.length with h | h
                · exact .inr (by by_cases q : (L.getD l M.cl0).key = ki; exact .inl ⟨h, q⟩; exact .inr ⟨h, q⟩)
                · exact .inl (by omega)
              rcases hq with hq | ⟨h0, hq⟩ | ⟨h0, hq⟩
              rotate_left
              · obtain ⟨y0, -, -⟩ := HX1.out h0
                rw [hq] at y0
                have hd0 : decide ((l : Int) < (L.length : Int)) = true := by simp; omega
                have hd2 : decide (l < L.length) = true := by simp; omega
                have hd1 : (l : Int) < (L.length : Int) := by omega
                have HL3 := Lib.hid (show ∀ k, i ≤ k → k < l + 1 → (L.getD k M.cl0).key = ki from fun k h1 h2 => by
                  by_cases e : k = l
                  · subst e; exact hq
                  · exact HL2.out k h1 (by omega))
                clear hq HX1 HL2
                go_wp2_with fail
                go_quiet (fail)
                replace HE := Lib.hid (HE.out.drewN nq)
                clear z0 y0
                go_wp2_with fail
                go_roundw
                case rel => exact ⟨l + 1, by omega, by omega, by go_num, HL3, HE⟩
                case measure => simp [intOf]; omega
              · obtain ⟨y0, -, -⟩ := HX1.out h0
                have hli : i < l := by
                  rcases Nat.lt_or_ge i l with h | h
                  · exact h
                  · obtain rfl : l = i := by omega
                    exact absurd hki hq
                have HG := Lib.hid (show M.Grp L ki f l from by
                  subst hki
                  exact M.grp_of HS.out hlt hf hli hln HF.out HF1.out HL2.out (.inr hq))
                obtain ⟨kl, hkl⟩ : ∃ kl, (L.getD l M.cl0).key = kl := ⟨_, rfl⟩
                rw [hkl] at y0 hq
                have hqb : (kl == ki) = false := by simpa using hq
                have hd0 : decide ((l : Int) < (L.length : Int)) = true := by simp; omega
                have hd2 : decide (l < L.length) = true := by simp; omega
                have hd1 : (l : Int) < (L.length : Int) := by omega
                clear hq HX1 hkl HL2 HF HF1
                go_wp2_with fail
                go_quiet (fail)
                replace HE := Lib.hid (HE.out.drewN nq)
                clear z0 y0 hd0 hd2 hd1 hqb
                obtain ⟨wq, hwq⟩ : ∃ x, x = wr.drewN nq := ⟨_, rfl⟩
                rw [← hwq] at HE ⊢
                clear hwq
                obtain ⟨z0, -, -⟩ := HE.out.c i hlt
                rw [hki] at z0
                have hfl := HG.out.fl
                have CGt := Lib.hid (get10_any L p ki wq HE.out.t HS.out (by omega) HQ.out (by omega))
                rw [HG.out.find] at CGt
                unfold FindR9 at CGt
                simp only [Option.getD_some, Option.isSome_some] at CGt
                go_wp2_with fail
                with_reducible refine (CGt.out).mono ?_
                rintro e w2 ⟨rfl, hbq⟩
                replace HE := Lib.hid (HE.out.below hbq)
                clear hbq CGt z0
                have HX := Lib.hid (rowIn_new (clA (L.getD f M.cl0)) 38 w2)
                replace HE := Lib.hid (HE.out.alloc (.cells (clA (L.getD f M.cl0)) 38))
                generalize hcf : L.getD f M.cl0 = cf at *
                go_wp2_with fail
                have hfn : f < L.length := by omega
                have HE3 := Lib.hid (show Eb10 W L p g off cf w2.heap.size f i ki (w2.alloc (.cells #[.string (S cf.key), .int .i64 cf.seq, .string (S cf.val)] 38)) from ⟨HE.out, HX.out, by have := HE.out.c f hfn; rwa [hcf] at this, by have := (HE.out.c i hlt).1; rwa [hki] at this⟩)
                clear HE HX
                have HE := HE3
                clear HE3
                obtain ⟨aF, hr1, hk1⟩ := cut_cells L (some ⟨g, off, none⟩) cap f l (by omega) hln hc
                obtain ⟨aG, hr2, hk2⟩ := cut_tail L (some ⟨g, off, none⟩) cap f (by omega) hc
                have hp1 := pieceC_len L (i := f) (j := l) (by omega) hln
                have hp2 := pieceC_len L (i := f) (j := L.length) (by omega) (Nat.le_refl _)
                have CR1 := Lib.hid (fun V (h : TabAt L p V) => rng_one10 L p ki V h HS.out (by omega) HQ.out (by omega))
                have CR2 := Lib.hid (fun V (h : TabAt L p V) => rng_all10 L p ki V h HS.out (by omega) HQ.out (by omega))
                rw [HG.out.one] at CR1
                rw [HG.out.all] at CR2
                have CS1 := Lib.hid (fun V a c (h : Ea10 W L p g off V) (h1 : ClsAt V a (pieceC L f l)) => sameCells9_yes (pieceC L f l) (pieceC L f l).length rfl a aF c (cap - f) (by omega) (w := V) h1 (hk1 V (fun _ => ⟨g, off, rfl, h.c⟩)))
                have CS2 := Lib.hid (fun V a c (h : Ea10 W L p g off V) (h1 : ClsAt V a (pieceC L f L.length)) => sameCells9_yes (pieceC L f L.length) (pieceC L f L.length).length rfl a aG c (cap - f) (by omega) (w := V) h1 (hk2 V (fun _ => ⟨g, off, rfl, h.c⟩)))
                unfold RngC at CR1 CR2
                clear hk1 hk2 hp1 hp2 HG hcf
                have hfi : (f : Int) < (L.length : Int) := by omega
                generalize pieceC L f l = K1 at *
                generalize pieceC L f L.length = K2 at *
                generalize w2.alloc (.cells #[.string (S cf.key), .int .i64 cf.seq, .string (S cf.val)] 38) = w3 at *
                generalize w2.heap.size = b2 at *
                refine wp_region_held_drew (S := fun V => V.cell? ⟨b2, 0, none⟩ = some (.string (S cf.key)) ∧ V.cell? ⟨b2, 1, none⟩ = some (.int .i64 cf.seq) ∧ V.cell? ⟨b2, 2, none⟩ = some (.string (S cf.val)) ∧ V.cell? ⟨g, off + f * 3, none⟩ = some (.string (S cf.key)) ∧ V.cell? ⟨g, off + f * 3 + 1, none⟩ = some (.int .i64 cf.seq) ∧ V.cell? ⟨g, off + f * 3 + 2, none⟩ = some (.string (S cf.val)) ∧ V.cell? ⟨g, off + i * 3, none⟩ = some (.string (S ki))) (by kernel_rfl) ?_ (fun hHeld => ?_)
                · exact HE.out.drew.s
                replace HE := Lib.hid HE.out.drew
                refine wpAnyH_take (i := 0) (oi := { dst := some 75, op := Op.move (Operand.tmp 9), type := 4, pos := "outright.go:102", after := #[], guard := none }) (v := ?_) rfl (by kernel_rfl) (by kernel_rfl) (by kernel_rfl) (fun _ _ _ h => h) (Or.inl ⟨by rfl, ?_⟩) (by assumption) ?_
                rotate_left
                · (intro w hSw; (try dsimp only at hSw); go_simp); (first | done | with_reducible rfl)
                try simp only [Act.put, List.setIfInBounds_toArray, List.set_cons_zero, List.set_cons_succ]
                refine wpAnyH_take (i := 1) (oi := { dst := some 76, op := Op.unOp UnOp.not 4 (Operand.tmp 75), type := 4, pos := "outright.go:102", after := #[{ on := 0, ground := Ground.data }], guard := none }) (v := ?_) rfl (by kernel_rfl) (by kernel_rfl) (by kernel_rfl) (fun _ _ _ h => h) (Or.inl ⟨by rfl, ?_⟩) (by assumption) ?_
                rotate_left
                · (intro w hSw; (try dsimp only at hSw); go_simp); (first | done | with_reducible rfl)
                try simp only [Act.put, List.setIfInBounds_toArray, List.set_cons_zero, List.set_cons_succ]
                refine wpAnyH_take (i := 2) (oi := { dst := some 77, op := Op.move (Operand.tmp 76), type := 4, pos := "outright.go:102", after := #[{ on := 1, ground := Ground.data }], guard := none }) (v := ?_) rfl (by kernel_rfl) (by kernel_rfl) (by kernel_rfl) (fun _ _ _ h => h) (Or.inl ⟨by rfl, ?_⟩) (by assumption) ?_
                rotate_left
                · (intro w hSw; (try dsimp only at hSw); go_simp); (first | done | with_reducible rfl)
                try simp only [Act.put, List.setIfInBounds_toArray, List.set_cons_zero, List.set_cons_succ]
                refine wpAnyH_take (i := 3) (oi := { dst := some 78, op := Op.load 38 (Operand.tmp 8), type := 38, pos := "outright.go:102", after := #[{ on := 2, ground := Ground.guard }], guard := some (2, false) }) (v := ?_) rfl (by kernel_rfl) (by kernel_rfl) (by kernel_rfl) (fun _ _ _ h => h) (Or.inl ⟨by rfl, ?_⟩) (by assumption) ?_
                rotate_left
                · (intro w hSw; (try dsimp only at hSw); go_simp); (first | done | with_reducible rfl)
                try simp only [Act.put, List.setIfInBounds_toArray, List.set_cons_zero, List.set_cons_succ]
                refine wpAnyH_take (i := 4) (oi := { dst := some 79, op := Op.move (Operand.tmp 0), type := 22, pos := "outright.go:102", after := #[{ on := 2, ground := Ground.guard }], guard := some (2, false) }) (v := ?_) rfl (by kernel_rfl) (by kernel_rfl) (by kernel_rfl) (fun _ _ _ h => h) (Or.inl ⟨by rfl, ?_⟩) (by assumption) ?_
                rotate_left
                · (intro w hSw; (try dsimp only at hSw); go_simp); (first | done | with_reducible rfl)
                try simp only [Act.put, List.setIfInBounds_toArray, List.set_cons_zero, List.set_cons_succ]
                refine wpAnyH_take (i := 5) (oi := { dst := some 80, op := Op.move (Operand.tmp 6), type := 3, pos := "outright.go:102", after := #[{ on := 2, ground := Ground.guard }], guard := some (2, false) }) (v := ?_) rfl (by kernel_rfl) (by kernel_rfl) (by kernel_rfl) (fun _ _ _ h => h) (Or.inl ⟨by rfl, ?_⟩) (by assumption) ?_
                rotate_left
                · (intro w hSw; (try dsimp only at hSw); go_simp); (first | done | with_reducible rfl)
                try simp only [Act.put, List.setIfInBounds_toArray, List.set_cons_zero, List.set_cons_succ]
                refine wpAnyH_take (i := 6) (oi := { dst := some 81, op := Op.indexAddr 22 (Operand.tmp 79) (Operand.tmp 80), type := 0, pos := "outright.go:102", after := #[{ on := 4, ground := Ground.data }, { on := 5, ground := Ground.data }, { on := 2, ground := Ground.guard }], guard := some (2, false) }) (v := ?_) rfl (by kernel_rfl) (by kernel_rfl) (by kernel_rfl) (fun _ _ _ h => h) (Or.inl ⟨by rfl, ?_⟩) (by assumption) ?_
                rotate_left
                · (intro w hSw; (try dsimp only at hSw); go_simp); (first | done | with_reducible rfl)
                try simp only [Act.put, List.setIfInBounds_toArray, List.set_cons_zero, List.set_cons_succ]
                refine wpAnyH_take (i := 7) (oi := { dst := some 82, op := Op.load 38 (Operand.tmp 81), type := 38, pos := "outright.go:102", after := #[{ on := 6, ground := Ground.data }, { on := 2, ground := Ground.guard }], guard := some (2, false) }) (v := ?_) rfl (by kernel_rfl) (by kernel_rfl) (by kernel_rfl) (fun _ _ _ h => h) (Or.inl ⟨by rfl, ?_⟩) (by assumption) ?_
                rotate_left
                · (intro w hSw; (try dsimp only at hSw); go_simp); (first | done | with_reducible rfl)
                try simp only [Act.put, List.setIfInBounds_toArray, List.set_cons_zero, List.set_cons_succ]
                refine wpAnyH_take (i := 8) (oi := { dst := some 83, op := Op.binOp BinOp.neq 38 (Operand.tmp 78) (Operand.tmp 82) 38, type := 4, pos := "outright.go:102", after := #[{ on := 3, ground := Ground.data }, { on := 7, ground := Ground.data }, { on := 2, ground := Ground.guard }], guard := some (2, false) }) (v := ?_) rfl (by kernel_rfl) (by kernel_rfl) (by kernel_rfl) (fun _ _ _ h => h) (Or.inl ⟨by rfl, ?_⟩) (by assumption) ?_
                rotate_left
                · (intro w hSw; (try dsimp only at hSw); go_simp); (first | done | with_reducible rfl)
                try simp only [Act.put, List.setIfInBounds_toArray, List.set_cons_zero, List.set_cons_succ]
                refine wpAnyH_take (i := 9) (oi := { dst := some 84, op := Op.pick (Operand.tmp 77) (Operand.const (Value.bool true)) (Operand.tmp 83), type := 4, pos := "outright.go:102", after := #[{ on := 2, ground := Ground.data }, { on := 8, ground := Ground.data }], guard := none }) (v := ?_) rfl (by kernel_rfl) (by kernel_rfl) (by kernel_rfl) (fun _ _ _ h => h) (Or.inl ⟨by rfl, ?_⟩) (by assumption) ?_
                rotate_left
                · (intro w hSw; (try dsimp only at hSw); go_simp); (first | done | with_reducible rfl)
                try simp only [Act.put, List.setIfInBounds_toArray, List.set_cons_zero, List.set_cons_succ]
                refine wpAnyH_take (i := 10) (oi := { dst := some 85, op := Op.move (Operand.tmp 84), type := 4, pos := "outright.go:102", after := #[{ on := 9, ground := Ground.data }, { on := 2, ground := Ground.chain }], guard := none }) (v := ?_) rfl (by kernel_rfl) (by kernel_rfl) (by kernel_rfl) (fun _ _ _ h => h) (Or.inl ⟨by rfl, ?_⟩) (by assumption) ?_
                rotate_left
                · (intro w hSw; (try dsimp only at hSw); go_simp); (first | done | with_reducible rfl)
                try simp only [Act.put, List.setIfInBounds_toArray, List.set_cons_zero, List.set_cons_succ]
                refine wpAnyH_take (i := 11) (oi := { dst := some 86, op := Op.move (Operand.tmp 3), type := 32, pos := "outright.go:102", after := #[{ on := 10, ground := Ground.guard }], guard := some (10, false) }) (v := ?_) rfl (by kernel_rfl) (by kernel_rfl) (by kernel_rfl) (fun _ _ _ h => h) (Or.inl ⟨by rfl, ?_⟩) (by assumption) ?_
                rotate_left
                · (intro w hSw; (try dsimp only at hSw); go_simp); (first | done | with_reducible rfl)
                try simp only [Act.put, List.setIfInBounds_toArray, List.set_cons_zero, List.set_cons_succ]
                refine wpAnyH_take (i := 12) (oi := { dst := some 87, op := Op.move (Operand.tmp 0), type := 22, pos := "outright.go:102", after := #[{ on := 10, ground := Ground.guard }], guard := some (10, false) }) (v := ?_) rfl (by kernel_rfl) (by kernel_rfl) (by kernel_rfl) (fun _ _ _ h => h) (Or.inl ⟨by rfl, ?_⟩) (by assumption) ?_
                rotate_left
                · (intro w hSw; (try dsimp only at hSw); go_simp); (first | done | with_reducible rfl)
                try simp only [Act.put, List.setIfInBounds_toArray, List.set_cons_zero, List.set_cons_succ]
                refine wpAnyH_take (i := 13) (oi := { dst := some 88, op := Op.move (Operand.tmp 5), type := 3, pos := "outright.go:102", after := #[{ on := 10, ground := Ground.guard }], guard := some (10, false) }) (v := ?_) rfl (by kernel_rfl) (by kernel_rfl) (by kernel_rfl) (fun _ _ _ h => h) (Or.inl ⟨by rfl, ?_⟩) (by assumption) ?_
                rotate_left
                · (intro w hSw; (try dsimp only at hSw); go_simp); (first | done | with_reducible rfl)
                try simp only [Act.put, List.setIfInBounds_toArray, List.set_cons_zero, List.set_cons_succ]
                refine wpAnyH_take (i := 14) (oi := { dst := some 89, op := Op.indexAddr 22 (Operand.tmp 87) (Operand.tmp 88), type := 0, pos := "outright.go:102", after := #[{ on := 12, ground := Ground.data }, { on := 13, ground := Ground.data }, { on := 10, ground := Ground.guard }], guard := some (10, false) }) (v := ?_) rfl (by kernel_rfl) (by kernel_rfl) (by kernel_rfl) (fun _ _ _ h => h) (Or.inl ⟨by rfl, ?_⟩) (by assumption) ?_
                rotate_left
                · (intro w hSw; (try dsimp only at hSw); go_simp); (first | done | with_reducible rfl)
                try simp only [Act.put, List.setIfInBounds_toArray, List.set_cons_zero, List.set_cons_succ]
                refine wpAnyH_take (i := 15) (oi := { dst := some 90, op := Op.fieldAddr 38 (Operand.tmp 89) 0, type := 0, pos := "outright.go:102", after := #[{ on := 14, ground := Ground.data }, { on := 10, ground := Ground.guard }], guard := some (10, false) }) (v := ?_) rfl (by kernel_rfl) (by kernel_rfl) (by kernel_rfl) (fun _ _ _ h => h) (Or.inl ⟨by rfl, ?_⟩) (by assumption) ?_
                rotate_left
                · (intro w hSw; (try dsimp only at hSw); go_simp); (first | done | with_reducible rfl)
                try simp only [Act.put, List.setIfInBounds_toArray, List.set_cons_zero, List.set_cons_succ]
                refine wpAnyH_take (i := 16) (oi := { dst := some 91, op := Op.load 9 (Operand.tmp 90), type := 9, pos := "outright.go:102", after := #[{ on := 15, ground := Ground.data }, { on := 10, ground := Ground.guard }], guard := some (10, false) }) (v := ?_) rfl (by kernel_rfl) (by kernel_rfl) (by kernel_rfl) (fun _ _ _ h => h) (Or.inl ⟨by rfl, ?_⟩) (by assumption) ?_
                rotate_left
                · (intro w hSw; (try dsimp only at hSw); go_simp); (first | done | with_reducible rfl)
                try simp only [Act.put, List.setIfInBounds_toArray, List.set_cons_zero, List.set_cons_succ]
                refine wpAnyH_take (i := 17) (oi := { dst := some 92, op := Op.move (Operand.tmp 0), type := 22, pos := "outright.go:102", after := #[{ on := 10, ground := Ground.guard }], guard := some (10, false) }) (v := ?_) rfl (by kernel_rfl) (by kernel_rfl) (by kernel_rfl) (fun _ _ _ h => h) (Or.inl ⟨by rfl, ?_⟩) (by assumption) ?_
                rotate_left
                · (intro w hSw; (try dsimp only at hSw); go_simp); (first | done | with_reducible rfl)
                try simp only [Act.put, List.setIfInBounds_toArray, List.set_cons_zero, List.set_cons_succ]
                refine wpAnyH_take (i := 18) (oi := { dst := some 93, op := Op.move (Operand.tmp 5), type := 3, pos := "outright.go:102", after := #[{ on := 10, ground := Ground.guard }], guard := some (10, false) }) (v := ?_) rfl (by kernel_rfl) (by kernel_rfl) (by kernel_rfl) (fun _ _ _ h => h) (Or.inl ⟨by rfl, ?_⟩) (by assumption) ?_
                rotate_left
                · (intro w hSw; (try dsimp only at hSw); go_simp); (first | done | with_reducible rfl)
                try simp only [Act.put, List.setIfInBounds_toArray, List.set_cons_zero, List.set_cons_succ]
                refine wpAnyH_take (i := 19) (oi := { dst := some 94, op := Op.indexAddr 22 (Operand.tmp 92) (Operand.tmp 93), type := 0, pos := "outright.go:102", after := #[{ on := 17, ground := Ground.data }, { on := 18, ground := Ground.data }, { on := 10, ground := Ground.guard }], guard := some (10, false) }) (v := ?_) rfl (by kernel_rfl) (by kernel_rfl) (by kernel_rfl) (fun _ _ _ h => h) (Or.inl ⟨by rfl, ?_⟩) (by assumption) ?_
                rotate_left
                · (intro w hSw; (try dsimp only at hSw); go_simp); (first | done | with_reducible rfl)
                try simp only [Act.put, List.setIfInBounds_toArray, List.set_cons_zero, List.set_cons_succ]
                refine wpAnyH_take (i := 20) (oi := { dst := some 95, op := Op.fieldAddr 38 (Operand.tmp 94) 0, type := 0, pos := "outright.go:102", after := #[{ on := 19, ground := Ground.data }, { on := 10, ground := Ground.guard }], guard := some (10, false) }) (v := ?_) rfl (by kernel_rfl) (by kernel_rfl) (by kernel_rfl) (fun _ _ _ h => h) (Or.inl ⟨by rfl, ?_⟩) (by assumption) ?_
                rotate_left
                · (intro w hSw; (try dsimp only at hSw); go_simp); (first | done | with_reducible rfl)
                try simp only [Act.put, List.setIfInBounds_toArray, List.set_cons_zero, List.set_cons_succ]
                refine wpAnyH_take (i := 21) (oi := { dst := some 96, op := Op.load 9 (Operand.tmp 95), type := 9, pos := "outright.go:102", after := #[{ on := 20, ground := Ground.data }, { on := 10, ground := Ground.guard }], guard := some (10, false) }) (v := ?_) rfl (by kernel_rfl) (by kernel_rfl) (by kernel_rfl) (fun _ _ _ h => h) (Or.inl ⟨by rfl, ?_⟩) (by assumption) ?_
                rotate_left
                · (intro w hSw; (try dsimp only at hSw); go_simp); (first | done | with_reducible rfl)
                try simp only [Act.put, List.setIfInBounds_toArray, List.set_cons_zero, List.set_cons_succ]
                refine wpAnyH_take (i := 22) (oi := { dst := some 97, op := Op.binOp BinOp.add 9 (Operand.tmp 96) (Operand.const (Value.string { data := #[0] })) 9, type := 9, pos := "outright.go:102", after := #[{ on := 21, ground := Ground.data }, { on := 10, ground := Ground.guard }], guard := some (10, false) }) (v := ?_) rfl (by kernel_rfl) (by kernel_rfl) (by kernel_rfl) (fun _ _ _ h => h) (Or.inl ⟨by rfl, ?_⟩) (by assumption) ?_
                rotate_left
                · (intro w hSw; (try dsimp only at hSw); go_simp; rw [if_neg (by omega)])
                try simp only [Act.put, List.setIfInBounds_toArray, List.set_cons_zero, List.set_cons_succ]
                refine wpAnyH_take (i := 24) (oi := { dst := some 99, op := Op.move (Operand.tmp 0), type := 22, pos := "outright.go:102", after := #[{ on := 10, ground := Ground.guard }], guard := some (10, false) }) (v := ?_) rfl (by kernel_rfl) (by kernel_rfl) (by kernel_rfl) (fun _ _ _ h => h) (Or.inl ⟨by rfl, ?_⟩) (by assumption) ?_
                rotate_left
                · (intro w hSw; (try dsimp only at hSw); go_simp); (first | done | with_reducible rfl)
                try simp only [Act.put, List.setIfInBounds_toArray, List.set_cons_zero, List.set_cons_succ]
                refine wpAnyH_take (i := 25) (oi := { dst := some 100, op := Op.move (Operand.tmp 6), type := 3, pos := "outright.go:102", after := #[{ on := 10, ground := Ground.guard }], guard := some (10, false) }) (v := ?_) rfl (by kernel_rfl) (by kernel_rfl) (by kernel_rfl) (fun _ _ _ h => h) (Or.inl ⟨by rfl, ?_⟩) (by assumption) ?_
                rotate_left
                · (intro w hSw; (try dsimp only at hSw); go_simp); (first | done | with_reducible rfl)
                try simp only [Act.put, List.setIfInBounds_toArray, List.set_cons_zero, List.set_cons_succ]
                refine wpAnyH_take (i := 26) (oi := { dst := some 101, op := Op.move (Operand.tmp 7), type := 3, pos := "outright.go:102", after := #[{ on := 10, ground := Ground.guard }], guard := some (10, false) }) (v := ?_) rfl (by kernel_rfl) (by kernel_rfl) (by kernel_rfl) (fun _ _ _ h => h) (Or.inl ⟨by rfl, ?_⟩) (by assumption) ?_
                rotate_left
                · (intro w hSw; (try dsimp only at hSw); go_simp); (first | done | with_reducible rfl)
                try simp only [Act.put, List.setIfInBounds_toArray, List.set_cons_zero, List.set_cons_succ]
                refine wpAnyH_take (i := 27) (oi := { dst := some 102, op := Op.slice 22 (Operand.tmp 99) (some (Operand.tmp 100)) (some (Operand.tmp 101)) none, type := 22, pos := "outright.go:102", after := #[{ on := 24, ground := Ground.data }, { on := 25, ground := Ground.data }, { on := 26, ground := Ground.data }, { on := 10, ground := Ground.guard }], guard := some (10, false) }) (v := ?_) rfl (by kernel_rfl) (by kernel_rfl) (by kernel_rfl) (fun _ _ _ h => h) (Or.inl ⟨by rfl, ?_⟩) (by assumption) ?_
                rotate_left
                · (intro w hSw; (try dsimp only at hSw); go_simp); (first | done | with_reducible rfl)
                try simp only [Act.put, List.setIfInBounds_toArray, List.set_cons_zero, List.set_cons_succ]
                refine wpAnyH_ready (rs := [23]) (by kernel_rfl) (by simp) ?_
                refine AllReadyH.cons (o := { dst := some 98, op := Op.call { callee := Callee.value (Operand.func 32), args := #[Operand.tmp 86, Operand.tmp 91, Operand.tmp 97], argTypes := #[32, 9, 9] }, type := 22, pos := "outright.go:102", after := #[{ on := 11, ground := Ground.data }, { on := 16, ground := Ground.data }, { on := 22, ground := Ground.data }, { on := 10, ground := Ground.chain }, { on := 10, ground := Ground.guard }], guard := some (10, false) }) rfl (fun K hK => ?_) AllReadyH.nil
                go_simp
                go_at_call 32
                with_reducible refine (CR1.out _ HE.out.e.t).mono ?_
                rintro e w5 ⟨aw5, cw5, rfl, hw5, hbq⟩
                replace HE := Lib.hid (HE.out.below hbq)
                have HK := Lib.hid hw5
                clear hbq hw5
                go_wp2_with fail
                refine hK.out _ _ ?_ (fun hHeld => ?_)
                · exact HE.out.s
                clear hK K
                try simp only [Act.put, List.setIfInBounds_toArray, List.set_cons_zero, List.set_cons_succ]
                refine wpAnyH_ready (rs := [28]) (by kernel_rfl) (by simp) ?_
                refine AllReadyH.cons (o := { dst := some 103, op := Op.call { callee := Callee.value (Operand.func 35), args := #[Operand.tmp 98, Operand.tmp 102], argTypes := #[22, 22] }, type := 4, pos := "outright.go:102", after := #[{ on := 23, ground := Ground.data }, { on := 27, ground := Ground.data }, { on := 23, ground := Ground.chain }, { on := 10, ground := Ground.guard }], guard := some (10, false) }) rfl (fun K hK => ?_) AllReadyH.nil
                go_simp
                go_at_call 35
                with_reducible refine (CS1.out _ _ _ HE.out.e HK.out).mono ?_
                rintro e w6 ⟨rfl, hbq⟩
                replace HE := Lib.hid (HE.out.below hbq)
                clear hbq HK
                go_wp2_with fail
                refine hK.out _ _ ?_ (fun hHeld => ?_)
                · exact HE.out.s
                clear hK K
                try simp only [Act.put, List.setIfInBounds_toArray, List.set_cons_zero, List.set_cons_succ]
                refine wpAnyH_take (i := 29) (oi := { dst := some 104, op := Op.unOp UnOp.not 4 (Operand.tmp 103), type := 4, pos := "outright.go:102", after := #[{ on := 28, ground := Ground.data }, { on := 10, ground := Ground.guard }], guard := some (10, false) }) (v := ?_) rfl (by kernel_rfl) (by kernel_rfl) (by kernel_rfl) (fun _ _ _ h => h) (Or.inl ⟨by rfl, ?_⟩) (by assumption) ?_
                rotate_left
                · (intro w hSw; (try dsimp only at hSw); go_simp); (first | done | with_reducible rfl)
                try simp only [Act.put, List.setIfInBounds_toArray, List.set_cons_zero, List.set_cons_succ]
                refine wpAnyH_take (i := 30) (oi := { dst := some 105, op := Op.pick (Operand.tmp 85) (Operand.const (Value.bool true)) (Operand.tmp 104), type := 4, pos := "outright.go:102", after := #[{ on := 10, ground := Ground.data }, { on := 29, ground := Ground.data }], guard := none }) (v := ?_) rfl (by kernel_rfl) (by kernel_rfl) (by kernel_rfl) (fun _ _ _ h => h) (Or.inl ⟨by rfl, ?_⟩) (by assumption) ?_
                rotate_left
                · (intro w hSw; (try dsimp only at hSw); go_simp); (first | done | with_reducible rfl)
                try simp only [Act.put, List.setIfInBounds_toArray, List.set_cons_zero, List.set_cons_succ]
                refine wpAnyH_take (i := 31) (oi := { dst := some 106, op := Op.move (Operand.tmp 105), type := 4, pos := "outright.go:102", after := #[{ on := 30, ground := Ground.data }, { on := 28, ground := Ground.chain }], guard := none }) (v := ?_) rfl (by kernel_rfl) (by kernel_rfl) (by kernel_rfl) (fun _ _ _ h => h) (Or.inl ⟨by rfl, ?_⟩) (by assumption) ?_
                rotate_left
                · (intro w hSw; (try dsimp only at hSw); go_simp); (first | done | with_reducible rfl)
                try simp only [Act.put, List.setIfInBounds_toArray, List.set_cons_zero, List.set_cons_succ]
                refine wpAnyH_take (i := 32) (oi := { dst := some 107, op := Op.move (Operand.tmp 3), type := 32, pos := "outright.go:102", after := #[{ on := 31, ground := Ground.guard }], guard := some (31, false) }) (v := ?_) rfl (by kernel_rfl) (by kernel_rfl) (by kernel_rfl) (fun _ _ _ h => h) (Or.inl ⟨by rfl, ?_⟩) (by assumption) ?_
                rotate_left
                · (intro w hSw; (try dsimp only at hSw); go_simp); (first | done | with_reducible rfl)
                try simp only [Act.put, List.setIfInBounds_toArray, List.set_cons_zero, List.set_cons_succ]
                refine wpAnyH_take (i := 33) (oi := { dst := some 108, op := Op.move (Operand.tmp 0), type := 22, pos := "outright.go:102", after := #[{ on := 31, ground := Ground.guard }], guard := some (31, false) }) (v := ?_) rfl (by kernel_rfl) (by kernel_rfl) (by kernel_rfl) (fun _ _ _ h => h) (Or.inl ⟨by rfl, ?_⟩) (by assumption) ?_
                rotate_left
                · (intro w hSw; (try dsimp only at hSw); go_simp); (first | done | with_reducible rfl)
                try simp only [Act.put, List.setIfInBounds_toArray, List.set_cons_zero, List.set_cons_succ]
                refine wpAnyH_take (i := 34) (oi := { dst := some 109, op := Op.move (Operand.tmp 5), type := 3, pos := "outright.go:102", after := #[{ on := 31, ground := Ground.guard }], guard := some (31, false) }) (v := ?_) rfl (by kernel_rfl) (by kernel_rfl) (by kernel_rfl) (fun _ _ _ h => h) (Or.inl ⟨by rfl, ?_⟩) (by assumption) ?_
                rotate_left
                · (intro w hSw; (try dsimp only at hSw); go_simp); (first | done | with_reducible rfl)
                try simp only [Act.put, List.setIfInBounds_toArray, List.set_cons_zero, List.set_cons_succ]
                refine wpAnyH_take (i := 35) (oi := { dst := some 110, op := Op.indexAddr 22 (Operand.tmp 108) (Operand.tmp 109), type := 0, pos := "outright.go:102", after := #[{ on := 33, ground := Ground.data }, { on := 34, ground := Ground.data }, { on := 31, ground := Ground.guard }], guard := some (31, false) }) (v := ?_) rfl (by kernel_rfl) (by kernel_rfl) (by kernel_rfl) (fun _ _ _ h => h) (Or.inl ⟨by rfl, ?_⟩) (by assumption) ?_
                rotate_left
                · (intro w hSw; (try dsimp only at hSw); go_simp); (first | done | with_reducible rfl)
                try simp only [Act.put, List.setIfInBounds_toArray, List.set_cons_zero, List.set_cons_succ]
                refine wpAnyH_take (i := 36) (oi := { dst := some 111, op := Op.fieldAddr 38 (Operand.tmp 110) 0, type := 0, pos := "outright.go:102", after := #[{ on := 35, ground := Ground.data }, { on := 31, ground := Ground.guard }], guard := some (31, false) }) (v := ?_) rfl (by kernel_rfl) (by kernel_rfl) (by kernel_rfl) (fun _ _ _ h => h) (Or.inl ⟨by rfl, ?_⟩) (by assumption) ?_
                rotate_left
                · (intro w hSw; (try dsimp only at hSw); go_simp); (first | done | with_reducible rfl)
                try simp only [Act.put, List.setIfInBounds_toArray, List.set_cons_zero, List.set_cons_succ]
                refine wpAnyH_take (i := 37) (oi := { dst := some 112, op := Op.load 9 (Operand.tmp 111), type := 9, pos := "outright.go:102", after := #[{ on := 36, ground := Ground.data }, { on := 31, ground := Ground.guard }], guard := some (31, false) }) (v := ?_) rfl (by kernel_rfl) (by kernel_rfl) (by kernel_rfl) (fun _ _ _ h => h) (Or.inl ⟨by rfl, ?_⟩) (by assumption) ?_
                rotate_left
                · (intro w hSw; (try dsimp only at hSw); go_simp); (first | done | with_reducible rfl)
                try simp only [Act.put, List.setIfInBounds_toArray, List.set_cons_zero, List.set_cons_succ]
                refine wpAnyH_take (i := 39) (oi := { dst := some 114, op := Op.move (Operand.tmp 0), type := 22, pos := "outright.go:102", after := #[{ on := 31, ground := Ground.guard }], guard := some (31, false) }) (v := ?_) rfl (by kernel_rfl) (by kernel_rfl) (by kernel_rfl) (fun _ _ _ h => h) (Or.inl ⟨by rfl, ?_⟩) (by assumption) ?_
                rotate_left
                · (intro w hSw; (try dsimp only at hSw); go_simp); (first | done | with_reducible rfl)
                try simp only [Act.put, List.setIfInBounds_toArray, List.set_cons_zero, List.set_cons_succ]
                refine wpAnyH_take (i := 40) (oi := { dst := some 115, op := Op.move (Operand.tmp 6), type := 3, pos := "outright.go:102", after := #[{ on := 31, ground := Ground.guard }], guard := some (31, false) }) (v := ?_) rfl (by kernel_rfl) (by kernel_rfl) (by kernel_rfl) (fun _ _ _ h => h) (Or.inl ⟨by rfl, ?_⟩) (by assumption) ?_
                rotate_left
                · (intro w hSw; (try dsimp only at hSw); go_simp); (first | done | with_reducible rfl)
                try simp only [Act.put, List.setIfInBounds_toArray, List.set_cons_zero, List.set_cons_succ]
                refine wpAnyH_take (i := 41) (oi := { dst := some 116, op := Op.slice 22 (Operand.tmp 114) (some (Operand.tmp 115)) none none, type := 22, pos := "outright.go:102", after := #[{ on := 39, ground := Ground.data }, { on := 40, ground := Ground.data }, { on := 31, ground := Ground.guard }], guard := some (31, false) }) (v := ?_) rfl (by kernel_rfl) (by kernel_rfl) (by kernel_rfl) (fun _ _ _ h => h) (Or.inl ⟨by rfl, ?_⟩) (by assumption) ?_
                rotate_left
                · (intro w hSw; (try dsimp only at hSw); go_simp); (first | done | with_reducible rfl)
                try simp only [Act.put, List.setIfInBounds_toArray, List.set_cons_zero, List.set_cons_succ]
                refine wpAnyH_ready (rs := [38]) (by kernel_rfl) (by simp) ?_
                refine AllReadyH.cons (o := { dst := some 113, op := Op.call { callee := Callee.value (Operand.func 32), args := #[Operand.tmp 107, Operand.tmp 112, Operand.const (Value.string { data := #[] })], argTypes := #[32, 9, 9] }, type := 22, pos := "outright.go:102", after := #[{ on := 32, ground := Ground.data }, { on := 37, ground := Ground.data }, { on := 31, ground := Ground.chain }, { on := 31, ground := Ground.guard }], guard := some (31, false) }) rfl (fun K hK => ?_) AllReadyH.nil
                go_simp
                go_at_call 32
                with_reducible refine (CR2.out _ HE.out.e.t).mono ?_
                rintro e w7 ⟨aw7, cw7, rfl, hw7, hbq⟩
                replace HE := Lib.hid (HE.out.below hbq)
                have HK := Lib.hid hw7
                clear hbq hw7
                go_wp2_with fail
                refine hK.out _ _ ?_ (fun hHeld => ?_)
                · exact HE.out.s
                clear hK K
                try simp only [Act.put, List.setIfInBounds_toArray, List.set_cons_zero, List.set_cons_succ]
                refine wpAnyH_ready (rs := [42]) (by kernel_rfl) (by simp) ?_
                refine AllReadyH.cons (o := { dst := some 117, op := Op.call { callee := Callee.value (Operand.func 35), args := #[Operand.tmp 113, Operand.tmp 116], argTypes := #[22, 22] }, type := 4, pos := "outright.go:102", after := #[{ on := 38, ground := Ground.data }, { on := 41, ground := Ground.data }, { on := 38, ground := Ground.chain }, { on := 31, ground := Ground.guard }], guard := some (31, false) }) rfl (fun K hK => ?_) AllReadyH.nil
                go_simp
                go_at_call 35
                with_reducible refine (CS2.out _ _ _ HE.out.e HK.out).mono ?_
                rintro e w8 ⟨rfl, hbq⟩
                replace HE := Lib.hid (HE.out.below hbq)
                clear hbq HK
                go_wp2_with fail
                refine hK.out _ _ ?_ (fun hHeld => ?_)
                · exact HE.out.s
                clear hK K
                try simp only [Act.put, List.setIfInBounds_toArray, List.set_cons_zero, List.set_cons_succ]
                refine wpAnyH_take (i := 43) (oi := { dst := some 118, op := Op.unOp UnOp.not 4 (Operand.tmp 117), type := 4, pos := "outright.go:102", after := #[{ on := 42, ground := Ground.data }, { on := 31, ground := Ground.guard }], guard := some (31, false) }) (v := ?_) rfl (by kernel_rfl) (by kernel_rfl) (by kernel_rfl) (fun _ _ _ h => h) (Or.inl ⟨by rfl, ?_⟩) (by assumption) ?_
                rotate_left
                · (intro w hSw; (try dsimp only at hSw); go_simp); (first | done | with_reducible rfl)
                try simp only [Act.put, List.setIfInBounds_toArray, List.set_cons_zero, List.set_cons_succ]
                refine wpAnyH_take (i := 44) (oi := { dst := some 119, op := Op.pick (Operand.tmp 106) (Operand.const (Value.bool true)) (Operand.tmp 118), type := 4, pos := "outright.go:102", after := #[{ on := 31, ground := Ground.data }, { on := 43, ground := Ground.data }], guard := none }) (v := ?_) rfl (by kernel_rfl) (by kernel_rfl) (by kernel_rfl) (fun _ _ _ h => h) (Or.inl ⟨by rfl, ?_⟩) (by assumption) ?_
                rotate_left
                · (intro w hSw; (try dsimp only at hSw); go_simp); (first | done | with_reducible rfl)
                refine wpAnyH_done (by kernel_rfl) ?_ _
                go_wp2_with fail
                go_roundw
                case rel => exact ⟨i + 1, by omega, by go_num, Lib.hid HE.out.e.b, Lib.hid HE.out.e.t, Lib.hid (fun _ => ⟨g, off, rfl, HE.out.e.c⟩)⟩
                case measure => simp [intOf]; omega
              · have hd0 : decide ((l : Int) < (L.length : Int)) = false := by simp; omega
                have hd2 : decide (l < L.length) = false := by simp; omega
                have hli : i < l := by omega
                have HG := Lib.hid (show M.Grp L ki f l from by
                  subst hki
                  exact M.grp_of HS.out hlt hf hli hln HF.out HF1.out HL2.out (.inl hq))
                clear hq HX1 HL2 HF HF1
                go_wp2_with fail
                go_quiet (fail)
                replace HE := Lib.hid (HE.out.drewN nq)
                clear z0 hd0 hd2
                obtain ⟨wq, hwq⟩ : ∃ x, x = wr.drewN nq := ⟨_, rfl⟩
                rw [← hwq] at HE ⊢
                clear hwq
                obtain ⟨z0, -, -⟩ := HE.out.c i hlt
                rw [hki] at z0
                have hfl := HG.out.fl
                have CGt := Lib.hid (get10_any L p ki wq HE.out.t HS.out (by omega) HQ.out (by omega))
                rw [HG.out.find] at CGt
                unfold FindR9 at CGt
                simp only [Option.getD_some, Option.isSome_some] at CGt
                go_wp2_with fail
                with_reducible refine (CGt.out).mono ?_
                rintro e w2 ⟨rfl, hbq⟩
                replace HE := Lib.hid (HE.out.below hbq)
                clear hbq CGt z0
                have HX := Lib.hid (rowIn_new (clA (L.getD f M.cl0)) 38 w2)
                replace HE := Lib.hid (HE.out.alloc (.cells (clA (L.getD f M.cl0)) 38))
                generalize hcf : L.getD f M.cl0 = cf at *
                go_wp2_with fail
                have hfn : f < L.length := by omega
                have HE3 := Lib.hid (show Eb10 W L p g off cf w2.heap.size f i ki (w2.alloc (.cells #[.string (S cf.key), .int .i64 cf.seq, .string (S cf.val)] 38)) from ⟨HE.out, HX.out, by have := HE.out.c f hfn; rwa [hcf] at this, by have := (HE.out.c i hlt).1; rwa [hki] at this⟩)
                clear HE HX
                have HE := HE3
                clear HE3
                obtain ⟨aF, hr1, hk1⟩ := cut_cells L (some ⟨g, off, none⟩) cap f l (by omega) hln hc
                obtain ⟨aG, hr2, hk2⟩ := cut_tail L (some ⟨g, off, none⟩) cap f (by omega) hc
                have hp1 := pieceC_len L (i := f) (j := l) (by omega) hln
                have hp2 := pieceC_len L (i := f) (j := L.length) (by omega) (Nat.le_refl _)
                have CR1 := Lib.hid (fun V (h : TabAt L p V) => rng_one10 L p ki V h HS.out (by omega) HQ.out (by omega))
                have CR2 := Lib.hid (fun V (h : TabAt L p V) => rng_all10 L p ki V h HS.out (by omega) HQ.out (by omega))
                rw [HG.out.one] at CR1
                rw [HG.out.all] at CR2
                have CS1 := Lib.hid (fun V a c (h : Ea10 W L p g off V) (h1 : ClsAt V a (pieceC L f l)) => sameCells9_yes (pieceC L f l) (pieceC L f l).length rfl a aF c (cap - f) (by omega) (w := V) h1 (hk1 V (fun _ => ⟨g, off, rfl, h.c⟩)))
                have CS2 := Lib.hid (fun V a c (h : Ea10 W L p g off V) (h1 : ClsAt V a (pieceC L f L.length)) => sameCells9_yes (pieceC L f L.length) (pieceC L f L.length).length rfl a aG c (cap - f) (by omega) (w := V) h1 (hk2 V (fun _ => ⟨g, off, rfl, h.c⟩)))
                unfold RngC at CR1 CR2
                clear hk1 hk2 hp1 hp2 HG hcf
                have hfi : (f : Int) < (L.length : Int) := by omega
                generalize pieceC L f l = K1 at *
                generalize pieceC L f L.length = K2 at *
                generalize w2.alloc (.cells #[.string (S cf.key), .int .i64 cf.seq, .string (S cf.val)] 38) = w3 at *
                generalize w2.heap.size = b2 at *
                refine wp_region_held_drew (S := fun V => V.cell? ⟨b2, 0, none⟩ = some (.string (S cf.key)) ∧ V.cell? ⟨b2, 1, none⟩ = some (.int .i64 cf.seq) ∧ V.cell? ⟨b2, 2, none⟩ = some (.string (S cf.val)) ∧ V.cell? ⟨g, off + f * 3, none⟩ = some (.string (S cf.key)) ∧ V.cell? ⟨g, off + f * 3 + 1, none⟩ = some (.int .i64 cf.seq) ∧ V.cell? ⟨g, off + f * 3 + 2, none⟩ = some (.string (S cf.val)) ∧ V.cell? ⟨g, off + i * 3, none⟩ = some (.string (S ki))) (by kernel_rfl) ?_ (fun hHeld => ?_)
                · exact HE.out.drew.s
                replace HE := Lib.hid HE.out.drew
                refine wpAnyH_take (i := 0) (oi := { dst := some 75, op := Op.move (Operand.tmp 9), type := 4, pos := "outright.go:102", after := #[], guard := none }) (v := ?_) rfl (by kernel_rfl) (by kernel_rfl) (by kernel_rfl) (fun _ _ _ h => h) (Or.inl ⟨by rfl, ?_⟩) (by assumption) ?_
                rotate_left
                · (intro w hSw; (try dsimp only at hSw); go_simp); (first | done | with_reducible rfl)
                try simp only [Act.put, List.setIfInBounds_toArray, List.set_cons_zero, List.set_cons_succ]
                refine wpAnyH_take (i := 1) (oi := { dst := some 76, op := Op.unOp UnOp.not 4 (Operand.tmp 75), type := 4, pos := "outright.go:102", after := #[{ on := 0, ground := Ground.data }], guard := none }) (v := ?_) rfl (by kernel_rfl) (by kernel_rfl) (by kernel_rfl) (fun _ _ _ h => h) (Or.inl ⟨by rfl, ?_⟩) (by assumption) ?_
                rotate_left
                · (intro w hSw; (try dsimp only at hSw); go_simp); (first | done | with_reducible rfl)
                try simp only [Act.put, List.setIfInBounds_toArray, List.set_cons_zero, List.set_cons_succ]
                refine wpAnyH_take (i := 2) (oi := { dst := some 77, op := Op.move (Operand.tmp 76), type := 4, pos := "outright.go:102", after := #[{ on := 1, ground := Ground.data }], guard := none }) (v := ?_) rfl (by kernel_rfl) (by kernel_rfl) (by kernel_rfl) (fun _ _ _ h => h) (Or.inl ⟨by rfl, ?_⟩) (by assumption) ?_
                rotate_left
                · (intro w hSw; (try dsimp only at hSw); go_simp); (first | done | with_reducible rfl)
                try simp only [Act.put, List.setIfInBounds_toArray, List.set_cons_zero, List.set_cons_succ]
                refine wpAnyH_take (i := 3) (oi := { dst := some 78, op := Op.load 38 (Operand.tmp 8), type := 38, pos := "outright.go:102", after := #[{ on := 2, ground := Ground.guard }], guard := some (2, false) }) (v := ?_) rfl (by kernel_rfl) (by kernel_rfl) (by kernel_rfl) (fun _ _ _ h => h) (Or.inl ⟨by rfl, ?_⟩) (by assumption) ?_
                rotate_left
                · (intro w hSw; (try dsimp only at hSw); go_simp); (first | done | with_reducible rfl)
                try simp only [Act.put, List.setIfInBounds_toArray, List.set_cons_zero, List.set_cons_succ]
                refine wpAnyH_take (i := 4) (oi := { dst := some 79, op := Op.move (Operand.tmp 0), type := 22, pos := "outright.go:102", after := #[{ on := 2, ground := Ground.guard }], guard := some (2, false) }) (v := ?_) rfl (by kernel_rfl) (by kernel_rfl) (by kernel_rfl) (fun _ _ _ h => h) (Or.inl ⟨by rfl, ?_⟩) (by assumption) ?_
                rotate_left
                · (intro w hSw; (try dsimp only at hSw); go_simp); (first | done | with_reducible rfl)
                try simp only [Act.put, List.setIfInBounds_toArray, List.set_cons_zero, List.set_cons_succ]
                refine wpAnyH_take (i := 5) (oi := { dst := some 80, op := Op.move (Operand.tmp 6), type := 3, pos := "outright.go:102", after := #[{ on := 2, ground := Ground.guard }], guard := some (2, false) }) (v := ?_) rfl (by kernel_rfl) (by kernel_rfl) (by kernel_rfl) (fun _ _ _ h => h) (Or.inl ⟨by rfl, ?_⟩) (by assumption) ?_
                rotate_left
                · (intro w hSw; (try dsimp only at hSw); go_simp); (first | done | with_reducible rfl)
                try simp only [Act.put, List.setIfInBounds_toArray, List.set_cons_zero, List.set_cons_succ]
                refine wpAnyH_take (i := 6) (oi := { dst := some 81, op := Op.indexAddr 22 (Operand.tmp 79) (Operand.tmp 80), type := 0, pos := "outright.go:102", after := #[{ on := 4, ground := Ground.data }, { on := 5, ground := Ground.data }, { on := 2, ground := Ground.guard }], guard := some (2, false) }) (v := ?_) rfl (by kernel_rfl) (by kernel_rfl) (by kernel_rfl) (fun _ _ _ h => h) (Or.inl ⟨by rfl, ?_⟩) (by assumption) ?_
                rotate_left
                · (intro w hSw; (try dsimp only at hSw); go_simp); (first | done | with_reducible rfl)
                try simp only [Act.put, List.setIfInBounds_toArray, List.set_cons_zero, List.set_cons_succ]
                refine wpAnyH_take (i := 7) (oi := { dst := some 82, op := Op.load 38 (Operand.tmp 81), type := 38, pos := "outright.go:102", after := #[{ on := 6, ground := Ground.data }, { on := 2, ground := Ground.guard }], guard := some (2, false) }) (v := ?_) rfl (by kernel_rfl) (by kernel_rfl) (by kernel_rfl) (fun _ _ _ h => h) (Or.inl ⟨by rfl, ?_⟩) (by assumption) ?_
                rotate_left
                · (intro w hSw; (try dsimp only at hSw); go_simp); (first | done | with_reducible rfl)
                try simp only [Act.put, List.setIfInBounds_toArray, List.set_cons_zero, List.set_cons_succ]
                refine wpAnyH_take (i := 8) (oi := { dst := some 83, op := Op.binOp BinOp.neq 38 (Operand.tmp 78) (Operand.tmp 82) 38, type := 4, pos := "outright.go:102", after := #[{ on := 3, ground := Ground.data }, { on := 7, ground := Ground.data }, { on := 2, ground := Ground.guard }], guard := some (2, false) }) (v := ?_) rfl (by kernel_rfl) (by kernel_rfl) (by kernel_rfl) (fun _ _ _ h => h) (Or.inl ⟨by rfl, ?_⟩) (by assumption) ?_
                rotate_left
                · (intro w hSw; (try dsimp only at hSw); go_simp); (first | done | with_reducible rfl)
                try simp only [Act.put, List.setIfInBounds_toArray, List.set_cons_zero, List.set_cons_succ]
                refine wpAnyH_take (i := 9) (oi := { dst := some 84, op := Op.pick (Operand.tmp 77) (Operand.const (Value.bool true)) (Operand.tmp 83), type := 4, pos := "outright.go:102", after := #[{ on := 2, ground := Ground.data }, { on := 8, ground := Ground.data }], guard := none }) (v := ?_) rfl (by kernel_rfl) (by kernel_rfl) (by kernel_rfl) (fun _ _ _ h => h) (Or.inl ⟨by rfl, ?_⟩) (by assumption) ?_
                rotate_left
                · (intro w hSw; (try dsimp only at hSw); go_simp); (first | done | with_reducible rfl)
                try simp only [Act.put, List.setIfInBounds_toArray, List.set_cons_zero, List.set_cons_succ]
                refine wpAnyH_take (i := 10) (oi := { dst := some 85, op := Op.move (Operand.tmp 84), type := 4, pos := "outright.go:102", after := #[{ on := 9, ground := Ground.data }, { on := 2, ground := Ground.chain }], guard := none }) (v := ?_) rfl (by kernel_rfl) (by kernel_rfl) (by kernel_rfl) (fun _ _ _ h => h) (Or.inl ⟨by rfl, ?_⟩) (by assumption) ?_
                rotate_left
                · (intro w hSw; (try dsimp only at hSw); go_simp); (first | done | with_reducible rfl)
                try simp only [Act.put, List.setIfInBounds_toArray, List.set_cons_zero, List.set_cons_succ]
                refine wpAnyH_take (i := 11) (oi := { dst := some 86, op := Op.move (Operand.tmp 3), type := 32, pos := "outright.go:102", after := #[{ on := 10, ground := Ground.guard }], guard := some (10, false) }) (v := ?_) rfl (by kernel_rfl) (by kernel_rfl) (by kernel_rfl) (fun _ _ _ h => h) (Or.inl ⟨by rfl, ?_⟩) (by assumption) ?_
                rotate_left
                · (intro w hSw; (try dsimp only at hSw); go_simp); (first | done | with_reducible rfl)
                try simp only [Act.put, List.setIfInBounds_toArray, List.set_cons_zero, List.set_cons_succ]
                refine wpAnyH_take (i := 12) (oi := { dst := some 87, op := Op.move (Operand.tmp 0), type := 22, pos := "outright.go:102", after := #[{ on := 10, ground := Ground.guard }], guard := some (10, false) }) (v := ?_) rfl (by kernel_rfl) (by kernel_rfl) (by kernel_rfl) (fun _ _ _ h => h) (Or.inl ⟨by rfl, ?_⟩) (by assumption) ?_
                rotate_left
                · (intro w hSw; (try dsimp only at hSw); go_simp); (first | done | with_reducible rfl)
                try simp only [Act.put, List.setIfInBounds_toArray, List.set_cons_zero, List.set_cons_succ]
                refine wpAnyH_take (i := 13) (oi := { dst := some 88, op := Op.move (Operand.tmp 5), type := 3, pos := "outright.go:102", after := #[{ on := 10, ground := Ground.guard }], guard := some (10, false) }) (v := ?_) rfl (by kernel_rfl) (by kernel_rfl) (by kernel_rfl) (fun _ _ _ h => h) (Or.inl ⟨by rfl, ?_⟩) (by assumption) ?_
                rotate_left
                · (intro w hSw; (try dsimp only at hSw); go_simp); (first | done | with_reducible rfl)
                try simp only [Act.put, List.setIfInBounds_toArray, List.set_cons_zero, List.set_cons_succ]
                refine wpAnyH_take (i := 14) (oi := { dst := some 89, op := Op.indexAddr 22 (Operand.tmp 87) (Operand.tmp 88), type := 0, pos := "outright.go:102", after := #[{ on := 12, ground := Ground.data }, { on := 13, ground := Ground.data }, { on := 10, ground := Ground.guard }], guard := some (10, false) }) (v := ?_) rfl (by kernel_rfl) (by kernel_rfl) (by kernel_rfl) (fun _ _ _ h => h) (Or.inl ⟨by rfl, ?_⟩) (by assumption) ?_
                rotate_left
                · (intro w hSw; (try dsimp only at hSw); go_simp); (first | done | with_reducible rfl)
                try simp only [Act.put, List.setIfInBounds_toArray, List.set_cons_zero, List.set_cons_succ]
                refine wpAnyH_take (i := 15) (oi := { dst := some 90, op := Op.fieldAddr 38 (Operand.tmp 89) 0, type := 0, pos := "outright.go:102", after := #[{ on := 14, ground := Ground.data }, { on := 10, ground := Ground.guard }], guard := some (10, false) }) (v := ?_) rfl (by kernel_rfl) (by kernel_rfl) (by kernel_rfl) (fun _ _ _ h => h) (Or.inl ⟨by rfl, ?_⟩) (by assumption) ?_
                rotate_left
                · (intro w hSw; (try dsimp only at hSw); go_simp); (first | done | with_reducible rfl)
                try simp only [Act.put, List.setIfInBounds_toArray, List.set_cons_zero, List.set_cons_succ]
                refine wpAnyH_take (i := 16) (oi := { dst := some 91, op := Op.load 9 (Operand.tmp 90), type := 9, pos := "outright.go:102", after := #[{ on := 15, ground := Ground.data }, { on := 10, ground := Ground.guard }], guard := some (10, false) }) (v := ?_) rfl (by kernel_rfl) (by kernel_rfl) (by kernel_rfl) (fun _ _ _ h => h) (Or.inl ⟨by rfl, ?_⟩) (by assumption) ?_
                rotate_left
                · (intro w hSw; (try dsimp only at hSw); go_simp); (first | done | with_reducible rfl)
                try simp only [Act.put, List.setIfInBounds_toArray, List.set_cons_zero, List.set_cons_succ]
                refine wpAnyH_take (i := 17) (oi := { dst := some 92, op := Op.move (Operand.tmp 0), type := 22, pos := "outright.go:102", after := #[{ on := 10, ground := Ground.guard }], guard := some (10, false) }) (v := ?_) rfl (by kernel_rfl) (by kernel_rfl) (by kernel_rfl) (fun _ _ _ h => h) (Or.inl ⟨by rfl, ?_⟩) (by assumption) ?_
                rotate_left
                · (intro w hSw; (try dsimp only at hSw); go_simp); (first | done | with_reducible rfl)
                try simp only [Act.put, List.setIfInBounds_toArray, List.set_cons_zero, List.set_cons_succ]
                refine wpAnyH_take (i := 18) (oi := { dst := some 93, op := Op.move (Operand.tmp 5), type := 3, pos := "outright.go:102", after := #[{ on := 10, ground := Ground.guard }], guard := some (10, false) }) (v := ?_) rfl (by kernel_rfl) (by kernel_rfl) (by kernel_rfl) (fun _ _ _ h => h) (Or.inl ⟨by rfl, ?_⟩) (by assumption) ?_
                rotate_left
                · (intro w hSw; (try dsimp only at hSw); go_simp); (first | done | with_reducible rfl)
                try simp only [Act.put, List.setIfInBounds_toArray, List.set_cons_zero, List.set_cons_succ]
                refine wpAnyH_take (i := 19) (oi := { dst := some 94, op := Op.indexAddr 22 (Operand.tmp 92) (Operand.tmp 93), type := 0, pos := "outright.go:102", after := #[{ on := 17, ground := Ground.data }, { on := 18, ground := Ground.data }, { on := 10, ground := Ground.guard }], guard := some (10, false) }) (v := ?_) rfl (by kernel_rfl) (by kernel_rfl) (by kernel_rfl) (fun _ _ _ h => h) (Or.inl ⟨by rfl, ?_⟩) (by assumption) ?_
                rotate_left
                · (intro w hSw; (try dsimp only at hSw); go_simp); (first | done | with_reducible rfl)
                try simp only [Act.put, List.setIfInBounds_toArray, List.set_cons_zero, List.set_cons_succ]
                refine wpAnyH_take (i := 20) (oi := { dst := some 95, op := Op.fieldAddr 38 (Operand.tmp 94) 0, type := 0, pos := "outright.go:102", after := #[{ on := 19, ground := Ground.data }, { on := 10, ground := Ground.guard }], guard := some (10, false) }) (v := ?_) rfl (by kernel_rfl) (by kernel_rfl) (by kernel_rfl) (fun _ _ _ h => h) (Or.inl ⟨by rfl, ?_⟩) (by assumption) ?_
                rotate_left
                · (intro w hSw; (try dsimp only at hSw); go_simp); (first | done | with_reducible rfl)
                try simp only [Act.put, List.setIfInBounds_toArray, List.set_cons_zero, List.set_cons_succ]
                refine wpAnyH_take (i := 21) (oi := { dst := some 96, op := Op.load 9 (Operand.tmp 95), type := 9, pos := "outright.go:102", after := #[{ on := 20, ground := Ground.data }, { on := 10, ground := Ground.guard }], guard := some (10, false) }) (v := ?_) rfl (by kernel_rfl) (by kernel_rfl) (by kernel_rfl) (fun _ _ _ h => h) (Or.inl ⟨by rfl, ?_⟩) (by assumption) ?_
                rotate_left
                · (intro w hSw; (try dsimp only at hSw); go_simp); (first | done | with_reducible rfl)
                try simp only [Act.put, List.setIfInBounds_toArray, List.set_cons_zero, List.set_cons_succ]
                refine wpAnyH_take (i := 22) (oi := { dst := some 97, op := Op.binOp BinOp.add 9 (Operand.tmp 96) (Operand.const (Value.string { data := #[0] })) 9, type := 9, pos := "outright.go:102", after := #[{ on := 21, ground := Ground.data }, { on := 10, ground := Ground.guard }], guard := some (10, false) }) (v := ?_) rfl (by kernel_rfl) (by kernel_rfl) (by kernel_rfl) (fun _ _ _ h => h) (Or.inl ⟨by rfl, ?_⟩) (by assumption) ?_
                rotate_left
                · (intro w hSw; (try dsimp only at hSw); go_simp; rw [if_neg (by omega)])
                try simp only [Act.put, List.setIfInBounds_toArray, List.set_cons_zero, List.set_cons_succ]
                refine wpAnyH_take (i := 24) (oi := { dst := some 99, op := Op.move (Operand.tmp 0), type := 22, pos := "outright.go:102", after := #[{ on := 10, ground := Ground.guard }], guard := some (10, false) }) (v := ?_) rfl (by kernel_rfl) (by kernel_rfl) (by kernel_rfl) (fun _ _ _ h => h) (Or.inl ⟨by rfl, ?_⟩) (by assumption) ?_
                rotate_left
                · (intro w hSw; (try dsimp only at hSw); go_simp); (first | done | with_reducible rfl)
                try simp only [Act.put, List.setIfInBounds_toArray, List.set_cons_zero, List.set_cons_succ]
                refine wpAnyH_take (i := 25) (oi := { dst := some 100, op := Op.move (Operand.tmp 6), type := 3, pos := "outright.go:102", after := #[{ on := 10, ground := Ground.guard }], guard := some (10, false) }) (v := ?_) rfl (by kernel_rfl) (by kernel_rfl) (by kernel_rfl) (fun _ _ _ h => h) (Or.inl ⟨by rfl, ?_⟩) (by assumption) ?_
                rotate_left
                · (intro w hSw; (try dsimp only at hSw); go_simp); (first | done | with_reducible rfl)
                try simp only [Act.put, List.setIfInBounds_toArray, List.set_cons_zero, List.set_cons_succ]
                refine wpAnyH_take (i := 26) (oi := { dst := some 101, op := Op.move (Operand.tmp 7), type := 3, pos := "outright.go:102", after := #[{ on := 10, ground := Ground.guard }], guard := some (10, false) }) (v := ?_) rfl (by kernel_rfl) (by kernel_rfl) (by kernel_rfl) (fun _ _ _ h => h) (Or.inl ⟨by rfl, ?_⟩) (by assumption) ?_
                rotate_left
                · (intro w hSw; (try dsimp only at hSw); go_simp); (first | done | with_reducible rfl)
                try simp only [Act.put, List.setIfInBounds_toArray, List.set_cons_zero, List.set_cons_succ]
                refine wpAnyH_take (i := 27) (oi := { dst := some 102, op := Op.slice 22 (Operand.tmp 99) (some (Operand.tmp 100)) (some (Operand.tmp 101)) none, type := 22, pos := "outright.go:102", after := #[{ on := 24, ground := Ground.data }, { on := 25, ground := Ground.data }, { on := 26, ground := Ground.data }, { on := 10, ground := Ground.guard }], guard := some (10, false) }) (v := ?_) rfl (by kernel_rfl) (by kernel_rfl) (by kernel_rfl) (fun _ _ _ h => h) (Or.inl ⟨by rfl, ?_⟩) (by assumption) ?_
                rotate_left
                · (intro w hSw; (try dsimp only at hSw); go_simp); (first | done | with_reducible rfl)
                try simp only [Act.put, List.setIfInBounds_toArray, List.set_cons_zero, List.set_cons_succ]
                refine wpAnyH_ready (rs := [23]) (by kernel_rfl) (by simp) ?_
                refine AllReadyH.cons (o := { dst := some 98, op := Op.call { callee := Callee.value (Operand.func 32), args := #[Operand.tmp 86, Operand.tmp 91, Operand.tmp 97], argTypes := #[32, 9, 9] }, type := 22, pos := "outright.go:102", after := #[{ on := 11, ground := Ground.data }, { on := 16, ground := Ground.data }, { on := 22, ground := Ground.data }, { on := 10, ground := Ground.chain }, { on := 10, ground := Ground.guard }], guard := some (10, false) }) rfl (fun K hK => ?_) AllReadyH.nil
                go_simp
                go_at_call 32
                with_reducible refine (CR1.out _ HE.out.e.t).mono ?_
                rintro e w5 ⟨aw5, cw5, rfl, hw5, hbq⟩
                replace HE := Lib.hid (HE.out.below hbq)
                have HK := Lib.hid hw5
                clear hbq hw5
                go_wp2_with fail
                refine hK.out _ _ ?_ (fun hHeld => ?_)
                · exact HE.out.s
                clear hK K
                try simp only [Act.put, List.setIfInBounds_toArray, List.set_cons_zero, List.set_cons_succ]
                refine wpAnyH_ready (rs := [28]) (by kernel_rfl) (by simp) ?_
                refine AllReadyH.cons (o := { dst := some 103, op := Op.call { callee := Callee.value (Operand.func 35), args := #[Operand.tmp 98, Operand.tmp 102], argTypes := #[22, 22] }, type := 4, pos := "outright.go:102", after := #[{ on := 23, ground := Ground.data }, { on := 27, ground := Ground.data }, { on := 23, ground := Ground.chain }, { on := 10, ground := Ground.guard }], guard := some (10, false) }) rfl (fun K hK => ?_) AllReadyH.nil
                go_simp
                go_at_call 35
                with_reducible refine (CS1.out _ _ _ HE.out.e HK.out).mono ?_
                rintro e w6 ⟨rfl, hbq⟩
                replace HE := Lib.hid (HE.out.below hbq)
                clear hbq HK
                go_wp2_with fail
                refine hK.out _ _ ?_ (fun hHeld => ?_)
                · exact HE.out.s
                clear hK K
                try simp only [Act.put, List.setIfInBounds_toArray, List.set_cons_zero, List.set_cons_succ]
                refine wpAnyH_take (i := 29) (oi := { dst := some 104, op := Op.unOp UnOp.not 4 (Operand.tmp 103), type := 4, pos := "outright.go:102", after := #[{ on := 28, ground := Ground.data }, { on := 10, ground := Ground.guard }], guard := some (10, false) }) (v := ?_) rfl (by kernel_rfl) (by kernel_rfl) (by kernel_rfl) (fun _ _ _ h => h) (Or.inl ⟨by rfl, ?_⟩) (by assumption) ?_
                rotate_left
                · (intro w hSw; (try dsimp only at hSw); go_simp); (first | done | with_reducible rfl)
                try simp only [Act.put, List.setIfInBounds_toArray, List.set_cons_zero, List.set_cons_succ]
                refine wpAnyH_take (i := 30) (oi := { dst := some 105, op := Op.pick (Operand.tmp 85) (Operand.const (Value.bool true)) (Operand.tmp 104), type := 4, pos := "outright.go:102", after := #[{ on := 10, ground := Ground.data }, { on := 29, ground := Ground.data }], guard := none }) (v := ?_) rfl (by kernel_rfl) (by kernel_rfl) (by kernel_rfl) (fun _ _ _ h => h) (Or.inl ⟨by rfl, ?_⟩) (by assumption) ?_
                rotate_left
                · (intro w hSw; (try dsimp only at hSw); go_simp); (first | done | with_reducible rfl)
                try simp only [Act.put, List.setIfInBounds_toArray, List.set_cons_zero, List.set_cons_succ]
                refine wpAnyH_take (i := 31) (oi := { dst := some 106, op := Op.move (Operand.tmp 105), type := 4, pos := "outright.go:102", after := #[{ on := 30, ground := Ground.data }, { on := 28, ground := Ground.chain }], guard := none }) (v := ?_) rfl (by kernel_rfl) (by kernel_rfl) (by kernel_rfl) (fun _ _ _ h => h) (Or.inl ⟨by rfl, ?_⟩) (by assumption) ?_
                rotate_left
                · (intro w hSw; (try dsimp only at hSw); go_simp); (first | done | with_reducible rfl)
                try simp only [Act.put, List.setIfInBounds_toArray, List.set_cons_zero, List.set_cons_succ]
                refine wpAnyH_take (i := 32) (oi := { dst := some 107, op := Op.move (Operand.tmp 3), type := 32, pos := "outright.go:102", after := #[{ on := 31, ground := Ground.guard }], guard := some (31, false) }) (v := ?_) rfl (by kernel_rfl) (by kernel_rfl) (by kernel_rfl) (fun _ _ _ h => h) (Or.inl ⟨by rfl, ?_⟩) (by assumption) ?_
                rotate_left
                · (intro w hSw; (try dsimp only at hSw); go_simp); (first | done | with_reducible rfl)
                try simp only [Act.put, List.setIfInBounds_toArray, List.set_cons_zero, List.set_cons_succ]
                refine wpAnyH_take (i := 33) (oi := { dst := some 108, op := Op.move (Operand.tmp 0), type := 22, pos := "outright.go:102", after := #[{ on := 31, ground := Ground.guard }], guard := some (31, false) }) (v := ?_) rfl (by kernel_rfl) (by kernel_rfl) (by kernel_rfl) (fun _ _ _ h => h) (Or.inl ⟨by rfl, ?_⟩) (by assumption) ?_
                rotate_left
                · (intro w hSw; (try dsimp only at hSw); go_simp); (first | done | with_reducible rfl)
                try simp only [Act.put, List.setIfInBounds_toArray, List.set_cons_zero, List.set_cons_succ]
                refine wpAnyH_take (i := 34) (oi := { dst := some 109, op := Op.move (Operand.tmp 5), type := 3, pos := "outright.go:102", after := #[{ on := 31, ground := Ground.guard }], guard := some (31, false) }) (v := ?_) rfl (by kernel_rfl) (by kernel_rfl) (by kernel_rfl) (fun _ _ _ h => h) (Or.inl ⟨by rfl, ?_⟩) (by assumption) ?_
                rotate_left
                · (intro w hSw; (try dsimp only at hSw); go_simp); (first | done | with_reducible rfl)
                try simp only [Act.put, List.setIfInBounds_toArray, List.set_cons_zero, List.set_cons_succ]
                refine wpAnyH_take (i := 35) (oi := { dst := some 110, op := Op.indexAddr 22 (Operand.tmp 108) (Operand.tmp 109), type := 0, pos := "outright.go:102", after := #[{ on := 33, ground := Ground.data }, { on := 34, ground := Ground.data }, { on := 31, ground := Ground.guard }], guard := some (31, false) }) (v := ?_) rfl (by kernel_rfl) (by kernel_rfl) (by kernel_rfl) (fun _ _ _ h => h) (Or.inl ⟨by rfl, ?_⟩) (by assumption) ?_
                rotate_left
                · (intro w hSw; (try dsimp only at hSw); go_simp); (first | done | with_reducible rfl)
                try simp only [Act.put, List.setIfInBounds_toArray, List.set_cons_zero, List.set_cons_succ]
                refine wpAnyH_take (i := 36) (oi := { dst := some 111, op := Op.fieldAddr 38 (Operand.tmp 110) 0, type := 0, pos := "outright.go:102", after := #[{ on := 35, ground := Ground.data }, { on := 31, ground := Ground.guard }], guard := some (31, false) }) (v := ?_) rfl (by kernel_rfl) (by kernel_rfl) (by kernel_rfl) (fun _ _ _ h => h) (Or.inl ⟨by rfl, ?_⟩) (by assumption) ?_
                rotate_left
                · (intro w hSw; (try dsimp only at hSw); go_simp); (first | done | with_reducible rfl)
                try simp only [Act.put, List.setIfInBounds_toArray, List.set_cons_zero, List.set_cons_succ]
                refine wpAnyH_take (i := 37) (oi := { dst := some 112, op := Op.load 9 (Operand.tmp 111), type := 9, pos := "outright.go:102", after := #[{ on := 36, ground := Ground.data }, { on := 31, ground := Ground.guard }], guard := some (31, false) }) (v := ?_) rfl (by kernel_rfl) (by kernel_rfl) (by kernel_rfl) (fun _ _ _ h => h) (Or.inl ⟨by rfl, ?_⟩) (by assumption) ?_
                rotate_left
                · (intro w hSw; (try dsimp only at hSw); go_simp); (first | done | with_reducible rfl)
                try simp only [Act.put, List.setIfInBounds_toArray, List.set_cons_zero, List.set_cons_succ]
                refine wpAnyH_take (i := 39) (oi := { dst := some 114, op := Op.move (Operand.tmp 0), type := 22, pos := "outright.go:102", after := #[{ on := 31, ground := Ground.guard }], guard := some (31, false) }) (v := ?_) rfl (by kernel_rfl) (by kernel_rfl) (by kernel_rfl) (fun _ _ _ h => h) (Or.inl ⟨by rfl, ?_⟩) (by assumption) ?_
                rotate_left
                · (intro w hSw; (try dsimp only at hSw); go_simp); (first | done | with_reducible rfl)
                try simp only [Act.put, List.setIfInBounds_toArray, List.set_cons_zero, List.set_cons_succ]
                refine wpAnyH_take (i := 40) (oi := { dst := some 115, op := Op.move (Operand.tmp 6), type := 3, pos := "outright.go:102", after := #[{ on := 31, ground := Ground.guard }], guard := some (31, false) }) (v := ?_) rfl (by kernel_rfl) (by kernel_rfl) (by kernel_rfl) (fun _ _ _ h => h) (Or.inl ⟨by rfl, ?_⟩) (by assumption) ?_
                rotate_left
                · (intro w hSw; (try dsimp only at hSw); go_simp); (first | done | with_reducible rfl)
                try simp only [Act.put, List.setIfInBounds_toArray, List.set_cons_zero, List.set_cons_succ]
                refine wpAnyH_take (i := 41) (oi := { dst := some 116, op := Op.slice 22 (Operand.tmp 114) (some (Operand.tmp 115)) none none, type := 22, pos := "outright.go:102", after := #[{ on := 39, ground := Ground.data }, { on := 40, ground := Ground.data }, { on := 31, ground := Ground.guard }], guard := some (31, false) }) (v := ?_) rfl (by kernel_rfl) (by kernel_rfl) (by kernel_rfl) (fun _ _ _ h => h) (Or.inl ⟨by rfl, ?_⟩) (by assumption) ?_
                rotate_left
                · (intro w hSw; (try dsimp only at hSw); go_simp); (first | done | with_reducible rfl)
                try simp only [Act.put, List.setIfInBounds_toArray, List.set_cons_zero, List.set_cons_succ]
                refine wpAnyH_ready (rs := [38]) (by kernel_rfl) (by simp) ?_
                refine AllReadyH.cons (o := { dst := some 113, op := Op.call { callee := Callee.value (Operand.func 32), args := #[Operand.tmp 107, Operand.tmp 112, Operand.const (Value.string { data := #[] })], argTypes := #[32, 9, 9] }, type := 22, pos := "outright.go:102", after := #[{ on := 32, ground := Ground.data }, { on := 37, ground := Ground.data }, { on := 31, ground := Ground.chain }, { on := 31, ground := Ground.guard }], guard := some (31, false) }) rfl (fun K hK => ?_) AllReadyH.nil
                go_simp
                go_at_call 32
                with_reducible refine (CR2.out _ HE.out.e.t).mono ?_
                rintro e w7 ⟨aw7, cw7, rfl, hw7, hbq⟩
                replace HE := Lib.hid (HE.out.below hbq)
                have HK := Lib.hid hw7
                clear hbq hw7
                go_wp2_with fail
                refine hK.out _ _ ?_ (fun hHeld => ?_)
                · exact HE.out.s
                clear hK K
                try simp only [Act.put, List.setIfInBounds_toArray, List.set_cons_zero, List.set_cons_succ]
                refine wpAnyH_ready (rs := [42]) (by kernel_rfl) (by simp) ?_
                refine AllReadyH.cons (o := { dst := some 117, op := Op.call { callee := Callee.value (Operand.func 35), args := #[Operand.tmp 113, Operand.tmp 116], argTypes := #[22, 22] }, type := 4, pos := "outright.go:102", after := #[{ on := 38, ground := Ground.data }, { on := 41, ground := Ground.data }, { on := 38, ground := Ground.chain }, { on := 31, ground := Ground.guard }], guard := some (31, false) }) rfl (fun K hK => ?_) AllReadyH.nil
                go_simp
                go_at_call 35
                with_reducible refine (CS2.out _ _ _ HE.out.e HK.out).mono ?_
                rintro e w8 ⟨rfl, hbq⟩
                replace HE := Lib.hid (HE.out.below hbq)
                clear hbq HK
                go_wp2_with fail
                refine hK.out _ _ ?_ (fun hHeld => ?_)
                · exact HE.out.s
                clear hK K
                try simp only [Act.put, List.setIfInBounds_toArray, List.set_cons_zero, List.set_cons_succ]
                refine wpAnyH_take (i := 43) (oi := { dst := some 118, op := Op.unOp UnOp.not 4 (Operand.tmp 117), type := 4, pos := "outright.go:102", after := #[{ on := 42, ground := Ground.data }, { on := 31, ground := Ground.guard }], guard := some (31, false) }) (v := ?_) rfl (by kernel_rfl) (by kernel_rfl) (by kernel_rfl) (fun _ _ _ h => h) (Or.inl ⟨by rfl, ?_⟩) (by assumption) ?_
                rotate_left
                · (intro w hSw; (try dsimp only at hSw); go_simp); (first | done | with_reducible rfl)
                try simp only [Act.put, List.setIfInBounds_toArray, List.set_cons_zero, List.set_cons_succ]
                refine wpAnyH_take (i := 44) (oi := { dst := some 119, op := Op.pick (Operand.tmp 106) (Operand.const (Value.bool true)) (Operand.tmp 118), type := 4, pos := "outright.go:102", after := #[{ on := 31, ground := Ground.data }, { on := 43, ground := Ground.data }], guard := none }) (v := ?_) rfl (by kernel_rfl) (by kernel_rfl) (by kernel_rfl) (fun _ _ _ h => h) (Or.inl ⟨by rfl, ?_⟩) (by assumption) ?_
                rotate_left
                · (intro w hSw; (try dsimp only at hSw); go_simp); (first | done | with_reducible rfl)
                refine wpAnyH_done (by kernel_rfl) ?_ _
                go_wp2_with fail
                go_roundw
                case rel => exact ⟨i + 1, by omega, by go_num, Lib.hid HE.out.e.b, Lib.hid HE.out.e.t, Lib.hid (fun _ => ⟨g, off, rfl, HE.out.e.c⟩)⟩
                case measure => simp [intOf]; omega
      · have d1 : decide ((i : Int) < (L.length : Int)) = false := by simp; omega
        have d2 : decide (i < L.length) = false := by simp; omega
        clear HLw HT
        go_wp2_with fail
        with_reducible refine (CD.out _).mono ?_
        rintro e w2 ⟨rfl, hbq⟩
        replace HB := carry hbq HB
        clear hbq
        go_wp2_with fail
        go_ret
        exact ⟨rfl, HB.out⟩

end Go.Proofs.Ythidmgnfdikppaa
