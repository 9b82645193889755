/- Layer 19: cells of which some are struck out of a row: slices.DeleteFunc, slices.IndexFunc. -/
import Derived.Test.YtnhljlmelbiljaaGreatBlocksL
import Derived.Test.YtnhljlmelbiljaaGreatZF
import Derived.Laws.IdiomCopy
namespace Go.Proofs.YtnhljlmelbiljaaGreat
set_option linter.unusedVariables false
set_option linter.unusedSimpArgs false
open Go Go.RowKit
attribute [local go_sem ↓] run_index_S
attribute [local go_sem] S_append S_extract

def M.odd (c : M.Cl) : Bool := !(c.seq.tmod 2 == 0)
theorem zeroCl19 (w : World) : (zeroValue 38).run Tryz.prog w = .ok (.agg #[.string ⟨#[]⟩, .int .i64 0, .string ⟨#[]⟩]) w := by kernel_rfl
theorem run_clear_cl19 (w : World) (ty : TypeId) (b o n c : Nat) (hn : 0 < n) (hc : ∀ j, j < n * 3 → (w.cell? ⟨b, o + j, none⟩).isSome = true) (hf : ∀ j, j < n * 3 → w.frozen? ⟨b, o + j, none⟩ = false) :
    (Builtin.clear_ #[22] ty #[.slice (some ⟨b, o, none⟩) n c]).run Tryz.prog w = .ok (.tuple #[]) (w.setCells b o (Builtin.zeroCells #[.string ⟨#[]⟩, .int .i64 0, .string ⟨#[]⟩] n).toList) := by
  have hl : (Builtin.zeroCells #[.string ⟨#[]⟩, .int .i64 0, .string ⟨#[]⟩] n).toList.length = n * 3 := by simp [Builtin.zeroCells]
  have h1 : ∀ v ∈ (Builtin.zeroCells #[.string ⟨#[]⟩, .int .i64 0, .string ⟨#[]⟩] n).toList, v.oneCell' = true := fun v hv => by
    simp only [Builtin.zeroCells, Array.toList_map, Array.toList_range, List.mem_map, List.mem_range] at hv
    obtain ⟨i, _, rfl⟩ := hv
    have : i % 3 = 0 ∨ i % 3 = 1 ∨ i % 3 = 2 := by omega
    show (#[Value.string ⟨#[]⟩, .int .i64 0, .string ⟨#[]⟩][i % 3]!).oneCell' = true
    rcases this with e | e | e <;> rw [e] <;> rfl
  have hst := run_storeCells_cells (P := Tryz.prog) b o (Builtin.zeroCells #[.string ⟨#[]⟩, .int .i64 0, .string ⟨#[]⟩] n).toList 0 w (by rw [hl]; simpa using hc) (by rw [hl]; simpa using hf) h1
  simp only [Nat.add_zero] at hst
  obtain ⟨m, rfl⟩ : ∃ m, n = m + 1 := ⟨n - 1, by omega⟩
  simp only [Builtin.clear_]
  simp [Sem.run_bind, Sem.run_pure, Result.andThen_ok, run_underlying Tryz.underlying22, zeroCl19, Value.cells, hst]
theorem setCells_low19 {N b : Nat} : ∀ (vs : List Value) (o : Nat) (w : World) (p : Nat), RoomC N w b → o + vs.length ≤ N → p < o → (w.setCells b o vs).cell? ⟨b, p, none⟩ = w.cell? ⟨b, p, none⟩
  | [], _, _, _, _, _, _ => rfl
  | v :: r, o, w, p, h, hN, hp => by
    have hl : o + 1 + r.length ≤ N := by simp at hN; omega
    show ((w.setCell ⟨b, o, none⟩ v).setCells b (o + 1) r).cell? _ = _
    rw [setCells_low19 r (o + 1) _ p (h.set o v) hl (by omega), h.read (by omega) v p, if_neg (by omega)]
theorem below_setCells19 {B b : Nat} {a : World} (hb : B ≤ b) : ∀ (vs : List Value) (o : Nat) (w : World), Below B a w → Below B a (w.setCells b o vs)
  | [], _, _, h => h
  | v :: r, o, w, h => below_setCells19 hb r (o + 1) _ (h.setCell hb (p := ⟨b, o, none⟩) v)
/-- What holds while a row is gone through. -/
structure DfI (B g N : Nat) (K F : List M.Cl) (j : Nat) (w0 w : World) : Prop where
  room : RoomC N w g
  kl : K.length * 3 ≤ N
  done : ∀ q, q < F.length → ClOff (F.getD q M.cl0) w g (q * 3)
  rest : ∀ q, j ≤ q → q < K.length → ClOff (K.getD q M.cl0) w g (q * 3)
  bel : Below B w0 w
  b0 : B ≤ g
theorem RoomC.below19 {N : Nat} {w w' : World} {g : Nat} (h : RoomC N w g) (hb : Below w.heap.size w w') : RoomC N w' g := by
  obtain ⟨C, h1, h2⟩ := h
  exact ⟨C, h1.below hb, h2⟩
theorem DfI.below {B g N : Nat} {K F : List M.Cl} {j : Nat} {w0 w w' : World} (h : DfI B g N K F j w0 w) (hb : Below w.heap.size w w') : DfI B g N K F j w0 w' :=
  ⟨h.room.below19 hb, h.kl, fun q hq => (h.done q hq).below hb, fun q h1 h2 => (h.rest q h1 h2).below hb, h.bel.trans (hb.mono (by obtain ⟨C, h1, _⟩ := h.room; have := h1.lt; have := h.b0; omega)), h.b0⟩
theorem DfI.skip {B g N : Nat} {K F : List M.Cl} {j : Nat} {w0 w : World} (h : DfI B g N K F j w0 w) : DfI B g N K F (j + 1) w0 w := ⟨h.room, h.kl, h.done, fun q h1 h2 => h.rest q (by omega) h2, h.bel, h.b0⟩
theorem DfI.put {B g N : Nat} {K F : List M.Cl} {j : Nat} {w0 w : World} (h : DfI B g N K F j w0 w) (hF : F.length < j) (hj : j < K.length) (c : M.Cl) : DfI B g N K (F ++ [c]) (j + 1) w0 (store3 w g (F.length * 3) c) := by
  have hk := h.kl
  have ho : F.length * 3 + 2 < N := by omega
  refine ⟨store3_room h.room c, h.kl, fun q hq => ?_, fun q h1 h2 => store3_off h.room ho c (h.rest q (by omega) h2) (.inr (by omega)), ?_, h.b0⟩
  · by_cases e : q < F.length
    · have e1 : (F ++ [c]).getD q M.cl0 = F.getD q M.cl0 := by simp [List.getD, List.getElem?_append_left e]
      rw [e1]
      exact store3_off h.room ho c (h.done q e) (.inl (by omega))
    · have e2 : q = F.length := by simp at hq; omega
      subst e2
      have e1 : (F ++ [c]).getD F.length M.cl0 = c := by simp [List.getD]
      rw [e1]
      exact store3_at h.room ho c
  · exact ((h.bel.setCell h.b0 (p := ⟨g, F.length * 3, none⟩) _).setCell h.b0 (p := ⟨g, F.length * 3 + 1, none⟩) _).setCell h.b0 (p := ⟨g, F.length * 3 + 2, none⟩) _
theorem cls_of19 {w : World} {g : Nat} {F : List M.Cl} (h : ∀ q, q < F.length → ClOff (F.getD q M.cl0) w g (q * 3)) : ClsAt w (some ⟨g, 0, none⟩) F := fun _ => ⟨g, 0, rfl, fun j hj => by rw [Nat.zero_add]; exact h j hj⟩

theorem drop_odd19 (c : M.Cl) (w : World) : Calls Tryz.prog 21 #[.agg (clA c)] w fun e w' => e = .returned (.bool (M.odd c)) ∧ Below w.heap.size w w' := by
  have HB := Lib.hid ((Below.refl w.heap.size w).alloc (Nat.le_refl _) (.cells (clA c) 38))
  have HP := Lib.hid (show M.odd c = !(c.seq.tmod 2 == 0) from rfl)
  generalize M.odd c = r at *
  go_enter Tryz.func21, Tryz.ntmps21
  go_wp2_with fail
  go_ret
  exact ⟨by rw [HP.out]; rfl, HB.out⟩
set_option maxHeartbeats 4000000 in
set_option maxRecDepth 100000 in
theorem idx_odd19 (K : List M.Cl) (ao : Option Addr) (cap : Nat) (w : World) (h : ClsAt w ao K) (hl : K.length ≤ 1000000) :
    Calls Tryz.prog 66 #[.slice ao K.length cap, (.func (.func 21) #[] #[])] w fun e w' => ∃ i : Int, e = .returned (.int .i64 i) ∧ ((i = -1 ∧ ∀ q, q < K.length → M.odd (K.getD q M.cl0) = false) ∨ ∃ k : Nat, i = k ∧ k < K.length ∧ M.odd (K.getD k M.cl0) = true ∧ ∀ q, q < k → M.odd (K.getD q M.cl0) = false) ∧ Below w.heap.size w w' := by
  have HC := Lib.hid h
  have CD := Lib.hid drop_odd19
  clear h
  go_enter Tryz.func66, Tryz.ntmps66
  go_wp2_with fail
  go_loopw [5, 8] (fun _ v8 wr => ∃ k : Nat, k ≤ K.length ∧ v8 = .int .i64 k ∧ Hid (∀ q, q < k → M.odd (K.getD q M.cl0) = false) ∧ Hid (Below w.heap.size w wr)) (fun _ v _ => K.length - (intOf v).toNat)
  case atStart => exact ⟨0, Nat.zero_le _, rfl, Lib.hid (fun q hq => absurd hq (Nat.not_lt_zero _)), Lib.hid (Below.refl _ _)⟩
  case round =>
    obtain ⟨k, hk, rfl, HN, HB⟩ := hrel
    by_cases hlt : k < K.length
    · have hd : decide ((k : Int) < (K.length : Int)) = true := by simp; omega
      have hki : (k : Int) < (K.length : Int) := by omega
      obtain ⟨g, off, rfl, x0, x1, x2⟩ := (HC.out.below HB.out).off k hlt
      have HG : Hid (∀ b, M.odd (K.getD k M.cl0) = b → M.odd (K.getD k M.cl0) = b) := Lib.hid (fun _ h => h)
      obtain ⟨c, hc⟩ : ∃ c, c = K.getD k M.cl0 := ⟨_, rfl⟩
      rw [← hc] at x0 x1 x2
      have HCK := Lib.hid hc
      clear hc HG
      go_wp2_with fail
      with_reducible refine (CD.out c _).mono ?_
      rintro e w2 ⟨rfl, hbq⟩
      replace HB := Lib.hid (below_step HB.out hbq)
      clear hbq x0 x1 x2
      cases hp : M.odd c with
      | true =>
        have HP := Lib.hid (show M.odd (K.getD k M.cl0) = true from by rw [← HCK.out, hp] <;> rfl)
        clear hp
        go_wp2_with fail
        go_ret
        exact ⟨k, rfl, .inr ⟨k, rfl, hlt, HP.out, HN.out⟩, HB.out⟩
      | false =>
        have HP := Lib.hid (show M.odd (K.getD k M.cl0) = false from by rw [← HCK.out, hp] <;> rfl)
        clear hp
        go_wp2_with fail
        go_roundw
        case rel =>
          refine ⟨k + 1, by omega, by go_num, Lib.hid (fun q hq => ?_), HB⟩
          by_cases e : q = k
          · rw [e]; exact HP.out
          · exact HN.out q (by omega)
        case measure => simp [intOf] <;> omega
    · obtain rfl : k = K.length := by omega
      have hd : decide ((K.length : Int) < (K.length : Int)) = false := by simp
      go_wp2_with fail
      go_ret
      exact ⟨-1, rfl, .inl ⟨rfl, HN.out⟩, HB.out⟩
set_option maxHeartbeats 8000000 in
set_option maxRecDepth 100000 in
theorem delf_odd19 (B : Nat) (K : List M.Cl) (ao : Option Addr) (cap : Nat) (w : World) (hB : B ≤ w.heap.size) (ho : w.ownsRow B 38 3 (.slice ao K.length cap) K.length (cls K)) (hl : K.length ≤ 1000000) :
    Calls Tryz.prog 40 #[.slice ao K.length cap, (.func (.func 21) #[] #[])] w fun e w' => ∃ c', e = .returned (.slice ao (K.filter (fun c => !M.odd c)).length c') ∧ ClsAt w' ao (K.filter (fun c => !M.odd c)) ∧ Below B w w' := by
  have HO := Lib.hid ho
  have CI := Lib.hid (idx_odd19 K ao cap w (clsAt_own ho rfl) hl)
  have CD := Lib.hid drop_odd19
  clear ho
  go_enter Tryz.func40, Tryz.ntmps40
  go_wp2_with fail
  with_reducible refine (CI.out).mono ?_
  rintro e w1 ⟨i, rfl, ⟨rfl, hn⟩ | ⟨k, rfl, hk, hpk, hn⟩, hbq⟩
  · have HF := Lib.hid (show K.filter (fun c => !M.odd c) = K from List.filter_eq_self.2 (fun c hc => by
      obtain ⟨q, hq, rfl⟩ := List.getElem_of_mem hc
      have := hn q hq
      rw [show K.getD q M.cl0 = K[q] from by simp [List.getD, hq]] at this
      show (!M.odd K[q]) = true; rw [this]; rfl))
    have HC := Lib.hid ((clsAt_own HO.out rfl).below hbq)
    have HB := Lib.hid (hbq.mono hB)
    clear hn hbq HO CI
    have hm1 : ((-1 : Int) == -1) = true := rfl
    go_wp2_with fail
    go_ret
    exact ⟨cap, by rw [HF.out]; rfl, by rw [HF.out]; exact HC.out, HB.out⟩
  · have hK0 : 0 < K.length := by omega
    obtain ⟨g, cap', C, rfl, hcap, HI⟩ : ∃ (g cap' : Nat) (C : Array Value), ao = some ⟨g, 0, none⟩ ∧ (cap' = cap ∧ K.length ≤ cap') ∧ Hid (DfI B g (cap' * 3) K (K.take k) (k + 1) w w1) := by
      have hcl := (clsAt_own HO.out rfl).below hbq
      rcases HO.out.2 with ⟨e, h0⟩ | ⟨g, cap', cur, e, hb, hg, hn', hm, hs, ht⟩
      · omega
      · injection e with e1 e2 e3
        subst e1
        refine ⟨g, cap', cur, rfl, ⟨e3.symm, hn'⟩, Lib.hid ⟨⟨cur, RowIn.below hg hbq, by omega⟩, by omega, fun q hq => ?_, fun q _ hq => clsAt_at0 hcl q hq, hbq.mono hB, hb⟩⟩
        have hq' : q < k := by simp at hq; omega
        have e : (K.take k).getD q M.cl0 = K.getD q M.cl0 := by simp [List.getD, List.getElem?_take, hq']
        rw [e]
        exact clsAt_at0 hcl q (by omega)
    obtain ⟨rfl, hcap⟩ := hcap
    have HFk := Lib.hid (show K.take k = (K.take (k + 1)).filter (fun c => !M.odd c) from by
      rw [takeC_snoc hk, List.filter_append]
      have e1 : (K.take k).filter (fun c => !M.odd c) = K.take k := List.filter_eq_self.2 (fun c hc => by
        obtain ⟨q, hq, rfl⟩ := List.getElem_of_mem hc
        have hq' : q < k := by simp at hq; omega
        have hql : q < K.length := by omega
        have := hn q hq'
        rw [show K.getD q M.cl0 = K[q] from by simp [List.getD, hql]] at this
        rw [List.getElem_take]
        show (!M.odd K[q]) = true; rw [this]; rfl)
      rw [e1]
      generalize K.getD k M.cl0 = c at hpk ⊢
      cases h : M.odd c <;> simp [h] at hpk ⊢)
    clear hn hbq HO CI hpk
    have hkl : (K.take k).length = k := by simp; omega
    have HKL := Lib.hid hkl
    clear hkl
    have hne1 : ((k : Int) == -1) = false := beq_eq_false_iff_ne.2 (by omega)
    go_wp2_with fail
    go_loopw [5, 6, 7] (fun v5 v6 _ wr => ∃ (i j : Nat) (F : List M.Cl), v5 = .int .i64 i ∧ v6 = .int .i64 j ∧ i < j ∧ j ≤ K.length ∧ Hid (F.length = i) ∧ Hid (F = (K.take j).filter (fun c => !M.odd c)) ∧ Hid (DfI B g (cap' * 3) K F j w wr)) (fun _ v _ _ => K.length - (intOf v).toNat)
    case atStart => exact ⟨k, k + 1, K.take k, rfl, by go_num, by omega, by omega, HKL, HFk, HI⟩
    case round =>
      clear HI HFk HKL
      obtain ⟨i, j, F, rfl, rfl, hij, hj, HL, HF, HI⟩ := hrel
      by_cases hlt : j < K.length
      · have hd : decide ((j : Int) < (K.length : Int)) = true := by simp; omega
        have hki : (j : Int) < (K.length : Int) := by omega
        have HTS := Lib.hid (takeC_snoc hlt)
        have HR := Lib.hid (HI.out.rest j (Nat.le_refl _) hlt)
        generalize K.getD j M.cl0 = c at *
        obtain ⟨x0, x1, x2⟩ := HR.out
        have hal := (Below.refl wr.heap.size wr).alloc (Nat.le_refl _) (.cells (clA c) 38)
        have HX := Lib.hid (rowIn_new (clA c) 38 wr)
        have HGB := Lib.hid (show g < wr.heap.size from by obtain ⟨C', h1, _⟩ := HI.out.room; exact h1.lt)
        replace HI := Lib.hid (HI.out.below hal)
        clear hal
        obtain ⟨b0, hb0⟩ : ∃ x, x = wr.heap.size := ⟨_, rfl⟩
        rw [← hb0] at HX HGB
        go_wp2_with fail
        rw [← hb0]
        clear hb0
        generalize wr.alloc (.cells (clA c) 38) = W5 at *
        with_reducible refine (CD.out c _).mono ?_
        rintro e w6 ⟨rfl, hbq⟩
        replace HI := Lib.hid (HI.out.below hbq)
        replace HX := Lib.hid (HX.out.below hbq)
        clear hbq x0 x1 x2 HR
        cases hp : M.odd c with
        | true =>
          have HF2 := Lib.hid (show F = (K.take (j + 1)).filter (fun c => !M.odd c) from by rw [HTS.out, List.filter_append, ← HF.out]; simp [hp])
          have HI2 := Lib.hid HI.out.skip
          clear hp
          go_wp2_with fail
          go_roundw
          case rel => exact ⟨i, j + 1, F, rfl, by go_num, by omega, by omega, HL, HF2, HI2⟩
          case measure => simp [intOf] <;> omega
        | false =>
          have HF2 := Lib.hid (show F ++ [c] = (K.take (j + 1)).filter (fun c => !M.odd c) from by rw [HTS.out, List.filter_append, ← HF.out]; simp [hp])
          have HI2 := Lib.hid (HI.out.put (by rw [HL.out]; exact hij) hlt c)
          rw [HL.out] at HI2
          have HL2 := Lib.hid (show (F ++ [c]).length = i + 1 from by simp [HL.out])
          clear hp
          obtain ⟨C', hC1, hC2⟩ := HI.out.room
          have hkl3 := HI.out.kl
          have HC1 := Lib.hid hC1
          have u0 := HC1.out.cell (i * 3)
          have u1 := HC1.out.cell (i * 3 + 1)
          have u2 := HC1.out.cell (i * 3 + 2)
          rw [Array.getElem?_eq_getElem (by omega)] at u0 u1 u2
          generalize C'[i * 3]'_ = U0 at u0
          generalize C'[i * 3 + 1]'_ = U1 at u1
          generalize C'[i * 3 + 2]'_ = U2 at u2
          have f0 := HC1.out.free (i * 3)
          have f1 := HC1.out.free (i * 3 + 1)
          have f2 := HC1.out.free (i * 3 + 2)
          have x0 := HX.out.cell 0
          have x1 := HX.out.cell 1
          have x2 := HX.out.cell 2
          simp at x0 x1 x2
          have hig : (i : Int) < (K.length : Int) := by omega
          unfold store3 at HI2
          clear hC1 HC1
          go_wp2_with fail
          generalize ((w6.setCell ⟨g, i * 3, none⟩ (.string (S c.key))).setCell ⟨g, i * 3 + 1, none⟩ (.int .i64 c.seq)).setCell ⟨g, i * 3 + 2, none⟩ (.string (S c.val)) = W7 at *
          go_roundw
          case rel => exact ⟨i + 1, j + 1, F ++ [c], by go_num, by go_num, by omega, by omega, HL2, HF2, HI2⟩
          case measure => simp [intOf] <;> omega
      · obtain rfl : j = K.length := by omega
        have hd : decide ((K.length : Int) < (K.length : Int)) = false := by simp
        have HFF := Lib.hid (show F = K.filter (fun c => !M.odd c) from by have := HF.out; rwa [List.take_length] at this)
        have hkl3 := HI.out.kl
        obtain ⟨C', hC1, hC2⟩ := HI.out.room
        have HC1 := Lib.hid hC1
        have hcl : ∀ ty, (Builtin.clear_ #[22] ty #[.slice (some ⟨g, i * 3, none⟩) (K.length - i) (cap' - i)]).run Tryz.prog wr = .ok (.tuple #[]) (wr.setCells g (i * 3) (Builtin.zeroCells #[.string ⟨#[]⟩, .int .i64 0, .string ⟨#[]⟩] (K.length - i)).toList) :=
          fun ty => run_clear_cl19 wr ty g (i * 3) _ _ (by omega) (fun t ht => by rw [HC1.out.cell, Array.getElem?_eq_getElem (by omega)]; rfl) (fun t ht => HC1.out.free _)
        have HBE := Lib.hid (below_setCells19 HI.out.b0 (Builtin.zeroCells #[.string ⟨#[]⟩, .int .i64 0, .string ⟨#[]⟩] (K.length - i)).toList (i * 3) wr HI.out.bel)
        have HCE := Lib.hid (show ClsAt (wr.setCells g (i * 3) (Builtin.zeroCells #[.string ⟨#[]⟩, .int .i64 0, .string ⟨#[]⟩] (K.length - i)).toList) (some ⟨g, 0, none⟩) F from cls_of19 (fun q hq => by
          have hz : (Builtin.zeroCells #[.string ⟨#[]⟩, .int .i64 0, .string ⟨#[]⟩] (K.length - i)).toList.length = (K.length - i) * 3 := by simp [Builtin.zeroCells]
          have hqi : q < i := by have := HL.out; omega
          have low := fun p (hp : p < i * 3) => setCells_low19 (N := cap' * 3) _ (i * 3) wr p HI.out.room (by rw [hz]; omega) hp
          obtain ⟨a0, a1, a2⟩ := HI.out.done q hq
          exact ⟨(low _ (by omega)).trans a0, (low _ (by omega)).trans a1, (low _ (by omega)).trans a2⟩))
        have hig : (i : Int) ≤ (K.length : Int) := by omega
        clear hC1
        go_wp2_with fail
        go_ret
        exact ⟨cap', by rw [← HFF.out, HL.out]; rfl, by rw [← HFF.out]; exact HCE.out, HBE.out⟩

theorem drop_even19 (c : M.Cl) (w : World) : Calls Tryz.prog 20 #[.agg (clA c)] w fun e w' => e = .returned (.bool ((!M.odd c))) ∧ Below w.heap.size w w' := by
  have HB := Lib.hid ((Below.refl w.heap.size w).alloc (Nat.le_refl _) (.cells (clA c) 38))
  have HP := Lib.hid (show M.odd c = !(c.seq.tmod 2 == 0) from rfl)
  generalize M.odd c = r at *
  go_enter Tryz.func20, Tryz.ntmps20
  go_wp2_with fail
  go_ret
  exact ⟨by rw [HP.out, Bool.not_not]; rfl, HB.out⟩
set_option maxHeartbeats 4000000 in
set_option maxRecDepth 100000 in
theorem idx_even19 (K : List M.Cl) (ao : Option Addr) (cap : Nat) (w : World) (h : ClsAt w ao K) (hl : K.length ≤ 1000000) :
    Calls Tryz.prog 66 #[.slice ao K.length cap, (.func (.func 20) #[] #[])] w fun e w' => ∃ i : Int, e = .returned (.int .i64 i) ∧ ((i = -1 ∧ ∀ q, q < K.length → (!M.odd (K.getD q M.cl0)) = false) ∨ ∃ k : Nat, i = k ∧ k < K.length ∧ (!M.odd (K.getD k M.cl0)) = true ∧ ∀ q, q < k → (!M.odd (K.getD q M.cl0)) = false) ∧ Below w.heap.size w w' := by
  have HC := Lib.hid h
  have CD := Lib.hid drop_even19
  clear h
  go_enter Tryz.func66, Tryz.ntmps66
  go_wp2_with fail
  go_loopw [5, 8] (fun _ v8 wr => ∃ k : Nat, k ≤ K.length ∧ v8 = .int .i64 k ∧ Hid (∀ q, q < k → (!M.odd (K.getD q M.cl0)) = false) ∧ Hid (Below w.heap.size w wr)) (fun _ v _ => K.length - (intOf v).toNat)
  case atStart => exact ⟨0, Nat.zero_le _, rfl, Lib.hid (fun q hq => absurd hq (Nat.not_lt_zero _)), Lib.hid (Below.refl _ _)⟩
  case round =>
    obtain ⟨k, hk, rfl, HN, HB⟩ := hrel
    by_cases hlt : k < K.length
    · have hd : decide ((k : Int) < (K.length : Int)) = true := by simp; omega
      have hki : (k : Int) < (K.length : Int) := by omega
      obtain ⟨g, off, rfl, x0, x1, x2⟩ := (HC.out.below HB.out).off k hlt
      have HG : Hid (∀ b, (!M.odd (K.getD k M.cl0)) = b → (!M.odd (K.getD k M.cl0)) = b) := Lib.hid (fun _ h => h)
      obtain ⟨c, hc⟩ : ∃ c, c = K.getD k M.cl0 := ⟨_, rfl⟩
      rw [← hc] at x0 x1 x2
      have HCK := Lib.hid hc
      clear hc HG
      go_wp2_with fail
      with_reducible refine (CD.out c _).mono ?_
      rintro e w2 ⟨rfl, hbq⟩
      replace HB := Lib.hid (below_step HB.out hbq)
      clear hbq x0 x1 x2
      cases hp : M.odd c with
      | false =>
        have HP := Lib.hid (show (!M.odd (K.getD k M.cl0)) = true from by rw [← HCK.out, hp] <;> rfl)
        clear hp
        go_wp2_with fail
        go_ret
        exact ⟨k, rfl, .inr ⟨k, rfl, hlt, HP.out, HN.out⟩, HB.out⟩
      | true =>
        have HP := Lib.hid (show (!M.odd (K.getD k M.cl0)) = false from by rw [← HCK.out, hp] <;> rfl)
        clear hp
        go_wp2_with fail
        go_roundw
        case rel =>
          refine ⟨k + 1, by omega, by go_num, Lib.hid (fun q hq => ?_), HB⟩
          by_cases e : q = k
          · rw [e]; exact HP.out
          · exact HN.out q (by omega)
        case measure => simp [intOf] <;> omega
    · obtain rfl : k = K.length := by omega
      have hd : decide ((K.length : Int) < (K.length : Int)) = false := by simp
      go_wp2_with fail
      go_ret
      exact ⟨-1, rfl, .inl ⟨rfl, HN.out⟩, HB.out⟩
set_option maxHeartbeats 8000000 in
set_option maxRecDepth 100000 in
theorem delf_even19 (B : Nat) (K : List M.Cl) (ao : Option Addr) (cap : Nat) (w : World) (hB : B ≤ w.heap.size) (ho : w.ownsRow B 38 3 (.slice ao K.length cap) K.length (cls K)) (hl : K.length ≤ 1000000) :
    Calls Tryz.prog 40 #[.slice ao K.length cap, (.func (.func 20) #[] #[])] w fun e w' => ∃ c', e = .returned (.slice ao (K.filter (fun c => M.odd c)).length c') ∧ ClsAt w' ao (K.filter (fun c => M.odd c)) ∧ Below B w w' := by
  have HO := Lib.hid ho
  have CI := Lib.hid (idx_even19 K ao cap w (clsAt_own ho rfl) hl)
  have CD := Lib.hid drop_even19
  clear ho
  go_enter Tryz.func40, Tryz.ntmps40
  go_wp2_with fail
  with_reducible refine (CI.out).mono ?_
  rintro e w1 ⟨i, rfl, ⟨rfl, hn⟩ | ⟨k, rfl, hk, hpk, hn⟩, hbq⟩
  · have HF := Lib.hid (show K.filter (fun c => M.odd c) = K from List.filter_eq_self.2 (fun c hc => by
      obtain ⟨q, hq, rfl⟩ := List.getElem_of_mem hc
      have := hn q hq
      rw [show K.getD q M.cl0 = K[q] from by simp [List.getD, hq]] at this
      show M.odd K[q] = true; simpa using this))
    have HC := Lib.hid ((clsAt_own HO.out rfl).below hbq)
    have HB := Lib.hid (hbq.mono hB)
    clear hn hbq HO CI
    have hm1 : ((-1 : Int) == -1) = true := rfl
    go_wp2_with fail
    go_ret
    exact ⟨cap, by rw [HF.out]; rfl, by rw [HF.out]; exact HC.out, HB.out⟩
  · have hK0 : 0 < K.length := by omega
    obtain ⟨g, cap', C, rfl, hcap, HI⟩ : ∃ (g cap' : Nat) (C : Array Value), ao = some ⟨g, 0, none⟩ ∧ (cap' = cap ∧ K.length ≤ cap') ∧ Hid (DfI B g (cap' * 3) K (K.take k) (k + 1) w w1) := by
      have hcl := (clsAt_own HO.out rfl).below hbq
      rcases HO.out.2 with ⟨e, h0⟩ | ⟨g, cap', cur, e, hb, hg, hn', hm, hs, ht⟩
      · omega
      · injection e with e1 e2 e3
        subst e1
        refine ⟨g, cap', cur, rfl, ⟨e3.symm, hn'⟩, Lib.hid ⟨⟨cur, RowIn.below hg hbq, by omega⟩, by omega, fun q hq => ?_, fun q _ hq => clsAt_at0 hcl q hq, hbq.mono hB, hb⟩⟩
        have hq' : q < k := by simp at hq; omega
        have e : (K.take k).getD q M.cl0 = K.getD q M.cl0 := by simp [List.getD, List.getElem?_take, hq']
        rw [e]
        exact clsAt_at0 hcl q (by omega)
    obtain ⟨rfl, hcap⟩ := hcap
    have HFk := Lib.hid (show K.take k = (K.take (k + 1)).filter (fun c => M.odd c) from by
      rw [takeC_snoc hk, List.filter_append]
      have e1 : (K.take k).filter (fun c => M.odd c) = K.take k := List.filter_eq_self.2 (fun c hc => by
        obtain ⟨q, hq, rfl⟩ := List.getElem_of_mem hc
        have hq' : q < k := by simp at hq; omega
        have hql : q < K.length := by omega
        have := hn q hq'
        rw [show K.getD q M.cl0 = K[q] from by simp [List.getD, hql]] at this
        rw [List.getElem_take]
        show M.odd K[q] = true; simpa using this)
      rw [e1]
      generalize K.getD k M.cl0 = c at hpk ⊢
      cases h : M.odd c <;> simp [h] at hpk ⊢)
    clear hn hbq HO CI hpk
    have hkl : (K.take k).length = k := by simp; omega
    have HKL := Lib.hid hkl
    clear hkl
    have hne1 : ((k : Int) == -1) = false := beq_eq_false_iff_ne.2 (by omega)
    go_wp2_with fail
    go_loopw [5, 6, 7] (fun v5 v6 _ wr => ∃ (i j : Nat) (F : List M.Cl), v5 = .int .i64 i ∧ v6 = .int .i64 j ∧ i < j ∧ j ≤ K.length ∧ Hid (F.length = i) ∧ Hid (F = (K.take j).filter (fun c => M.odd c)) ∧ Hid (DfI B g (cap' * 3) K F j w wr)) (fun _ v _ _ => K.length - (intOf v).toNat)
    case atStart => exact ⟨k, k + 1, K.take k, rfl, by go_num, by omega, by omega, HKL, HFk, HI⟩
    case round =>
      clear HI HFk HKL
      obtain ⟨i, j, F, rfl, rfl, hij, hj, HL, HF, HI⟩ := hrel
      by_cases hlt : j < K.length
      · have hd : decide ((j : Int) < (K.length : Int)) = true := by simp; omega
        have hki : (j : Int) < (K.length : Int) := by omega
        have HTS := Lib.hid (takeC_snoc hlt)
        have HR := Lib.hid (HI.out.rest j (Nat.le_refl _) hlt)
        generalize K.getD j M.cl0 = c at *
        obtain ⟨x0, x1, x2⟩ := HR.out
        have hal := (Below.refl wr.heap.size wr).alloc (Nat.le_refl _) (.cells (clA c) 38)
        have HX := Lib.hid (rowIn_new (clA c) 38 wr)
        have HGB := Lib.hid (show g < wr.heap.size from by obtain ⟨C', h1, _⟩ := HI.out.room; exact h1.lt)
        replace HI := Lib.hid (HI.out.below hal)
        clear hal
        obtain ⟨b0, hb0⟩ : ∃ x, x = wr.heap.size := ⟨_, rfl⟩
        rw [← hb0] at HX HGB
        go_wp2_with fail
        rw [← hb0]
        clear hb0
        generalize wr.alloc (.cells (clA c) 38) = W5 at *
        with_reducible refine (CD.out c _).mono ?_
        rintro e w6 ⟨rfl, hbq⟩
        replace HI := Lib.hid (HI.out.below hbq)
        replace HX := Lib.hid (HX.out.below hbq)
        clear hbq x0 x1 x2 HR
        cases hp : M.odd c with
        | false =>
          have HF2 := Lib.hid (show F = (K.take (j + 1)).filter (fun c => M.odd c) from by rw [HTS.out, List.filter_append, ← HF.out]; simp [hp])
          have HI2 := Lib.hid HI.out.skip
          clear hp
          go_wp2_with fail
          go_roundw
          case rel => exact ⟨i, j + 1, F, rfl, by go_num, by omega, by omega, HL, HF2, HI2⟩
          case measure => simp [intOf] <;> omega
        | true =>
          have HF2 := Lib.hid (show F ++ [c] = (K.take (j + 1)).filter (fun c => M.odd c) from by rw [HTS.out, List.filter_append, ← HF.out]; simp [hp])
          have HI2 := Lib.hid (HI.out.put (by rw [HL.out]; exact hij) hlt c)
          rw [HL.out] at HI2
          have HL2 := Lib.hid (show (F ++ [c]).length = i + 1 from by simp [HL.out])
          clear hp
          obtain ⟨C', hC1, hC2⟩ := HI.out.room
          have hkl3 := HI.out.kl
          have HC1 := Lib.hid hC1
          have u0 := HC1.out.cell (i * 3)
          have u1 := HC1.out.cell (i * 3 + 1)
          have u2 := HC1.out.cell (i * 3 + 2)
          rw [Array.getElem?_eq_getElem (by omega)] at u0 u1 u2
          generalize C'[i * 3]'_ = U0 at u0
          generalize C'[i * 3 + 1]'_ = U1 at u1
          generalize C'[i * 3 + 2]'_ = U2 at u2
          have f0 := HC1.out.free (i * 3)
          have f1 := HC1.out.free (i * 3 + 1)
          have f2 := HC1.out.free (i * 3 + 2)
          have x0 := HX.out.cell 0
          have x1 := HX.out.cell 1
          have x2 := HX.out.cell 2
          simp at x0 x1 x2
          have hig : (i : Int) < (K.length : Int) := by omega
          unfold store3 at HI2
          clear hC1 HC1
          go_wp2_with fail
          generalize ((w6.setCell ⟨g, i * 3, none⟩ (.string (S c.key))).setCell ⟨g, i * 3 + 1, none⟩ (.int .i64 c.seq)).setCell ⟨g, i * 3 + 2, none⟩ (.string (S c.val)) = W7 at *
          go_roundw
          case rel => exact ⟨i + 1, j + 1, F ++ [c], by go_num, by go_num, by omega, by omega, HL2, HF2, HI2⟩
          case measure => simp [intOf] <;> omega
      · obtain rfl : j = K.length := by omega
        have hd : decide ((K.length : Int) < (K.length : Int)) = false := by simp
        have HFF := Lib.hid (show F = K.filter (fun c => M.odd c) from by have := HF.out; rwa [List.take_length] at this)
        have hkl3 := HI.out.kl
        obtain ⟨C', hC1, hC2⟩ := HI.out.room
        have HC1 := Lib.hid hC1
        have hcl : ∀ ty, (Builtin.clear_ #[22] ty #[.slice (some ⟨g, i * 3, none⟩) (K.length - i) (cap' - i)]).run Tryz.prog wr = .ok (.tuple #[]) (wr.setCells g (i * 3) (Builtin.zeroCells #[.string ⟨#[]⟩, .int .i64 0, .string ⟨#[]⟩] (K.length - i)).toList) :=
          fun ty => run_clear_cl19 wr ty g (i * 3) _ _ (by omega) (fun t ht => by rw [HC1.out.cell, Array.getElem?_eq_getElem (by omega)]; rfl) (fun t ht => HC1.out.free _)
        have HBE := Lib.hid (below_setCells19 HI.out.b0 (Builtin.zeroCells #[.string ⟨#[]⟩, .int .i64 0, .string ⟨#[]⟩] (K.length - i)).toList (i * 3) wr HI.out.bel)
        have HCE := Lib.hid (show ClsAt (wr.setCells g (i * 3) (Builtin.zeroCells #[.string ⟨#[]⟩, .int .i64 0, .string ⟨#[]⟩] (K.length - i)).toList) (some ⟨g, 0, none⟩) F from cls_of19 (fun q hq => by
          have hz : (Builtin.zeroCells #[.string ⟨#[]⟩, .int .i64 0, .string ⟨#[]⟩] (K.length - i)).toList.length = (K.length - i) * 3 := by simp [Builtin.zeroCells]
          have hqi : q < i := by have := HL.out; omega
          have low := fun p (hp : p < i * 3) => setCells_low19 (N := cap' * 3) _ (i * 3) wr p HI.out.room (by rw [hz]; omega) hp
          obtain ⟨a0, a1, a2⟩ := HI.out.done q hq
          exact ⟨(low _ (by omega)).trans a0, (low _ (by omega)).trans a1, (low _ (by omega)).trans a2⟩))
        have hig : (i : Int) ≤ (K.length : Int) := by omega
        clear hC1
        go_wp2_with fail
        go_ret
        exact ⟨cap', by rw [← HFF.out, HL.out]; rfl, by rw [← HFF.out]; exact HCE.out, HBE.out⟩

end Go.Proofs.YtnhljlmelbiljaaGreat
