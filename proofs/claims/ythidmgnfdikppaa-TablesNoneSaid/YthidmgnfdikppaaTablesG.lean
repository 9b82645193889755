/- Layer 10: the table of a text, walked. -/
import Derived.Test.YthidmgnfdikppaaTablesFa
import Derived.BigQuiet
import Derived.BigRegion
namespace Go.Proofs.Ythidmgnfdikppaa
set_option linter.unusedVariables false
open Go Go.RowKit
attribute [local go_sem ↓] run_index_S
attribute [local go_sem] S_append S_extract

set_option maxHeartbeats 8000000 in
set_option maxRecDepth 100000 in
theorem open10_any (t : List UInt8) (ht : t.length ≤ 900000) (w : World) :
    Calls Try.prog 28 #[.string (S t)] w fun e w' => OpenR10 t w e w' := by
  obtain ⟨iS, hiS, hzS, hsS, hbS⟩ := info_parts infoSt10
  obtain ⟨j0, y0, hj, hy0, hy1, hy2, hy3⟩ := infoCl_parts
  by_cases h0 : t.length < 25
  · have q0 : decide ((t.length : Int) < 25) = true := by simp; omega
    have HN := Lib.hid (openR10_none (w := w) (w' := w) (t := t) (fun L h => by have := isT_len h; omega) (Below.refl _ _))
    go_enter Try.func28, Try.ntmps28
    go_wp2_with fail
    go_ret2
    exact HN.out
  have q0 : decide ((t.length : Int) < 25) = false := by simp; omega
  obtain ⟨bl, hbl⟩ : ∃ b : Nat, b = t.length - 25 := ⟨_, rfl⟩
  have k1 := run_piece_to (P := Try.prog) 9 Try.underlying9 t ((t.length : Int) - 25) bl (by omega) (by omega)
  have hbody : (t.take bl).length = bl := by rw [List.length_take]; omega
  have k2 := run_piece_from (P := Try.prog) 9 Try.underlying9 t ((bl : Int) + 4) (bl + 4) (by omega) (by omega)
  have hfl : (t.drop (bl + 4)).length = 21 := by rw [List.length_drop]; omega
  have HFI := Lib.hid (show ∀ L, M.IsT t L → ∃ z, M.bigR ⟨t.drop (bl + 4), false⟩ = ((M.bodyT L).length, ⟨z, false⟩) from fun L h => by rw [show bl + 4 = t.length - 21 from by omega]; exact isT_foot h)
  have HSI := Lib.hid (show ∀ L, M.IsT t L → (M.bodyT L).length ≤ bl from fun L h => by rw [hbl]; exact isT_size h)
  have HST := Lib.hid (show ∀ L, M.IsT t L → M.numR ⟨(t.take bl).drop (M.bodyT L).length, false⟩ = (M.many L, ⟨M.idxS (M.many L) L, false⟩) ∧ (t.take bl).take (M.bodyT L).length = M.bodyS (M.many L) L from fun L h => by rw [hbl]; exact isT_start h)
  have hbl2 : bl ≤ 900000 := by omega
  have HBL := Lib.hid hbl
  have HBO := Lib.hid hbody
  have HFL := Lib.hid hfl
  clear hbl hfl hbody
  have HNO := Lib.hid (fun (h : ∀ L, ¬ M.IsT t L) w' (hb : Below w.heap.size w w') => openR10_none (w := w) (w' := w') h hb)
  generalize hfoot : t.drop (bl + 4) = ft at *
  generalize hbody : t.take bl = bd at *
  have hbd : bd.length = bl := HBO.out
  clear hfoot hbody
  have CB := Lib.hid (fun W g (h : RsAt #[.string (S ft), .bool false] 103 g 0 ⟨ft, false⟩ W) => big10_any _ _ g 0 ⟨ft, false⟩ W h)
  have HR0 := Lib.hid (rowIn_new #[.string (S ft), .bool false] 103 w)
  have HB0 := Lib.hid ((Below.refl w.heap.size w).alloc (Nat.le_refl _) (.cells #[.string (S ft), .bool false] 103))
  go_enter Try.func28, Try.ntmps28
  go_wp2_with fail
  with_reducible refine (CB.out _ _ ⟨HR0.out, rfl, rfl, by have := HFL.out; show ft.length ≤ _; omega⟩).mono ?_
  rintro e w1 ⟨rfl, h1, h2, h3⟩
  have HB1 := Lib.hid (HB0.out.trans (h2.below (B := w.heap.size) (fun k hk => by omega) (by rw [szA]; omega)))
  have HZ1 := Lib.hid (show w1.heap.size = w.heap.size + 1 from by rw [h3, szA])
  have HR1 := Lib.hid h1
  clear h1 h2 h3 HR0 HB0 CB
  obtain ⟨⟨size, ⟨fz, fb⟩⟩, hbig⟩ : ∃ q, M.bigR ⟨ft, false⟩ = q := ⟨_, rfl⟩
  rw [hbig] at HR1 HFI
  rw [hbig]
  have c1 : w1.cell? ⟨w.heap.size, 1, none⟩ = some (.bool fb) := HR1.out.cell 1
  cases fb with
  | true =>
    have HN := Lib.hid (HNO.out (fun L h => by obtain ⟨z, hz⟩ := HFI.out L h; cases hz) w1 HB1.out)
    go_wp2_with fail
    go_ret2
    exact HN.out
  | false =>
    by_cases hsz : bd.length < size
    · have q1 : decide ((bd.length : Int) < (size : Int)) = true := by simp; omega
      have q1' : decide (bd.length < size) = true := by simp; omega
      have HN := Lib.hid (HNO.out (fun L h => by obtain ⟨z, hz⟩ := HFI.out L h; have := HSI.out L h; injection hz with hz; omega) w1 HB1.out)
      go_wp2_with fail
      go_ret2
      exact HN.out
    have q1 : decide ((bd.length : Int) < (size : Int)) = false := by simp; omega
    have q1' : decide (bd.length < size) = false := by simp; omega
    have k3 := run_piece_from (P := Try.prog) 9 Try.underlying9 bd (size : Int) size rfl (by omega)
    have k4 := run_piece_to (P := Try.prog) 9 Try.underlying9 bd (size : Int) size rfl (by omega)
    go_wp2_with fail
    have HI0 := Lib.hid (show IdxAt w1.heap.size ⟨bd.drop size, false⟩ ⟨bd.take size, false⟩ ((w1.alloc (.cells #[.string (S (bd.drop size)), .bool false, .string (S (bd.take size)), .bool false] 105)).alloc (.cells #[.slice none 0 0, .slice none 0 0, .int .i64 0] 57)).drew from ⟨(rowIn_new _ _ w1).more _, by simp; omega, by simp; omega⟩)
    have HT0 := Lib.hid (show RowIn #[.slice none 0 0, .slice none 0 0, .int .i64 0] 57 ((w1.alloc (.cells #[.string (S (bd.drop size)), .bool false, .string (S (bd.take size)), .bool false] 105)).alloc (.cells #[.slice none 0 0, .slice none 0 0, .int .i64 0] 57)).drew (w1.heap.size + 1) from rowIn_at _ _ _ _ (by rw [szA]))
    have HB2 := Lib.hid (show Below w.heap.size w ((w1.alloc (.cells #[.string (S (bd.drop size)), .bool false, .string (S (bd.take size)), .bool false] 105)).alloc (.cells #[.slice none 0 0, .slice none 0 0, .int .i64 0] 57)).drew from ((HB1.out.alloc HB1.out.size _).alloc (by have := HB1.out.size; rw [szA]; omega) _).drew)
    have HW1 := Lib.hid HB1.out.size
    go_region
    go_wp2_with fail
    with_reducible refine (ix_num HI0.out).mono ?_
    rintro e w2 ⟨rfl, h1, h2, h3⟩
    have HTB := Lib.hid (show TabRow w.heap.size (w1.heap.size + 1) (.slice none 0 0) (.slice none 0 0) [] [] 0 w2 from ⟨h2.row HT0.out (by omega), World.ownsRow_nil _ _ _ _, World.ownsRow_nil _ _ _ _, fun q hq => by simp [Value.ownBlock] at hq⟩)
    have HB3 := Lib.hid (HB2.out.trans (h2.below (B := w.heap.size) (fun k hk => by have := HW1.out; omega) HB2.out.size))
    have HIX := Lib.hid h1
    have HRD := Lib.hid (show Read10 t 0 (M.numR ⟨bd.drop size, false⟩).1 (M.numR ⟨bd.drop size, false⟩).2 ⟨bd.take size, false⟩ [] [] [] from by
      have hl1 := M.numR_len ⟨bd.drop size, false⟩
      simp only [List.length_drop] at hl1
      refine ⟨rfl, rfl, by omega, by simp; omega, (fun c hc => by cases hc), (fun L hL => ?_)⟩
      obtain ⟨z, hz⟩ := HFI.out L hL
      injection hz with hz _
      subst hz
      obtain ⟨g1, g2⟩ := HST.out L hL
      rw [g1, g2]
      simp [M.firsts, M.blksB])
    clear h1 h2 h3 HI0 HT0 HB2
    have HN9 := Lib.hid (M.numR_le ⟨bd.drop size, false⟩)
    generalize M.numR ⟨bd.drop size, false⟩ = nx at *
    obtain ⟨n0, x0⟩ := nx
    go_wp2_with fail
    go_loopw [9, 10] (fun vc vn wr => ∃ (k n : Nat) (x bl : M.RS) (C : List M.Cl) (Bk F : List (List UInt8)) (ac : Option Addr) (cc : Nat) (vB vF : Value), vn = .int .i64 n ∧ vc = .slice ac C.length cc ∧ n ≤ 9223372036854775807 ∧ Hid (Read10 t k n x bl C Bk F) ∧ Hid (IdxAt w1.heap.size x bl wr) ∧ Hid (TabRow w.heap.size (w1.heap.size + 1) vB vF Bk F 0 wr) ∧ Hid (wr.ownsRow w.heap.size 38 3 (.slice ac C.length cc) C.length (cls C)) ∧ Hid (Below w.heap.size w wr)) (fun _ vn _ => (intOf vn).toNat)
    case atStart => exact ⟨0, n0, x0, ⟨bd.take size, false⟩, [], [], [], none, 0, (.slice none 0 0), (.slice none 0 0), rfl, rfl, HN9.out, HRD, HIX, HTB, Lib.hid (World.ownsRow_nil _ _ _ _), HB3⟩
    case round =>
      clear HRD HIX HTB HB3
      obtain ⟨k, n, x, bl2, C, Bk, F, ac, cc, vB, vF, rfl, rfl, hn9, HRD, HIX, HTB, HCO, HBR⟩ := hrel
      by_cases hn : 0 < n
      · obtain ⟨m, rfl⟩ : ∃ m, n = m + 1 := ⟨n - 1, by omega⟩
        have d1 : decide ((0 : Int) < ((m + 1 : Nat) : Int)) = true := by simp
        have d2 : decide (0 < m + 1) = true := by simp
        have CE := Lib.hid (entry10_any w1.heap.size x bl2 wr HIX.out)
        obtain ⟨⟨fs, bk, x', bl'⟩, he⟩ : ∃ q, M.entR x bl2 = q := ⟨_, rfl⟩
        rw [he] at CE
        have HE := Lib.hid he
        have hbk : bk.length ≤ 1000000 := by
          have h1 : bk.length ≤ bl2.t.length := by
            have e := (M.cutR_len bl2 (M.numR (M.keyR x).2).1).2
            have e2 : (M.entR x bl2).block = bk := by rw [he]
            rw [← e2]; exact e
          have := HRD.out.cl
          omega
        clear he
        go_wp2_with fail
        with_reducible refine (CE.out).mono ?_
        rintro e w3 ⟨rfl, h1, h2, h3⟩
        have HIX3 := Lib.hid h1
        have HT3 := Lib.hid (show TabRow w.heap.size (w1.heap.size + 1) vB vF Bk F 0 w3 from ⟨h2.row HTB.out.row (by omega), h2.own HTB.out.b (fun q hq e => row_apart HIX.out.row HTB.out.b (by decide) q hq e), h2.own HTB.out.f (fun q hq e => row_apart HIX.out.row HTB.out.f (by decide) q hq e), HTB.out.ne⟩)
        have HC3 := Lib.hid (h2.own HCO.out (fun q hq e => row_apart HIX.out.row HCO.out (by decide) q hq e))
        have HB3 := Lib.hid (HBR.out.trans (h2.below (B := w.heap.size) (fun k hk => by have := HW1.out; omega) HBR.out.size))
        clear h1 h2 h3 HTB HCO HBR HIX CE
        go_wp2_with fail
        have CD := Lib.hid (decode9_any bk hbk w3)
        cases hdc : M.decC bk with
        | none =>
          have HN := Lib.hid (HRD.out.bad HE.out (.inr (.inr hdc)))
          rw [hdc] at CD
          unfold DecR9 at CD
          simp only at CD
          with_reducible refine (CD.out).mono ?_
          rintro e w4 ⟨rfl, hb4⟩
          have HN2 := Lib.hid (HNO.out HN.out w4 (below_step HB3.out hb4))
          clear hb4 hdc
          cases hf : (!x'.b && !bl'.b)
          all_goals
            clear hf
            go_wp2_with fail
            go_ret2
            exact HN2.out
        | some Ln =>
          have HD := Lib.hid hdc
          rw [hdc] at CD
          unfold DecR9 at CD
          simp only at CD
          clear hdc
          with_reducible refine (CD.out).mono ?_
          rintro e w4 ⟨⟨al, cl, rfl, hol⟩, hb4⟩
          have HIX4 := Lib.hid (HIX3.out.below hb4)
          have HT4 := Lib.hid (HT3.out.below hb4)
          have HC4 := Lib.hid (ownP_below HC3.out hb4)
          have HB4 := Lib.hid (below_step HB3.out hb4)
          have HL4 := Lib.hid hol
          have HAP := Lib.hid (show ∀ q, (Value.slice al Ln.length cl).ownBlock = some q → (Value.slice ac C.length cc).ownBlock ≠ some q from fun q hq e => by
            have e1 := (HC3.out.lt q e).2
            have e2 := (hol.lt q hq).1
            omega)
          clear hb4 hol HIX3 HT3 HC3 HB3 CD
          by_cases hf : x'.b = false ∧ bl'.b = false
          · obtain ⟨hf1, hf2⟩ := hf
            have HRD2 := Lib.hid (HRD.out.step HE.out hf1 hf2 HD.out)
            rw [hf1, hf2]
            go_wp2_with fail
            have pF : F.length ≤ 1000000 := by have := HRD.out.lf; have := HRD.out.kx; omega
            have pB : Bk.length ≤ 1000000 := by have := HRD.out.lb; have := HRD.out.kx; omega
            have pC : C.length + Ln.length ≤ 1000000 := by have := HRD2.out.cl; rw [List.length_append] at this; omega
            obtain ⟨p18, hp18⟩ : ∃ p : P18, p = ⟨w, w1.heap.size, w1.heap.size + 1, x', bl', vB, vF, .slice ac C.length cc, Bk, F, C, fs, bk, al, Ln, cl, pF, pB, pC⟩ := ⟨_, rfl⟩
            have HSX : Hid (∀ (u5 u7 u8 u12 u14 u15 u18 : Value), Sx18 p18 false false false false false false false u5 u7 u8 u12 u14 u15 u18 w4.drew) := Lib.hid fun _ _ _ _ _ _ _ => by
              subst hp18
              exact ⟨vB, vF, .slice ac C.length cc, Bk, F, C, ⟨HT4.out.row, ⟨HIX4.out.row, HIX4.out.l1, HIX4.out.l2⟩, HT4.out.b, HT4.out.f, HC4.out, HT4.out.ne, HB4.out.drew⟩, (fun e => by cases e), (fun e => by cases e), (fun _ => ⟨rfl, rfl⟩), (fun e => by cases e), (fun _ => ⟨rfl, rfl⟩), (fun e => by cases e), (fun _ => ⟨rfl, rfl, w3.heap.size, HL4.out, HAP.out⟩), (fun e => by cases e), (fun e => by cases e), (fun e => by cases e)⟩
            subst hp18
            refine wp_region_any (by kernel_rfl) ?_
            change wpAny _ _ _ _ _ _ _ (World.drew _)
            refine wpAny_take (i := 0) (oi := { dst := some 74, op := Op.move (Operand.tmp 8), type := 32, pos := "tables.go:117", after := #[], guard := none }) (v := ?_) rfl (by kernel_rfl) (by kernel_rfl) (by kernel_rfl) (fun _ _ _ h => h) (Or.inl ⟨by rfl, ?_⟩) ?_
            rotate_left
            · (intro w; go_simp); (first | done | with_reducible rfl)
            try simp only [Act.put, List.setIfInBounds_toArray, List.set_cons_zero, List.set_cons_succ]
            refine wpAny_take (i := 1) (oi := { dst := some 75, op := Op.move (Operand.tmp 8), type := 32, pos := "tables.go:117", after := #[{ on := 21, ground := Ground.gcOnly Departure.lateStores }], guard := none }) (v := ?_) rfl (by kernel_rfl) (by kernel_rfl) (by kernel_rfl) (fun _ _ _ h => h) (Or.inl ⟨by rfl, ?_⟩) ?_
            rotate_left
            · (intro w; go_simp); (first | done | with_reducible rfl)
            try simp only [Act.put, List.setIfInBounds_toArray, List.set_cons_zero, List.set_cons_succ]
            refine wpAny_take (i := 2) (oi := { dst := some 76, op := Op.move (Operand.tmp 8), type := 32, pos := "tables.go:117", after := #[], guard := none }) (v := ?_) rfl (by kernel_rfl) (by kernel_rfl) (by kernel_rfl) (fun _ _ _ h => h) (Or.inl ⟨by rfl, ?_⟩) ?_
            rotate_left
            · (intro w; go_simp); (first | done | with_reducible rfl)
            try simp only [Act.put, List.setIfInBounds_toArray, List.set_cons_zero, List.set_cons_succ]
            refine wpAny_take (i := 3) (oi := { dst := some 77, op := Op.nilCheck (Operand.tmp 76), type := 0, pos := "tables.go:117", after := #[{ on := 2, ground := Ground.data }], guard := none }) (v := ?_) rfl (by kernel_rfl) (by kernel_rfl) (by kernel_rfl) (fun _ _ _ h => h) (Or.inl ⟨by rfl, ?_⟩) ?_
            rotate_left
            · (intro w; go_simp); (first | done | with_reducible rfl)
            try simp only [Act.put, List.setIfInBounds_toArray, List.set_cons_zero, List.set_cons_succ]
            refine wpAny_take (i := 4) (oi := { dst := some 78, op := Op.fieldAddr 57 (Operand.tmp 77) 1, type := 0, pos := "tables.go:117", after := #[{ on := 3, ground := Ground.data }], guard := none }) (v := ?_) rfl (by kernel_rfl) (by kernel_rfl) (by kernel_rfl) (fun _ _ _ h => h) (Or.inl ⟨by rfl, ?_⟩) ?_
            rotate_left
            · (intro w; go_simp); (first | done | with_reducible rfl)
            try simp only [Act.put, List.setIfInBounds_toArray, List.set_cons_zero, List.set_cons_succ]
            refine wpAny_take (i := 6) (oi := { dst := some 80, op := Op.move (Operand.tmp 11), type := 9, pos := "tables.go:117", after := #[], guard := none }) (v := ?_) rfl (by kernel_rfl) (by kernel_rfl) (by kernel_rfl) (fun _ _ _ h => h) (Or.inl ⟨by rfl, ?_⟩) ?_
            rotate_left
            · (intro w; go_simp); (first | done | with_reducible rfl)
            try simp only [Act.put, List.setIfInBounds_toArray, List.set_cons_zero, List.set_cons_succ]
            refine wpAny_take (i := 9) (oi := { dst := some 83, op := Op.move (Operand.tmp 8), type := 32, pos := "tables.go:117", after := #[], guard := none }) (v := ?_) rfl (by kernel_rfl) (by kernel_rfl) (by kernel_rfl) (fun _ _ _ h => h) (Or.inl ⟨by rfl, ?_⟩) ?_
            rotate_left
            · (intro w; go_simp); (first | done | with_reducible rfl)
            try simp only [Act.put, List.setIfInBounds_toArray, List.set_cons_zero, List.set_cons_succ]
            refine wpAny_take (i := 10) (oi := { dst := some 84, op := Op.nilCheck (Operand.tmp 83), type := 0, pos := "tables.go:117", after := #[{ on := 9, ground := Ground.data }], guard := none }) (v := ?_) rfl (by kernel_rfl) (by kernel_rfl) (by kernel_rfl) (fun _ _ _ h => h) (Or.inl ⟨by rfl, ?_⟩) ?_
            rotate_left
            · (intro w; go_simp); (first | done | with_reducible rfl)
            try simp only [Act.put, List.setIfInBounds_toArray, List.set_cons_zero, List.set_cons_succ]
            refine wpAny_take (i := 11) (oi := { dst := some 85, op := Op.fieldAddr 57 (Operand.tmp 84) 0, type := 0, pos := "tables.go:117", after := #[{ on := 10, ground := Ground.data }], guard := none }) (v := ?_) rfl (by kernel_rfl) (by kernel_rfl) (by kernel_rfl) (fun _ _ _ h => h) (Or.inl ⟨by rfl, ?_⟩) ?_
            rotate_left
            · (intro w; go_simp); (first | done | with_reducible rfl)
            try simp only [Act.put, List.setIfInBounds_toArray, List.set_cons_zero, List.set_cons_succ]
            refine wpAny_take (i := 13) (oi := { dst := some 87, op := Op.move (Operand.tmp 12), type := 9, pos := "tables.go:117", after := #[], guard := none }) (v := ?_) rfl (by kernel_rfl) (by kernel_rfl) (by kernel_rfl) (fun _ _ _ h => h) (Or.inl ⟨by rfl, ?_⟩) ?_
            rotate_left
            · (intro w; go_simp); (first | done | with_reducible rfl)
            try simp only [Act.put, List.setIfInBounds_toArray, List.set_cons_zero, List.set_cons_succ]
            refine wpAny_take (i := 16) (oi := { dst := some 90, op := Op.move (Operand.tmp 9), type := 22, pos := "tables.go:117", after := #[], guard := none }) (v := ?_) rfl (by kernel_rfl) (by kernel_rfl) (by kernel_rfl) (fun _ _ _ h => h) (Or.inl ⟨by rfl, ?_⟩) ?_
            rotate_left
            · (intro w; go_simp); (first | done | with_reducible rfl)
            try simp only [Act.put, List.setIfInBounds_toArray, List.set_cons_zero, List.set_cons_succ]
            refine wpAny_take (i := 17) (oi := { dst := some 91, op := Op.move (Operand.tmp 14), type := 22, pos := "tables.go:117", after := #[], guard := none }) (v := ?_) rfl (by kernel_rfl) (by kernel_rfl) (by kernel_rfl) (fun _ _ _ h => h) (Or.inl ⟨by rfl, ?_⟩) ?_
            rotate_left
            · (intro w; go_simp); (first | done | with_reducible rfl)
            try simp only [Act.put, List.setIfInBounds_toArray, List.set_cons_zero, List.set_cons_succ]
            refine wpAny_walk lst18 nx18 m18 7 (false, false, false, false, false, false, false) (J18 ⟨w, w1.heap.size, w1.heap.size + 1, x', bl', vB, vF, .slice ac C.length cc, Bk, F, C, fs, bk, al, Ln, cl, pF, pB, pC⟩) (all7_spec (by kernel_rfl)) (by kernel_rfl) rfl ?_ ?_ ?_
            · exact ⟨rfl, _, _, _, _, _, _, _, put18_self _, HSX.out _ _ _ _ _ _ _⟩
            · rintro ⟨f5, f7, f8, f12, f14, f15, f18⟩ aq wq ⟨hgood, x5, x7, x8, x12, x14, x15, x18, rfl, hS⟩ q hq
              have hgd : good18 (f5, f7, f8, f12, f14, f15, f18) = true := hgood
              simp only [nx18, hgd, if_true, List.mem_append, mem_opt1] at hq
              have HS := Lib.hid hS
              clear hS hgood
              simp only [put18, Act.put, List.setIfInBounds_toArray, List.set_cons_zero, List.set_cons_succ]
              rcases hq with (((((⟨hb, rfl⟩ | ⟨hb, rfl⟩) | ⟨hb, rfl⟩) | ⟨hb, rfl⟩) | ⟨hb, rfl⟩) | ⟨hb, rfl⟩) | ⟨hb, rfl⟩
              · have HG := Lib.hid (good18_5 hgd hb)
                simp only [Bool.not_eq_true'] at hb
                have c0 : wq.cell? ⟨w1.heap.size + 1, 1, none⟩ = some vF := HS.out.cell1
                clear hb hgd
                refine wpOp_step (o := { dst := some 79, op := Op.load 55 (Operand.tmp 78), type := 55, pos := "tables.go:117", after := #[{ on := 4, ground := Ground.data }], guard := none }) rfl (fun K hK => ?_)
                go_simp
                exact hK _ _ ⟨HG.out, vF, x7, x8, x12, x14, x15, x18, by simp only [put18, Act.put, List.setIfInBounds_toArray, List.set_cons_zero, List.set_cons_succ], HS.out.z5⟩
              · have HG := Lib.hid (good18_7 hgd hb)
                simp only [Bool.not_eq_true'] at hb
                subst hb
                clear hgd
                refine wpOp_step (o := { dst := some 81, op := Op.buildSlice 55 1 #[(0, Operand.tmp 80)], type := 55, pos := "tables.go:117", after := #[{ on := 6, ground := Ground.data }], guard := none }) rfl (fun K hK => ?_)
                go_simp
                exact hK _ _ ⟨HG.out, x5, _, x8, x12, x14, x15, x18, by simp only [put18, Act.put, List.setIfInBounds_toArray, List.set_cons_zero, List.set_cons_succ], HS.out.z7⟩
              · have HG := Lib.hid (good18_8 hgd hb)
                simp only [Bool.and_eq_true, Bool.not_eq_true'] at hb
                obtain ⟨⟨rfl, rfl⟩, rfl⟩ := hb
                clear hgd
                obtain ⟨v', w', hrun, hS'⟩ := HS.out.z8
                refine wpOp_step (o := { dst := some 82, op := Op.call { callee := Callee.builtin Builtin.append, args := #[Operand.tmp 79, Operand.tmp 81], argTypes := #[55, 55] }, type := 55, pos := "tables.go:117", after := #[{ on := 5, ground := Ground.data }, { on := 7, ground := Ground.data }], guard := none }) rfl (fun K hK => ?_)
                refine step_append_run (by rfl) (Operand.tmp 79) (Operand.tmp 81) 55 (by rfl) (by rfl) (by rfl) hrun (hK _ _ ?_)
                exact ⟨HG.out, x5, x7, v', x12, x14, x15, x18, by simp only [put18, Act.put, List.setIfInBounds_toArray, List.set_cons_zero, List.set_cons_succ], hS'⟩
              · have HG := Lib.hid (good18_12 hgd hb)
                simp only [Bool.not_eq_true'] at hb
                have c0 : wq.cell? ⟨w1.heap.size + 1, 0, none⟩ = some vB := HS.out.cell0
                clear hb hgd
                refine wpOp_step (o := { dst := some 86, op := Op.load 55 (Operand.tmp 85), type := 55, pos := "tables.go:117", after := #[{ on := 11, ground := Ground.data }], guard := none }) rfl (fun K hK => ?_)
                go_simp
                exact hK _ _ ⟨HG.out, x5, x7, x8, vB, x14, x15, x18, by simp only [put18, Act.put, List.setIfInBounds_toArray, List.set_cons_zero, List.set_cons_succ], HS.out.z12⟩
              · have HG := Lib.hid (good18_14 hgd hb)
                simp only [Bool.not_eq_true'] at hb
                subst hb
                clear hgd
                refine wpOp_step (o := { dst := some 88, op := Op.buildSlice 55 1 #[(0, Operand.tmp 87)], type := 55, pos := "tables.go:117", after := #[{ on := 13, ground := Ground.data }], guard := none }) rfl (fun K hK => ?_)
                go_simp
                exact hK _ _ ⟨HG.out, x5, x7, x8, x12, _, x15, x18, by simp only [put18, Act.put, List.setIfInBounds_toArray, List.set_cons_zero, List.set_cons_succ], HS.out.z14⟩
              · have HG := Lib.hid (good18_15 hgd hb)
                simp only [Bool.and_eq_true, Bool.not_eq_true'] at hb
                obtain ⟨⟨⟨rfl, rfl⟩, rfl⟩, rfl⟩ := hb
                clear hgd
                obtain ⟨v', w', hrun, hS'⟩ := HS.out.z15
                refine wpOp_step (o := { dst := some 89, op := Op.call { callee := Callee.builtin Builtin.append, args := #[Operand.tmp 86, Operand.tmp 88], argTypes := #[55, 55] }, type := 55, pos := "tables.go:117", after := #[{ on := 12, ground := Ground.data }, { on := 14, ground := Ground.data }, { on := 8, ground := Ground.chain }], guard := none }) rfl (fun K hK => ?_)
                refine step_append_run (by rfl) (Operand.tmp 86) (Operand.tmp 88) 55 (by rfl) (by rfl) (by rfl) hrun (hK _ _ ?_)
                exact ⟨HG.out, x5, x7, x8, x12, x14, v', x18, by simp only [put18, Act.put, List.setIfInBounds_toArray, List.set_cons_zero, List.set_cons_succ], hS'⟩
              · have HG := Lib.hid (good18_18 hgd hb)
                simp only [Bool.and_eq_true, Bool.not_eq_true'] at hb
                obtain ⟨rfl, rfl⟩ := hb
                clear hgd
                obtain ⟨v', w', hrun, hS'⟩ := HS.out.z18
                refine wpOp_step (o := { dst := some 92, op := Op.call { callee := Callee.builtin Builtin.append, args := #[Operand.tmp 90, Operand.tmp 91], argTypes := #[22, 22] }, type := 22, pos := "tables.go:117", after := #[{ on := 16, ground := Ground.data }, { on := 17, ground := Ground.data }, { on := 15, ground := Ground.chain }], guard := none }) rfl (fun K hK => ?_)
                refine step_append_run (by rfl) (Operand.tmp 90) (Operand.tmp 91) 22 (by rfl) (by rfl) (by rfl) hrun (hK _ _ ?_)
                exact ⟨HG.out, x5, x7, x8, x12, x14, x15, v', by simp only [put18, Act.put, List.setIfInBounds_toArray, List.set_cons_zero, List.set_cons_succ], hS'⟩
            · rintro ⟨f5, f7, f8, f12, f14, f15, f18⟩ aq wq hnx ⟨hgood, x5, x7, x8, x12, x14, x15, x18, rfl, hS⟩
              obtain ⟨rfl, rfl, rfl, rfl, rfl, rfl, rfl⟩ := fin18 hgood hnx
              have HS := Lib.hid hS
              clear hS hgood hnx
              simp only [put18, Act.put, List.setIfInBounds_toArray, List.set_cons_zero, List.set_cons_succ]
              obtain ⟨vB', vF', vC', Bk', F', C', hs⟩ := HS.out
              obtain ⟨rfl, rfl⟩ := hs.a1 rfl
              obtain ⟨rfl, rfl⟩ := hs.b1 rfl
              obtain ⟨rfl, rfl⟩ := hs.c1 rfl
              have HX := Lib.hid hs.rs
              clear hs HS
              have n0 : wq.frozen? ⟨w1.heap.size + 1, 0, none⟩ = false := HX.out.row.free 0
              have n1 : wq.frozen? ⟨w1.heap.size + 1, 1, none⟩ = false := HX.out.row.free 1
              have y0 : wq.cell? ⟨w1.heap.size + 1, 0, none⟩ = some vB := HX.out.row.cell 0
              have y1 : wq.cell? ⟨w1.heap.size + 1, 1, none⟩ = some vF := HX.out.row.cell 1
              obtain ⟨ac2, cc2, rfl⟩ := ownP_shape HX.out.c
              obtain ⟨af2, cf2, rfl⟩ := ownP_shape HX.out.f
              obtain ⟨ab2, cb2, rfl⟩ := ownP_shape HX.out.b
              change wpAny _ _ _ _ 7 _ _ _
              refine wpAny_take (i := 19) (oi := { dst := some 93, op := Op.nilCheck (Operand.tmp 74), type := 0, pos := "tables.go:117", after := #[{ on := 0, ground := Ground.data }, { on := 0, ground := Ground.phase }, { on := 1, ground := Ground.textOnly Departure.lateStores }, { on := 2, ground := Ground.phase }, { on := 3, ground := Ground.phase }, { on := 4, ground := Ground.phase }, { on := 5, ground := Ground.phase }, { on := 6, ground := Ground.phase }, { on := 7, ground := Ground.phase }, { on := 8, ground := Ground.phase }, { on := 9, ground := Ground.textOnly Departure.lateStores }, { on := 10, ground := Ground.textOnly Departure.lateStoresUnsure }, { on := 11, ground := Ground.textOnly Departure.lateStoresUnsure }, { on := 12, ground := Ground.phase }, { on := 13, ground := Ground.textOnly Departure.lateStores }, { on := 14, ground := Ground.textOnly Departure.lateStoresUnsure }, { on := 15, ground := Ground.phase }, { on := 16, ground := Ground.textOnly Departure.lateStores }, { on := 17, ground := Ground.textOnly Departure.lateStores }, { on := 18, ground := Ground.phase }], guard := none }) (v := ?_) rfl (by kernel_rfl) (by kernel_rfl) (by kernel_rfl) (fun _ _ _ h => h) (Or.inl ⟨by rfl, ?_⟩) ?_
              rotate_left
              · (intro w; go_simp); (first | done | with_reducible rfl)
              try simp only [Act.put, List.setIfInBounds_toArray, List.set_cons_zero, List.set_cons_succ]
              refine wpAny_take (i := 20) (oi := { dst := some 94, op := Op.fieldAddr 57 (Operand.tmp 93) 1, type := 0, pos := "tables.go:117", after := #[{ on := 19, ground := Ground.data }, { on := 0, ground := Ground.phase }, { on := 1, ground := Ground.textOnly Departure.lateStores }, { on := 2, ground := Ground.phase }, { on := 3, ground := Ground.phase }, { on := 4, ground := Ground.phase }, { on := 5, ground := Ground.phase }, { on := 6, ground := Ground.phase }, { on := 7, ground := Ground.phase }, { on := 8, ground := Ground.phase }, { on := 9, ground := Ground.textOnly Departure.lateStores }, { on := 10, ground := Ground.textOnly Departure.lateStoresUnsure }, { on := 11, ground := Ground.textOnly Departure.lateStoresUnsure }, { on := 12, ground := Ground.phase }, { on := 13, ground := Ground.textOnly Departure.lateStores }, { on := 14, ground := Ground.textOnly Departure.lateStoresUnsure }, { on := 15, ground := Ground.phase }, { on := 16, ground := Ground.textOnly Departure.lateStores }, { on := 17, ground := Ground.textOnly Departure.lateStores }, { on := 18, ground := Ground.phase }], guard := none }) (v := ?_) rfl (by kernel_rfl) (by kernel_rfl) (by kernel_rfl) (fun _ _ _ h => h) (Or.inl ⟨by rfl, ?_⟩) ?_
              rotate_left
              · (intro w; go_simp); (first | done | with_reducible rfl)
              try simp only [Act.put, List.setIfInBounds_toArray, List.set_cons_zero, List.set_cons_succ]
              refine wpAny_ready (rs := [21]) (by kernel_rfl) (by simp) ?_
              refine AllReady.cons (o := { dst := none, op := Op.store 55 (Operand.tmp 94) (Operand.tmp 82), type := 0, pos := "tables.go:117", after := #[{ on := 20, ground := Ground.data }, { on := 8, ground := Ground.data }, { on := 18, ground := Ground.chain }, { on := 0, ground := Ground.phase }, { on := 1, ground := Ground.textOnly Departure.lateStores }, { on := 2, ground := Ground.phase }, { on := 3, ground := Ground.phase }, { on := 4, ground := Ground.phase }, { on := 5, ground := Ground.phase }, { on := 6, ground := Ground.phase }, { on := 7, ground := Ground.phase }, { on := 8, ground := Ground.phase }, { on := 9, ground := Ground.textOnly Departure.lateStores }, { on := 10, ground := Ground.textOnly Departure.lateStoresUnsure }, { on := 11, ground := Ground.textOnly Departure.lateStoresUnsure }, { on := 12, ground := Ground.phase }, { on := 13, ground := Ground.textOnly Departure.lateStores }, { on := 14, ground := Ground.textOnly Departure.lateStoresUnsure }, { on := 15, ground := Ground.phase }, { on := 16, ground := Ground.textOnly Departure.lateStores }, { on := 17, ground := Ground.textOnly Departure.lateStores }, { on := 18, ground := Ground.phase }], guard := none }) rfl (fun K hK => ?_) AllReady.nil
              go_simp
              refine hK _ _ ?_
              clear hK K
              try simp only [Act.put, List.setIfInBounds_toArray, List.set_cons_zero, List.set_cons_succ]
              refine wpAny_take (i := 22) (oi := { dst := some 95, op := Op.nilCheck (Operand.tmp 75), type := 0, pos := "tables.go:117", after := #[{ on := 1, ground := Ground.data }, { on := 0, ground := Ground.phase }, { on := 1, ground := Ground.phase }, { on := 2, ground := Ground.phase }, { on := 3, ground := Ground.phase }, { on := 4, ground := Ground.phase }, { on := 5, ground := Ground.phase }, { on := 6, ground := Ground.phase }, { on := 7, ground := Ground.phase }, { on := 8, ground := Ground.phase }, { on := 9, ground := Ground.phase }, { on := 10, ground := Ground.phase }, { on := 11, ground := Ground.phase }, { on := 12, ground := Ground.phase }, { on := 13, ground := Ground.phase }, { on := 14, ground := Ground.phase }, { on := 15, ground := Ground.phase }, { on := 16, ground := Ground.textOnly Departure.lateStores }, { on := 17, ground := Ground.textOnly Departure.lateStores }, { on := 18, ground := Ground.phase }, { on := 19, ground := Ground.phase }, { on := 20, ground := Ground.phase }, { on := 21, ground := Ground.phase }], guard := none }) (v := ?_) rfl (by kernel_rfl) (by kernel_rfl) (by kernel_rfl) (fun _ _ _ h => h) (Or.inl ⟨by rfl, ?_⟩) ?_
              rotate_left
              · (intro w; go_simp); (first | done | with_reducible rfl)
              try simp only [Act.put, List.setIfInBounds_toArray, List.set_cons_zero, List.set_cons_succ]
              refine wpAny_take (i := 23) (oi := { dst := some 96, op := Op.fieldAddr 57 (Operand.tmp 95) 0, type := 0, pos := "tables.go:117", after := #[{ on := 22, ground := Ground.data }, { on := 0, ground := Ground.phase }, { on := 1, ground := Ground.phase }, { on := 2, ground := Ground.phase }, { on := 3, ground := Ground.phase }, { on := 4, ground := Ground.phase }, { on := 5, ground := Ground.phase }, { on := 6, ground := Ground.phase }, { on := 7, ground := Ground.phase }, { on := 8, ground := Ground.phase }, { on := 9, ground := Ground.phase }, { on := 10, ground := Ground.phase }, { on := 11, ground := Ground.phase }, { on := 12, ground := Ground.phase }, { on := 13, ground := Ground.phase }, { on := 14, ground := Ground.phase }, { on := 15, ground := Ground.phase }, { on := 16, ground := Ground.textOnly Departure.lateStores }, { on := 17, ground := Ground.textOnly Departure.lateStores }, { on := 18, ground := Ground.phase }, { on := 19, ground := Ground.phase }, { on := 20, ground := Ground.phase }, { on := 21, ground := Ground.phase }], guard := none }) (v := ?_) rfl (by kernel_rfl) (by kernel_rfl) (by kernel_rfl) (fun _ _ _ h => h) (Or.inl ⟨by rfl, ?_⟩) ?_
              rotate_left
              · (intro w; go_simp); (first | done | with_reducible rfl)
              try simp only [Act.put, List.setIfInBounds_toArray, List.set_cons_zero, List.set_cons_succ]
              refine wpAny_ready (rs := [24]) (by kernel_rfl) (by simp) ?_
              refine AllReady.cons (o := { dst := none, op := Op.store 55 (Operand.tmp 96) (Operand.tmp 89), type := 0, pos := "tables.go:117", after := #[{ on := 23, ground := Ground.data }, { on := 15, ground := Ground.data }, { on := 21, ground := Ground.chain }, { on := 0, ground := Ground.phase }, { on := 1, ground := Ground.phase }, { on := 2, ground := Ground.phase }, { on := 3, ground := Ground.phase }, { on := 4, ground := Ground.phase }, { on := 5, ground := Ground.phase }, { on := 6, ground := Ground.phase }, { on := 7, ground := Ground.phase }, { on := 8, ground := Ground.phase }, { on := 9, ground := Ground.phase }, { on := 10, ground := Ground.phase }, { on := 11, ground := Ground.phase }, { on := 12, ground := Ground.phase }, { on := 13, ground := Ground.phase }, { on := 14, ground := Ground.phase }, { on := 15, ground := Ground.phase }, { on := 16, ground := Ground.textOnly Departure.lateStores }, { on := 17, ground := Ground.textOnly Departure.lateStores }, { on := 18, ground := Ground.phase }, { on := 19, ground := Ground.phase }, { on := 20, ground := Ground.phase }, { on := 21, ground := Ground.phase }], guard := none }) rfl (fun K hK => ?_) AllReady.nil
              go_simp
              refine hK _ _ ?_
              clear hK K
              try simp only [Act.put, List.setIfInBounds_toArray, List.set_cons_zero, List.set_cons_succ]
              refine wpAny_take (i := 25) (oi := { dst := some 9, op := Op.assign (Operand.tmp 92), type := 22, pos := "tables.go:117", after := #[{ on := 18, ground := Ground.data }, { on := 24, ground := Ground.chain }, { on := 0, ground := Ground.phase }, { on := 1, ground := Ground.phase }, { on := 2, ground := Ground.phase }, { on := 3, ground := Ground.phase }, { on := 4, ground := Ground.phase }, { on := 5, ground := Ground.phase }, { on := 6, ground := Ground.phase }, { on := 7, ground := Ground.phase }, { on := 8, ground := Ground.phase }, { on := 9, ground := Ground.phase }, { on := 10, ground := Ground.phase }, { on := 11, ground := Ground.phase }, { on := 12, ground := Ground.phase }, { on := 13, ground := Ground.phase }, { on := 14, ground := Ground.phase }, { on := 15, ground := Ground.phase }, { on := 16, ground := Ground.phase }, { on := 17, ground := Ground.phase }, { on := 18, ground := Ground.phase }, { on := 19, ground := Ground.phase }, { on := 20, ground := Ground.phase }, { on := 21, ground := Ground.phase }, { on := 22, ground := Ground.phase }, { on := 23, ground := Ground.phase }, { on := 24, ground := Ground.phase }], guard := none }) (v := ?_) rfl (by kernel_rfl) (by kernel_rfl) (by kernel_rfl) (fun _ _ _ h => h) (Or.inl ⟨by rfl, ?_⟩) ?_
              rotate_left
              · (intro w; go_simp); (first | done | with_reducible rfl)
              try simp only [Act.put, List.setIfInBounds_toArray, List.set_cons_zero, List.set_cons_succ]
              refine wpAny_done (by kernel_rfl) ?_ _
              have e1 : (F ++ [fs]).length = F.length + 1 := by simp
              have e2 : (Bk ++ [bk]).length = Bk.length + 1 := by simp
              have e3 : (C ++ Ln).length = C.length + Ln.length := by simp
              have hwf : wq.ownsRow w.heap.size 9 1 (.slice af2 (F ++ [fs]).length cf2) (F ++ [fs]).length (txs10 (F ++ [fs])) := HX.out.f
              have hwb : wq.ownsRow w.heap.size 9 1 (.slice ab2 (Bk ++ [bk]).length cb2) (Bk ++ [bk]).length (txs10 (Bk ++ [bk])) := HX.out.b
              have hwc : wq.ownsRow w.heap.size 38 3 (.slice ac2 (C ++ Ln).length cc2) (C ++ Ln).length (cls (C ++ Ln)) := HX.out.c
              have hof := (onlyS_set (A := fun k => k = w1.heap.size + 1) wq (w1.heap.size + 1) 1 (.slice af2 (F.length + 1) cf2) rfl).trans (onlyS_set (A := fun k => k = w1.heap.size + 1) _ (w1.heap.size + 1) 0 (.slice ab2 (Bk.length + 1) cb2) rfl)
              have hrow : RowIn #[vB, vF, .int .i64 0] 57 wq (w1.heap.size + 1) := HX.out.row
              have hidx : IdxAt w1.heap.size x' bl' wq := HX.out.idx
              have hne : ∀ q, (Value.slice ab2 (Bk.length + 1) cb2).ownBlock = some q → (Value.slice af2 (F.length + 1) cf2).ownBlock ≠ some q := by
                have := HX.out.ne
                rw [← e1, ← e2]
                exact this
              have hbel : Below w.heap.size w wq := HX.out.bel
              have HT5 := Lib.hid (show TabRow w.heap.size (w1.heap.size + 1) (.slice ab2 (Bk.length + 1) cb2) (.slice af2 (F.length + 1) cf2) (Bk ++ [bk]) (F ++ [fs]) 0 ((wq.setCell ⟨w1.heap.size + 1, 1, none⟩ (.slice af2 (F.length + 1) cf2)).setCell ⟨w1.heap.size + 1, 0, none⟩ (.slice ab2 (Bk.length + 1) cb2)) from
                ⟨(hrow.set 1 _).set 0 _, by rw [← e1, ← e2]; rw [← e1, ← e2] at hof; exact hof.own hwb (fun q hq e => row_apart hrow hwb (by decide) q hq e), by rw [← e1, ← e2]; rw [← e1, ← e2] at hof; exact hof.own hwf (fun q hq e => row_apart hrow hwf (by decide) q hq e), hne⟩)
              have HI5 := Lib.hid (show IdxAt w1.heap.size x' bl' ((wq.setCell ⟨w1.heap.size + 1, 1, none⟩ (.slice af2 (F.length + 1) cf2)).setCell ⟨w1.heap.size + 1, 0, none⟩ (.slice ab2 (Bk.length + 1) cb2)) from ⟨hof.row hidx.row (by omega), hidx.l1, hidx.l2⟩)
              have HC5 := Lib.hid (hof.own hwc (fun q hq e => row_apart hrow hwc (by decide) q hq e))
              have HB5 := Lib.hid (hbel.trans (hof.below (B := w.heap.size) (fun k hk => by have := HW1.out; omega) hbel.size))
              have HE3 := Lib.hid e3
              clear e1 e2 e3 hwf hwb hwc hof hrow hidx hne hbel n0 n1 y0 y1 HX
              go_wp2_with fail
              go_roundw
              case rel => exact ⟨k + 1, m, x', bl', C ++ Ln, Bk ++ [bk], F ++ [fs], ac2, cc2, .slice ab2 (Bk.length + 1) cb2, .slice af2 (F.length + 1) cf2, by go_num, by rw [HE3.out], by omega, HRD2, HI5, HT5, HC5, HB5⟩
              case measure => simp [intOf]
          · have HN := Lib.hid (HRD.out.bad HE.out (by cases h1 : x'.b <;> cases h2 : bl'.b <;> simp_all))
            have HN2 := Lib.hid (HNO.out HN.out w4 HB4.out)
            have hf' : (!x'.b && !bl'.b) = false := by cases h1 : x'.b <;> cases h2 : bl'.b <;> simp_all
            rw [hf']
            clear hf hf'
            go_wp2_with fail
            go_ret2
            exact HN2.out
      · obtain rfl : n = 0 := by omega
        have d1 : decide ((0 : Int) < ((0 : Nat) : Int)) = false := by simp
        have d2 : decide ((0 : Int) < 0) = false := by simp
        have hcap : C.length ≤ cc := by
          rcases HCO.out.2 with ⟨e, h0⟩ | ⟨g, cap', cur, e, _, _, hc, _⟩
          · rw [h0]; exact Nat.zero_le _
          · injection e with e1 e2 e3; omega
        have CB := Lib.hid (build10_any C (by have := HRD.out.cl; omega) ac cc hcap wr (clsAt_own HCO.out rfl) HRD.out.ok)
        unfold BuildR at CB
        have HY := Lib.hid (fun (hb : M.srt none C = false ∨ 4096 < C.length ∨ M.tableT C ≠ t) w' hb' => HNO.out (HRD.out.finBad hb) w' (below_step HBR.out hb'))
        clear hcap
        go_wp2_with fail
        cases hs : M.srt none C with
        | false =>
          rw [bE_no hs] at CB
          with_reducible refine (CB.out).mono ?_
          rintro e w3 ⟨rfl, hb3⟩
          have HN := Lib.hid (HY.out (.inl hs) w3 hb3)
          clear hb3 hs
          go_wp2_with fail
          go_ret2
          exact HN.out
        | true =>
          by_cases hl : 4096 < C.length
          · rw [bE_long hs hl] at CB
            with_reducible refine (CB.out).mono ?_
            rintro e w3 ⟨rfl, hb3⟩
            have HN := Lib.hid (HY.out (.inr (.inl hl)) w3 hb3)
            clear hb3 hs hl
            go_wp2_with fail
            go_ret2
            exact HN.out
          · rw [bE_ok hs hl] at CB
            by_cases hq : M.tableT C = t
            · obtain ⟨hi, hF, hB⟩ := HRD.out.fin hs hl hq
              have HI := Lib.hid hi
              rw [hq] at CB
              with_reducible refine (CB.out).mono ?_
              rintro e w3 ⟨rfl, hb3⟩
              have HT5 := Lib.hid (HTB.out.below hb3)
              have HB5 := Lib.hid (below_step HBR.out hb3)
              have q5 : (t == t) = true := by simp
              have q6 : (t != t) = false := by simp
              have n2 : w3.frozen? ⟨w1.heap.size + 1, 2, none⟩ = false := HT5.out.row.free 2
              have y2 : w3.cell? ⟨w1.heap.size + 1, 2, none⟩ = some (.int .i64 0) := HT5.out.row.cell 2
              have hof := onlyS_set (A := fun k => k = w1.heap.size + 1) w3 (w1.heap.size + 1) 2 (.int .i64 C.length) rfl
              have HT6 := Lib.hid (show TabAt C (w1.heap.size + 1) (w3.setCell ⟨w1.heap.size + 1, 2, none⟩ (.int .i64 C.length)) from
                ⟨w.heap.size, vB, vF, HT5.out.row.set 2 _, by rw [← hB]; exact hof.own HT5.out.b (fun q hq e => row_apart HT5.out.row HT5.out.b (by decide) q hq e), by rw [← hF]; exact hof.own HT5.out.f (fun q hq e => row_apart HT5.out.row HT5.out.f (by decide) q hq e), HT5.out.ne⟩)
              have HB6 := Lib.hid (HB5.out.trans (hof.below (B := w.heap.size) (fun k hk => by have := HW1.out; omega) HB5.out.size))
              clear hb3 hs hl hq hF hB hof hi HT5
              go_wp2_with fail
              go_ret2
              exact openR10_some HI.out HT6.out HB6.out
            · have q5 : (M.tableT C == t) = false := by simpa using hq
              have q6 : (M.tableT C != t) = true := by simpa using hq
              with_reducible refine (CB.out).mono ?_
              rintro e w3 ⟨rfl, hb3⟩
              have HN := Lib.hid (HY.out (.inr (.inr hq)) w3 hb3)
              clear hb3 hs hl hq
              go_wp2_with fail
              go_ret2
              exact HN.out

end Go.Proofs.Ythidmgnfdikppaa
