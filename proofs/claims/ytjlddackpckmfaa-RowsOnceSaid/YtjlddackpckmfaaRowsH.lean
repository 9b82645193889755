/- Layer 21: the spans of a batch that are taken, the program's, by a contract. -/
import Derived.Test.YtjlddackpckmfaaRowsG
namespace Go.Proofs.Ytjlddackpckmfaa
set_option linter.unusedVariables false
open Go Go.RowKit Go.Maps
attribute [local go_sem ↓] run_index_S
attribute [local go_sem] S_append S_extract

theorem lawS : Keyed Try.prog 9 := string_keyed Try.underlying9
theorem zeroU (w : World) : (zeroValue 72).run Try.prog w = .ok (.agg #[]) w := by kernel_rfl
/-- The set of the keys that were taken. -/
def seenM (T : List M.Sp) : DataW Unit := setOf (.agg []) (T.map fun x => Lit.string (M.keyB x))
theorem seenM_nil : seenM [] = .map [] := rfl
theorem seenM_snoc (T : List M.Sp) (x : M.Sp) : seenM (T ++ [x]) = (seenM T).put (.string (M.keyB x)) (.agg []) := by
  unfold seenM; rw [List.map_append, List.map_singleton, setOf_snoc]
theorem seenM_has (T : List M.Sp) (k : List UInt8) : Maps.has (seenM T) (.string k) = T.any fun y => decide (M.keyB y = k) := by
  unfold seenM
  rw [has_setOf _ _ _ (fun y hy => by obtain ⟨_, _, rfl⟩ := List.mem_map.1 hy; trivial), List.any_map]
  refine M.any_congr' (fun y _ => ?_)
  show (M.keyB y == k) = _
  rw [Bool.eq_iff_iff]; simp
theorem run_equalIn_func_nil {P : Program} (w : World) (d : Nat) (t : TypeId) {ps rs : Array TypeId} {v : Bool} (h : P.underlying t = some (.func ps rs v)) (f : Fn) (a c : Array Value) :
    (Op.equalIn (d + 1) t (.func f a c) .nilFunc).run P w = .ok false w := by
  simp [Op.equalIn, run_underlying h]
/-- 'f == nil'. -/
theorem run_eql_func_nil {P : Program} (w : World) (t : TypeId) {ps rs : Array TypeId} {v : Bool} (h : P.underlying t = some (.func ps rs v)) (f : Fn) (a c : Array Value) :
    (binOp .eql t (.func f a c) .nilFunc).run P w = .ok (.bool false) w := by
  simp only [binOp]
  simp [Op.equal, Op.maxDepth, run_equalIn_func_nil w 9999 t h]
theorem take_snocK {L : List M.Sp} {k : Nat} (h : k < L.length) : L.take (k + 1) = L.take k ++ [L.getD k M.sp0] := by
  rw [List.take_succ_eq_append_getElem h]; simp [List.getD, List.getElem?_eq_getElem h]
theorem tk_step (get : List UInt8 → Option M.Cl) (n : Int) {L : List M.Sp} {k : Nat} (h : k < L.length) : M.tk get n (L.take (k + 1)) = if M.okT get n (M.tk get n (L.take k)) (L.getD k M.sp0) then M.tk get n (L.take k) ++ [L.getD k M.sp0] else M.tk get n (L.take k) := by
  rw [take_snocK h, M.tk_snoc, M.tkS]

theorem RowIn.spAt {x : M.Sp} {T : TypeId} {w : World} {b : Nat} (h : RowIn (spA x) T w b) : SpAt x w b :=
  ⟨h.cell 0, h.cell 1, h.cell 2, h.cell 3, h.cell 4, h.cell 5, h.cell 6, h.cell 7, h.lt⟩
/-- What 'Take' comes to. -/
def TakeR (T : List M.Sp) (w : World) (e : Ending) (w' : World) : Prop := ∃ ao c1 bo c2, e = .returned (.tuple #[.slice ao T.length c1, .slice bo (2 * T.length) c2]) ∧
  w'.ownsRow w.heap.size 23 8 (.slice ao T.length c1) T.length (sps T) ∧ w'.ownsRow w.heap.size 25 3 (.slice bo (2 * T.length) c2) (2 * T.length) (cls (T.flatMap M.cls2)) ∧ Below w.heap.size w w'

set_option maxHeartbeats 4000000 in
set_option maxRecDepth 100000 in
theorem take_any (L : List M.Sp) (ao : Option Addr) (cap : Nat) (cs : List M.Cl) (b : Nat) (n : Int) (hn1 : -9223372036854775808 ≤ n) (hn2 : n ≤ 9223372036854775807) (w : World)
    (hlen : L.length ≤ 1000) (hf : ∀ x ∈ L, x.fits) (hL : SpsAt w ao L) (hcl : cs.length ≤ 100000) (hcv : ∀ c ∈ cs, c.key.length ≤ 140737488351232 ∧ c.val.length ≤ 140737488351232) (hs : ShelfAt w b cs) :
    Calls Try.prog 21 #[.func (Fn.func 20) #[.pointer (some ⟨b, 0, none⟩)] #[], .slice ao L.length cap, .int .i64 n] w fun e w' => TakeR (M.tk (M.getL cs) n L) w e w' := by
  have hmm := @run_makeMap Try.prog
  obtain ⟨i0, z0, hi, hz0, hz1, hz2, hz3⟩ := infoSp_parts
  obtain ⟨j0, y0, hj, hy0, hy1, hy2, hy3⟩ := infoCl_parts
  have hfn := fun (W : World) f a c => run_eql_func_nil (P := Try.prog) W _ Try.underlying46 f a c
  have HF := Lib.hid hf
  have HV := Lib.hid hcv
  have HL := Lib.hid hL
  have HS := Lib.hid hs
  clear hf hcv hL hs
  go_enter Try.func21, Try.ntmps21
  go_wp2_with fail
  go_loopw [8, 9, 25] (fun v1 v2 i wr => ∃ (k : Nat) (T : List M.Sp) (a1 : Option Addr) (c1 : Nat) (a2 : Option Addr) (c2 : Nat), k ≤ L.length ∧ i = .int .i64 k ∧ v1 = .slice a1 T.length c1 ∧ v2 = .slice a2 (2 * T.length) c2 ∧ Hid (T = M.tk (M.getL cs) n (L.take k)) ∧
      Hid (wr.ownsMap Try.prog 9 unitElem w.heap.size T.length (seenM T) ∧ wr.ownsRow (w.heap.size + 1) 23 8 (.slice a1 T.length c1) T.length (sps T) ∧ wr.ownsRow (w.heap.size + 1) 25 3 (.slice a2 (2 * T.length) c2) (2 * T.length) (cls (T.flatMap M.cls2)) ∧
        ShelfAt wr b cs ∧ SpsAt wr ao L ∧ Below w.heap.size w wr ∧ w.heap.size + 1 ≤ wr.heap.size)) (fun _ _ i _ => L.length - (intOf i).toNat)
  case atStart =>
    have hb0 : Below w.heap.size w (w.alloc (.map #[] 0)) := (Below.refl _ _).alloc (Nat.le_refl _) _
    exact ⟨0, [], none, 0, none, 0, Nat.zero_le _, rfl, rfl, rfl, Lib.hid rfl, Lib.hid ⟨World.ownsMap_made _ _ _ _, World.ownsRow_nil _ _ _ _, World.ownsRow_nil _ _ _ _, HS.out.below hb0, HL.out.below hb0, hb0, by simp⟩⟩
  case round =>
    rename_i wr
    obtain ⟨k, T, a1, c1, a2, c2, hk, rfl, rfl, rfl, HT, HH⟩ := hrel
    by_cases hlt : k < L.length
    · have hd : decide ((k : Int) < (L.length : Int)) = true := by simp; omega
      obtain ⟨g, off, rfl, hc⟩ := HH.out.2.2.2.2.1.off k hlt
      obtain ⟨x0, x1, x2, x3, x4, x5, x6, x7⟩ := hc
      have HFX := Lib.hid (show (L.getD k M.sp0).fits from by rw [show L.getD k M.sp0 = L[k] from by simp [List.getD, List.getElem?_eq_getElem hlt]]; exact HF.out _ (List.getElem_mem hlt))
      have HST := Lib.hid (tk_step (M.getL cs) n hlt)
      rw [← HT.out] at HST
      have HTl := Lib.hid (show T.length ≤ k from by rw [HT.out]; exact Nat.le_trans (M.tk_len _ _ _) (List.length_take_le _ _))
      generalize L.getD k M.sp0 = x at *
      have HZ := Lib.hid HH.out.2.2.2.2.2.2
      go_wp2_with (first | (refine wpList_store_hid rfl 23 _ _ rfl wr.heap.size _ rfl rfl 23 (spC M.sp0) (spIn_new wr) ?_ rfl (spC_one x) ?_; kernel_rfl; intro w1 hr1 hbel1 hoth1 hsz1; have hb1 := hbel1 wr.heap.size wr (Nat.le_refl _) ((Below.refl _ _).alloc (Nat.le_refl _) _); replace HH := carry hb1 HH; have HX := Lib.hid (show RowIn (spA x) 23 w1 wr.heap.size from hr1); clear hr1 hbel1 hoth1 hsz1 hb1) | (refine wpList_load_row rfl 23 _ rfl wr.heap.size rfl 23 _ (0, 0) _ HX.out Try.underlying23 rfl ?_ ?_; kernel_rfl))
      with_reducible refine (cells_any x HFX.out _).mono ?_
      rintro e w2 (⟨hm, g2, rfl, hg2, hr2, hb2⟩ | ⟨hm, rfl, hb2⟩)
      · have HG2 := Lib.hid (show w.heap.size + 1 ≤ g2 from by have := HX.out.lt; have := HZ.out; omega)
        replace HH := carry hb2 HH
        replace HX := carry hb2 HX
        have HG := Lib.hid hr2
        have HM := Lib.hid hm
        have hkx := M.keyB_len x
        obtain ⟨q0, q1, q2, q3, q4, q5, q6, q7, -⟩ := HX.out.spAt
        clear hb2 hm hr2 hg2
        go_wp2_with fail
        with_reducible refine (expired_any x HFX.out n hn1 hn2 _).mono ?_
        rintro e w3 ⟨rfl, hb3⟩
        replace HH := carry hb3 HH
        replace HX := carry hb3 HX
        replace HG := carry hb3 HG
        clear hb3 q0 q1 q2 q3 q4 q5 q6 q7
        cases hp : M.pastB x.start n with
        | true =>
          have HP := Lib.hid hp
          clear hp
          go_wp2_with fail
          go_roundw
          case rel => exact ⟨k + 1, T, a1, c1, a2, c2, by omega, by go_num, rfl, rfl, Lib.hid (by rw [HST.out, if_neg (by simp [M.okT, HP.out])]), HH⟩
          case measure => simp [intOf]; omega
        | false =>
          have HP := Lib.hid hp
          have hkey : keyOf Try.prog 9 (.string (S (M.keyB x))) = some (.string (M.keyB x)) := WideMaps.keyOf_string_mk Try.underlying9 (by unfold maxLen; simp [ByteArray.size]; omega)
          have HK := Lib.hid hkey
          have r0 : w3.cell? ⟨g2, 0, none⟩ = some (.string (S (M.keyB x))) := HG.out.cell 0
          clear hp hkey
          have hsn := seenM_has T (M.keyB x)
          cases hq : T.any fun y => decide (M.keyB y = M.keyB x) with
          | true =>
            rw [hq] at hsn
            have HQ := Lib.hid hq
            clear hq
            go_wp2_with (at_lookup; refine wpList_lookup_own_unit _ rfl _ _ 71 rfl 9 72 lawS Try.underlying71 (zeroU _) w.heap.size T.length _ rfl HH.out.1 _ _ rfl HK.out ?_)
            go_roundw
            case rel => exact ⟨k + 1, T, a1, c1, a2, c2, by omega, by go_num, rfl, rfl, Lib.hid (by rw [HST.out, if_neg (by simp [M.okT, HQ.out])]), carryA (w := w3) (.cells #[] 72) HH⟩
            case measure => simp [intOf]; omega
          | false =>
            rw [hq] at hsn
            have HQ := Lib.hid hq
            clear hq
            go_wp2_with (at_lookup; refine wpList_lookup_own_unit _ rfl _ _ 71 rfl 9 72 lawS Try.underlying71 (zeroU _) w.heap.size T.length _ rfl HH.out.1 _ _ rfl HK.out ?_)
            replace HH := carryA (w := w3) (.cells #[] 72) HH
            replace HX := carryA (w := w3) (.cells #[] 72) HX
            replace HG := carryA (w := w3) (.cells #[] 72) HG
            have CG := shelfGet_any b cs (by omega) (M.keyB x) _ HH.out.2.2.2.1
            generalize w3.alloc (.cells #[] 72) = w4 at *
            clear r0
            unfold GetR at CG
            cases hg : M.getL cs (M.keyB x) with
            | none =>
              rw [hg] at CG
              simp only [Option.getD, Option.isSome, M.cl0] at CG
              have HGN := Lib.hid hg
              clear hg
              with_reducible refine CG.mono ?_
              rintro e w5 ⟨rfl, hb5⟩
              replace HH := carry hb5 HH
              replace HX := carry hb5 HX
              replace HG := carry hb5 HG
              clear hb5 CG
              go_wp2_with (first
      | (refine wpList_store_hid rfl 25 _ _ rfl w5.heap.size _ rfl rfl 25 clZ (rowIn_new clZ 25 w5) ?_ rfl (by simp [Value.oneCell']) ?_; kernel_rfl; intro w6 hr6 hbel6 hoth6 hsz6; have hb6 := hbel6 w5.heap.size w5 (Nat.le_refl _) ((Below.refl _ _).alloc (Nat.le_refl _) _); replace HH := carry hb6 HH; replace HX := carry hb6 HX; replace HG := carry hb6 HG; clear hr6 hbel6 hoth6 hsz6 hb6)
                | (at_mapUpdate; refine wpList_mapUpdate_own _ rfl _ _ _ 71 rfl 9 72 lawS Try.underlying71 (unitElem (H := Unit)) w.heap.size T.length _ rfl HH.out.1 (by have := HTl.out; unfold maxLen; omega) _ _ _ rfl rfl HK.out _ [] unitElem_mk ?_; intro w7 hm7 hg7; have HM7 := Lib.hid hm7; have HG7 := Lib.hid hg7; have HO7 := Lib.hid (HH.out.2.1.kept hg7 (own_ne' HH.out.2.1 (Nat.lt_succ_self _))); have HP7 := Lib.hid (HH.out.2.2.1.kept hg7 (own_ne' HH.out.2.2.1 (Nat.lt_succ_self _))); have HX7 := Lib.hid (HX.out.grownP hg7 (fun q hq => by cases hq; have := HZ.out; omega)); have HC7 := Lib.hid (HG.out.grownP hg7 (fun q hq => by cases hq; have := HG2.out; omega)); have HB7 := Lib.hid (HH.out.2.2.2.2.2.1.grown hg7 HH.out.2.2.2.2.2.1.size (fun q hq => by cases hq; exact Nat.le_refl _)); have HS7 := Lib.hid (Nat.le_trans HH.out.2.2.2.2.2.2 hg7.size); clear hm7 hg7)
                | (refine wpList_load_row rfl 23 _ rfl wr.heap.size rfl 23 _ (0, 0) _ HX7.out Try.underlying23 rfl ?_ ?_; kernel_rfl)
                | (at_builtin; refine wpList_append_own _ rfl _ _ 27 rfl (w.heap.size + 1) 23 i0 z0 8 88 Try.underlying27 hi hz0 hz1 hz2 hz3 (by decide) (.slice a1 T.length c1) T.length (sps T) rfl (HO7.out.alloc _) ⟨w7.heap.size, 0, none⟩ 1 1 (spL x) rfl rfl (sp_new _ _ _) (spL_one x) (by have := HTl.out; unfold maxLen; omega) (by have := HTl.out; omega) (by have := HS7.out; rw [szA]; omega) ?_; intro v8 w8 ho8 hg8 hn8; obtain ⟨a8, c8, rfl⟩ := ownP_shape ho8; have HO8 := Lib.hid (show w8.ownsRow (w.heap.size + 1) 23 8 (.slice a8 (T.length + 1) c8) (T.length + 1) (sps (T ++ [x])) from by rw [sps_append, sps_one]; exact ho8); have HP8 := Lib.hid ((HP7.out.alloc (.cells (spA x) 23)).kept hg8 (own_apart HP7.out HO7.out (by decide))); have HC8 := Lib.hid ((HC7.out.more (.cells (spA x) 23)).grownP hg8 (row_apart HC7.out HO7.out (by decide))); have HM8 := Lib.hid ((HM7.out.alloc (.cells (spA x) 23)).kept hg8 (own_ne HO7.out (Nat.lt_succ_self _))); have HB8 := Lib.hid ((HB7.out.alloc HB7.out.size _).grown hg8 (by have := HS7.out; rw [szA]; omega) (fun q hq => by have := (HO7.out.lt q hq).1; omega)); have HS8 := Lib.hid (Nat.le_trans (show w.heap.size + 1 ≤ (w7.alloc (.cells (spA x) 23)).heap.size from by have := HS7.out; rw [szA]; omega) hg8.size); clear ho8 hg8 hn8)
                | (at_builtin; refine wpList_append_own _ rfl _ _ 29 rfl (w.heap.size + 1) 25 j0 y0 3 40 Try.underlying29 hj hy0 hy1 hy2 hy3 (by decide) (.slice a2 (2 * T.length) c2) (2 * T.length) (cls (T.flatMap M.cls2)) rfl HP8.out ⟨g2, 0, none⟩ 2 2 (cls (M.cls2 x)) rfl rfl (add_row HC8.out rfl) (cls_oneC _) (by have := HTl.out; unfold maxLen; omega) (by have := HTl.out; omega) (by have := HS8.out; omega) ?_; intro v9 w9 ho9 hg9 hn9; obtain ⟨a9, c9, rfl⟩ := ownP_shape ho9; have HP9 := Lib.hid (show w9.ownsRow (w.heap.size + 1) 25 3 (.slice a9 (2 * T.length + 2) c9) (2 * T.length + 2) (cls ((T ++ [x]).flatMap M.cls2)) from by rw [List.flatMap_append, cls_append, List.flatMap_singleton]; exact ho9); have HO9 := Lib.hid (HO8.out.kept hg9 (own_apart HO8.out HP8.out (by decide))); have HM9 := Lib.hid (HM8.out.kept hg9 (own_ne HP8.out (Nat.lt_succ_self _))); have HB9 := Lib.hid (HB8.out.grown hg9 (by have := HS8.out; omega) (fun q hq => by have := (HP8.out.lt q hq).1; omega)); have HS9 := Lib.hid (Nat.le_trans HS8.out hg9.size); clear ho9 hg9 hn9))
              have HT9 := Lib.hid (show T ++ [x] = M.tk (M.getL cs) n (L.take (k + 1)) from by rw [HST.out, if_pos (by simp [M.okT, HM.out, HP.out, HQ.out, HGN.out])])
              go_roundw
              case rel =>
                have hl : (T ++ [x]).length = T.length + 1 := by simp
                refine ⟨k + 1, T ++ [x], a8, c8, a9, c9, by omega, by go_num, by rw [hl], by rw [hl]; rfl, HT9, Lib.hid ⟨?_, ?_, ?_, HS.out.below HB9.out, HL.out.below HB9.out, HB9.out, HS9.out⟩⟩
                · rw [hl, seenM_snoc]; exact HM9.out
                · rw [hl]; exact HO9.out
                · rw [hl]; exact HP9.out
              case measure => simp [intOf]; omega
            | some c =>
              rw [hg] at CG
              simp only [Option.getD, Option.isSome] at CG
              have HGN := Lib.hid hg
              have CD := Lib.hid (fun W => dropped_any c (HV.out c (M.getL_some hg).1).2 (HV.out c (M.getL_some hg).1).1 n hn1 hn2 W)
              clear hg
              with_reducible refine CG.mono ?_
              rintro e w5 ⟨rfl, hb5⟩
              replace HH := carry hb5 HH
              replace HX := carry hb5 HX
              replace HG := carry hb5 HG
              clear hb5 CG
              go_wp2_with (refine wpList_store_hid rfl 25 _ _ rfl w5.heap.size _ rfl rfl 25 clZ (rowIn_new clZ 25 w5) ?_ rfl (clA_one c) ?_; kernel_rfl; intro w6 hr6 hbel6 hoth6 hsz6; have hb6 := hbel6 w5.heap.size w5 (Nat.le_refl _) ((Below.refl _ _).alloc (Nat.le_refl _) _); replace HH := carry hb6 HH; replace HX := carry hb6 HX; replace HG := carry hb6 HG; have q0 : w6.cell? ⟨w5.heap.size, 0, none⟩ = some (.string (S c.key)) := hr6.cell 0; have q1 : w6.cell? ⟨w5.heap.size, 1, none⟩ = some (.int .i64 c.seq) := hr6.cell 1; have q2 : w6.cell? ⟨w5.heap.size, 2, none⟩ = some (.string (S c.val)) := hr6.cell 2; clear hr6 hbel6 hoth6 hsz6 hb6)
              with_reducible refine (CD.out _).mono ?_
              rintro e wA ⟨rfl, hbA⟩
              replace HH := carry hbA HH
              replace HX := carry hbA HX
              replace HG := carry hbA HG
              clear hbA q0 q1 q2
              cases hdr : M.dropB c n with
              | false =>
                have HDR := Lib.hid hdr
                clear hdr
                go_wp2_with fail
                go_roundw
                case rel => exact ⟨k + 1, T, a1, c1, a2, c2, by omega, by go_num, rfl, rfl, Lib.hid (by rw [HST.out, if_neg (by simp [M.okT, HGN.out, HDR.out])]), HH⟩
                case measure => simp [intOf]; omega
              | true =>
                have HDR := Lib.hid hdr
                clear hdr
                go_wp2_with (first
                  | (at_mapUpdate; refine wpList_mapUpdate_own _ rfl _ _ _ 71 rfl 9 72 lawS Try.underlying71 (unitElem (H := Unit)) w.heap.size T.length _ rfl HH.out.1 (by have := HTl.out; unfold maxLen; omega) _ _ _ rfl rfl HK.out _ [] unitElem_mk ?_; intro w7 hm7 hg7; have HM7 := Lib.hid hm7; have HG7 := Lib.hid hg7; have HO7 := Lib.hid (HH.out.2.1.kept hg7 (own_ne' HH.out.2.1 (Nat.lt_succ_self _))); have HP7 := Lib.hid (HH.out.2.2.1.kept hg7 (own_ne' HH.out.2.2.1 (Nat.lt_succ_self _))); have HX7 := Lib.hid (HX.out.grownP hg7 (fun q hq => by cases hq; have := HZ.out; omega)); have HC7 := Lib.hid (HG.out.grownP hg7 (fun q hq => by cases hq; have := HG2.out; omega)); have HB7 := Lib.hid (HH.out.2.2.2.2.2.1.grown hg7 HH.out.2.2.2.2.2.1.size (fun q hq => by cases hq; exact Nat.le_refl _)); have HS7 := Lib.hid (Nat.le_trans HH.out.2.2.2.2.2.2 hg7.size); clear hm7 hg7)
                  | (refine wpList_load_row rfl 23 _ rfl wr.heap.size rfl 23 _ (0, 0) _ HX7.out Try.underlying23 rfl ?_ ?_; kernel_rfl)
                  | (at_builtin; refine wpList_append_own _ rfl _ _ 27 rfl (w.heap.size + 1) 23 i0 z0 8 88 Try.underlying27 hi hz0 hz1 hz2 hz3 (by decide) (.slice a1 T.length c1) T.length (sps T) rfl (HO7.out.alloc _) ⟨w7.heap.size, 0, none⟩ 1 1 (spL x) rfl rfl (sp_new _ _ _) (spL_one x) (by have := HTl.out; unfold maxLen; omega) (by have := HTl.out; omega) (by have := HS7.out; rw [szA]; omega) ?_; intro v8 w8 ho8 hg8 hn8; obtain ⟨a8, c8, rfl⟩ := ownP_shape ho8; have HO8 := Lib.hid (show w8.ownsRow (w.heap.size + 1) 23 8 (.slice a8 (T.length + 1) c8) (T.length + 1) (sps (T ++ [x])) from by rw [sps_append, sps_one]; exact ho8); have HP8 := Lib.hid ((HP7.out.alloc (.cells (spA x) 23)).kept hg8 (own_apart HP7.out HO7.out (by decide))); have HC8 := Lib.hid ((HC7.out.more (.cells (spA x) 23)).grownP hg8 (row_apart HC7.out HO7.out (by decide))); have HM8 := Lib.hid ((HM7.out.alloc (.cells (spA x) 23)).kept hg8 (own_ne HO7.out (Nat.lt_succ_self _))); have HB8 := Lib.hid ((HB7.out.alloc HB7.out.size _).grown hg8 (by have := HS7.out; rw [szA]; omega) (fun q hq => by have := (HO7.out.lt q hq).1; omega)); have HS8 := Lib.hid (Nat.le_trans (show w.heap.size + 1 ≤ (w7.alloc (.cells (spA x) 23)).heap.size from by have := HS7.out; rw [szA]; omega) hg8.size); clear ho8 hg8 hn8)
                  | (at_builtin; refine wpList_append_own _ rfl _ _ 29 rfl (w.heap.size + 1) 25 j0 y0 3 40 Try.underlying29 hj hy0 hy1 hy2 hy3 (by decide) (.slice a2 (2 * T.length) c2) (2 * T.length) (cls (T.flatMap M.cls2)) rfl HP8.out ⟨g2, 0, none⟩ 2 2 (cls (M.cls2 x)) rfl rfl (add_row HC8.out rfl) (cls_oneC _) (by have := HTl.out; unfold maxLen; omega) (by have := HTl.out; omega) (by have := HS8.out; omega) ?_; intro v9 w9 ho9 hg9 hn9; obtain ⟨a9, c9, rfl⟩ := ownP_shape ho9; have HP9 := Lib.hid (show w9.ownsRow (w.heap.size + 1) 25 3 (.slice a9 (2 * T.length + 2) c9) (2 * T.length + 2) (cls ((T ++ [x]).flatMap M.cls2)) from by rw [List.flatMap_append, cls_append, List.flatMap_singleton]; exact ho9); have HO9 := Lib.hid (HO8.out.kept hg9 (own_apart HO8.out HP8.out (by decide))); have HM9 := Lib.hid (HM8.out.kept hg9 (own_ne HP8.out (Nat.lt_succ_self _))); have HB9 := Lib.hid (HB8.out.grown hg9 (by have := HS8.out; omega) (fun q hq => by have := (HP8.out.lt q hq).1; omega)); have HS9 := Lib.hid (Nat.le_trans HS8.out hg9.size); clear ho9 hg9 hn9))
                have HT9 := Lib.hid (show T ++ [x] = M.tk (M.getL cs) n (L.take (k + 1)) from by rw [HST.out, if_pos (by simp [M.okT, HM.out, HP.out, HQ.out, HGN.out, HDR.out])])
                go_roundw
                case rel =>
                  have hl : (T ++ [x]).length = T.length + 1 := by simp
                  refine ⟨k + 1, T ++ [x], a8, c8, a9, c9, by omega, by go_num, by rw [hl], by rw [hl]; rfl, HT9, Lib.hid ⟨?_, ?_, ?_, HS.out.below HB9.out, HL.out.below HB9.out, HB9.out, HS9.out⟩⟩
                  · rw [hl, seenM_snoc]; exact HM9.out
                  · rw [hl]; exact HO9.out
                  · rw [hl]; exact HP9.out
                case measure => simp [intOf]; omega
      · replace HH := carry hb2 HH
        have HM := Lib.hid hm
        clear hb2 hm
        go_wp2_with fail
        go_roundw
        case rel => exact ⟨k + 1, T, a1, c1, a2, c2, by omega, by go_num, rfl, rfl, Lib.hid (by rw [HST.out, if_neg (by simp [M.okT, HM.out])]), HH⟩
        case measure => simp [intOf]; omega
    · obtain rfl : k = L.length := by omega
      have hd : decide ((L.length : Int) < (L.length : Int)) = false := by simp
      have HE := Lib.hid (show T = M.tk (M.getL cs) n L from by rw [HT.out, List.take_length])
      go_wp2_with fail
      go_ret2
      exact HE.out ▸ ⟨a1, c1, a2, c2, rfl, ownP_mono HH.out.2.1 (Nat.le_succ _), ownP_mono HH.out.2.2.1 (Nat.le_succ _), HH.out.2.2.2.2.2.1⟩

end Go.Proofs.Ytjlddackpckmfaa
