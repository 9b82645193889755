/- Layer 21: the law's own helpers: lists that are too great; spans' cells on a shelf, by contracts. -/
import Derived.Test.YtjlddackpckmfaaRowsK
namespace Go.Proofs.Ytjlddackpckmfaa
set_option linter.unusedVariables false
open Go Go.RowKit

def SmallT (x : M.Sp) : Prop := x.svc.length ≤ 100 ∧ x.host.length ≤ 100 ∧ x.note.length ≤ 100
def SmallL (L : List M.Sp) (n : Nat) : Prop := L.length ≤ n ∧ ∀ x ∈ L, SmallT x
theorem smallL_of {L : List M.Sp} {n : Nat} (h : L.length ≤ n) (hj : ∀ j, j < L.length → SmallT (L.getD j M.sp0)) : SmallL L n := by
  refine ⟨h, fun x hx => ?_⟩
  obtain ⟨j, hj', rfl⟩ := List.getElem_of_mem hx
  simpa [List.getD, List.getElem?_eq_getElem hj'] using hj j hj'
/-- What 'Beyond' comes to. -/
def BeyR (L : List M.Sp) (n : Nat) (w : World) (e : Ending) (w' : World) : Prop := (e = .returned (.bool true) ∨ (e = .returned (.bool false) ∧ SmallL L n)) ∧ w = w'

set_option maxHeartbeats 1000000 in
theorem beyond21_any {w : World} {ao : Option Addr} (L : List M.Sp) (cap n : Nat) (hn : n ≤ 1000) (hs : SpsAt w ao L) (hl : L.length ≤ 9223372036854775807) :
    Calls Try.prog 8 #[.slice ao L.length cap, .int .i64 n] w fun e w' => BeyR L n w e w' := by
  have HS := Lib.hid hs
  clear hs
  by_cases hlen : L.length ≤ n
  · have d0 : decide ((n : Int) < (L.length : Int)) = false := by simp; omega
    have HLN := Lib.hid hlen
    go_enter Try.func8, Try.ntmps8
    go_wp2_with fail
    clear d0
    go_loop [5] (fun i => ∃ k : Nat, k ≤ L.length ∧ i = .int .i64 k ∧ (∀ j, j < k → SmallT (L.getD j M.sp0))) (fun i => L.length - (intOf i).toNat)
    case atStart => exact ⟨0, by omega, rfl, fun j hj => by omega⟩
    case round =>
      obtain ⟨k, hk, rfl, hj⟩ := hrel
      have HJ := Lib.hid hj
      clear hj
      by_cases hlt : k < L.length
      · have d1 : decide ((k : Int) < (L.length : Int)) = true := by simp; omega
        have hki : (k : Int) < (L.length : Int) := by omega
        obtain ⟨g, off, rfl, hc⟩ := HS.out.off k hlt
        obtain ⟨x0, x1, x2, x3, x4, x5, x6, x7⟩ := hc
        generalize hxe : L.getD k M.sp0 = x at *
        have HXE := Lib.hid hxe
        clear hxe x0 x1 x2 x5 x6
        by_cases hx : SmallT x
        · obtain ⟨s1, s2, s3⟩ := hx
          have e1 : decide (100 < (x.svc.length : Int)) = false := by simp; omega
          have e2 : decide (100 < (x.host.length : Int)) = false := by simp; omega
          have e3 : decide (100 < (x.note.length : Int)) = false := by simp; omega
          have HSM := Lib.hid (show SmallT x from ⟨s1, s2, s3⟩)
          clear s1 s2 s3
          go_wp2_with fail
          go_round
          case rel => exact ⟨k + 1, by omega, by go_num, fun j hj => by
            by_cases e : j = k
            · rw [e, HXE.out]; exact HSM.out
            · exact HJ.out j (by omega)⟩
          case measure => simp [intOf]; omega
        · have hx' : 100 < x.svc.length ∨ 100 < x.host.length ∨ 100 < x.note.length := by unfold SmallT at hx; omega
          clear hx
          go_wp2_with fail
          all_goals first
            | (go_ret; exact ⟨.inl rfl, rfl⟩)
            | (exfalso; omega)
      · obtain rfl : k = L.length := by omega
        have HSB := Lib.hid (smallL_of HLN.out HJ.out)
        have d1 : decide ((L.length : Int) < (L.length : Int)) = false := by simp
        clear hlt
        go_wp2_with fail
        go_ret
        exact ⟨.inr ⟨rfl, HSB.out⟩, rfl⟩
  · have d0 : decide ((n : Int) < (L.length : Int)) = true := by simp; omega
    go_enter Try.func8, Try.ntmps8
    go_wp2_with fail
    go_ret
    exact ⟨.inl rfl, rfl⟩

def SmallC (c : M.Cl) : Prop := c.key.length ≤ 300 ∧ c.val.length ≤ 300
def SmallCs (L : List M.Cl) (n : Nat) : Prop := L.length ≤ n ∧ ∀ x ∈ L, SmallC x
theorem smallCs_of {L : List M.Cl} {n : Nat} (h : L.length ≤ n) (hj : ∀ j, j < L.length → SmallC (L.getD j M.cl0)) : SmallCs L n := by
  refine ⟨h, fun x hx => ?_⟩
  obtain ⟨j, hj', rfl⟩ := List.getElem_of_mem hx
  simpa [List.getD, List.getElem?_eq_getElem hj'] using hj j hj'
def BeyCR (L : List M.Cl) (n : Nat) (w : World) (e : Ending) (w' : World) : Prop := (e = .returned (.bool true) ∨ (e = .returned (.bool false) ∧ SmallCs L n)) ∧ w = w'

set_option maxHeartbeats 1000000 in
theorem beyond18_any {w : World} {ao : Option Addr} (L : List M.Cl) (cap n : Nat) (hn : n ≤ 1000) (hs : ClsAt w ao L) (hl : L.length ≤ 9223372036854775807) :
    Calls Try.prog 9 #[.slice ao L.length cap, .int .i64 n] w fun e w' => BeyCR L n w e w' := by
  have HS := Lib.hid hs
  clear hs
  by_cases hlen : L.length ≤ n
  · have d0 : decide ((n : Int) < (L.length : Int)) = false := by simp; omega
    have HLN := Lib.hid hlen
    go_enter Try.func9, Try.ntmps9
    go_wp2_with fail
    clear d0
    go_loop [5] (fun i => ∃ k : Nat, k ≤ L.length ∧ i = .int .i64 k ∧ (∀ j, j < k → SmallC (L.getD j M.cl0))) (fun i => L.length - (intOf i).toNat)
    case atStart => exact ⟨0, by omega, rfl, fun j hj => by omega⟩
    case round =>
      obtain ⟨k, hk, rfl, hj⟩ := hrel
      have HJ := Lib.hid hj
      clear hj
      by_cases hlt : k < L.length
      · have d1 : decide ((k : Int) < (L.length : Int)) = true := by simp; omega
        have hki : (k : Int) < (L.length : Int) := by omega
        obtain ⟨g, off, rfl, hc⟩ := HS.out.off k hlt
        obtain ⟨x0, x1, x2⟩ := hc
        generalize hxe : L.getD k M.cl0 = x at *
        have HXE := Lib.hid hxe
        clear hxe x1
        by_cases hx : SmallC x
        · obtain ⟨s1, s2⟩ := hx
          have e1 : decide (300 < (x.key.length : Int)) = false := by simp; omega
          have e2 : decide (300 < (x.val.length : Int)) = false := by simp; omega
          have HSM := Lib.hid (show SmallC x from ⟨s1, s2⟩)
          clear s1 s2
          go_wp2_with fail
          go_round
          case rel => exact ⟨k + 1, by omega, by go_num, fun j hj => by
            by_cases e : j = k
            · rw [e, HXE.out]; exact HSM.out
            · exact HJ.out j (by omega)⟩
          case measure => simp [intOf]; omega
        · have hx' : 300 < x.key.length ∨ 300 < x.val.length := by unfold SmallC at hx; omega
          clear hx
          go_wp2_with fail
          all_goals first
            | (go_ret; exact ⟨.inl rfl, rfl⟩)
            | (exfalso; omega)
      · obtain rfl : k = L.length := by omega
        have HSB := Lib.hid (smallCs_of HLN.out HJ.out)
        have d1 : decide ((L.length : Int) < (L.length : Int)) = false := by simp
        clear hlt
        go_wp2_with fail
        go_ret
        exact ⟨.inr ⟨rfl, HSB.out⟩, rfl⟩
  · have d0 : decide ((n : Int) < (L.length : Int)) = true := by simp; omega
    go_enter Try.func9, Try.ntmps9
    go_wp2_with fail
    go_ret
    exact ⟨.inl rfl, rfl⟩

set_option maxHeartbeats 2000000 in
set_option maxRecDepth 100000 in
theorem shelved_any (L : List M.Sp) (ao : Option Addr) (cap : Nat) (w : World) (hlen : L.length ≤ 1000) (hf : ∀ x ∈ L, x.fits) (hL : SpsAt w ao L) :
    Calls Try.prog 19 #[.slice ao L.length cap] w fun e w' => e = .returned (.pointer (some ⟨w.heap.size, 0, none⟩)) ∧ ShelfAt w' w.heap.size (M.shelv L) ∧ Below w.heap.size w w' := by
  obtain ⟨j0, y0, hj, hy0, hy1, hy2, hy3⟩ := infoCl_parts
  have HF := Lib.hid hf
  have HL := Lib.hid hL
  clear hf hL
  go_enter Try.func19, Try.ntmps19
  go_wp2_with fail
  go_loopw [4] (fun i wr => ∃ (k : Nat) (cs : List M.Cl) (a1 : Option Addr) (c1 : Nat), k ≤ L.length ∧ i = .int .i64 k ∧ Hid (cs = M.shelv (L.take k)) ∧
      Hid (wr.ownsRow (w.heap.size + 1) 25 3 (.slice a1 cs.length c1) cs.length (cls cs) ∧ Below w.heap.size w wr ∧ RowIn #[.slice a1 cs.length c1] 44 wr w.heap.size)) (fun i _ => L.length - (intOf i).toNat)
  case atStart => exact ⟨0, [], none, 0, Nat.zero_le _, rfl, Lib.hid rfl, Lib.hid ⟨World.ownsRow_nil _ _ _ _, (Below.refl _ _).alloc (Nat.le_refl _) _, rowIn_new _ _ _⟩⟩
  case round =>
    obtain ⟨k, cs, a1, c1, hk, rfl, HT, HH⟩ := hrel
    by_cases hlt : k < L.length
    · have hd : decide ((k : Int) < (L.length : Int)) = true := by simp; omega
      have hki : (k : Int) < (L.length : Int) := by omega
      obtain ⟨g, off, rfl, hc⟩ := (HL.out.below HH.out.2.1).off k hlt
      obtain ⟨x0, x1, x2, x3, x4, x5, x6, x7⟩ := hc
      have hfx := sp_mem HF.out hlt
      have HST := Lib.hid (show M.shelv (L.take (k + 1)) = M.shelv (L.take k) ++ (if M.mayB (L.getD k M.sp0) then M.cls2 (L.getD k M.sp0) else []) from by rw [take_snocK hlt, M.shelv_snoc])
      rw [← HT.out] at HST
      have hTl : cs.length ≤ 2 * k := by rw [HT.out]; have h1 := M.shelv_len (L.take k); have h2 := List.length_take_le k L; omega
      generalize L.getD k M.sp0 = x at *
      go_wp2_with fail
      with_reducible refine (cells_any x hfx _).mono ?_
      rintro e w2 (⟨hm, g2, rfl, hg2, hr2, hb2⟩ | ⟨hm, rfl, hb2⟩)
      · replace HH := carry hb2 HH
        have HM := Lib.hid hm
        have HC := Lib.hid hr2
        have r0 : w2.cell? ⟨w.heap.size, 0, none⟩ = some (.slice a1 cs.length c1) := HH.out.2.2.cell 0
        have f0 := HH.out.2.2.free 0
        clear hb2 hm x0 x1 x2 x3 x4 x5 x6 x7 hr2
        go_wp2_with (at_builtin; refine wpList_append_own _ rfl _ _ 29 rfl (w.heap.size + 1) 25 j0 y0 3 40 Try.underlying29 hj hy0 hy1 hy2 hy3 (by decide) (.slice a1 cs.length c1) cs.length (cls cs) rfl HH.out.1 ⟨g2, 0, none⟩ 2 2 (cls (M.cls2 x)) rfl rfl (add_row HC.out rfl) (cls_oneC _) (by unfold maxLen; omega) (by omega) (by have := HH.out.2.2.lt; omega) ?_; intro v9 w9 ho9 hg9 hn9; obtain ⟨a9, c9, rfl⟩ := ownP_shape ho9; have HP9 := Lib.hid (show w9.ownsRow (w.heap.size + 1) 25 3 (.slice a9 (cs.length + 2) c9) (cs.length + 2) (cls (cs ++ M.cls2 x)) from by rw [cls_append]; exact ho9); have HR9 := Lib.hid (HH.out.2.2.grownP hg9 (fun q hq h => by have := (HH.out.1.lt q hq).1; omega)); have HB9 := Lib.hid (HH.out.2.1.grown hg9 HH.out.2.1.size (fun q hq => by have := (HH.out.1.lt q hq).1; omega)); have f9 := HR9.out.free 0; have s9 : w9.cell? ⟨w.heap.size, 0, none⟩ = some (.slice a1 cs.length c1) := HR9.out.cell 0; clear ho9 hg9 hn9)
        have HCS := Lib.hid (show cs ++ M.cls2 x = M.shelv (L.take (k + 1)) from by rw [HST.out, HM.out]; rfl)
        go_roundw
        case rel =>
          have hl : (cs ++ M.cls2 x).length = cs.length + 2 := by simp [M.cls2]
          refine ⟨k + 1, cs ++ M.cls2 x, a9, c9, by omega, by go_num, HCS, Lib.hid ⟨?_, HB9.out.setCell (Nat.le_refl _) _, ?_⟩⟩
          · rw [hl]; exact ownP_set HP9.out (Nat.lt_succ_self _) _ _
          · rw [hl]; exact HR9.out.set 0 _
        case measure => simp [intOf]; omega
      · replace HH := carry hb2 HH
        have HM := Lib.hid hm
        clear hb2 hm
        go_wp2_with fail
        go_roundw
        case rel => exact ⟨k + 1, cs, a1, c1, by omega, by go_num, Lib.hid (by rw [HST.out, HM.out]; simp), HH⟩
        case measure => simp [intOf]; omega
    · obtain rfl : k = L.length := by omega
      have hd : decide ((L.length : Int) < (L.length : Int)) = false := by simp
      have HE := Lib.hid (show cs = M.shelv L from by rw [HT.out, List.take_length])
      go_wp2_with fail
      go_ret
      exact ⟨rfl, HE.out ▸ ⟨a1, c1, HH.out.2.2, clsAt_own HH.out.1 rfl⟩, HH.out.2.1⟩

end Go.Proofs.Ytjlddackpckmfaa
