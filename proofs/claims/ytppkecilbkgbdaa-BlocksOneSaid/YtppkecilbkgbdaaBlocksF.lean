/- Layer 9: the bytes of sorted cells, by a contract. -/
import Derived.Test.YtppkecilbkgbdaaBlocksE
import Derived.Test.YtppkecilbkgbdaaQuietTail
namespace Go.Proofs.Ytppkecilbkgbdaa
set_option linter.unusedVariables false
open Go Go.RowKit
attribute [local go_sem ↓] run_index_S
attribute [local go_sem] S_append S_extract

theorem BdAt.below {w w' : World} {B b : Nat} {l : List UInt8} (h : BdAt B b l w) (hb : Below w.heap.size w w') : BdAt B b l w' := by
  have go : ∀ p, Lib.BuilderAt 47 5 B b p (Lib.byteCells l) w → Lib.BuilderAt 47 5 B b p (Lib.byteCells l) w' := fun p hp => by
    have hlt := hp.lt
    obtain ⟨h1, v, h2, h3, h4⟩ := hp
    exact ⟨h1, v, (hb.block b hlt).trans h2, ownP_below h3 hb, h4⟩
  rcases h with h | h
  · exact .inl (go _ h)
  · exact .inr (go _ h)
theorem BdAt.lt9 {w : World} {B b : Nat} {l : List UInt8} (h : BdAt B b l w) : b < w.heap.size := by
  rcases h with h | h
  · exact h.lt
  · exact h.lt
instance car_bd {w w' : World} {B b : Nat} {l : List UInt8} : Car w w' (BdAt B b l w) (BdAt B b l w') := ⟨fun hb h => BdAt.below h hb⟩
theorem bd_any {w : World} {B b : Nat} {l : List UInt8} (h : BdAt B b l w) (hB : B ≤ w.heap.size) : Calls Try.prog 29 #[.pointer (some ⟨b, 0, none⟩)] w fun e w' => e = .returned (.string ⟨l.toArray⟩) ∧ Below B w w' :=
  Try.Builder_String_any B b l w h hB
theorem M.encOne_len {last : List UInt8} {c : M.Cl} (h : M.mayC c = true) : (M.encOne last c).length ≤ 240 := by
  have h1 := M.mayC_true.1 h
  have p1 := M.putN_length (M.com last c.key)
  have p2 := M.putN_length (c.key.drop (M.com last c.key)).length
  have p3 := M.putN_length c.seq.toNat
  have p4 := M.putN_length c.val.length
  simp only [M.encOne, M.putT, List.length_append, List.length_drop] at *
  omega
theorem M.encL_len {k : List UInt8} {L : List M.Cl} (h : ∀ c ∈ L, M.mayC c = true) : (M.encL k L).length ≤ 240 * L.length := by
  induction L generalizing k with
  | nil => simp [M.encL]
  | cons c L ih =>
    have h1 := M.encOne_len (last := k) (h c (by simp))
    have h2 := ih (k := c.key) (fun x hx => h x (by simp [hx]))
    simp only [M.encL, List.length_append, List.length_cons]
    omega
theorem M.lastK_len {L : List M.Cl} (h : ∀ c ∈ L, c.key.length ≤ 140737488351232) (k : List UInt8) (hk : k.length ≤ 140737488351232) : (M.lastK k L).length ≤ 140737488351232 := by
  induction L generalizing k with
  | nil => exact hk
  | cons c L ih => exact ih (fun x hx => h x (by simp [hx])) c.key (h c (by simp))
def EncR (b : Bool) (l : List UInt8) (w : World) (e : Ending) (w' : World) : Prop := e = .returned (if b then .tuple #[.string (S l), .int .i64 0] else .tuple #[.string ⟨#[]⟩, .int .i64 2]) ∧ Below w.heap.size w w'

set_option maxHeartbeats 4000000 in
set_option maxRecDepth 100000 in
theorem encode9_any (L : List M.Cl) (hl : L.length ≤ 1000000) (ao : Option Addr) (cap : Nat) (w : World) (hC : ClsAt w ao L) (hv : ∀ c ∈ L, ClOk c) :
    Calls Try.prog 12 #[.slice ao L.length cap] w fun e w' => EncR (M.srt none L) (M.encCs L) w e w' := by
  have HC := Lib.hid hC
  have HV := Lib.hid hv
  have CS := Lib.hid (sorted9_any L hl ao cap w hC hv)
  clear hC hv
  go_enter Try.func12, Try.ntmps12
  go_wp2_with fail
  with_reducible refine (CS.out).mono ?_
  rintro e w1 ⟨rfl, hb⟩
  have HB := Lib.hid hb
  clear hb CS
  cases hs : M.srt none L with
  | false =>
    have HS := Lib.hid hs
    clear hs
    go_wp2_with fail
    go_ret2
    exact ⟨by rw [HS.out]; rfl, HB.out⟩
  | true =>
    have HM := Lib.hid (M.srt_may hs)
    have HS := Lib.hid hs
    clear hs
    have HBD := Lib.hid (bd_new w1)
    have HWS := Lib.hid HB.out.size
    replace HB := carryA (w := w1) (.cells #[.pointer none, .slice none 0 0] 47) HB
    go_wp2_with fail
    with_reducible refine (put_nat L.length _ (by omega)).mono ?_
    rintro e w2 ⟨rfl, hb2⟩
    replace HB := carry hb2 HB
    replace HBD := carry hb2 HBD
    have HSZ := Lib.hid (show w1.heap.size ≤ w2.heap.size from Nat.le_trans (by rw [szA]; omega) hb2.size)
    clear hb2
    have hpl := M.putN_length L.length
    go_wp2_with fail
    with_reducible refine (write_any w1.heap.size w1.heap.size [] (M.putN L.length) w2 HBD.out (by simp; omega) HSZ.out).mono ?_
    rintro e w3 ⟨rfl, h3, hb3, -⟩
    rw [List.nil_append] at h3
    replace HBD := Lib.hid h3
    replace HB := Lib.hid (HB.out.trans (hb3.mono HWS.out))
    replace HSZ := Lib.hid (Nat.le_trans HSZ.out hb3.size)
    clear h3 hb3
    go_wp2_with fail
    go_loopw [5, 18] (fun v5 i wr => ∃ k : Nat, k ≤ L.length ∧ i = .int .i64 k ∧ v5 = .string (S (M.lastK [] (L.take k))) ∧ Hid (BdAt w1.heap.size w1.heap.size (M.putN L.length ++ M.encL [] (L.take k)) wr ∧ Below w.heap.size w wr ∧ w1.heap.size ≤ wr.heap.size)) (fun _ i _ => L.length - (intOf i).toNat)
    case atStart => exact ⟨0, Nat.zero_le _, rfl, rfl, Lib.hid ⟨by simpa [M.encL] using HBD.out, HB.out, HSZ.out⟩⟩
    case round =>
      clear HBD HB HSZ
      obtain ⟨k, hk, rfl, rfl, HH⟩ := hrel
      by_cases hlt : k < L.length
      · have hd : decide ((k : Int) < (L.length : Int)) = true := by simp; omega
        have hki : (k : Int) < (L.length : Int) := by omega
        obtain ⟨g, off, rfl, hc⟩ := (HC.out.below HH.out.2.1).off k hlt
        obtain ⟨x0, x1, x2⟩ := hc
        have hok := memC HV.out hlt
        have hmy := memC HM.out hlt
        have HT := Lib.hid (takeC_snoc hlt)
        have HE := Lib.hid (show M.encL [] (L.take (k + 1)) = M.encL [] (L.take k) ++ M.encOne (M.lastK [] (L.take k)) (L.getD k M.cl0) from by rw [HT.out, M.encL_snoc])
        have HO := Lib.hid (show M.lastK [] (L.take (k + 1)) = (L.getD k M.cl0).key from by rw [HT.out, M.lastK_snoc])
        have hal : (M.encL [] (L.take k)).length ≤ 240 * k := by
          have := M.encL_len (k := []) (fun c (hc : c ∈ L.take k) => HM.out c (List.mem_of_mem_take hc))
          have h2 := List.length_take_le k L
          omega
        have hll := M.lastK_len (fun c (hc : c ∈ L.take k) => (HV.out c (List.mem_of_mem_take hc)).1) [] (by simp)
        generalize L.getD k M.cl0 = c at *
        generalize M.lastK [] (L.take k) = lk at *
        generalize M.encL [] (L.take k) = acc at *
        have hm2 := M.mayC_true.1 hmy
        have hol := M.encOne_len (last := lk) hmy
        have hcl := M.com_le2 lk c.key
        obtain ⟨q, hq⟩ : ∃ q : Nat, c.seq = (q : Int) := ⟨c.seq.toNat, by omega⟩
        have hq9 : q ≤ 9223372036854775807 := by have := hok.2.2.h2; omega
        rw [hq] at x1
        have HQ := Lib.hid hq
        have HOL := Lib.hid hol
        have C1 := Lib.hid (fun W => put_nat (M.com lk c.key) W (by omega))
        have C2 := Lib.hid (fun W => putText_any (c.key.drop (M.com lk c.key)) W (by simp; omega))
        have C3 := Lib.hid (fun W => put_nat q W hq9)
        have C4 := Lib.hid (fun W => putText_any c.val W (by omega))
        have CC := Lib.hid (fun W => common9_any lk c.key hll (by omega) W)
        have HEO : Hid (M.encOne lk c = M.putN (M.com lk c.key) ++ ((M.putN (c.key.drop (M.com lk c.key)).length ++ c.key.drop (M.com lk c.key)) ++ (M.putN q ++ (M.putN c.val.length ++ c.val)))) := Lib.hid (by rw [M.encOne, hq]; simp only [M.putT, List.append_assoc]; rfl)
        have hkl := hm2.2.1
        have hvl := hm2.2.2.2
        clear hq hok hmy hm2 hol
        generalize M.com lk c.key = n at *
        have hp1 : (M.putN n).length ≤ 10 := (M.putN_length n).2
        have hp2 : (M.putN (c.key.drop n).length ++ c.key.drop n).length ≤ 100 := by have := (M.putN_length (c.key.drop n).length).2; simp only [List.length_append, List.length_drop] at *; omega
        have hp3 : (M.putN q).length ≤ 10 := (M.putN_length q).2
        have hp4 : (M.putN c.val.length ++ c.val).length ≤ 200 := by have := (M.putN_length c.val.length).2; simp only [List.length_append] at *; omega
        generalize M.putN n = e1 at *
        generalize M.putN (c.key.drop n).length ++ c.key.drop n = e2 at *
        generalize M.putN q = e3 at *
        generalize M.putN c.val.length ++ c.val = e4 at *
        have hs0 := run_piece_from (P := Try.prog) 9 Try.underlying9 c.key (n : Int) n rfl hcl
        go_wp2_with fail
        have HGE := Lib.hid (show w1.heap.size < wr.heap.size from Nat.lt_of_lt_of_le HH.out.1.lt9 (Nat.le_refl _))
        have HX := Lib.hid (rowIn_new #[.string (S c.key), .int .i64 (q : Int), .string (S c.val)] 32 wr)
        replace HH := carryA (w := wr) (.cells #[.string (S c.key), .int .i64 (q : Int), .string (S c.val)] 32) HH
        with_reducible refine (CC.out _).mono ?_
        rintro e w5 ⟨rfl, hb5⟩
        replace HX := carry hb5 HX
        replace HH := carry hb5 HH
        clear hb5 x0 x1 x2
        go_wp2_with fail
        have y0 := HX.out.gcell 0 rfl
        have y1 := HX.out.gcell 1 rfl
        have y2 := HX.out.gcell 2 rfl
        refine wp_region_quiet_tail 16 (by kernel_rfl) (by kernel_rfl) ?_
        simp only [List.take_succ_cons, List.take_zero, List.drop_succ_cons, List.drop_zero]
        repeat (any_goals (first | go_big_quiet_step ((first | (go_at_call 26; with_reducible exact Calls.regrown_of (C1.out _)) | (go_at_call 28; with_reducible exact Calls.regrown_of (C2.out _)) | (go_at_call 26; with_reducible exact Calls.regrown_of (C3.out _)) | (go_at_call 28; with_reducible exact Calls.regrown_of (C4.out _)))) | quiet_step ((first | (go_at_call 26; with_reducible exact Calls.regrown_of (C1.out _)) | (go_at_call 28; with_reducible exact Calls.regrown_of (C2.out _)) | (go_at_call 26; with_reducible exact Calls.regrown_of (C3.out _)) | (go_at_call 28; with_reducible exact Calls.regrown_of (C4.out _))))))
        refine wpQuiet_nil ?_
        intro _ hw1
        obtain ⟨⟨d1, d1o⟩, hw1⟩ := hw1
        subst hw1
        replace HX := carry (below_regrown w5 d1 d1o) HX
        replace HH := carry (below_regrown w5 d1 d1o) HH
        clear y0 y1 y2
        generalize Sort.grow (redrawn w5 d1) d1o = w6 at *
        have hlt2 : ((e1 ++ (e2 ++ (e3 ++ e4))).length : Nat) ≤ 240 := by have := HOL.out; rw [HEO.out] at this; exact this
        go_wp2_with fail
        with_reducible refine (write_any w1.heap.size w1.heap.size (M.putN L.length ++ acc) (e1 ++ (e2 ++ (e3 ++ e4))) w6 HH.out.1 (by simp only [List.length_append] at *; omega) HH.out.2.2).mono ?_
        rintro e w7 ⟨rfl, h7, hb7, hk7⟩
        have HX7 := Lib.hid (hk7 _ _ _ (by decide) (by have := HGE.out; omega) HX.out)
        have HH7 := Lib.hid (show BdAt w1.heap.size w1.heap.size (M.putN L.length ++ (acc ++ (e1 ++ (e2 ++ (e3 ++ e4))))) w7 ∧ Below w.heap.size w w7 ∧ w1.heap.size ≤ w7.heap.size from ⟨by rw [← List.append_assoc]; exact h7, HH.out.2.1.trans (hb7.mono HWS.out), Nat.le_trans HH.out.2.2 hb7.size⟩)
        clear h7 hb7 hk7 HX HH hlt2
        have y0 : w7.cell? ⟨wr.heap.size, 0, none⟩ = some (.string (S c.key)) := HX7.out.cell 0
        go_wp2_with fail
        go_roundw
        case rel => exact ⟨k + 1, by omega, by go_num, by rw [HO.out], Lib.hid (by rw [HE.out, HEO.out]; exact HH7.out)⟩
        case measure => simp [intOf]; omega
      · obtain rfl : k = L.length := by omega
        have hd : decide ((L.length : Int) < (L.length : Int)) = false := by simp
        have HF := Lib.hid (show BdAt w1.heap.size w1.heap.size (M.encCs L) wr from by have := HH.out.1; rwa [List.take_length] at this)
        go_wp2_with fail
        with_reducible refine (bd_any HF.out HH.out.2.2).mono ?_
        rintro e w8 ⟨rfl, hb8⟩
        have HB8 := Lib.hid (HH.out.2.1.trans (hb8.mono HWS.out))
        clear hb8
        go_wp2_with fail
        go_ret2
        exact ⟨by rw [HS.out]; rfl, HB8.out⟩

end Go.Proofs.Ytppkecilbkgbdaa
