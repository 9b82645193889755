/- Layer 16: Encode: edits as bytes. -/
import Derived.Test.YtfcmjgcjmldpcaaEditsBb
namespace Go.Proofs.Ytfcmjgcjmldpcaa
set_option linter.unusedVariables false
set_option linter.unusedSimpArgs false
open Go Go.RowKit
attribute [local go_sem ↓] run_index_S
attribute [local go_sem] S_append S_extract

structure EncOk (r : Re) : Prop where
  fl : r.fs.length ≤ 1000
  kl : r.key.length ≤ 1000
  kind : r.kind ≤ 9223372036854775807
  at_ : r.at_ ≤ 9223372036854775807
  file : r.file ≤ 9223372036854775807
  fs : ∀ n ∈ r.fs, n ≤ 9223372036854775807
/-- An edit's bytes. -/
def Ed.pe (y : Ed.Ed) : List UInt8 := Ed.pns [y.kind, y.at_, y.file] ++ Ed.pl y.fs ++ Ed.pt y.key
def Ed.pes (l : List Ed.Ed) : List UInt8 := l.flatMap Ed.pe
def Ed.enc (l : List Ed.Ed) : List UInt8 := Ed.pn l.length ++ Ed.pes l
theorem Ed.pt_len (l : List UInt8) : (Ed.pt l).length ≤ l.length + 10 := by
  have h := (M.putN_length l.length).2
  simp only [Ed.pt, List.length_append]
  omega
theorem EncOk.pe_len {r : Re} (h : EncOk r) : (Ed.pe r.ed).length ≤ 12000 := by
  have h1 := Ed.pns_len [r.kind, r.at_, r.file]
  have h2 := Ed.pl_len r.fs
  have h3 := Ed.pt_len r.key
  have h4 := h.fl
  have h5 := h.kl
  simp only [Ed.pe, Re.ed, List.length_append, List.length_cons, List.length_nil] at *
  omega
theorem pes_len : ∀ (L : List Re), (∀ r ∈ L, EncOk r) → (Ed.pes (eds L)).length ≤ 12000 * L.length
  | [], _ => by simp [eds, Ed.pes]
  | r :: t, h => by
    have h1 := (h r (by simp)).pe_len
    have h2 := pes_len t (fun x hx => h x (by simp [hx]))
    simp only [eds, Ed.pes, List.map_cons, List.flatMap_cons, List.length_append, List.length_cons] at *
    omega
theorem Ed.pes_app (a b : List Ed.Ed) : Ed.pes (a ++ b) = Ed.pes a ++ Ed.pes b := by simp [Ed.pes]
theorem Ed.pes_one (y : Ed.Ed) : Ed.pes [y] = Ed.pe y := by simp [Ed.pes]
theorem nsAt_three {w : World} {q : Nat} {x y z : Int} (h : BkIn #[.int .i64 x, .int .i64 y, .int .i64 z] 3 w q) : NsAt w (some ⟨q, 0, none⟩) [x, y, z] := fun _ => ⟨q, 0, rfl, fun j hj => by
  have : j = 0 ∨ j = 1 ∨ j = 2 := by simp at hj; omega
  rcases this with rfl | rfl | rfl
  · exact h.cell 0
  · exact h.cell 1
  · exact h.cell 2⟩
theorem WrAt.lt {B b : Nat} {l : List UInt8} {w : World} (h : WrAt B b l w) : b < w.heap.size := by
  rcases h with ⟨_, v, k, _⟩ | ⟨_, v, k, _⟩ <;> exact BkIn.lt (w := w) k
set_option maxHeartbeats 8000000 in
set_option maxRecDepth 100000 in
theorem encode16_any (L : List Re) (hL : L.length ≤ 100000) (hI : ∀ r ∈ L, EncOk r) (ao : Option Addr) (cap : Nat) (w : World) (h : EdsAt w ao L) :
    Calls Try.prog 29 #[.slice ao L.length cap] w fun e w' => e = .returned (.string (S (Ed.enc (eds L)))) ∧ Below w.heap.size w w' := by
  have HA := Lib.hid h
  have HI := Lib.hid hI
  clear h hI
  have hb1 := (Below.refl w.heap.size w).alloc (Nat.le_refl _) (.cells #[.pointer none, .slice none 0 0] 71)
  have HW0 := Lib.hid (wr_new w)
  go_enter Try.func29, Try.ntmps29
  go_wp2_with fail
  have hb2 := ((Below.refl (w.heap.size + 1) (w.alloc (.cells #[.pointer none, .slice none 0 0] 71))).alloc (by simp) (.cells #[.int .i64 L.length] 3))
  have HX := Lib.hid (bkIn_new #[.int .i64 L.length] 3 (w.alloc (.cells #[.pointer none, .slice none 0 0] 71)))
  have hs1 : (w.alloc (.cells #[.pointer none, .slice none 0 0] 71)).heap.size = w.heap.size + 1 := by simp
  rw [hs1] at HX
  have HWK := Lib.hid (show WrK w.heap.size w.heap.size [] w (w.alloc (.cells #[.pointer none, .slice none 0 0] 71)) from ⟨HW0.out, hb1, KeptW.of_below hb1⟩)
  have HW1 := Lib.hid (HWK.out.below (by simp) (by rw [hs1]; exact hb2))
  clear hb1 hb2 HW0 HWK hs1
  generalize (w.alloc (.cells #[.pointer none, .slice none 0 0] 71)).alloc (.cells #[.int .i64 L.length] 3) = w1 at *
  have HNS := Lib.hid (show NsSt w.heap.size w.heap.size w1 (some ⟨w.heap.size + 1, 0, none⟩) [(L.length : Int)] from fun w' _ hk => nsAt_one (hk _ _ _ (by decide) (by omega) HX.out))
  with_reducible refine (numbers16_m _ _ [] [(L.length : Int)] 1 rfl (fun n hn => by rw [List.mem_singleton.1 hn]; omega) (by simp) _ _ w1 HW1.out.at_ HW1.out.bel.size HNS.out).mono ?_
  rintro e w2 ⟨rfl, hw2⟩
  have HW2 := Lib.hid (show WrK w.heap.size w.heap.size (Ed.pn (eds L).length ++ Ed.pes (eds (L.take 0))) w w2 from by
    have := HW1.out.step hw2
    rw [Ed.pns_one] at this
    simpa [eds, Ed.pes] using this)
  clear hw2 HW1 HX HNS
  go_wp2_with fail
  go_loopw [12] (fun i wr => ∃ (k : Nat), k ≤ L.length ∧ i = .int .i64 k ∧ Hid (WrK w.heap.size w.heap.size (Ed.pn (eds L).length ++ Ed.pes (eds (L.take k))) w wr)) (fun i _ => L.length - (intOf i).toNat)
  case atStart => exact ⟨0, Nat.zero_le _, rfl, HW2⟩
  case round =>
    obtain ⟨k, hk, rfl, HW⟩ := hrel
    clear HW2
    by_cases hlt : k < L.length
    · have hki : (k : Int) < (L.length : Int) := by omega
      obtain ⟨gl, oy0, rfl, hc⟩ := (HA.out.below HW.out.bel).off k hlt
      have HT := Lib.hid (eds_take_snoc hlt)
      have HO := Lib.hid (HI.out _ (Ed.gD_mem (d := re0) hlt))
      have HN := Lib.hid (show ∀ x, Below w.heap.size w x → NsAt x (L.getD k re0).o (L.getD k re0).fs from fun x hx => by
        obtain ⟨g', o', e, h⟩ := (HA.out.below hx).off k hlt
        exact h.2.2.2.2.2)
      have HLn := Lib.hid (show (Ed.pn (eds L).length ++ Ed.pes (eds (L.take k))).length ≤ 1200000100 from by
        have h1 := pes_len (L.take k) (fun r hr => HI.out r (List.mem_of_mem_take hr))
        have h2 := Ed.pn_len (eds L).length
        simp only [List.length_append, List.length_take] at *
        omega)
      have HB := Lib.hid (show w.heap.size < wr.heap.size from HW.out.at_.lt)
      generalize L.getD k re0 = y at *
      obtain ⟨lw, hlw⟩ : ∃ x, x = Ed.pn (eds L).length ++ Ed.pes (eds (L.take k)) := ⟨_, rfl⟩
      have HLW := Lib.hid hlw.symm
      rw [← hlw] at HW HLn
      clear hlw
      obtain ⟨kind, at_, file, fs, fo, fk, key⟩ := y
      obtain ⟨c0, c1, c2, c3, c4, _⟩ := hc
      simp only at c0 c1 c2 c3 c4
      go_wp2_with fail
      have hs1 : (wr.alloc (.cells #[.int .i64 kind, .int .i64 at_, .int .i64 file, .slice fo fs.length fk, .string (S key)] 27)).heap.size = wr.heap.size + 1 := by simp
      have hb1 := (Below.refl wr.heap.size wr).alloc (Nat.le_refl _) (.cells #[.int .i64 kind, .int .i64 at_, .int .i64 file, .slice fo fs.length fk, .string (S key)] 27)
      have hb2 := (Below.refl (wr.heap.size + 1) (wr.alloc (.cells #[.int .i64 kind, .int .i64 at_, .int .i64 file, .slice fo fs.length fk, .string (S key)] 27))).alloc (by simp) (.cells #[.int .i64 kind, .int .i64 at_, .int .i64 file] 3)
      have hb12 : Below wr.heap.size wr ((wr.alloc (.cells #[.int .i64 kind, .int .i64 at_, .int .i64 file, .slice fo fs.length fk, .string (S key)] 27)).alloc (.cells #[.int .i64 kind, .int .i64 at_, .int .i64 file] 3)) := hb1.trans (hb2.mono (by omega))
      have HE := Lib.hid (BkIn.below (bkIn_new #[.int .i64 kind, .int .i64 at_, .int .i64 file, .slice fo fs.length fk, .string (S key)] 27 wr) (by rw [hs1]; exact hb2))
      have HX := Lib.hid (bkIn_new #[.int .i64 kind, .int .i64 at_, .int .i64 file] 3 (wr.alloc (.cells #[.int .i64 kind, .int .i64 at_, .int .i64 file, .slice fo fs.length fk, .string (S key)] 27)))
      rw [hs1] at HX
      have HW1 := Lib.hid (HW.out.below (by have := HB.out; omega) hb12)
      clear hb1 hb2 hb12 hs1 c0 c1 c2 c3 c4 HW
      generalize (wr.alloc (.cells #[.int .i64 kind, .int .i64 at_, .int .i64 file, .slice fo fs.length fk, .string (S key)] 27)).alloc (.cells #[.int .i64 kind, .int .i64 at_, .int .i64 file] 3) = w3 at *
      have HNS := Lib.hid (show NsSt w.heap.size w.heap.size w3 (some ⟨wr.heap.size + 1, 0, none⟩) [kind, at_, file] from fun w' _ hk => nsAt_three (hk _ _ _ (by decide) (by have := HB.out; omega) HX.out))
      have HO3 := Lib.hid (show ∀ n ∈ [kind, at_, file], n ≤ 9223372036854775807 from fun n hn => by
        have h1 := HO.out.kind
        have h2 := HO.out.at_
        have h3 := HO.out.file
        simp at hn
        rcases hn with rfl | rfl | rfl <;> assumption)
      with_reducible refine (numbers16_m _ _ lw [kind, at_, file] 3 rfl HO3.out (by have := HLn.out; omega) _ _ w3 HW1.out.at_ HW1.out.bel.size HNS.out).mono ?_
      rintro e w4 ⟨rfl, hw4⟩
      have HW4 := Lib.hid (HW1.out.step hw4)
      have HE4 := Lib.hid (hw4.kept _ _ _ (by decide) (by have := HB.out; omega) HE.out)
      clear hw4 HX HNS HW1 HE
      have c3 : w4.cell? ⟨wr.heap.size, 3, none⟩ = some (.slice fo fs.length fk) := HE4.out.cell 3
      go_wp2_with fail
      have HNS := Lib.hid (show NsSt w.heap.size w.heap.size w4 fo fs from fun w' hb _ => HN.out w' (HW4.out.bel.trans hb))
      with_reducible refine (listW16_any _ _ (lw ++ Ed.pns [kind, at_, file]) fs HO.out.fs (by
        have h0 := HLn.out
        have h1 := Ed.pns_len [kind, at_, file]
        have h2 := HO.out.fl
        simp only [List.length_append, List.length_cons, List.length_nil] at *
        omega) fo fk w4 HW4.out.at_ HW4.out.bel.size HNS.out).mono ?_
      rintro e w5 ⟨rfl, hw5⟩
      have HW5 := Lib.hid (HW4.out.step hw5)
      have HE5 := Lib.hid (hw5.kept _ _ _ (by decide) (by have := HB.out; omega) HE4.out)
      clear hw5 HNS HW4 HE4 c3
      have c4 : w5.cell? ⟨wr.heap.size, 4, none⟩ = some (.string (S key)) := HE5.out.cell 4
      go_wp2_with fail
      with_reducible refine (textW16_any _ _ (lw ++ Ed.pns [kind, at_, file] ++ Ed.pl fs) key (by
        have h0 := HLn.out
        have h1 := Ed.pns_len [kind, at_, file]
        have h2 := HO.out.fl
        have h3 := Ed.pl_len fs
        have h4 := HO.out.kl
        simp only [List.length_append, List.length_cons, List.length_nil] at *
        omega) w5 HW5.out.at_ HW5.out.bel.size).mono ?_
      rintro e w6 ⟨rfl, hw6⟩
      have HW6 := Lib.hid (show WrK w.heap.size w.heap.size (Ed.pn (eds L).length ++ Ed.pes (eds (L.take (k + 1)))) w w6 from by
        have := HW5.out.step hw6
        rw [HT.out, Ed.pes_app, Ed.pes_one, ← List.append_assoc, HLW.out]
        simpa [Ed.pe, Re.ed, List.append_assoc] using this)
      clear hw6 HW5 HE5 c4 HO HO3 HN HT HLn HLW HB
      go_wp2_with fail
      go_roundw
      case rel => exact ⟨k + 1, by omega, by go_num, HW6⟩
      case measure => simp [intOf]; omega
    · obtain rfl : k = L.length := by omega
      have HWE := Lib.hid (show WrK w.heap.size w.heap.size (Ed.enc (eds L)) w wr from by have := HW.out; rw [List.take_length] at this; exact this)
      clear HW
      go_wp2_with fail
      with_reducible refine (stringW_any _ _ _ wr HWE.out.at_ HWE.out.bel.size).mono ?_
      rintro e w7 ⟨rfl, hb7⟩
      have HB7 := Lib.hid (hb7 _ HWE.out.bel)
      go_wp2_with fail
      go_ret
      exact ⟨rfl, HB7.out⟩

end Go.Proofs.Ytfcmjgcjmldpcaa
