/- Texts of lower layers, as one. -/
import Derived.Test.YtekmnpmeienhhaaZQ
import Derived.Test.YtekmnpmeienhhaaZT
import Derived.Test.YtekmnpmeienhhaaDiskE
/- Layer 13: the document's: which cursors may be, their bytes, by contracts. -/
namespace Go.Proofs.Ytekmnpmeienhhaa
set_option linter.unusedVariables false
open Go Go.RowKit Go.Maps
attribute [local go_sem ↓] run_index_S
attribute [local go_sem] S_append S_extract

set_option maxHeartbeats 400000 in
theorem refMay13_any (a b : Int) (w : World) : Calls Try.prog 79 #[.agg #[.int .i64 a, .int .i64 b]] w fun e w' => e = .returned (.bool (Cu.may ⟨a, b⟩)) ∧ Below w.heap.size w w' := by
  by_cases h1 : 0 ≤ a
  case neg =>
    rw [Cu.may_false (fun h => h1 h.1.1)]
    go_enter Try.func79, Try.ntmps79
    go_wp2_with fail
    go_ret
    exact ⟨rfl, (Below.refl _ _).alloc (Nat.le_refl _) _⟩
  by_cases h2 : a ≤ 2147483647
  case neg =>
    rw [Cu.may_false (fun h => h2 h.1.2)]
    go_enter Try.func79, Try.ntmps79
    go_wp2_with fail
    go_ret
    exact ⟨rfl, (Below.refl _ _).alloc (Nat.le_refl _) _⟩
  by_cases h3 : 0 ≤ b
  case neg =>
    rw [Cu.may_false (fun h => h3 h.2.1)]
    go_enter Try.func79, Try.ntmps79
    go_wp2_with fail
    go_ret
    exact ⟨rfl, (Below.refl _ _).alloc (Nat.le_refl _) _⟩
  by_cases h4 : b ≤ 2147483647
  case neg =>
    rw [Cu.may_false (fun h => h4 h.2.2)]
    go_enter Try.func79, Try.ntmps79
    go_wp2_with fail
    go_ret
    exact ⟨rfl, (Below.refl _ _).alloc (Nat.le_refl _) _⟩
  rw [Cu.may_iff.2 ⟨⟨h1, h2⟩, h3, h4⟩]
  go_enter Try.func79, Try.ntmps79
  go_wp2_with fail
  go_ret
  exact ⟨rfl, (Below.refl _ _).alloc (Nat.le_refl _) _⟩
set_option maxHeartbeats 1000000 in
theorem refEnc13_yes (n g : Nat) (hm : Cu.may ⟨n, g⟩ = true) (w : World) :
    Calls Try.prog 45 #[.agg #[.int .i64 n, .int .i64 g]] w fun e w' => e = .returned (.tuple #[.string (S (Cu.enc ⟨n, g⟩)), .int .i64 0]) ∧ Below w.heap.size w w' := by
  have hb := Cu.may_iff.1 hm
  dsimp only at hb
  have C0 := Lib.hid (fun W => by have := refMay13_any n g W; rw [hm] at this; exact this)
  have c1 := fun W => refPut_nat n W (by omega)
  have c2 := fun W => refPut_nat g W (by omega)
  have henc : Cu.enc ⟨n, g⟩ = 67 :: (M.putN n ++ M.putN g) := rfl
  have p1 := (M.putN_length n).2
  have p2 := (M.putN_length g).2
  generalize Cu.enc ⟨n, g⟩ = q at *
  generalize M.putN n = e1 at *
  generalize M.putN g = e2 at *
  have C1 := Lib.hid c1
  have C2 := Lib.hid c2
  have HQ := Lib.hid henc
  clear c1 c2 henc hm
  go_enter Try.func45, Try.ntmps45
  go_wp2_with fail
  with_reducible refine (C0.out _).mono ?_
  rintro e w1 ⟨rfl, hb1⟩
  have HR := Lib.hid ((bk_new #[.int .i64 n, .int .i64 g] 71 w).below hb1)
  have HB := Lib.hid (below_step ((Below.refl _ _).alloc (Nat.le_refl _) _) hb1)
  clear hb1
  go_wp2_with fail
  have g0 : ∀ d os, (Sort.grow (redrawn w1 d) os).cell? ⟨w.heap.size, 0, none⟩ = some (.int .i64 n) := fun d os => cell_regrown (HR.out.cell 0) d os
  have g1 : ∀ d os, (Sort.grow (redrawn w1 d) os).cell? ⟨w.heap.size, 1, none⟩ = some (.int .i64 g) := fun d os => cell_regrown (HR.out.cell 1) d os
  refine wp_region_quiet_below (by kernel_rfl) (by kernel_rfl) ?_
  repeat (go_big_quiet_step ((first | (go_at_call 80; with_reducible exact Calls.regrown_of (C1.out _)) | (go_at_call 80; with_reducible exact Calls.regrown_of (C2.out _)))))
  refine wpQuiet_nil ?_
  intro _ hw1
  obtain ⟨⟨d1, o1⟩, hw1⟩ := hw1
  subst hw1
  go_wp2_with fail
  go_ret2
  exact ⟨ret_se13 (by rw [HQ.out]), below_step HB.out (below_regrown _ d1 o1)⟩
theorem refEnc13_no (n g : Int) (hm : Cu.may ⟨n, g⟩ = false) (w : World) :
    Calls Try.prog 45 #[.agg #[.int .i64 n, .int .i64 g]] w fun e w' => e = .returned (.tuple #[.string ⟨#[]⟩, .int .i64 2]) ∧ Below w.heap.size w w' := by
  have C0 := Lib.hid (fun W => by have := refMay13_any n g W; rw [hm] at this; exact this)
  clear hm
  go_enter Try.func45, Try.ntmps45
  go_wp2_with fail
  with_reducible refine (C0.out _).mono ?_
  rintro e w1 ⟨rfl, hb1⟩
  go_wp2_with fail
  go_ret2
  exact ⟨rfl, below_step ((Below.refl _ _).alloc (Nat.le_refl _) _) hb1⟩
theorem refEnc13_any (c : Cu.C) (w : World) :
    Calls Try.prog 45 #[.agg #[.int .i64 c.next, .int .i64 c.gap]] w fun e w' => e = .returned (.tuple #[.string (S (Cu.encR c).2), .int .i64 (Cu.encR c).1]) ∧ Below w.heap.size w w' := by
  unfold Cu.encR
  cases hm : Cu.may c with
  | false => rw [if_neg (by simp)]; exact refEnc13_no _ _ hm w
  | true =>
    rw [if_pos rfl]
    obtain ⟨n, g, rfl⟩ := Cu.nat c hm
    exact refEnc13_yes n g hm w

end Go.Proofs.Ytekmnpmeienhhaa

/- Layer 5: which states may be, behind each act; the document's disk, some calls behind a point. -/
namespace Go.Proofs.Ytekmnpmeienhhaa
set_option linter.unusedVariables false
open Go Go.RowKit Go.Maps

namespace Dk
theorem append_ok {D : St} (h : Ok D) (nm s : List UInt8) : Ok (append nm s D).2 := by
  unfold append
  split
  · exact h
  · split
    · exact h
    · split
      · exact h
      · rename_i q1 q2 q3
        simp only [not_or, not_and, Bool.not_eq_false] at q2 q3
        refine struck_ok5 (put_ok5 (f := ⟨nm, (get nm D.L).dat ++ s, (get nm D.L).safe⟩) h q2 ?_ ?_ ?_)
        · have := get_safe h.l nm
          simp only [List.length_append]; omega
        · cases hh : has nm D.L with
          | true => exact .inl rfl
          | false => exact .inr (q3.1 hh)
        · simp only [List.length_append]; omega
theorem sync_ok {D : St} (h : Ok D) (nm : List UInt8) : Ok (sync nm D).2 := by
  unfold sync
  split
  · exact h
  · split
    · exact h
    · rename_i q1 q2
      have hs := struck_ok5 h
      dsimp only
      by_cases hc' : (struck D).1 = true
      case pos => rw [if_pos hc']; exact hs
      have hc : (struck D).1 = false := by simpa using hc'
      rw [if_neg hc']
      obtain ⟨hL, hR⟩ := struck_keep hc
      have hh : has nm D.L = true := by simpa using q2
      obtain ⟨hm, hn⟩ := get_mem hh
      have hnm := h.l.named _ hm
      rw [hn] at hnm
      have := put_ok5 (f := ⟨nm, (get nm D.L).dat, (get nm D.L).dat.length⟩) hs hnm (Nat.le_refl _) (.inl (by rw [hL]; exact hh)) (by
        have h1 := h.room
        rw [hL, hR]; simp only; omega)
      rw [hL] at this
      exact this
theorem remove_ok {D : St} (h : Ok D) (nm : List UInt8) : Ok (remove nm D).2 := by
  unfold remove
  split
  · exact h
  · split
    · exact h
    · have hs := struck_ok5 h
      dsimp only
      by_cases hc' : (struck D).1 = true
      case pos => rw [if_pos hc']; exact hs
      have hc : (struck D).1 = false := by simpa using hc'
      rw [if_neg hc']
      obtain ⟨hL, hR⟩ := struck_keep hc
      have := del_ok5 hs nm
      rw [hL] at this
      exact this
theorem rename_ok {D : St} (h : Ok D) (a b : List UInt8) : Ok (rename a b D).2 := by
  unfold rename
  split
  · exact h
  · split
    · exact h
    · split
      · exact h
      · rename_i q1 q2 q3
        have hs := struck_ok5 h
        dsimp only
        by_cases hc' : (struck D).1 = true
        case pos => rw [if_pos hc']; exact hs
        have hc : (struck D).1 = false := by simpa using hc'
        rw [if_neg hc']
        obtain ⟨hL, hR⟩ := struck_keep hc
        have hh : has a D.L = true := by simpa using q2
        have hb : named b = true := by simpa using q3
        unfold ren
        by_cases e : a = b
        · simp only [if_pos e]
          rw [← hL]
          exact hs
        · simp only [if_neg e]
          have hd := del_ok5 hs a
          rw [hL] at hd
          have h1 := len_del (nm := a) h.l.ne
          have h2 := size_del (nm := a) h.l.ne
          have h3 := h.few
          have h4 := h.room
          rw [hh] at h1
          simp only [if_true] at h1
          have := put_ok5 (f := ⟨b, (get a D.L).dat, (get a D.L).safe⟩) hd hb (get_safe h.l a) (.inr (by simp only; omega)) (by simp only; rw [hR]; omega)
          exact this
end Dk
/-- The document's disk, some calls behind a point. -/
def RD (B r : Nat) (c0 : Rc) (w0 : World) (D : Dk.St) (w : World) : Prop := ∃ c, RfIn B r c D w ∧ St5 r c0 w0 c w ∧ Dk.Ok D ∧ B ≤ w.heap.size
section
variable {B r : Nat} {c0 : Rc} {w0 w w' : World} {D : Dk.St}
theorem RD.begin_ {c : Rc} (h : RfIn B r c D w) (hO : Dk.Ok D) (hB : B ≤ w.heap.size) : RD B r c w D w := ⟨c, h, St5.refl _ _ _, hO, hB⟩
theorem RD.below (h : RD B r c0 w0 D w) (hb : Below w.heap.size w w') : RD B r c0 w0 D w' := by
  obtain ⟨c, h1, h2, h3, h4⟩ := h
  exact ⟨c, h1.below hb, h2.below hb, h3, Nat.le_trans h4 hb.size⟩
theorem RD.op {n : Int} {D' : Dk.St} {e : Ending} (h : RD B r c0 w0 D w) (hO : Dk.Ok D') (k : ∀ c, RfIn B r c D w → OpI B r c (.int .i64 n) D' w e w') : e = .returned (.int .i64 n) ∧ RD B r c0 w0 D' w' := by
  obtain ⟨c, h1, h2, h3, h4⟩ := h
  obtain ⟨q0, c2, q1, q2, q3⟩ := k c h1
  exact ⟨q0, c2, q1, h2.trans ⟨q2, q3⟩, hO, Nat.le_trans h4 q3.size⟩
theorem RD.app (h : RD B r c0 w0 D w) (nm s : List UInt8) (hl : nm.length ≤ 140737488351232) (hs : s.length ≤ 140737488351232) : Calls Try.prog 55 #[.pointer (some ⟨r, 0, none⟩), .string (S nm), .string (S s)] w fun e w' => e = .returned (.int .i64 (Dk.append nm s D).1) ∧ RD B r c0 w0 (Dk.append nm s D).2 w' := by
  have h' := h
  obtain ⟨c, h1, h2, h3, h4⟩ := h
  refine (rAppend5 h1 h4 nm s hl hs h3.most h3.n h3.k).mono fun e w' ho => ?_
  obtain ⟨q0, c2, q1, q2, q3⟩ := ho
  exact ⟨q0, c2, q1, h2.trans ⟨q2, q3⟩, Dk.append_ok h3 nm s, Nat.le_trans h4 q3.size⟩
theorem RD.syn (h : RD B r c0 w0 D w) (nm : List UInt8) : Calls Try.prog 58 #[.pointer (some ⟨r, 0, none⟩), .string (S nm)] w fun e w' => e = .returned (.int .i64 (Dk.sync nm D).1) ∧ RD B r c0 w0 (Dk.sync nm D).2 w' := by
  obtain ⟨c, h1, h2, h3, h4⟩ := h
  refine (rSync5 h1 nm h3.n h3.k).mono fun e w' ho => ?_
  obtain ⟨q0, c2, q1, q2, q3⟩ := ho
  exact ⟨q0, c2, q1, h2.trans ⟨q2, q3⟩, Dk.sync_ok h3 nm, Nat.le_trans h4 q3.size⟩
theorem RD.rem (h : RD B r c0 w0 D w) (nm : List UInt8) : Calls Try.prog 60 #[.pointer (some ⟨r, 0, none⟩), .string (S nm)] w fun e w' => e = .returned (.int .i64 (Dk.remove nm D).1) ∧ RD B r c0 w0 (Dk.remove nm D).2 w' := by
  obtain ⟨c, h1, h2, h3, h4⟩ := h
  refine (rRemove5 h1 h4 nm h3.n h3.k).mono fun e w' ho => ?_
  obtain ⟨q0, c2, q1, q2, q3⟩ := ho
  exact ⟨q0, c2, q1, h2.trans ⟨q2, q3⟩, Dk.remove_ok h3 nm, Nat.le_trans h4 q3.size⟩
theorem RD.ren (h : RD B r c0 w0 D w) (a b : List UInt8) (hl : b.length ≤ 140737488351232) : Calls Try.prog 59 #[.pointer (some ⟨r, 0, none⟩), .string (S a), .string (S b)] w fun e w' => e = .returned (.int .i64 (Dk.rename a b D).1) ∧ RD B r c0 w0 (Dk.rename a b D).2 w' := by
  obtain ⟨c, h1, h2, h3, h4⟩ := h
  refine (rRename5 h1 h4 a b hl h3.n h3.k).mono fun e w' ho => ?_
  obtain ⟨q0, c2, q1, q2, q3⟩ := ho
  exact ⟨q0, c2, q1, h2.trans ⟨q2, q3⟩, Dk.rename_ok h3 a b, Nat.le_trans h4 q3.size⟩
theorem RD.at_ (h : RD B r c0 w0 D w) (nm : List UInt8) : Calls Try.prog 62 #[.pointer (some ⟨r, 0, none⟩), .string (S nm)] w fun e w' => (if Dk.has nm D.L then ∃ k : Nat, e = .returned (.int .i64 k) else e = .returned (.int .i64 (-1))) ∧ w = w' := by
  obtain ⟨c, h1, h2, h3, h4⟩ := h
  refine (rAt5 h1 nm).mono fun e w' ho => ?_
  obtain ⟨q0 | ⟨k, hk, q1, q2⟩, rfl⟩ := ho
  · rw [q0.1, if_neg (by simp)]
    exact ⟨q0.2, rfl⟩
  · rw [Dk.has_iff.2 ⟨_, List.getElem_mem hk, q1⟩, if_pos rfl]
    exact ⟨⟨k, q2⟩, rfl⟩
end

end Go.Proofs.Ytekmnpmeienhhaa

/- Layer 13: the document's Decode, Save, Load, by contracts. -/
namespace Go.Proofs.Ytekmnpmeienhhaa
set_option linter.unusedVariables false
open Go Go.RowKit Go.Maps
attribute [local go_sem ↓] run_index_S
attribute [local go_sem] S_append S_extract

theorem Cu.dec_no0 {l : List UInt8} (h : l.head? ≠ some 67) : Cu.dec l = none := by
  unfold Cu.dec
  cases M.gets l 1 with
  | none => rfl
  | some p =>
    obtain ⟨n, k⟩ := p
    simp only
    cases M.gets l (k : Int) with
    | none => rfl
    | some q =>
      obtain ⟨g, e⟩ := q
      simp only
      rw [if_neg (fun q => h q.2.1)]
set_option maxHeartbeats 1000000 in
set_option maxRecDepth 100000 in
theorem refDec13_bad (l : List UInt8) (hl : l.length ≤ 140737488351232) (w : World) (h : l.head? ≠ some 67) :
    Calls Try.prog 47 #[.string (S l)] w fun e w' => e = Cu.decV (Cu.dec l) ∧ Below w.heap.size w w' := by
  have HF := Lib.hid (Cu.decV_none (Cu.dec_no0 h))
  have hi : (Try.prog.info? 71).map (·.size) = some 2 := by kernel_rfl
  have HI := Lib.hid hi
  clear hi
  cases l with
  | nil =>
    clear h
    go_enter Try.func47, Try.ntmps47
    go_wp2_with fail
    exact bodyPost_ret (v := .tuple #[.agg #[.int .i64 0, .int .i64 0], .int .i64 30]) (ret_cell2 (p := 2) (q := 3) (C := #[.int .i64 0, .int .i64 0]) Try.underlying71 HI.out rfl _ _ w.heap.size rfl (bk_new _ _ _)) rfl ⟨HF.out, (Below.refl _ _).alloc (Nat.le_refl _) _⟩
  | cons x r =>
    have hx : ¬ x = 67 := fun e => h (by rw [e]; rfl)
    have hB : B (x :: r) 0 = (x.toNat : Int) := by simp [B]
    have db : (B (x :: r) 0 != 67) = true := by
      rw [hB]
      have : ¬ ((x.toNat : Int) = 67) := fun e => hx (M.u8_ext (by have : ((67 : UInt8).toNat : Int) = 67 := rfl; omega))
      simpa using this
    have hi0 : (0 : Int) ≤ 0 := Int.le_refl 0
    clear h hx hB
    go_enter Try.func47, Try.ntmps47
    go_wp2_with fail
    exact bodyPost_ret (v := .tuple #[.agg #[.int .i64 0, .int .i64 0], .int .i64 30]) (ret_cell2 (p := 2) (q := 3) (C := #[.int .i64 0, .int .i64 0]) Try.underlying71 HI.out rfl _ _ w.heap.size rfl (bk_new _ _ _)) rfl ⟨HF.out, (Below.refl _ _).alloc (Nat.le_refl _) _⟩
set_option maxHeartbeats 2000000 in
set_option maxRecDepth 100000 in
theorem refDec13_C (r : List UInt8) (hl : (67 :: r).length ≤ 140737488351232) (w : World) :
    Calls Try.prog 47 #[.string (S (67 :: r))] w fun e w' => e = Cu.decV (Cu.dec (67 :: r)) ∧ Below w.heap.size w w' := by
  have C1 := Lib.hid (fun W => refGet_any (67 :: r) 1 W (by omega))
  have CG := Lib.hid (fun k W => refGet_any (67 :: r) k W (by omega))
  have CM := Lib.hid (fun a b W => refMay13_any a b W)
  have hi : (Try.prog.info? 71).map (·.size) = some 2 := by kernel_rfl
  have HI := Lib.hid hi
  have HN1 := Lib.hid (fun h => Cu.decV_none (Cu.dec_no1 (l := 67 :: r) h))
  have HN2 := Lib.hid (fun n k h h2 => Cu.decV_none (Cu.dec_no2 (l := 67 :: r) (n := n) (k := k) h h2))
  have HD := Lib.hid (fun n k g e h h2 => Cu.dec_eq (l := 67 :: r) (n := n) (k := k) (g := g) (e := e) h h2)
  have hB : B (67 :: r) 0 = 67 := by simp [B]
  have db : (B (67 :: r) 0 != 67) = false := by rw [hB]; rfl
  have HX0 := Lib.hid (bk_new #[.int .i64 0, .int .i64 0] 71 w)
  have HB0 := Lib.hid ((Below.refl w.heap.size w).alloc (Nat.le_refl _) (.cells #[.int .i64 0, .int .i64 0] 71))
  clear hi hB
  have HLEN := Lib.hid (show ((67 :: r).length : Int) = (r.length : Int) + 1 from by rw [List.length_cons]; omega)
  cases h1 : M.gets (67 :: r) 1 with
  | none =>
    have HF := Lib.hid (HN1.out h1)
    rw [h1] at C1
    clear HN1 HN2 HD h1
    go_enter Try.func47, Try.ntmps47
    go_wp2_with fail
    with_reducible refine (C1.out _).mono ?_
    rintro e w1 ⟨rfl, hb⟩
    replace HX0 := Lib.hid (HX0.out.below hb)
    replace HB0 := Lib.hid (below_step HB0.out hb)
    clear hb C1
    unfold tri
    go_wp2_with fail
    with_reducible refine (CG.out 0 _).mono ?_
    rintro e w2 ⟨rfl, hb⟩
    replace HX0 := Lib.hid ((HX0.out.below hb))
    replace HB0 := Lib.hid (below_step HB0.out hb)
    clear hb CG
    cases h2 : M.gets (67 :: r) 0 with
    | none =>
      unfold tri
      replace HX0 := Lib.hid (HX0.out.more (.cells #[.int .i64 0, .int .i64 0] 71))
      replace HB0 := Lib.hid (HB0.out.alloc HB0.out.size (.cells #[.int .i64 0, .int .i64 0] 71))
      go_wp2_with (refine wpList_store13 rfl 71 _ _ rfl w.heap.size #[.int .i64 0, .int .i64 0] rfl rfl 71 _ HX0.out HI.out rfl (by simp [Value.oneCell']) ?_; intro w5 h5 hw5; have HR5 := Lib.hid h5; have HW5 := Lib.hid hw5; clear h5 hw5)
      exact bodyPost_ret (v := .tuple #[.agg #[.int .i64 0, .int .i64 0], .int .i64 30]) (ret_cell2 (p := 2) (q := 3) (C := #[.int .i64 0, .int .i64 0]) Try.underlying71 HI.out rfl _ _ w.heap.size rfl HR5.out) rfl ⟨HF.out, HB0.out.trans (HW5.out.below (fun k hk => by omega) HB0.out.size)⟩
    | some q =>
      obtain ⟨g, e⟩ := q
      unfold tri
      replace HX0 := Lib.hid (HX0.out.more (.cells #[.int .i64 0, .int .i64 g] 71))
      replace HB0 := Lib.hid (HB0.out.alloc HB0.out.size (.cells #[.int .i64 0, .int .i64 g] 71))
      go_wp2_with (refine wpList_store13 rfl 71 _ _ rfl w.heap.size #[.int .i64 0, .int .i64 0] rfl rfl 71 _ HX0.out HI.out rfl (by simp [Value.oneCell']) ?_; intro w5 h5 hw5; have HR5 := Lib.hid h5; have HW5 := Lib.hid hw5; clear h5 hw5)
      exact bodyPost_ret (v := .tuple #[.agg #[.int .i64 0, .int .i64 0], .int .i64 30]) (ret_cell2 (p := 2) (q := 3) (C := #[.int .i64 0, .int .i64 0]) Try.underlying71 HI.out rfl _ _ w.heap.size rfl HR5.out) rfl ⟨HF.out, HB0.out.trans (HW5.out.below (fun k hk => by omega) HB0.out.size)⟩
  | some p =>
    obtain ⟨n, k⟩ := p
    rw [h1] at C1
    cases h2 : M.gets (67 :: r) (k : Int) with
    | none =>
      have HF := Lib.hid (HN2.out n k h1 h2)
      have CG2 := Lib.hid (fun W => CG.out (k : Int) W)
      rw [h2] at CG2
      clear HN1 HN2 HD h1 h2 CG
      go_enter Try.func47, Try.ntmps47
      go_wp2_with fail
      with_reducible refine (C1.out _).mono ?_
      rintro e w1 ⟨rfl, hb⟩
      replace HX0 := Lib.hid (HX0.out.below hb)
      replace HB0 := Lib.hid (below_step HB0.out hb)
      clear hb C1
      unfold tri
      go_wp2_with fail
      with_reducible refine (CG2.out _).mono ?_
      rintro e w2 ⟨rfl, hb⟩
      replace HX0 := Lib.hid ((HX0.out.below hb))
      replace HB0 := Lib.hid (below_step HB0.out hb)
      clear hb CG2
      unfold tri
      replace HX0 := Lib.hid (HX0.out.more (.cells #[.int .i64 n, .int .i64 0] 71))
      replace HB0 := Lib.hid (HB0.out.alloc HB0.out.size (.cells #[.int .i64 n, .int .i64 0] 71))
      go_wp2_with (refine wpList_store13 rfl 71 _ _ rfl w.heap.size #[.int .i64 0, .int .i64 0] rfl rfl 71 _ HX0.out HI.out rfl (by simp [Value.oneCell']) ?_; intro w5 h5 hw5; have HR5 := Lib.hid h5; have HW5 := Lib.hid hw5; clear h5 hw5)
      exact bodyPost_ret (v := .tuple #[.agg #[.int .i64 0, .int .i64 0], .int .i64 30]) (ret_cell2 (p := 2) (q := 3) (C := #[.int .i64 0, .int .i64 0]) Try.underlying71 HI.out rfl _ _ w.heap.size rfl HR5.out) rfl ⟨HF.out, HB0.out.trans (HW5.out.below (fun k hk => by omega) HB0.out.size)⟩
    | some q =>
      obtain ⟨g, e⟩ := q
      have CG2 := Lib.hid (fun W => CG.out (k : Int) W)
      rw [h2] at CG2
      have HE := Lib.hid (HD.out n k g e h1 h2)
      have CM2 := Lib.hid (fun W => CM.out n g W)
      clear HN1 HN2 HD h1 h2 CG CM
      by_cases he : (e : Int) = (r.length : Int) + 1
      case neg =>
        have HF := Lib.hid (Cu.decV_none (r := Cu.dec (67 :: r)) (by rw [HE.out, if_neg (fun q => he (by rw [q.1, List.length_cons]; omega))]))
        clear HE CM2
        go_enter Try.func47, Try.ntmps47
        go_wp2_with fail
        with_reducible refine (C1.out _).mono ?_
        rintro e w1 ⟨rfl, hb⟩
        replace HX0 := Lib.hid (HX0.out.below hb)
        replace HB0 := Lib.hid (below_step HB0.out hb)
        clear hb C1
        unfold tri
        go_wp2_with fail
        with_reducible refine (CG2.out _).mono ?_
        rintro e w2 ⟨rfl, hb⟩
        replace HX0 := Lib.hid ((HX0.out.below hb))
        replace HB0 := Lib.hid (below_step HB0.out hb)
        clear hb CG2
        unfold tri
        replace HX0 := Lib.hid (HX0.out.more (.cells #[.int .i64 n, .int .i64 g] 71))
        replace HB0 := Lib.hid (HB0.out.alloc HB0.out.size (.cells #[.int .i64 n, .int .i64 g] 71))
        go_wp2_with (refine wpList_store13 rfl 71 _ _ rfl w.heap.size #[.int .i64 0, .int .i64 0] rfl rfl 71 _ HX0.out HI.out rfl (by simp [Value.oneCell']) ?_; intro w5 h5 hw5; have HR5 := Lib.hid h5; have HW5 := Lib.hid hw5; clear h5 hw5)
        exact bodyPost_ret (v := .tuple #[.agg #[.int .i64 0, .int .i64 0], .int .i64 30]) (ret_cell2 (p := 2) (q := 3) (C := #[.int .i64 0, .int .i64 0]) Try.underlying71 HI.out rfl _ _ w.heap.size rfl HR5.out) rfl ⟨HF.out, HB0.out.trans (HW5.out.below (fun k hk => by omega) HB0.out.size)⟩
      have HE2 := Lib.hid (show Cu.dec (67 :: r) = if Cu.may ⟨n, g⟩ = true then some ⟨n, g⟩ else none from by
        rw [HE.out]
        by_cases hm : Cu.may ⟨n, g⟩ = true
        · rw [if_pos hm, if_pos ⟨by rw [List.length_cons]; omega, rfl, hm⟩]
        · rw [if_neg hm, if_neg (fun q => hm q.2.2)])
      have de : ((e : Int) != (r.length : Int) + 1) = false := by simpa using he
      clear HE
      go_enter Try.func47, Try.ntmps47
      go_wp2_with fail
      with_reducible refine (C1.out _).mono ?_
      rintro e w1 ⟨rfl, hb⟩
      replace HX0 := Lib.hid (HX0.out.below hb)
      replace HB0 := Lib.hid (below_step HB0.out hb)
      clear hb C1
      unfold tri
      go_wp2_with fail
      with_reducible refine (CG2.out _).mono ?_
      rintro e w2 ⟨rfl, hb⟩
      replace HX0 := Lib.hid ((HX0.out.below hb).more (.cells #[.int .i64 n, .int .i64 g] 71))
      replace HB0 := Lib.hid ((below_step HB0.out hb).alloc (below_step HB0.out hb).size (.cells #[.int .i64 n, .int .i64 g] 71))
      have HY := Lib.hid (bk_new #[.int .i64 n, .int .i64 g] 71 w2)
      clear hb CG2
      unfold tri
      go_wp2_with fail
      with_reducible refine (CM2.out _).mono ?_
      rintro e w3 ⟨rfl, hb⟩
      replace HX0 := Lib.hid (HX0.out.below hb)
      replace HB0 := Lib.hid (below_step HB0.out hb)
      replace HY := Lib.hid (HY.out.below hb)
      clear hb CM2
      cases hm : Cu.may ⟨n, g⟩ with
      | false =>
        have HF := Lib.hid (Cu.decV_none (r := Cu.dec (67 :: r)) (by rw [HE2.out, hm]; rfl))
        clear HE2 hm
        go_wp2_with (refine wpList_store13 rfl 71 _ _ rfl w.heap.size #[.int .i64 0, .int .i64 0] rfl rfl 71 _ HX0.out HI.out rfl (by simp [Value.oneCell']) ?_; intro w5 h5 hw5; have HR5 := Lib.hid h5; have HW5 := Lib.hid hw5; clear h5 hw5)
        exact bodyPost_ret (v := .tuple #[.agg #[.int .i64 0, .int .i64 0], .int .i64 30]) (ret_cell2 (p := 2) (q := 3) (C := #[.int .i64 0, .int .i64 0]) Try.underlying71 HI.out rfl _ _ w.heap.size rfl HR5.out) rfl ⟨HF.out, HB0.out.trans (HW5.out.below (fun k hk => by omega) HB0.out.size)⟩
      | true =>
        have HF := Lib.hid (Cu.decV_some (r := Cu.dec (67 :: r)) (c := ⟨n, g⟩) (by rw [HE2.out, hm]; rfl))
        clear HE2 hm
        go_wp2_with (first | (refine wpList_load_row rfl 71 _ rfl w2.heap.size rfl 71 _ (0, 0) _ HY.out Try.underlying71 rfl ?_ ?_; exact HI.out) | (refine wpList_store13 rfl 71 _ _ rfl w.heap.size #[.int .i64 n, .int .i64 g] rfl rfl 71 _ HX0.out HI.out rfl (by simp [Value.oneCell']) ?_; intro w5 h5 hw5; have HR5 := Lib.hid h5; have HW5 := Lib.hid hw5; clear h5 hw5))
        exact bodyPost_ret (v := .tuple #[.agg #[.int .i64 n, .int .i64 g], .int .i64 0]) (ret_cell2 (p := 2) (q := 3) (C := #[.int .i64 n, .int .i64 g]) Try.underlying71 HI.out rfl _ _ w.heap.size rfl HR5.out) rfl ⟨HF.out, HB0.out.trans (HW5.out.below (fun k hk => by omega) HB0.out.size)⟩
theorem refDec13_any (l : List UInt8) (hl : l.length ≤ 140737488351232) (w : World) :
    Calls Try.prog 47 #[.string (S l)] w fun e w' => e = Cu.decV (Cu.dec l) ∧ Below w.heap.size w w' := by
  by_cases h : l.head? = some 67
  · cases l with
    | nil => cases h
    | cons x r =>
      simp only [List.head?_cons, Option.some.injEq] at h
      subst h
      exact refDec13_C r hl w
  · exact refDec13_bad l hl w h

end Go.Proofs.Ytekmnpmeienhhaa

/- Layer 13: the document's Save, Load, by contracts. -/
namespace Go.Proofs.Ytekmnpmeienhhaa
set_option linter.unusedVariables false
open Go Go.RowKit Go.Maps

section
variable {B r : Nat} {c0 : Rc} {w0 w w' : World} {D : Dk.St}
theorem RD.read (h : RD B r c0 w0 D w) (nm : List UInt8) : Calls Try.prog 66 #[.pointer (some ⟨r, 0, none⟩), .string (S nm)] w fun e w' => e = .returned (.tuple #[.string (S (Dk.read nm D).2), .int .i64 (Dk.read nm D).1]) ∧ w = w' := by
  obtain ⟨c, h1, h2, h3, h4⟩ := h
  exact rRead5 h1 nm
theorem RD.ok (h : RD B r c0 w0 D w) : Dk.Ok D := by obtain ⟨c, h1, h2, h3, h4⟩ := h; exact h3
theorem RD.down (h : RD B r c0 w0 D w) : w.cell? ⟨r, 2, none⟩ = some (.bool (!D.up)) := by obtain ⟨c, h1, h2, h3, h4⟩ := h; exact h1.box.cell 2
set_option maxRecDepth 100000 in
set_option maxHeartbeats 1000000 in
theorem refLoad13_any (h : RD B r c0 w0 D w) : Calls Try.prog 51 #[.pointer (some ⟨r, 0, none⟩)] w fun e w' => e = loadV13 (Cu.load D) ∧ Below w.heap.size w w' := by
  have hb := (Below.refl w.heap.size w).alloc (Nat.le_refl _) (.cells #[.int .i64 0, .int .i64 0] 71)
  have CR := Lib.hid (show Calls Try.prog 66 #[.pointer (some ⟨r, 0, none⟩), .string { data := #[99, 117, 114, 115, 111, 114] }] (w.alloc (.cells #[.int .i64 0, .int .i64 0] 71)) fun e w' => e = .returned (.tuple #[.string (S (Dk.read Cu.nC D).2), .int .i64 (Dk.read Cu.nC D).1]) ∧ (w.alloc (.cells #[.int .i64 0, .int .i64 0] 71)) = w' from (h.below hb).read Cu.nC)
  have hi : (Try.prog.info? 71).map (·.size) = some 2 := by kernel_rfl
  have HI := Lib.hid hi
  have HB := Lib.hid hb
  have hbox := bk_new #[.int .i64 0, .int .i64 0] 71 w
  have HX := Lib.hid hbox
  have hsz := Dk.get_size h.ok.l Cu.nC
  have hrm := h.ok.room
  have hmo := h.ok.most
  have HLE := Lib.hid (show (Dk.get Cu.nC D.L).dat.length ≤ 140737488351232 from by omega)
  clear h hi hb hbox hsz hrm hmo
  by_cases hu : D.up = false
  · have e1 : Dk.read Cu.nC D = (51, []) := by unfold Dk.read; rw [if_pos hu]
    have HF := Lib.hid (show loadV13 (51, Cu.c0) = loadV13 (Cu.load D) from by unfold Cu.load; rw [if_pos hu])
    rw [e1] at CR
    clear e1 hu HLE
    go_enter Try.func51, Try.ntmps51
    go_wp2_with fail
    with_reducible refine CR.out.mono ?_
    rintro e w1 ⟨rfl, rfl⟩
    clear CR
    go_wp2_with (refine wpList_store13 rfl 71 _ _ rfl w.heap.size #[.int .i64 0, .int .i64 0] rfl rfl 71 _ HX.out HI.out rfl (by simp [Value.oneCell']) ?_; intro w5 h5 hw5; have HR5 := Lib.hid h5; have HW5 := Lib.hid hw5; clear h5 hw5)
    exact bodyPost_ret (v := .tuple #[.agg #[.int .i64 0, .int .i64 0], .int .i64 51]) (ret_cell2 (p := 2) (q := 3) (C := #[.int .i64 0, .int .i64 0]) Try.underlying71 HI.out rfl _ _ w.heap.size rfl HR5.out) rfl ⟨HF.out, HB.out.trans (HW5.out.below (fun k hk => by omega) HB.out.size)⟩
  by_cases hh : Dk.has Cu.nC D.L = false
  · have e1 : Dk.read Cu.nC D = (4, []) := by unfold Dk.read; rw [if_neg hu, if_pos hh]
    have HF := Lib.hid (show loadV13 (0, Cu.c0) = loadV13 (Cu.load D) from by unfold Cu.load; rw [if_neg hu, if_pos hh])
    rw [e1] at CR
    clear e1 hu hh HLE
    go_enter Try.func51, Try.ntmps51
    go_wp2_with fail
    with_reducible refine CR.out.mono ?_
    rintro e w1 ⟨rfl, rfl⟩
    clear CR
    go_wp2_with (refine wpList_store13 rfl 71 _ _ rfl w.heap.size #[.int .i64 0, .int .i64 0] rfl rfl 71 _ HX.out HI.out rfl (by simp [Value.oneCell']) ?_; intro w5 h5 hw5; have HR5 := Lib.hid h5; have HW5 := Lib.hid hw5; clear h5 hw5)
    exact bodyPost_ret (v := .tuple #[.agg #[.int .i64 0, .int .i64 0], .int .i64 0]) (ret_cell2 (p := 2) (q := 3) (C := #[.int .i64 0, .int .i64 0]) Try.underlying71 HI.out rfl _ _ w.heap.size rfl HR5.out) rfl ⟨HF.out, HB.out.trans (HW5.out.below (fun k hk => by omega) HB.out.size)⟩
  have e1 : Dk.read Cu.nC D = (0, (Dk.get Cu.nC D.L).dat) := by unfold Dk.read; rw [if_neg hu, if_neg hh]
  have HF := Lib.hid (show Cu.load D = match Cu.dec (Dk.get Cu.nC D.L).dat with | none => (60, Cu.c0) | some c => (0, c) from by unfold Cu.load; rw [if_neg hu, if_neg hh] <;> rfl)
  rw [e1] at CR
  clear e1 hu hh
  have CD := Lib.hid (fun W => refDec13_any (Dk.get Cu.nC D.L).dat HLE.out W)
  generalize (Dk.get Cu.nC D.L).dat = t at *
  obtain ⟨w1, hw1⟩ : ∃ x, x = w.alloc (.cells #[.int .i64 0, .int .i64 0] 71) := ⟨_, rfl⟩
  rw [← hw1] at HX HB CR
  have HW1 := Lib.hid hw1
  clear hw1
  cases hd : Cu.dec t with
  | none =>
    rw [hd] at CD HF
    have HF2 := Lib.hid (show loadV13 (60, Cu.c0) = loadV13 (Cu.load D) from by rw [HF.out])
    clear HF hd
    go_enter Try.func51, Try.ntmps51
    go_wp2_with fail
    rw [← HW1.out]
    with_reducible refine CR.out.mono ?_
    rintro e w1 ⟨rfl, rfl⟩
    clear CR
    go_wp2_with fail
    with_reducible refine (CD.out _).mono ?_
    rintro e w2 ⟨rfl, hb1⟩
    replace HX := Lib.hid (HX.out.below hb1)
    replace HB := Lib.hid (below_step HB.out hb1)
    clear hb1 CD
    unfold Cu.decV cuC
    simp only [Option.getD, if_true, Cu.c0]
    replace HX := Lib.hid (HX.out.more (.cells #[.int .i64 0, .int .i64 0] 71))
    replace HB := Lib.hid (HB.out.alloc HB.out.size (.cells #[.int .i64 0, .int .i64 0] 71))
    go_wp2_with (refine wpList_store13 rfl 71 _ _ rfl w.heap.size #[.int .i64 0, .int .i64 0] rfl rfl 71 _ HX.out HI.out rfl (by simp [Value.oneCell']) ?_; intro w5 h5 hw5; have HR5 := Lib.hid h5; have HW5 := Lib.hid hw5; clear h5 hw5)
    exact bodyPost_ret (v := .tuple #[.agg #[.int .i64 0, .int .i64 0], .int .i64 60]) (ret_cell2 (p := 2) (q := 3) (C := #[.int .i64 0, .int .i64 0]) Try.underlying71 HI.out rfl _ _ w.heap.size rfl HR5.out) rfl ⟨HF2.out, HB.out.trans (HW5.out.below (fun k hk => by omega) HB.out.size)⟩
  | some c =>
    rw [hd] at CD HF
    have HF2 := Lib.hid (show loadV13 (0, c) = loadV13 (Cu.load D) from by rw [HF.out])
    clear HF hd
    go_enter Try.func51, Try.ntmps51
    go_wp2_with fail
    rw [← HW1.out]
    with_reducible refine CR.out.mono ?_
    rintro e w1 ⟨rfl, rfl⟩
    clear CR
    go_wp2_with fail
    with_reducible refine (CD.out _).mono ?_
    rintro e w2 ⟨rfl, hb1⟩
    replace HX := Lib.hid (HX.out.below hb1)
    replace HB := Lib.hid (below_step HB.out hb1)
    clear hb1 CD
    obtain ⟨a, b⟩ := c
    unfold Cu.decV cuC
    simp only [Option.getD, reduceCtorEq, if_false]
    replace HX := Lib.hid (HX.out.more (.cells #[.int .i64 a, .int .i64 b] 71))
    have HY := Lib.hid (bk_new #[.int .i64 a, .int .i64 b] 71 w2)
    replace HB := Lib.hid (HB.out.alloc HB.out.size (.cells #[.int .i64 a, .int .i64 b] 71))
    go_wp2_with (first | (refine wpList_load_row rfl 71 _ rfl w2.heap.size rfl 71 _ (0, 0) _ HY.out Try.underlying71 rfl ?_ ?_; exact HI.out) | (refine wpList_store13 rfl 71 _ _ rfl w.heap.size #[.int .i64 a, .int .i64 b] rfl rfl 71 _ HX.out HI.out rfl (by simp [Value.oneCell']) ?_; intro w5 h5 hw5; have HR5 := Lib.hid h5; have HW5 := Lib.hid hw5; clear h5 hw5))
    exact bodyPost_ret (v := .tuple #[.agg #[.int .i64 a, .int .i64 b], .int .i64 0]) (ret_cell2 (p := 2) (q := 3) (C := #[.int .i64 a, .int .i64 b]) Try.underlying71 HI.out rfl _ _ w.heap.size rfl HR5.out) rfl ⟨HF2.out, HB.out.trans (HW5.out.below (fun k hk => by omega) HB.out.size)⟩
set_option maxRecDepth 100000 in
set_option maxHeartbeats 2000000 in
theorem refSave13_up (h : RD B r c0 w0 D w) (a b : Int) (hu : D.up = true) (hm : Cu.may ⟨a, b⟩ = true) :
    Calls Try.prog 57 #[.pointer (some ⟨r, 0, none⟩), .agg #[.int .i64 a, .int .i64 b]] w fun e w' => e = .returned (.int .i64 (Cu.save ⟨a, b⟩ D).1) ∧ RD B r c0 w0 (Cu.save ⟨a, b⟩ D).2 w' := by
  have hb := (Below.refl w.heap.size w).alloc (Nat.le_refl _) (.cells #[.int .i64 a, .int .i64 b] 71)
  have CE := Lib.hid (fun W => refEnc13_any ⟨a, b⟩ W)
  have HD := Lib.hid (h.below hb)
  have hbox := bk_new #[.int .i64 a, .int .i64 b] 71 w
  have HX := Lib.hid hbox
  have hi : (Try.prog.info? 71).map (·.size) = some 2 := by kernel_rfl
  have HI := Lib.hid hi
  have hud := (h.below hb).down
  rw [hu] at hud
  have c2 : (w.alloc (.cells #[.int .i64 a, .int .i64 b] 71)).cell? ⟨r, 2, none⟩ = some (.bool false) := hud
  unfold Cu.encR at CE
  rw [hm] at CE
  simp only [if_true] at CE
  have HS := Lib.hid (show Cu.save ⟨a, b⟩ D = Dk.next_ (Dk.clear Cu.nD D) (Dk.lay Cu.nD Cu.nC (Cu.enc ⟨a, b⟩)) from by unfold Cu.save; rw [if_neg (by rw [hu]; simp), if_neg (by rw [hm]; simp)]; rfl)
  have HEL := Lib.hid (show (Cu.enc ⟨a, b⟩).length ≤ 140737488351232 from by have := Cu.enc_len hm; omega)
  have HCL := Lib.hid (show Dk.clear Cu.nD D = if Dk.has Cu.nD D.L then Dk.remove Cu.nD D else (0, D) from rfl)
  clear h hb hbox hi hud hm hu
  generalize Cu.enc ⟨a, b⟩ = t at *
  generalize Cu.save ⟨a, b⟩ D = sv at *
  go_enter Try.func57, Try.ntmps57
  go_wp2_with (refine wpList_load_row rfl 71 _ rfl w.heap.size rfl 71 _ (0, 0) _ HX.out Try.underlying71 rfl ?_ ?_; exact HI.out)
  with_reducible refine (CE.out _).mono ?_
  rintro e w1 ⟨rfl, hb1⟩
  replace HD := Lib.hid (HD.out.below hb1)
  clear hb1 CE c2 HX HI
  have CA := Lib.hid (show Calls Try.prog 62 #[.pointer (some ⟨r, 0, none⟩), .string { data := #[99, 117, 114, 115, 111, 114, 43] }] w1 fun e w' => (if Dk.has Cu.nD D.L then ∃ k : Nat, e = .returned (.int .i64 k) else e = .returned (.int .i64 (-1))) ∧ w1 = w' from HD.out.at_ Cu.nD)
  -- what follows behind the draft's removal
  have key : ∀ (D1 : Dk.St) (w2 : World), RD B r c0 w0 D1 w2 → sv = Dk.lay Cu.nD Cu.nC t D1 →
      ∃ (CAp : Calls Try.prog 55 #[.pointer (some ⟨r, 0, none⟩), .string { data := #[99, 117, 114, 115, 111, 114, 43] }, .string (S t)] w2 fun e w' => ∃ v, e = .returned (.int .i64 v) ∧ ((v ≠ 0 ∧ sv.1 = v ∧ RD B r c0 w0 sv.2 w') ∨ (v = 0 ∧
        Calls Try.prog 58 #[.pointer (some ⟨r, 0, none⟩), .string { data := #[99, 117, 114, 115, 111, 114, 43] }] w' fun e w' => ∃ v, e = .returned (.int .i64 v) ∧ ((v ≠ 0 ∧ sv.1 = v ∧ RD B r c0 w0 sv.2 w') ∨ (v = 0 ∧
          Calls Try.prog 59 #[.pointer (some ⟨r, 0, none⟩), .string { data := #[99, 117, 114, 115, 111, 114, 43] }, .string { data := #[99, 117, 114, 115, 111, 114] }] w' fun e w' => e = .returned (.int .i64 sv.1) ∧ RD B r c0 w0 sv.2 w'))))), True := by
    intro D1 w2 hD1 hsv
    refine ⟨?_, trivial⟩
    refine (hD1.app Cu.nD t (by simp) HEL.out).mono ?_
    rintro e w3 ⟨rfl, hD2⟩
    refine ⟨_, rfl, ?_⟩
    have e0 : sv = Dk.next_ (Dk.append Cu.nD t D1) (Dk.run [Dk.sync Cu.nD, Dk.rename Cu.nD Cu.nC]) := hsv
    by_cases hv : (Dk.append Cu.nD t D1).1 = 0
    · refine .inr ⟨hv, ?_⟩
      rw [Dk.next_ok hv] at e0
      refine (hD2.syn Cu.nD).mono ?_
      rintro e w4 ⟨rfl, hD3⟩
      refine ⟨_, rfl, ?_⟩
      have e1 : sv = Dk.next_ (Dk.sync Cu.nD (Dk.append Cu.nD t D1).2) (Dk.run [Dk.rename Cu.nD Cu.nC]) := e0
      by_cases hv2 : (Dk.sync Cu.nD (Dk.append Cu.nD t D1).2).1 = 0
      · refine .inr ⟨hv2, ?_⟩
        rw [Dk.next_ok hv2] at e1
        have e2 : sv = Dk.rename Cu.nD Cu.nC (Dk.sync Cu.nD (Dk.append Cu.nD t D1).2).2 := by
          rw [e1]
          exact Dk.run_snoc [] _ _
        rw [e2]
        exact hD3.ren Cu.nD Cu.nC (by simp)
      · rw [Dk.next_no hv2] at e1
        exact .inl ⟨hv2, by rw [e1], by rw [e1]; exact hD3⟩
    · rw [Dk.next_no hv] at e0
      exact .inl ⟨hv, by rw [e0], by rw [e0]; exact hD2⟩
  have KEY := Lib.hid key
  clear key
  cases hh : Dk.has Cu.nD D.L with
  | false =>
    rw [hh] at CA HCL
    simp only [Bool.false_eq_true, if_false] at CA HCL
    obtain ⟨CAp, -⟩ := KEY.out D w1 HD.out (by rw [HS.out, HCL.out]; rfl)
    have CAP := Lib.hid CAp
    clear CAp KEY HS HCL hh HD
    go_wp2_with fail
    with_reducible refine CA.out.mono ?_
    rintro e w2 ⟨rfl, rfl⟩
    clear CA
    go_wp2_with fail
    with_reducible refine CAP.out.mono ?_
    rintro e w2 ⟨v, rfl, ⟨hv, hsv, hR⟩ | ⟨rfl, CS⟩⟩
    · have HF := Lib.hid (And.intro hsv hR)
      have dv : (v == 0) = false := by simpa using hv
      clear hsv hR hv CAP
      go_wp2_with fail
      go_ret
      exact ⟨by rw [HF.out.1]; rfl, HF.out.2⟩
    · have CSY := Lib.hid CS
      clear CS CAP
      go_wp2_with fail
      with_reducible refine CSY.out.mono ?_
      rintro e w3 ⟨v, rfl, ⟨hv, hsv, hR⟩ | ⟨rfl, CS⟩⟩
      · have HF := Lib.hid (And.intro hsv hR)
        have dv : (v == 0) = false := by simpa using hv
        clear hsv hR hv CSY
        go_wp2_with fail
        go_ret
        exact ⟨by rw [HF.out.1]; rfl, HF.out.2⟩
      · have CRN := Lib.hid CS
        clear CS CSY
        go_wp2_with fail
        with_reducible refine CRN.out.mono ?_
        rintro e w4 ⟨rfl, hR⟩
        have HF := Lib.hid hR
        clear hR CRN
        go_wp2_with fail
        go_ret
        exact ⟨rfl, HF.out⟩
  | true =>
    rw [hh] at CA HCL
    simp only [if_true] at CA HCL
    have CRM := Lib.hid (show Calls Try.prog 60 #[.pointer (some ⟨r, 0, none⟩), .string { data := #[99, 117, 114, 115, 111, 114, 43] }] w1 fun e w' => e = .returned (.int .i64 (Dk.remove Cu.nD D).1) ∧ RD B r c0 w0 (Dk.remove Cu.nD D).2 w' from HD.out.rem Cu.nD)
    go_wp2_with fail
    with_reducible refine CA.out.mono ?_
    rintro e w2 ⟨⟨k, rfl⟩, rfl⟩
    clear CA
    go_wp2_with fail
    with_reducible refine CRM.out.mono ?_
    rintro e w2 ⟨rfl, hD1⟩
    by_cases hv : (Dk.remove Cu.nD D).1 = 0
    case neg =>
      have HF := Lib.hid (show sv = Dk.remove Cu.nD D from by rw [HS.out, HCL.out, Dk.next_no hv])
      have HR := Lib.hid hD1
      clear HS HCL KEY CRM HD hD1
      have dv : ((Dk.remove Cu.nD D).1 == 0) = false := by simpa using hv
      clear hv
      generalize Dk.remove Cu.nD D = q at *
      obtain ⟨v, D9⟩ := q
      simp only at dv HR ⊢
      go_wp2_with fail
      go_ret
      rw [HF.out]
      exact ⟨rfl, HR.out⟩
    obtain ⟨CAp, -⟩ := KEY.out _ w2 hD1 (by rw [HS.out, HCL.out, Dk.next_ok hv])
    have CAP := Lib.hid CAp
    rw [hv]
    clear CAp KEY HS HCL hh HD hD1 hv CRM
    go_wp2_with fail
    with_reducible refine CAP.out.mono ?_
    rintro e w2 ⟨v, rfl, ⟨hv, hsv, hR⟩ | ⟨rfl, CS⟩⟩
    · have HF := Lib.hid (And.intro hsv hR)
      have dv : (v == 0) = false := by simpa using hv
      clear hsv hR hv CAP
      go_wp2_with fail
      go_ret
      exact ⟨by rw [HF.out.1]; rfl, HF.out.2⟩
    · have CSY := Lib.hid CS
      clear CS CAP
      go_wp2_with fail
      with_reducible refine CSY.out.mono ?_
      rintro e w3 ⟨v, rfl, ⟨hv, hsv, hR⟩ | ⟨rfl, CS⟩⟩
      · have HF := Lib.hid (And.intro hsv hR)
        have dv : (v == 0) = false := by simpa using hv
        clear hsv hR hv CSY
        go_wp2_with fail
        go_ret
        exact ⟨by rw [HF.out.1]; rfl, HF.out.2⟩
      · have CRN := Lib.hid CS
        clear CS CSY
        go_wp2_with fail
        with_reducible refine CRN.out.mono ?_
        rintro e w4 ⟨rfl, hR⟩
        have HF := Lib.hid hR
        clear hR CRN
        go_wp2_with fail
        go_ret
        exact ⟨rfl, HF.out⟩
end

end Go.Proofs.Ytekmnpmeienhhaa

/- Layer 13: the document's Save, all ways; both disks side by side. -/
namespace Go.Proofs.Ytekmnpmeienhhaa
set_option linter.unusedVariables false
open Go Go.RowKit Go.Maps

section
variable {B r : Nat} {c0 : Rc} {w0 w w' : World} {D : Dk.St}
set_option maxRecDepth 100000 in
set_option maxHeartbeats 1000000 in
theorem refSave13_down (h : RD B r c0 w0 D w) (a b : Int) (hu : D.up = false) :
    Calls Try.prog 57 #[.pointer (some ⟨r, 0, none⟩), .agg #[.int .i64 a, .int .i64 b]] w fun e w' => e = .returned (.int .i64 (Cu.save ⟨a, b⟩ D).1) ∧ RD B r c0 w0 (Cu.save ⟨a, b⟩ D).2 w' := by
  have hb := (Below.refl w.heap.size w).alloc (Nat.le_refl _) (.cells #[.int .i64 a, .int .i64 b] 71)
  have HS := Lib.hid (show Cu.save ⟨a, b⟩ D = (51, D) from by unfold Cu.save; rw [if_pos hu])
  have HD := Lib.hid (h.below hb)
  have hud := (h.below hb).down
  rw [hu] at hud
  have c2 : (w.alloc (.cells #[.int .i64 a, .int .i64 b] 71)).cell? ⟨r, 2, none⟩ = some (.bool true) := hud
  clear h hb hud hu
  go_enter Try.func57, Try.ntmps57
  go_wp2_with fail
  go_ret
  rw [HS.out]
  exact ⟨rfl, HD.out⟩
set_option maxRecDepth 100000 in
set_option maxHeartbeats 1000000 in
theorem refSave13_bad (h : RD B r c0 w0 D w) (a b : Int) (hu : D.up = true) (hm : Cu.may ⟨a, b⟩ = false) :
    Calls Try.prog 57 #[.pointer (some ⟨r, 0, none⟩), .agg #[.int .i64 a, .int .i64 b]] w fun e w' => e = .returned (.int .i64 (Cu.save ⟨a, b⟩ D).1) ∧ RD B r c0 w0 (Cu.save ⟨a, b⟩ D).2 w' := by
  have hb := (Below.refl w.heap.size w).alloc (Nat.le_refl _) (.cells #[.int .i64 a, .int .i64 b] 71)
  have CE := Lib.hid (fun W => refEnc13_any ⟨a, b⟩ W)
  have HS := Lib.hid (show Cu.save ⟨a, b⟩ D = (2, D) from by unfold Cu.save; rw [if_neg (by rw [hu]; simp), if_pos hm])
  have HD := Lib.hid (h.below hb)
  have HX := Lib.hid (bk_new #[.int .i64 a, .int .i64 b] 71 w)
  have hi : (Try.prog.info? 71).map (·.size) = some 2 := by kernel_rfl
  have HI := Lib.hid hi
  have hud := (h.below hb).down
  rw [hu] at hud
  have c2 : (w.alloc (.cells #[.int .i64 a, .int .i64 b] 71)).cell? ⟨r, 2, none⟩ = some (.bool false) := hud
  unfold Cu.encR at CE
  rw [hm] at CE
  simp only [Bool.false_eq_true, if_false] at CE
  clear h hb hud hu hm hi
  go_enter Try.func57, Try.ntmps57
  go_wp2_with (refine wpList_load_row rfl 71 _ rfl w.heap.size rfl 71 _ (0, 0) _ HX.out Try.underlying71 rfl ?_ ?_; exact HI.out)
  with_reducible refine (CE.out _).mono ?_
  rintro e w1 ⟨rfl, hb1⟩
  replace HD := Lib.hid (HD.out.below hb1)
  clear hb1 CE c2 HX HI
  go_wp2_with fail
  go_ret
  rw [HS.out]
  exact ⟨rfl, HD.out⟩
theorem refSave13_any (h : RD B r c0 w0 D w) (c : Cu.C) :
    Calls Try.prog 57 #[.pointer (some ⟨r, 0, none⟩), .agg #[.int .i64 c.next, .int .i64 c.gap]] w fun e w' => e = .returned (.int .i64 (Cu.save c D).1) ∧ RD B r c0 w0 (Cu.save c D).2 w' := by
  obtain ⟨a, b⟩ := c
  cases hu : D.up with
  | false => exact refSave13_down h a b hu
  | true =>
    cases hm : Cu.may ⟨a, b⟩ with
    | false => exact refSave13_bad h a b hu hm
    | true => exact refSave13_up h a b hu hm
end
section
variable {P P' : Nat → Prop} {B a r : Nat} {D Dr : Dk.St} {w w' : World}
theorem Pl5.liftA {f : Nat} {args : Array Value} {q : Int × Dk.St} (h : Pl5 P B a r D Dr w) (k : ∀ X : Nat → Prop, DkX X B a D w → (∀ k, X k → k < w.heap.size) → (∀ k, P k → X k) → B ≤ w.heap.size → Calls Try.prog f args w (OpX X B a q w)) :
    Calls Try.prog f args w fun e w' => e = .returned (.int .i64 q.1) ∧ Pl5 P B a r q.2 Dr w' ∧ Wr (fun k => B ≤ k ∧ ¬ P k) w w' := by
  obtain ⟨F, c, h1, h2, h3, h4, h5, h6, h7⟩ := h
  have hX : DkX (fun k => Fr r c k ∨ P k) B a D w := ⟨F, h1, fun k hk hx => hx.elim (fun q => (h4 k q).1 hk) (fun q => h5 k q hk)⟩
  refine (k _ hX (fun k hk => hk.elim (fun q => (h2.fr k q).2) (h6 k)) (fun k hk => .inr hk) h7).mono ?_
  rintro e w' ⟨q1, ⟨F', q2, q3⟩, q4⟩
  exact ⟨q1, ⟨F', c, q2, h2.wr q4 (fun b hb ha => ha.2 (.inl hb)), h3, fun k hk => ⟨fun hf => q3 k hf (.inl hk), (h4 k hk).2⟩, fun k hk hf => q3 k hf (.inr hk), fun k hk => Nat.lt_of_lt_of_le (h6 k hk) q4.size, Nat.le_trans h7 q4.size⟩, q4.mono (fun k hk => .inl ⟨hk.1, fun hp => hk.2 (.inr hp)⟩)⟩
theorem Pl5.liftR {f : Nat} {args : Array Value} {q : Int × Dk.St} (h : Pl5 P B a r D Dr w) (k : ∀ c : Rc, RfIn B r c Dr w → B ≤ w.heap.size → Calls Try.prog f args w (OpI B r c (.int .i64 q.1) q.2 w)) :
    Calls Try.prog f args w fun e w' => e = .returned (.int .i64 q.1) ∧ Pl5 P B a r D q.2 w' ∧ Wr (fun k => B ≤ k ∧ ¬ P k) w w' := by
  obtain ⟨F, c, h1, h2, h3, h4, h5, h6, h7⟩ := h
  have f1 := h1.fp
  refine (k c h2 h7).mono ?_
  rintro e w' ⟨q1, c', q2, q3, q4⟩
  refine ⟨q1, ⟨F, c', h1.wr q4 (fun b hb ha => (h4 b ha).1 hb), q2, h3, fun k hk => ?_, h5, fun k hk => Nat.lt_of_lt_of_le (h6 k hk) q4.size, Nat.le_trans h7 q4.size⟩, q4.mono (fun k hk => .inl ⟨?_, (h4 k hk).2⟩)⟩
  · rcases q3 k hk with q | q
    · exact h4 k q
    · exact ⟨fun hf => by have := (f1 k hf).2; omega, fun hp => by have := h6 k hp; omega⟩
  · rcases (h2.fr k hk).1 with q | q
    · omega
    · exact q
theorem RD.opI {B r : Nat} {c : Rc} {n : Int} {D' : Dk.St} {w w' : World} {e : Ending} (h : e = .returned (.int .i64 n) ∧ RD B r c w D' w') : OpI B r c (.int .i64 n) D' w e w' := by
  obtain ⟨q0, c', q1, q2, _, _⟩ := h
  exact ⟨q0, c', q1, q2.1, q2.2⟩
theorem Pl5.save (h : Pl5 P B a r D Dr w) (c : Cu.C) : Calls Try.prog 56 #[.pointer (some ⟨a, 0, none⟩), .agg #[.int .i64 c.next, .int .i64 c.gap]] w fun e w' => e = .returned (.int .i64 (Cu.save c D).1) ∧ Pl5 P B a r (Cu.save c D).2 Dr w' ∧ Wr (fun k => B ≤ k ∧ ¬ P k) w w' :=
  h.liftA fun X hx hl _ hB => save13_any hx hl hB c
theorem Pl5.rsave (h : Pl5 P B a r D Dr w) (hO : Dk.Ok Dr) (c : Cu.C) : Calls Try.prog 57 #[.pointer (some ⟨r, 0, none⟩), .agg #[.int .i64 c.next, .int .i64 c.gap]] w fun e w' => e = .returned (.int .i64 (Cu.save c Dr).1) ∧ Pl5 P B a r D (Cu.save c Dr).2 w' ∧ Wr (fun k => B ≤ k ∧ ¬ P k) w w' :=
  h.liftR fun _ hi hB => (refSave13_any (RD.begin_ hi hO hB) c).mono fun _ _ q => RD.opI q
theorem Pl5.load (h : Pl5 P B a r D Dr w) : Calls Try.prog 50 #[.pointer (some ⟨a, 0, none⟩)] w fun e w' => e = loadV13 (Cu.load D) ∧ Pl5 P B a r D Dr w' ∧ Below w.heap.size w w' := by
  obtain ⟨X, hX⟩ := h.tell
  exact (load13_any hX).mono fun e w' q => ⟨q.1, h.below q.2, q.2⟩
theorem Pl5.rload (h : Pl5 P B a r D Dr w) (hO : Dk.Ok Dr) : Calls Try.prog 51 #[.pointer (some ⟨r, 0, none⟩)] w fun e w' => e = loadV13 (Cu.load Dr) ∧ Pl5 P B a r D Dr w' ∧ Below w.heap.size w w' := by
  obtain ⟨c, hc⟩ := h.ref
  exact (refLoad13_any (RD.begin_ hc hO h.size)).mono fun e w' q => ⟨q.1, h.below q.2, q.2⟩
end

end Go.Proofs.Ytekmnpmeienhhaa

/- Layer 13: what comes in: cursors, acts, rows of them. -/
namespace Go.Proofs.Ytekmnpmeienhhaa
set_option linter.unusedVariables false
set_option linter.unusedSimpArgs false
set_option linter.constructorNameAsVariable false
open Go Go.RowKit

theorem Cu.decV_out (r : Option Cu.C) : Cu.decV r = .returned (.tuple #[.agg #[.int .i64 (r.getD Cu.c0).next, .int .i64 (r.getD Cu.c0).gap], .int .i64 (if r = none then 30 else 0)]) := rfl
/-- A cursor within its kinds. -/
structure CuI (c : Cu.C) : Prop where
  next : -9223372036854775808 ≤ c.next ∧ c.next ≤ 9223372036854775807
  gap : -9223372036854775808 ≤ c.gap ∧ c.gap ≤ 9223372036854775807
/-- An act. -/
structure Ca where
  kind : Int
  c : Cu.C
  n : Int
  keep : List Int
  name : List UInt8
  data : List UInt8
  o : Option Addr
  k : Nat
def ca0 : Ca := ⟨0, ⟨0, 0⟩, 0, [], [], [], none, 0⟩
def caL (y : Ca) : List Value := [.int .u8 y.kind, .int .i64 y.c.next, .int .i64 y.c.gap, .int .i64 y.n, .slice y.o y.keep.length y.k, .string (S y.name), .string (S y.data)]
structure CaI (r : Ca) : Prop where
  kind : 0 ≤ r.kind ∧ r.kind ≤ 255
  c : CuI r.c
  n : -9223372036854775808 ≤ r.n ∧ r.n ≤ 9223372036854775807
  keep : NsI5 r.keep
  name : r.name.length ≤ 9223372036854775807
  data : r.data.length ≤ 9223372036854775807
structure CasI (L : List Ca) : Prop where
  n : L.length ≤ 9223372036854775807
  each : ∀ r, r ∈ L → CaI r
def CaAt (w : World) (g o : Nat) (y : Ca) : Prop := w.cell? ⟨g, o, none⟩ = some (.int .u8 y.kind) ∧ w.cell? ⟨g, o + 1, none⟩ = some (.int .i64 y.c.next) ∧ w.cell? ⟨g, o + 2, none⟩ = some (.int .i64 y.c.gap) ∧ w.cell? ⟨g, o + 3, none⟩ = some (.int .i64 y.n) ∧ w.cell? ⟨g, o + 4, none⟩ = some (.slice y.o y.keep.length y.k) ∧ w.cell? ⟨g, o + 5, none⟩ = some (.string (S y.name)) ∧ w.cell? ⟨g, o + 6, none⟩ = some (.string (S y.data)) ∧ NsA5 w y.o y.keep
def CasAt (w : World) (ao : Option Addr) (L : List Ca) : Prop := L ≠ [] → ∃ g off, ao = some ⟨g, off, none⟩ ∧ ∀ j, j < L.length → CaAt w g (off + j * 7) (L.getD j ca0)
structure CusI (L : List Cu.C) : Prop where
  n : L.length ≤ 9223372036854775807
  each : ∀ r, r ∈ L → CuI r
def CuAt (w : World) (g o : Nat) (y : Cu.C) : Prop := w.cell? ⟨g, o, none⟩ = some (.int .i64 y.next) ∧ w.cell? ⟨g, o + 1, none⟩ = some (.int .i64 y.gap)
def CusAt (w : World) (ao : Option Addr) (L : List Cu.C) : Prop := L ≠ [] → ∃ g off, ao = some ⟨g, off, none⟩ ∧ ∀ j, j < L.length → CuAt w g (off + j * 2) (L.getD j Cu.c0)
section
variable {w w' : World} {ao : Option Addr} {L : List Ca}
theorem CaAt.below {g o : Nat} {r : Ca} (h : CaAt w g o r) (hb : Below w.heap.size w w') : CaAt w' g o r := by
  obtain ⟨h0, h1, h2, h3, h4, h5, h6, h7⟩ := h
  have c : ∀ j v, w.cell? ⟨g, j, none⟩ = some v → w'.cell? ⟨g, j, none⟩ = some v := fun j v hv => (hb.cell (p := ⟨g, j, none⟩) (cell_lt5 hv)).trans hv
  exact ⟨c _ _ h0, c _ _ h1, c _ _ h2, c _ _ h3, c _ _ h4, c _ _ h5, c _ _ h6, h7.below hb⟩
theorem CasAt.below (h : CasAt w ao L) (hb : Below w.heap.size w w') : CasAt w' ao L := fun hn => by
  obtain ⟨g, off, e, hc⟩ := h hn
  exact ⟨g, off, e, fun j hj => (hc j hj).below hb⟩
theorem CasAt.off (h : CasAt w ao L) {j : Nat} (hj : j < L.length) : ∃ g off, ao = some ⟨g, off, none⟩ ∧ CaAt w g (off + j * 7) (L.getD j ca0) := by
  obtain ⟨g, off, e, hc⟩ := h (fun h => by rw [h] at hj; simp at hj)
  exact ⟨g, off, e, hc j hj⟩
end
section
variable {H : Type} {enc : TypeId × Value → H} {W : World} {fuel : Nat} {cs : List Value} {x : DataW H × List MemPlace} {sp : Nat → Bool} {hd : Bool} {r : Reach} {b0 : Nat} {v : Value} {d : DataW H} {p : List MemPlace}
set_option maxRecDepth 100000 in
theorem cu_cells13 (hf : DataW.trod enc Try.prog W 0 sp hd fuel 71 cs = some x) : ∃ y : Cu.C, cs = [.int .i64 y.next, .int .i64 y.gap] ∧ CuI y := by
  have ct : Try.prog.cellsOf 71 = 2 := by kernel_rfl
  have k0 : Try.prog.cellsOf 3 = 1 := by kernel_rfl
  obtain ⟨xs, n, _, _, hlen, hn, hel⟩ := DataW.trod_struct Try.underlying71 hf
  have hnn : xs.length = 2 := hn
  rw [ct] at hlen
  match cs, hlen with
  | [c0, c1], _ =>
    have h0 : DataW.trod enc Try.prog W 0 sp hd n 3 (List.take (Try.prog.cellsOf 3) (List.drop 0 [c0, c1])) = xs[0]? := hel 0 _ rfl
    rw [k0] at h0
    obtain ⟨x0, hx0⟩ : ∃ x, xs[0]? = some x := ⟨xs[0], by simp [hnn]⟩
    rw [hx0] at h0
    have h1 : DataW.trod enc Try.prog W 0 sp hd n 3 (List.take (Try.prog.cellsOf 3) (List.drop 1 [c0, c1])) = xs[1]? := hel 1 _ rfl
    rw [k0] at h1
    obtain ⟨x1, hx1⟩ : ∃ x, xs[1]? = some x := ⟨xs[1], by simp [hnn]⟩
    rw [hx1] at h1
    obtain ⟨a0, e0, _, w0⟩ := DataW.trod_int Try.underlying3 h0
    obtain ⟨a1, e1, _, w1⟩ := DataW.trod_int Try.underlying3 h1
    simp at e0 e1
    have r0 := i64_wf5 w0
    have r1 := i64_wf5 w1
    exact ⟨⟨a0, a1⟩, by rw [e0, e1], ⟨r0, r1⟩⟩
set_option maxRecDepth 100000 in
theorem ca_cells13 (hf : DataW.trod enc Try.prog W 0 sp hd fuel 79 cs = some x) : ∃ y : Ca, cs = caL y ∧ CaI y ∧ NsA5 W y.o y.keep := by
  have ct : Try.prog.cellsOf 79 = 7 := by kernel_rfl
  have k0 : Try.prog.cellsOf 5 = 1 := by kernel_rfl
  have k1 : Try.prog.cellsOf 71 = 2 := by kernel_rfl
  have k2 : Try.prog.cellsOf 3 = 1 := by kernel_rfl
  have k3 : Try.prog.cellsOf 32 = 1 := by kernel_rfl
  have k4 : Try.prog.cellsOf 9 = 1 := by kernel_rfl
  obtain ⟨xs, n, _, _, hlen, hn, hel⟩ := DataW.trod_struct Try.underlying79 hf
  have hnn : xs.length = 6 := hn
  rw [ct] at hlen
  match cs, hlen with
  | [c0, c1, c2, c3, c4, c5, c6], _ =>
    have h0 : DataW.trod enc Try.prog W 0 sp hd n 5 (List.take (Try.prog.cellsOf 5) (List.drop 0 [c0, c1, c2, c3, c4, c5, c6])) = xs[0]? := hel 0 _ rfl
    rw [k0] at h0
    obtain ⟨x0, hx0⟩ : ∃ x, xs[0]? = some x := ⟨xs[0], by simp [hnn]⟩
    rw [hx0] at h0
    have h1 : DataW.trod enc Try.prog W 0 sp hd n 71 (List.take (Try.prog.cellsOf 71) (List.drop 1 [c0, c1, c2, c3, c4, c5, c6])) = xs[1]? := hel 1 _ rfl
    rw [k1] at h1
    obtain ⟨x1, hx1⟩ : ∃ x, xs[1]? = some x := ⟨xs[1], by simp [hnn]⟩
    rw [hx1] at h1
    have h2 : DataW.trod enc Try.prog W 0 sp hd n 3 (List.take (Try.prog.cellsOf 3) (List.drop 3 [c0, c1, c2, c3, c4, c5, c6])) = xs[2]? := hel 2 _ rfl
    rw [k2] at h2
    obtain ⟨x2, hx2⟩ : ∃ x, xs[2]? = some x := ⟨xs[2], by simp [hnn]⟩
    rw [hx2] at h2
    have h3 : DataW.trod enc Try.prog W 0 sp hd n 32 (List.take (Try.prog.cellsOf 32) (List.drop 4 [c0, c1, c2, c3, c4, c5, c6])) = xs[3]? := hel 3 _ rfl
    rw [k3] at h3
    obtain ⟨x3, hx3⟩ : ∃ x, xs[3]? = some x := ⟨xs[3], by simp [hnn]⟩
    rw [hx3] at h3
    have h4 : DataW.trod enc Try.prog W 0 sp hd n 9 (List.take (Try.prog.cellsOf 9) (List.drop 5 [c0, c1, c2, c3, c4, c5, c6])) = xs[4]? := hel 4 _ rfl
    rw [k4] at h4
    obtain ⟨x4, hx4⟩ : ∃ x, xs[4]? = some x := ⟨xs[4], by simp [hnn]⟩
    rw [hx4] at h4
    have h5 : DataW.trod enc Try.prog W 0 sp hd n 9 (List.take (Try.prog.cellsOf 9) (List.drop 6 [c0, c1, c2, c3, c4, c5, c6])) = xs[5]? := hel 5 _ rfl
    rw [k4] at h5
    obtain ⟨x5, hx5⟩ : ∃ x, xs[5]? = some x := ⟨xs[5], by simp [hnn]⟩
    rw [hx5] at h5
    obtain ⟨a0, e0, _, w0⟩ := DataW.trod_int Try.underlying5 h0
    obtain ⟨y1, e1, w1⟩ := cu_cells13 h1
    obtain ⟨a2, e2, _, w2⟩ := DataW.trod_int Try.underlying3 h2
    obtain ⟨l3, o3, q3, e3, w3, n3⟩ := ns_cells5 h3
    obtain ⟨a4, e4, _, w4⟩ := DataW.trod_string Try.underlying9 h4
    obtain ⟨a5, e5, _, w5⟩ := DataW.trod_string Try.underlying9 h5
    simp at e0 e1 e2 e3 e4 e5
    have r0 := u8_wf5 w0
    have r2 := i64_wf5 w2
    unfold maxLen at w4
    have r4 : a4.data.toList.length ≤ 9223372036854775807 := by simp only [Array.length_toList]; have : a4.data.size = a4.size := rfl; omega
    unfold maxLen at w5
    have r5 : a5.data.toList.length ≤ 9223372036854775807 := by simp only [Array.length_toList]; have : a5.data.size = a5.size := rfl; omega
    exact ⟨⟨a0, y1, a2, l3, a4.data.toList, a5.data.toList, o3, q3⟩, by rw [e0, e1.1, e1.2, e2, e3, e4, e5]; rfl, ⟨r0, w1, r2, w3, r4, r5⟩, n3⟩
set_option maxRecDepth 100000 in
theorem cas_cells13 (hf : DataW.trod enc Try.prog W 0 sp hd fuel 76 cs = some x) : ∃ (L : List Ca) (ao : Option Addr) (cap : Nat), cs = [.slice ao L.length cap] ∧ CasI L ∧ CasAt W ao L := by
  have c8 : Try.prog.cellsOf 79 = 7 := by kernel_rfl
  rcases Deep.open_slice Try.underlying76 hf with ⟨hcs, _⟩ | ⟨a, len, cap, m, n, D, Pz, hcs, _, hl, hm, hmm, _, hx⟩
  · exact ⟨[], none, 0, hcs, ⟨by simp, by simp⟩, fun h => absurd rfl h⟩
  · rw [c8] at hx
    have hlm : len ≤ m := by rw [hmm]; split <;> omega
    unfold maxLen at hm
    obtain ⟨L, hL, hp⟩ := choose_list5 ca0 len (p := fun i y => W.cells? 0 (a.add (i * 7)) 7 = some (caL y) ∧ CaI y ∧ NsA5 W y.o y.keep) (fun i hi => by
      obtain ⟨cs', h1, h2⟩ := hx i (by omega)
      obtain ⟨y, rfl, hok, hns⟩ := ca_cells13 h2
      exact ⟨y, h1, hok, hns⟩)
    refine ⟨L, some a, cap, by rw [hcs, hL], ⟨by omega, fun y hym => ?_⟩, fun hne => ?_⟩
    · obtain ⟨i, hi, rfl⟩ := List.mem_iff_getElem.1 hym
      have := (hp i (by omega)).2.1
      simpa [List.getD, List.getElem?_eq_getElem hi] using this
    · have h0 : 0 < len := by rw [← hL]; exact List.length_pos_iff.2 hne
      have e := addr_plain5 (cells_get5 (hp 0 h0).1 0 _ rfl)
      simp only [Nat.zero_mul, show ∀ x : Addr, x.add 0 = x from fun x => if_pos rfl] at e
      refine ⟨a.block, a.off, by rw [← e], fun j hj => ?_⟩
      have hc := cells_get5 (hp j (by omega)).1
      rw [e, Addr.add_lit] at hc
      exact ⟨(hc 0 _ rfl), (hc 1 _ rfl), (hc 2 _ rfl), (hc 3 _ rfl), (hc 4 _ rfl), (hc 5 _ rfl), (hc 6 _ rfl), (hp j (by omega)).2.2⟩
set_option maxRecDepth 100000 in
theorem cus_cells13 (hf : DataW.trod enc Try.prog W 0 sp hd fuel 87 cs = some x) : ∃ (L : List Cu.C) (ao : Option Addr) (cap : Nat), cs = [.slice ao L.length cap] ∧ CusI L ∧ CusAt W ao L := by
  have c8 : Try.prog.cellsOf 71 = 2 := by kernel_rfl
  rcases Deep.open_slice Try.underlying87 hf with ⟨hcs, _⟩ | ⟨a, len, cap, m, n, D, Pz, hcs, _, hl, hm, hmm, _, hx⟩
  · exact ⟨[], none, 0, hcs, ⟨by simp, by simp⟩, fun h => absurd rfl h⟩
  · rw [c8] at hx
    have hlm : len ≤ m := by rw [hmm]; split <;> omega
    unfold maxLen at hm
    obtain ⟨L, hL, hp⟩ := choose_list5 Cu.c0 len (p := fun i y => W.cells? 0 (a.add (i * 2)) 2 = some ([.int .i64 y.next, .int .i64 y.gap]) ∧ CuI y) (fun i hi => by
      obtain ⟨cs', h1, h2⟩ := hx i (by omega)
      obtain ⟨y, rfl, hok⟩ := cu_cells13 h2
      exact ⟨y, h1, hok⟩)
    refine ⟨L, some a, cap, by rw [hcs, hL], ⟨by omega, fun y hym => ?_⟩, fun hne => ?_⟩
    · obtain ⟨i, hi, rfl⟩ := List.mem_iff_getElem.1 hym
      have := (hp i (by omega)).2
      simpa [List.getD, List.getElem?_eq_getElem hi] using this
    · have h0 : 0 < len := by rw [← hL]; exact List.length_pos_iff.2 hne
      have e := addr_plain5 (cells_get5 (hp 0 h0).1 0 _ rfl)
      simp only [Nat.zero_mul, show ∀ x : Addr, x.add 0 = x from fun x => if_pos rfl] at e
      refine ⟨a.block, a.off, by rw [← e], fun j hj => ?_⟩
      have hc := cells_get5 (hp j (by omega)).1
      rw [e, Addr.add_lit] at hc
      exact ⟨(hc 0 _ rfl), (hc 1 _ rfl)⟩
def UCu (v : Value) : Prop := ∃ c : Cu.C, v = .agg #[.int .i64 c.next, .int .i64 c.gap] ∧ CuI c
def UCas (W : World) (v : Value) : Prop := ∃ (L : List Ca) (ao : Option Addr) (cap : Nat), v = .slice ao L.length cap ∧ CasI L ∧ CasAt W ao L
def UCus (W : World) (v : Value) : Prop := ∃ (L : List Cu.C) (ao : Option Addr) (cap : Nat), v = .slice ao L.length cap ∧ CusI L ∧ CusAt W ao L
set_option maxRecDepth 100000 in
theorem open_cu13 (hv : Value.okWide Try.prog W r b0 71 v) (h : DataW.Trod enc Try.prog W 0 (fun _ => true) true 71 v d p) : UCu v := by
  obtain ⟨cs, rfl, hsz⟩ := WideShapes.okWide_struct Try.underlying71 hv
  obtain ⟨fuel, hf⟩ := h
  obtain ⟨y, hcs, h1⟩ := cu_cells13 hf
  have hcs' : cs.toList = [.int .i64 y.next, .int .i64 y.gap] := hcs
  exact ⟨y, by rw [show cs = ([.int .i64 y.next, .int .i64 y.gap]).toArray from by rw [← hcs']], h1⟩
set_option maxRecDepth 100000 in
theorem open_cas13 (hv : Value.okWide Try.prog W r b0 76 v) (h : DataW.Trod enc Try.prog W 0 (fun _ => true) true 76 v d p) : UCas W v := by
  obtain ⟨a0, len, cap, rfl⟩ := WideShapes.okWide_slice Try.underlying76 hv
  obtain ⟨fuel, hf⟩ := h
  obtain ⟨L, ao, cap', hcs, h1, h2⟩ := cas_cells13 hf
  simp [Value.cells] at hcs
  obtain ⟨rfl, rfl, rfl⟩ := hcs
  exact ⟨L, a0, cap, rfl, h1, h2⟩
set_option maxRecDepth 100000 in
theorem open_cus13 (hv : Value.okWide Try.prog W r b0 87 v) (h : DataW.Trod enc Try.prog W 0 (fun _ => true) true 87 v d p) : UCus W v := by
  obtain ⟨a0, len, cap, rfl⟩ := WideShapes.okWide_slice Try.underlying87 hv
  obtain ⟨fuel, hf⟩ := h
  obtain ⟨L, ao, cap', hcs, h1, h2⟩ := cus_cells13 hf
  simp [Value.cells] at hcs
  obtain ⟨rfl, rfl, rfl⟩ := hcs
  exact ⟨L, a0, cap, rfl, h1, h2⟩
end

end Go.Proofs.Ytekmnpmeienhhaa

/- Layer 13: rows of acts that are gone through. -/
namespace Go.Proofs.Ytekmnpmeienhhaa
set_option linter.unusedVariables false
open Go Go.RowKit Go.Maps

structure FewC (y : Ca) : Prop where
  keep : y.keep.length ≤ 100
  name : y.name.length ≤ 100
  data : y.data.length ≤ 300
structure Few13 (L : List Ca) : Prop where
  n : L.length ≤ 100
  each : ∀ j, j < L.length → FewC (L.getD j ca0)
def Great13 (L : List Ca) (w : World) (e : Ending) (w' : World) : Prop := (e = .returned (.bool true) ∧ w = w') ∨ (e = .returned (.bool false) ∧ Few13 L ∧ w = w')
set_option maxHeartbeats 1000000 in
theorem great13 (L : List Ca) (ao : Option Addr) (cap : Nat) (w : World) (hI : CasI L) (h : CasAt w ao L) : Calls Try.prog 49 #[.slice ao L.length cap] w (Great13 L w) := by
  have hn := hI.n
  have HI := Lib.hid hI
  have HA := Lib.hid h
  clear hI h
  go_enter Try.func49, Try.ntmps49
  go_wp2_with fail
  go_loop [3] (fun i => ∃ k : Nat, k ≤ L.length ∧ i = .int .i64 k ∧ Hid (∀ j, j < k → FewC (L.getD j ca0))) (fun i => L.length - (intOf i).toNat)
  case atStart => exact ⟨0, Nat.zero_le _, rfl, Lib.hid (fun j hj => by omega)⟩
  case round =>
    obtain ⟨k, hk, rfl, HF⟩ := hrel
    by_cases hlt : k < L.length
    · have d1 : decide (k < L.length) = true := by simpa using hlt
      obtain ⟨g, off, rfl, c0, c1, c2, c3, c4, c5, c6, -⟩ := HA.out.off hlt
      have HR := Lib.hid (HI.out.each (L.getD k ca0) (by rw [show L.getD k ca0 = L[k] from by simp [List.getD, hlt]]; exact List.getElem_mem hlt))
      have b1 := HR.out.name
      have b3 := HR.out.data
      have b4 := HR.out.keep.n
      have HG := Lib.hid (show FewC (L.getD k ca0) → ∀ j, j < k + 1 → FewC (L.getD j ca0) from fun h j hj => by
        by_cases e : j = k
        · rw [e]; exact h
        · exact HF.out j (by omega))
      clear c0 c1 c2 c3
      generalize L.getD k ca0 = r at *
      obtain ⟨rk, rc, rN, rkp, rn, rd, roA, rkk⟩ := r
      simp only at b1 b3 b4 c4 c5 c6
      go_wp2_with fail
      all_goals first
        | (go_ret; exact .inl ⟨rfl, rfl⟩)
        | (go_round
           case rel => exact ⟨k + 1, by omega, by go_num, Lib.hid (HG.out ⟨by simp only; omega, by simp only; omega, by simp only; omega⟩)⟩
           case measure => simp [intOf]; omega)
    · have d1 : decide (k < L.length) = false := by simpa using hlt
      obtain rfl : k = L.length := by omega
      by_cases h100 : 100 < L.length
      · have d2 : decide (100 < (L.length : Int)) = true := by simp; omega
        go_wp2_with fail
        go_ret
        exact .inl ⟨rfl, rfl⟩
      · have d2 : decide (100 < (L.length : Int)) = false := by simp; omega
        go_wp2_with fail
        go_ret
        exact .inr ⟨rfl, ⟨by omega, HF.out⟩, rfl⟩

end Go.Proofs.Ytekmnpmeienhhaa
