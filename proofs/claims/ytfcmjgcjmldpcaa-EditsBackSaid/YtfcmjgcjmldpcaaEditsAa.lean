/- Layer 16: All, by a contract. -/
import Derived.Test.YtfcmjgcjmldpcaaEditsZ
import Derived.Test.YtfcmjgcjmldpcaaEditsT
namespace Go.Proofs.Ytfcmjgcjmldpcaa
set_option linter.unusedVariables false
set_option linter.unusedSimpArgs false
open Go Go.RowKit
attribute [local go_sem ↓] run_index_S
attribute [local go_sem] S_append S_extract

/-- Edits, one behind the other. -/
noncomputable def Ed.all : Ed.St → List Ed.Ed → Option Ed.St
  | s, [] => some s
  | s, e :: l => (Ed.apply s e).bind (fun t => Ed.all t l)
theorem Ed.all_snoc (s : Ed.St) (l : List Ed.Ed) (e : Ed.Ed) : Ed.all s (l ++ [e]) = (Ed.all s l).bind (fun t => Ed.apply t e) := by
  induction l generalizing s with
  | nil => simp [Ed.all]
  | cons x l ih =>
    simp only [List.cons_append, Ed.all]
    cases Ed.apply s x with
    | none => rfl
    | some t => simp only [Option.bind_some]; exact ih t
theorem Ed.all_none (s : Ed.St) (l k : List Ed.Ed) (h : Ed.all s l = none) : Ed.all s (l ++ k) = none := by
  induction l generalizing s with
  | nil => cases h
  | cons x l ih =>
    simp only [List.cons_append, Ed.all] at h ⊢
    cases q : Ed.apply s x with
    | none => rfl
    | some t => rw [q] at h; exact ih t h
def eds (L : List Re) : List Ed.Ed := L.map Re.ed
theorem eds_take_snoc {L : List Re} {k : Nat} (h : k < L.length) : eds (L.take (k + 1)) = eds (L.take k) ++ [(L.getD k re0).ed] := by
  unfold eds
  rw [Ed.take_snoc L k re0 h, List.map_append]; rfl
theorem eds_prefix (L : List Re) (k : Nat) : eds L = eds (L.take k) ++ eds (L.drop k) := by
  unfold eds
  rw [← List.map_append, List.take_append_drop]
theorem Own16.rebase {w0 w2 w : World} {g c : Nat} {Rk : List Rt} (h : Own16 w2 g c Rk w) (hb : Below w0.heap.size w0 w2) : Own16 w0 g c Rk w :=
  ⟨own_base16 h.row hb.size, fun r hr => own_base16 (h.own r hr) hb.size, hb.trans (h.bel.mono hb.size)⟩
theorem small_ok {Rs : List Rt} {log next : Int} (h : Ed.Ok ⟨tbs Rs, log, next⟩) : RtsOk Rs := by
  have := Ok.small h
  exact ⟨by omega, fun r hr => by have := (this.2.2 r hr).1; omega, fun r hr => by have := (this.2.2 r hr).2; omega⟩
/-- Edits as they may be. -/
def ResIn (L : List Re) : Prop := L.length ≤ 1000000 ∧ ∀ r, r ∈ L → r.fs.length ≤ 100000 ∧ r.key.length ≤ 9223372036854775807 ∧ ∀ n ∈ r.fs, -9223372036854775808 ≤ n ∧ n ≤ 9223372036854775807
def All16R (s : Ed.St) (L : List Re) (w : World) (e : Ending) (w' : World) : Prop := Below w.heap.size w w' ∧
  ((∃ t Rk ao c, Ed.Ok s ∧ Ed.all s (eds L) = some t ∧ e = .returned (.tuple #[stV ao (Rk : List Rt).length c t.log t.next, .bool true]) ∧ TbsAt w' ao Rk ∧ tbs Rk = t.T) ∨ (¬ (Ed.Ok s ∧ ∃ t, Ed.all s (eds L) = some t) ∧ e = .returned (.tuple #[stV none 0 0 0 0, .bool false])))
/-- The state in its box, while edits go on. -/
structure AlI (w : World) (s : Ed.St) (L : List Re) (k : Nat) (wr : World) : Prop where
  st : ∃ Rk g c lg nx, BkIn (stA (some ⟨g, 0, none⟩) (Rk : List Rt).length c lg nx) 24 wr w.heap.size ∧ Own16 w g c Rk wr ∧ Ed.all s (eds (L.take k)) = some ⟨tbs Rk, lg, nx⟩ ∧ Ed.Ok ⟨tbs Rk, lg, nx⟩
  zb : BkIn stZ 24 wr (w.heap.size + 1)
  bel : Below w.heap.size w wr
set_option maxHeartbeats 4000000 in
set_option maxRecDepth 100000 in
theorem all16_any (Rs : List Rt) (hR : RtsOk Rs) (ao : Option Addr) (cap : Nat) (log next : Int) (L : List Re) (hL : ResIn L) (lo : Option Addr) (lc : Nat) (w : World) (h : TbsAt w ao Rs) (hN : EdsAt w lo L) :
    Calls Try.prog 23 #[stV ao Rs.length cap log next, .slice lo L.length lc] w (All16R ⟨tbs Rs, log, next⟩ L w) := by
  obtain ⟨w2, hw2⟩ : ∃ x, x = (w.alloc (.cells (stA ao Rs.length cap log next) 24)).alloc (.cells stZ 24) := ⟨_, rfl⟩
  have hb2 : Below w.heap.size w w2 := by rw [hw2]; exact bel_two _ _ _
  have hsz : w2.heap.size = w.heap.size + 2 := by rw [hw2]; simp
  have HS := Lib.hid (show BkIn (stA ao Rs.length cap log next) 24 w2 w.heap.size from by rw [hw2]; exact (bkIn_new _ _ w).below ((Below.refl _ _).alloc (Nat.le_refl _) _))
  have HZ := Lib.hid (show BkIn stZ 24 w2 (w.heap.size + 1) from by rw [hw2]; have := bkIn_new stZ 24 (w.alloc (.cells (stA ao Rs.length cap log next) 24)); simpa using this)
  have HB := Lib.hid hb2
  have HA := Lib.hid h
  have HN := Lib.hid hN
  have HR := Lib.hid hR
  have HL := Lib.hid hL
  have hLn := hL.1
  have CK := Lib.hid (check16_any Rs hR ao cap log next w2 (h.below hb2))
  have HSZ := Lib.hid hsz
  clear h hN hR hb2 hsz hL
  unfold stV at CK ⊢
  unfold stA stZ at hw2
  go_enter Try.func23, Try.ntmps23
  go_wp2_with fail
  rw [← hw2]
  with_reducible refine (CK.out).mono ?_
  rintro e w3 ⟨bb, rfl, hbb, hb3⟩
  have HS3 := Lib.hid (HS.out.below hb3)
  have HZ3 := Lib.hid (HZ.out.below hb3)
  have HB3 := Lib.hid (HB.out.trans (hb3.mono HB.out.size))
  have HG3 := Lib.hid (show w.heap.size + 2 ≤ w3.heap.size from by have := hb3.size; have := HSZ.out; omega)
  clear hb3 hw2 CK HS HZ HB HSZ
  cases bb with
  | false =>
    have HNO := Lib.hid (show ¬ (Ed.Ok ⟨tbs Rs, log, next⟩ ∧ ∃ t, Ed.all ⟨tbs Rs, log, next⟩ (eds L) = some t) from fun h => nomatch hbb.2 h.1)
    clear hbb
    go_wp2_with (refine wpList_store_row rfl 24 _ _ rfl (w.heap.size + 1) _ rfl rfl 24 _ HZ3.out infoSt_size rfl (by simp [Value.oneCell']) ?_)
    exact bodyPost_ret (ret_st2 rfl _ _ (w.heap.size + 1) rfl (load_st rfl (HZ3.out.rowPut stZ))) rfl ⟨below_row16 HB3.out (by omega) _, .inr ⟨HNO.out, rfl⟩⟩
  | true =>
    have ho := hbb.1 rfl
    have hsm := Ok.small ho
    have HO := Lib.hid ho
    have s0 : w3.cell? ⟨w.heap.size, 0, none⟩ = some (.slice ao Rs.length cap) := HS3.out.cell 0
    have s1 : w3.cell? ⟨w.heap.size, 1, none⟩ = some (.int .i64 log) := HS3.out.cell 1
    have s2 : w3.cell? ⟨w.heap.size, 2, none⟩ = some (.int .i64 next) := HS3.out.cell 2
    have CL := Lib.hid (clone16_any Rs hsm.1 hsm.2.1 (fun r hr => by have := (hsm.2.2 r hr).2; omega) ao cap log next w3 (HA.out.below HB3.out))
    have HSM := Lib.hid hsm
    unfold stV at CL
    clear hbb ho hsm
    go_wp2_with fail
    with_reducible refine (CL.out).mono ?_
    rintro e w4 ⟨Rk, g, c, rfl, hcl⟩
    have HS4 := Lib.hid (HS3.out.below hcl.bel)
    have HZ4 := Lib.hid (HZ3.out.below hcl.bel)
    have HC4 := Lib.hid (hcl.rebase HB3.out)
    have HG4 := Lib.hid (show w3.heap.size ≤ g from (hcl.row.lt g rfl).1)
    clear hcl CL HS3 HZ3 s0 s1 s2
    go_wp2_with (refine wpList_store_row rfl 24 _ _ rfl w.heap.size _ rfl rfl 24 _ HS4.out infoSt_size rfl (by simp [Value.oneCell']) ?_; have HX5 := Lib.hid (HS4.out.rowPut (stA (some ⟨g, 0, none⟩) Rs.length c log next)); have HZ5 := Lib.hid (HZ4.out.rowOther (G := w.heap.size) (by omega) (stA (some ⟨g, 0, none⟩) Rs.length c log next)); have HC5 := Lib.hid (HC4.out.rowPut (b := w.heap.size) (by have := HG3.out; have := HG4.out; omega) (Nat.le_refl _) (stA (some ⟨g, 0, none⟩) Rs.length c log next) HS4.out (by decide)); unfold stA at HX5 HZ5 HC5; generalize w4.setRow w.heap.size #[.slice (some ⟨g, 0, none⟩) Rs.length c, .int .i64 log, .int .i64 next] = w5 at *)
    have HI := Lib.hid (show AlI w ⟨tbs Rs, log, next⟩ L 0 w5 from ⟨⟨Rk, g, c, log, next, by rw [HC5.out.len]; exact HX5.out, (Ahd.own ⟨HC5.out, HX5.out, Nat.le_refl _, by have := HG3.out; have := HG4.out; omega⟩), by rw [HC5.out.same]; rfl, by rw [HC5.out.same]; exact HO.out⟩, HZ5.out, HC5.out.bel⟩)
    clear HS4 HZ4 HC4 HX5 HZ5 HC5 HG4 HG3 HB3
    go_loopw [17] (fun i wr => ∃ k : Nat, k ≤ L.length ∧ i = .int .i64 k ∧ Hid (AlI w ⟨tbs Rs, log, next⟩ L k wr)) (fun i _ => L.length - (intOf i).toNat)
    case atStart => exact ⟨0, Nat.zero_le _, rfl, HI⟩
    case round =>
      obtain ⟨k, hk, rfl, HIk⟩ := hrel
      clear HI
      obtain ⟨R5, g5, c5, lg, nx, hX, hO, hA, hok⟩ := HIk.out.st
      have HZk := Lib.hid HIk.out.zb
      have HXk := Lib.hid hX
      have HOk := Lib.hid hO
      have HAk := Lib.hid hA
      have HKk := Lib.hid hok
      have HBk := Lib.hid HIk.out.bel
      clear hX hO hA hok HIk
      by_cases hlt : k < L.length
      · have hki : (k : Int) < (L.length : Int) := by omega
        obtain ⟨gl, off, rfl, hc⟩ := (HN.out.below HBk.out).off k hlt
        have HSN := Lib.hid (eds_take_snoc hlt)
        have HLk := Lib.hid (HL.out.2 _ (Ed.gD_mem (d := re0) hlt))
        have HPR := Lib.hid (eds_prefix L (k + 1))
        generalize L.getD k re0 = y at *
        obtain ⟨kind, at_, file, fs, fo, fk, key⟩ := y
        obtain ⟨y0, y1, y2, y3, y4, y5⟩ := hc
        simp only at y0 y1 y2 y3 y4 y5
        have hlk := HLk.out
        simp only at hlk
        have hba := (Below.refl wr.heap.size wr).alloc (Nat.le_refl _) (.cells #[.int .i64 kind, .int .i64 at_, .int .i64 file, .slice fo fs.length fk, .string (S key)] 27)
        have CA := Lib.hid (apply16_any R5 (small_ok HKk.out) (some ⟨g5, 0, none⟩) c5 lg nx ⟨kind, at_, file, fs, fo, fk, key⟩ hlk.1 hlk.2.1 hlk.2.2 (wr.alloc (.cells #[.int .i64 kind, .int .i64 at_, .int .i64 file, .slice fo fs.length fk, .string (S key)] 27)) (HOk.out.at_.below hba) (y5.below hba))
        have HX1 := Lib.hid (HXk.out.below hba)
        have HZ1 := Lib.hid (HZk.out.below hba)
        have HB1 := Lib.hid (HBk.out.trans (hba.mono HBk.out.size))
        have s0 : (wr.alloc (.cells #[.int .i64 kind, .int .i64 at_, .int .i64 file, .slice fo fs.length fk, .string (S key)] 27)).cell? ⟨w.heap.size, 0, none⟩ = some (.slice (some ⟨g5, 0, none⟩) R5.length c5) := HX1.out.cell 0
        have s1 : (wr.alloc (.cells #[.int .i64 kind, .int .i64 at_, .int .i64 file, .slice fo fs.length fk, .string (S key)] 27)).cell? ⟨w.heap.size, 1, none⟩ = some (.int .i64 lg) := HX1.out.cell 1
        have s2 : (wr.alloc (.cells #[.int .i64 kind, .int .i64 at_, .int .i64 file, .slice fo fs.length fk, .string (S key)] 27)).cell? ⟨w.heap.size, 2, none⟩ = some (.int .i64 nx) := HX1.out.cell 2
        unfold stV edA at CA
        simp only at CA
        have HLT := Lib.hid hlt
        clear y5 hlk HXk HZk hba hlt HLk
        go_wp2_with fail
        with_reducible refine (CA.out).mono ?_
        rintro e w6 ⟨hb6, (⟨⟨tT, tlog, tnx⟩, R6, g6, c6, ha, rfl, hO6, htb⟩ | ⟨ha, rfl⟩)⟩
        · have HX6 := Lib.hid (HX1.out.below hb6)
          have HZ6 := Lib.hid (HZ1.out.below hb6)
          have HB6 := Lib.hid (HB1.out.trans (hb6.mono HB1.out.size))
          simp only at htb
          subst htb
          have HNX := Lib.hid (show AlI w ⟨tbs Rs, log, next⟩ L (k + 1) (w6.setRow w.heap.size (stA (some ⟨g6, 0, none⟩) R6.length c6 tlog tnx)) from
            ⟨⟨R6, g6, c6, tlog, tnx, HX6.out.rowPut _, (hO6.rebase HB1.out).rowSt HX6.out (Nat.le_refl _) _, by rw [HSN.out, Ed.all_snoc, HAk.out]; exact ha, Ed.apply_ok ha⟩, HZ6.out.rowOther (by omega) _, below_row16 HB6.out (Nat.le_refl _) _⟩)
          unfold stA at HNX
          clear ha hO6 hb6 HX1 HZ1 HB1 CA y0 y1 y2 y3 y4 s0 s1 s2
          go_wp2_with (refine wpList_store_row rfl 24 _ _ rfl w.heap.size _ rfl rfl 24 _ HX6.out infoSt_size rfl (by simp [Value.oneCell']) ?_; generalize w6.setRow w.heap.size #[.slice (some ⟨g6, 0, none⟩) R6.length c6, .int .i64 tlog, .int .i64 tnx] = w7 at *)
          go_roundw
          case rel => exact ⟨k + 1, by have := HLT.out; omega, by go_num, HNX⟩
          case measure => have := HLT.out; simp [intOf]; omega
        · have HX6 := Lib.hid (HX1.out.below hb6)
          have HZ6 := Lib.hid (HZ1.out.below hb6)
          have HB6 := Lib.hid (HB1.out.trans (hb6.mono HB1.out.size))
          have HNO := Lib.hid (show ¬ (Ed.Ok ⟨tbs Rs, log, next⟩ ∧ ∃ t, Ed.all ⟨tbs Rs, log, next⟩ (eds L) = some t) from fun ⟨_, t, h⟩ => by
            have h1 : Ed.all ⟨tbs Rs, log, next⟩ (eds (L.take (k + 1))) = none := by rw [HSN.out, Ed.all_snoc, HAk.out]; exact ha
            rw [HPR.out, Ed.all_none _ _ _ h1] at h
            cases h)
          clear ha hb6 HX1 HZ1 HB1 CA y0 y1 y2 y3 y4 s0 s1 s2
          go_wp2_with (first
            | (have _t := HZ7; clear _t; refine wpList_store_row rfl 24 _ _ rfl (w.heap.size + 1) _ rfl rfl 24 _ HZ7.out infoSt_size rfl (by simp [Value.oneCell']) ?_)
            | (refine wpList_store_row rfl 24 _ _ rfl w.heap.size _ rfl rfl 24 _ HX6.out infoSt_size rfl (by simp [Value.oneCell']) ?_; have HZ7 := Lib.hid (HZ6.out.rowOther (G := w.heap.size) (by omega) stZ); have HB7 := Lib.hid (below_row16 HB6.out (Nat.le_refl w.heap.size) stZ); unfold stZ at HZ7 HB7; generalize w6.setRow w.heap.size #[.slice none 0 0, .int .i64 0, .int .i64 0] = w7 at *))
          exact bodyPost_ret (ret_st2 rfl _ _ (w.heap.size + 1) rfl (load_st rfl (HZ7.out.rowPut stZ))) rfl ⟨below_row16 HB7.out (by omega) _, .inr ⟨HNO.out, rfl⟩⟩
      · obtain rfl : k = L.length := by omega
        rw [List.take_length] at HAk
        have s0 : wr.cell? ⟨w.heap.size, 0, none⟩ = some (.slice (some ⟨g5, 0, none⟩) R5.length c5) := HXk.out.cell 0
        have s1 : wr.cell? ⟨w.heap.size, 1, none⟩ = some (.int .i64 lg) := HXk.out.cell 1
        have s2 : wr.cell? ⟨w.heap.size, 2, none⟩ = some (.int .i64 nx) := HXk.out.cell 2
        go_wp2_with (refine wpList_store_row rfl 24 _ _ rfl (w.heap.size + 1) _ rfl rfl 24 _ HZk.out infoSt_size rfl (by simp [Value.oneCell']) ?_)
        exact bodyPost_ret (ret_st2 rfl _ _ (w.heap.size + 1) rfl (load_st rfl (HZk.out.rowPut (stA (some ⟨g5, 0, none⟩) R5.length c5 lg nx)))) rfl ⟨below_row16 HBk.out (by omega) _, .inl ⟨_, R5, _, c5, HO.out, HAk.out, rfl, (HOk.out.rowSt HZk.out (by omega) _).at_, rfl⟩⟩

end Go.Proofs.Ytfcmjgcjmldpcaa
