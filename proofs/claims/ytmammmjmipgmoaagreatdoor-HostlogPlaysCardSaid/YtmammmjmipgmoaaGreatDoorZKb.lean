import Derived.Test.YtmammmjmipgmoaaGreatDoorZKa
import Derived.Test.YtmammmjmipgmoaaGreatDoorZQh
set_option linter.unusedVariables false
set_option maxRecDepth 100000
set_option maxHeartbeats 16000000
namespace Go.Proofs.YtmammmjmipgmoaaGreatDoor
section
open Go Go.RowKit Go.Maps
section
open Hl
variable {B r q : Nat} {c c' : Rc} {vs vs' : Value} {D D' : Dk.St} {G G' : Hl.Lg} {w w' w1 : World} {v v' : Value} {e e' : Ending}
theorem DcIn.as_ (h : DcIn B r q c vs D G w) (e1 : G'.S.map (·.n) = G.S.map (·.n)) (e2 : G'.st = G.st) (e3 : G'.over = G.over) : DcIn B r q c vs D G' w := by
 have hl : G'.S.length = G.S.length := by have := congrArg List.length e1; simpa using this
 refine ⟨h.disk, by rw [e2, e3]; exact h.box, by rw [hl, e1]; exact h.row, h.ap, h.bq, h.br, by rw [hl]; exact h.few⟩
theorem OpD.as_ (h : OpD B r q c vs v D' G' w e w') {G2 : Hl.Lg} (e1 : G2.S.map (·.n) = G'.S.map (·.n)) (e2 : G2.st = G'.st) (e3 : G2.over = G'.over) : OpD B r q c vs v D' G2 w e w' := by
 obtain ⟨h0, c1, vs1, h1, h2⟩ := h;exact ⟨h0, c1, vs1, h1.as_ e1 e2 e3, h2⟩
theorem put1_n (hn : G.S ≠ []) (k : Nat) : (G.put1 k).S.map (·.n) = G.S.map (·.n) := by
 obtain ⟨m, hm⟩ : ∃ m, G.S.length = m + 1 := ⟨G.S.length - 1, by have := List.length_pos_iff.2 hn; omega⟩
 unfold Lg.put1;have h1 := List.dropLast_concat_getLast hn;have h2 : lastS G = G.S.getLast hn := by unfold lastS; rw [List.getLast?_eq_some_getLast hn]; rfl
 conv => rhs; rw [← h1]
 rw [h2];simp only [List.map_append, List.map_cons, List.map_nil]
theorem Jb0 (hs : Hl.state D G ≠ 0) : Hl.state D G = 51 := by
 unfold Hl.state at hs ⊢;split at hs
 ·rw [if_pos (by assumption)]
 ·exact absurd rfl hs
theorem Jln (h : DcIn B r q c vs D G w) (hO : Dk.Ok D) (hB : B ≤ w.heap.size) (hr : Hl.state D G = 0 → RcOk D G) (hen : endN G ≤ 890) (hfew : G.S.length < 1000) : Calls Tryz.prog 43 #[.pointer (some ⟨q, 0, none⟩)] w (OpD B r q c vs (.int .i64 (rotate6 G D).1) (rotate6 G D).2.1 (rotate6 G D).2.2 w) := by
 have CO := Qh (Jbc h);have HH := Qh (fun W (k : Below w.heap.size w W) => h.below k);by_cases hs : Hl.state D G = 0
 ·rw [decide_eq_false (by simp [hs])] at CO
  have HS := Qh (fun W (k : Below w.heap.size w W) => Jbl (v := .int .i64 0) h k);have CX := Qh (show ∀ W, Below w.heap.size w W → Calls Tryz.prog 99 #[.pointer (some ⟨q, 0, none⟩), .string { data := #[] }] W (OpD B r q c vs (.int .i64 (begin6 G [] [] D).1) (begin6 G [] [] D).2.1 (begin6 G [] [] D).2.2 W) from fun W k => Jjd (h.below k) hO (Nat.le_trans hB k.size) hs (hr hs) [] (by simp) [] hen hfew);by_cases h0 : G.S.length = 0
  ·have hn : G.S = [] := List.length_eq_zero_iff.1 h0
   have he : rotate6 G D = (0, D, G) := by unfold rotate6; rw [if_neg (by simp [hs]), if_pos (.inl hn)]
   rw [he];obtain ⟨ao, cap, rfl, -, -⟩ := h.row.val;clear h hs hr hO hB hn he hen hfew CX;go_enter Tryz.func43, Tryz.ntmps43;go_wp2_with fail;with_reducible refine CO.o.mono ?_
   rintro e w1 ⟨rfl, hb⟩;have x1 : w1.cell? ⟨q, 1, none⟩ = some (.slice ao G.S.length cap) := (HH.o _ hb).box.cell 1;rw [h0] at x1;have HB := Qh hb;clear hb CO h0;go_wp2_with fail;go_region
   go_wp2_with fail;go_ret;exact HS.o _ HB.o.drew
  ·obtain ⟨m, hm⟩ : ∃ m, G.S.length = m + 1 := ⟨G.S.length - 1, by omega⟩
   have hne : G.S ≠ [] := fun e => by rw [e] at h0; exact h0 rfl
   obtain ⟨g, o, cap, rfl, hc1, hc2, -⟩ := h.lastc hm;obtain ⟨r1, r2, r3⟩ := (hr hs).last hne
   have HSC := Qh (fun c' D' G' W (k : DcIn B r q c' (.slice (some ⟨g, o, none⟩) (m + 1) cap) D' G' W) (e : G'.S = G.S) => by
    have := k.s3 (by rw [e]; exact hm);rw [show lastS G' = lastS G from by unfold lastS; rw [e]] at this
    exact this)
   have CR := Qh (show ∀ W, Below w.heap.size w W → Calls Tryz.prog 98 #[.pointer (some ⟨q, 0, none⟩), .int .i64 ((lastS G).n : Nat)] W fun e w' => e = .returned (.int .i64 ((lastS G).es.length : Nat)) ∧ Below W.heap.size W w' from fun W k => by
    have := Jc6 (h.below k) (lastS G).n (by omega) r2;rw [r1] at this
    exact this)
   have hm63 : m + 1 ≤ 1000 := by have := h.few; omega
   have hmm : IntKind.i64.wrap (((m + 1 : Nat) : Int) - 1) = (m : Int) := by rw [IntWalk.i64_in _ (by omega)]; omega
   have hi1 : (0 : Int) ≤ (m : Int) := by omega
   have hi2 : (m : Int) < ((m + 1 : Nat) : Int) := by omega
   have t1 : decide (0 < (((m + 1 : Nat) : Int))) = true := decide_eq_true (by omega);have t1' : ((((m + 1 : Nat) : Int)) == 0) = false := by simp; omega
   have t2 : decide (0 < m + 1) = true := decide_eq_true (by omega);obtain ⟨rr, hrr⟩ : ∃ rr, rr = begin6 G [] [] D := ⟨_, rfl⟩
   rw [← hrr] at CX;have HE0 := Qh (show (lastS G).es.length = 0 → rotate6 G D = (0, D, G) from fun e => by unfold rotate6; rw [if_neg (by simp [hs]), if_pos (.inr (List.length_eq_zero_iff.1 e))]);have HE1 := Qh (show (lastS G).es.length ≠ 0 → rotate6 G D = rr from fun e => by unfold rotate6; rw [if_neg (by simp [hs]), if_neg (fun z => z.elim hne (fun z => e (by rw [z]; rfl))), hrr]);obtain ⟨ln, hln⟩ : ∃ ln, ln = (lastS G).n := ⟨_, rfl⟩
   rw [← hln] at HSC CR;obtain ⟨el, hel⟩ : ∃ el, el = (lastS G).es.length := ⟨_, rfl⟩
   rw [← hel] at CR HE0 HE1;obtain ⟨RT, hRT⟩ : ∃ RT, RT = rotate6 G D := ⟨_, rfl⟩
   rw [← hRT] at HE0 HE1 ⊢;clear h hs hr hO hB hne r1 r2 r3 hln hel hRT hrr hm h0 hen hfew;generalize m + 1 = m1 at *;by_cases hz : el = 0
   ·rw [HE0.o hz]
    subst hz;clear HE0 HE1 CX;go_enter Tryz.func43, Tryz.ntmps43;go_wp2_with fail;with_reducible refine CO.o.mono ?_
    rintro e w1 ⟨rfl, hb⟩;obtain ⟨x0, x1, x2⟩ := HSC.o _ _ _ _ (HH.o _ hb) rfl;have HB := Qh hb;clear hb CO;go_wp2_with fail
    go_region_held3 (fun W => W.cell? ⟨q, 1, none⟩ = some (.slice (some ⟨g, o, none⟩) m1 cap) ∧ W.cell? ⟨g, o + m, none⟩ = some (.int .i64 (ln : Nat))) (go_keep) (first
     | (go_at_call 98; refine (CR.o _ (Jaa HB.o ((Below.refl w1.heap.size w1).drew))).mono ?_; rintro e w5 ⟨rfl, hb5⟩; replace HB := Qh (Jaa HB.o (Jaa ((Below.refl w1.heap.size w1).drew) hb5)); clear hb5; obtain ⟨z0, z1, z2⟩ := HSC.o _ _ _ _ (HH.o _ HB.o) rfl))
    go_wp2_with fail;go_ret;exact HS.o _ HB.o
   ·rw [HE1.o hz]
    have tz : ((el : Int) == 0) = false := by simp; omega
    clear HE0 HE1 HS;go_enter Tryz.func43, Tryz.ntmps43;go_wp2_with fail;with_reducible refine CO.o.mono ?_
    rintro e w1 ⟨rfl, hb⟩;obtain ⟨x0, x1, x2⟩ := HSC.o _ _ _ _ (HH.o _ hb) rfl;have HB := Qh hb;clear hb CO;go_wp2_with fail
    go_region_held3 (fun W => W.cell? ⟨q, 1, none⟩ = some (.slice (some ⟨g, o, none⟩) m1 cap) ∧ W.cell? ⟨g, o + m, none⟩ = some (.int .i64 (ln : Nat))) (go_keep) (first
     | (go_at_call 98; refine (CR.o _ (Jaa HB.o ((Below.refl w1.heap.size w1).drew))).mono ?_; rintro e w5 ⟨rfl, hb5⟩; replace HB := Qh (Jaa HB.o (Jaa ((Below.refl w1.heap.size w1).drew) hb5)); clear hb5; obtain ⟨z0, z1, z2⟩ := HSC.o _ _ _ _ (HH.o _ HB.o) rfl))
    go_wp2_with fail;with_reducible refine (CX.o _ HB.o).mono ?_
    rintro e w6 ho;have HO := Qh (OpD.pre HB.o ho);obtain ⟨rfl, -⟩ := ho;clear CX;go_wp2_with fail;go_ret;exact HO.o
 ·have he : rotate6 G D = (51, D, G) := by unfold rotate6; rw [if_pos hs, Jb0 hs]
  rw [he];rw [decide_eq_true hs] at CO;have HS := Qh (fun W (k : Below w.heap.size w W) => Jbl (v := .int .i64 51) h k);clear h he hs hr hO hB hen hfew;go_enter Tryz.func43, Tryz.ntmps43;go_wp2_with fail;with_reducible refine CO.o.mono ?_
  rintro e w1 ⟨rfl, hb⟩;have HB := Qh hb;clear hb CO;go_wp2_with fail;go_ret;exact HS.o _ HB.o
theorem Jlo (h : DcIn B r q c vs D G w) (hO : Dk.Ok D) (hB : B ≤ w.heap.size) (hr : Hl.state D G = 0 → RcOk D G) (x : M.Sp) (hx : x.fits) (hen : endN G ≤ 890) (hfew : G.S.length < 1000) : Calls Tryz.prog 49 #[.pointer (some ⟨q, 0, none⟩), spA6 x] w (OpD B r q c vs (.int .i64 (append6 x G D).1) (append6 x G D).2.1 (append6 x G D).2.2 w) := by
 have CO := Qh (fun W (k : Below w.heap.size w W) => Jbc (h.below k));have HH := Qh (fun W (k : Below w.heap.size w W) => h.below k);unfold spA6;by_cases hs : Hl.state D G = 0
 ·rw [decide_eq_false (by simp [hs])] at CO
  cases hm0 : M.mayB x with
  | false =>
   have he : append6 x G D = (2, D, G) := by unfold append6; rw [if_neg (by simp [hs]), if_pos hm0]
   rw [he];have CE := Qh (fun W => Jeh x hx W);simp only [hm0, M.errOf, Bool.false_eq_true, if_false] at CE;have HS := Qh (fun W (k : Below w.heap.size w W) => Jbl (v := .int .i64 2) h k);clear h hs hr hO hB he hen hfew hx hm0;go_enter Tryz.func49, Tryz.ntmps49;go_wp2_with fail;with_reducible refine (CO.o _ (Qa _)).mono ?_
   rintro e w1 ⟨rfl, hb⟩;have HX := Qh ((Jae #[.int .i64 x.trace, .int .i64 x.id, .int .i64 x.parent, .string (S x.svc), .string (S x.host), .int .i64 x.start, .int .i64 x.dur, .string (S x.note)] 39 w).below hb);have HB := Qh (Jaa (Qa _) hb);have x0 := HX.o.cell 0;have x1 := HX.o.cell 1;have x2 := HX.o.cell 2;have x3 := HX.o.cell 3;have x4 := HX.o.cell 4;have x5 := HX.o.cell 5;have x6 := HX.o.cell 6;have x7 := HX.o.cell 7;simp at x0 x1 x2 x3 x4 x5 x6 x7;clear hb CO;go_wp2_with fail;with_reducible refine (CE.o _).mono ?_
   rintro e w2 ⟨rfl, hb⟩;replace HB := Qh (Jaa HB.o hb);clear hb CE HX x0 x1 x2 x3 x4 x5 x6 x7;go_wp2_with fail;go_ret;exact HS.o _ HB.o
  | true =>
   have CE := Qh (fun W => Jeh x hx W);simp only [hm0, M.errOf, if_true] at CE;have hel := M.enc_len hm0;have CF := Qh (fun W => Jjr (M.enc x) (by omega) W);have hfl := fr_most hm0;have CX := Qh (show ∀ W, Below w.heap.size w W → Calls Tryz.prog 99 #[.pointer (some ⟨q, 0, none⟩), .string (S (fr x))] W (OpD B r q c vs (.int .i64 (begin6 G (fr x) [(fr x).length] D).1) (begin6 G (fr x) [(fr x).length] D).2.1 (begin6 G (fr x) [(fr x).length] D).2.2 W) from fun W k => Jjd (h.below k) hO (Nat.le_trans hB k.size) hs (hr hs) (fr x) (by omega) [(fr x).length] hen hfew);obtain ⟨rr, hrr⟩ : ∃ rr, rr = begin6 G (fr x) [(fr x).length] D := ⟨_, rfl⟩
   rw [← hrr] at CX;by_cases h0 : G.S.length = 0
   ·have hn : G.S = [] := List.length_eq_zero_iff.1 h0
    have he : append6 x G D = rr := by unfold append6; rw [if_neg (by simp [hs]), if_neg (by simp [hm0]), if_pos (.inl hn), hrr]
    rw [he];obtain ⟨ao, cap, rfl, -, -⟩ := h.row.val;have HL := Qh (show ∀ W, Below w.heap.size w W → W.cell? ⟨q, 1, none⟩ = some (.slice ao 0 cap) from fun W k => by have := (h.below k).box.cell 1; rw [h0] at this; exact this);unfold fr at CX;clear h hs hr hO hB hn he hen hfew hx hm0 h0 hel hfl hrr;generalize M.frameP (M.enc x) = f at *;generalize M.enc x = en at *;go_enter Tryz.func49, Tryz.ntmps49;go_wp2_with fail;with_reducible refine (CO.o _ (Qa _)).mono ?_
    rintro e w1 ⟨rfl, hb⟩;have HX := Qh ((Jae #[.int .i64 x.trace, .int .i64 x.id, .int .i64 x.parent, .string (S x.svc), .string (S x.host), .int .i64 x.start, .int .i64 x.dur, .string (S x.note)] 39 w).below hb);have HB := Qh (Jaa (Qa _) hb);have x0 := HX.o.cell 0;have x1 := HX.o.cell 1;have x2 := HX.o.cell 2;have x3 := HX.o.cell 3;have x4 := HX.o.cell 4;have x5 := HX.o.cell 5;have x6 := HX.o.cell 6;have x7 := HX.o.cell 7;simp at x0 x1 x2 x3 x4 x5 x6 x7;clear hb CO;go_wp2_with fail;with_reducible refine (CE.o _).mono ?_
    rintro e w2 ⟨rfl, hb⟩;replace HB := Qh (Jaa HB.o hb);clear hb CE HX x0 x1 x2 x3 x4 x5 x6 x7;go_wp2_with fail;with_reducible refine (CF.o _).mono ?_
    rintro e w3 ⟨rfl, hb⟩;replace HB := Qh (Jaa HB.o hb);clear hb CF;have y1 := HL.o _ HB.o;go_wp2_with fail;go_region
    replace HB := Qh HB.o.drew;go_wp2_with fail;with_reducible refine (CX.o _ HB.o).mono ?_
    rintro e w6 ho;have HO := Qh (OpD.pre HB.o ho);obtain ⟨rfl, -⟩ := ho;clear CX;go_wp2_with fail;go_ret;exact HO.o
   ·obtain ⟨m, hm⟩ : ∃ m, G.S.length = m + 1 := ⟨G.S.length - 1, by omega⟩
    have hne : G.S ≠ [] := fun e => by rw [e] at h0; exact h0 rfl
    obtain ⟨g, o, cap, rfl, hc1, hc2, -⟩ := h.lastc hm;obtain ⟨r1, r2, r3⟩ := (hr hs).last hne
    have HSC := Qh (fun c' D' G' W (k : DcIn B r q c' (.slice (some ⟨g, o, none⟩) (m + 1) cap) D' G' W) (e : G'.S = G.S) => by
     have := k.s3 (by rw [e]; exact hm);rw [show lastS G' = lastS G from by unfold lastS; rw [e]] at this
     exact this)
    have CR := Qh (show ∀ W, Below w.heap.size w W → Calls Tryz.prog 98 #[.pointer (some ⟨q, 0, none⟩), .int .i64 ((lastS G).n : Nat)] W fun e w' => e = .returned (.int .i64 ((lastS G).es.length : Nat)) ∧ Below W.heap.size W w' from fun W k => by
     have := Jc6 (h.below k) (lastS G).n (by omega) r2;rw [r1] at this
     exact this)
    have hm63 : m + 1 ≤ 1000 := by have := h.few; omega
    have hmm : IntKind.i64.wrap (((m + 1 : Nat) : Int) - 1) = (m : Int) := by rw [IntWalk.i64_in _ (by omega)]; omega
    have hi1 : (0 : Int) ≤ (m : Int) := by omega
    have hi2 : (m : Int) < ((m + 1 : Nat) : Int) := by omega
    have t1 : decide (0 < (((m + 1 : Nat) : Int))) = true := decide_eq_true (by omega);have t1' : ((((m + 1 : Nat) : Int)) == 0) = false := by simp; omega
    have t2 : decide (0 < m + 1) = true := decide_eq_true (by omega);obtain ⟨ll, hll⟩ : ∃ ll, ll = Dk.append (nm (lastS G).n) (fr x) D := ⟨_, rfl⟩
    have HEL := Qh (show ¬ 16 ≤ (lastS G).es.length → append6 x G D = lay G (fr x) D from fun z => by unfold append6; rw [if_neg (by simp [hs]), if_neg (by simp [hm0]), if_neg (fun q => q.elim hne z)]);have HEX := Qh (show 16 ≤ (lastS G).es.length → append6 x G D = rr from fun z => by unfold append6; rw [if_neg (by simp [hs]), if_neg (by simp [hm0]), if_pos (.inr z), hrr])
    have HLY := Qh (show ∀ (e : Ending) (w' : World), OpD B r q c (.slice (some ⟨g, o, none⟩) (m + 1) cap) (.int .i64 ll.1) ll.2 (G.hold ll.1) w e w' → OpD B r q c (.slice (some ⟨g, o, none⟩) (m + 1) cap) (.int .i64 (lay G (fr x) D).1) (lay G (fr x) D).2.1 (lay G (fr x) D).2.2 w e w' from fun e w' ho => by
     unfold lay;rw [← hll];by_cases z : ll.1 = 0
     ·rw [z, hold_zero] at ho
      rw [if_pos z, z];exact ho.as_ (put1_n hne _) rfl rfl
     ·rw [if_neg z]
      exact ho)
    have CN := Qh (fun W => Jca (lastS G).n (by omega) W);have hnl : (nm (lastS G).n).length ≤ 100 := by have := Jd4 (n := (lastS G).n) (by omega); omega
    have CY := Qh (show ∀ W, Below w.heap.size w W → Calls Tryz.prog 102 #[.pointer (some ⟨r, 0, none⟩), .string (S (nm (lastS G).n)), .string (S (fr x))] W (OpJ B r q c (.slice (some ⟨g, o, none⟩) (m + 1) cap) (.int .i64 ll.1) ll.2 G W) from fun W k => by
     rw [hll]
     exact (Jfp (h.below k).disk (Nat.le_trans hB k.size) (nm (lastS G).n) (fr x) (by omega) (by omega) hO.most hO.n hO.k).mono fun e w' ho => OpI.dj (h.below k) ho)
    have CT := Qh (show ∀ c' W, DcIn B r q c' (.slice (some ⟨g, o, none⟩) (m + 1) cap) ll.2 G W → Calls Tryz.prog 95 #[.pointer (some ⟨q, 0, none⟩), .int .i64 ll.1] W (TolR6 G ll.1 q W) from fun c' W k => Jdr k _);generalize nm (lastS G).n = N at *;obtain ⟨ln, hln⟩ : ∃ ln, ln = (lastS G).n := ⟨_, rfl⟩
    rw [← hln] at HSC CR CN;obtain ⟨el, hele⟩ : ∃ el, el = (lastS G).es.length := ⟨_, rfl⟩
    rw [← hele] at CR HEL HEX;obtain ⟨RT, hRT⟩ : ∃ RT, RT = append6 x G D := ⟨_, rfl⟩
    rw [← hRT] at HEL HEX ⊢;obtain ⟨LY, hLY⟩ : ∃ LY, LY = lay G (fr x) D := ⟨_, rfl⟩
    rw [← hLY] at HEL HLY;unfold fr at CX CY;clear h hs hr hO hB hne r1 r2 r3 hln hele hRT hrr hm h0 hen hfew hx hm0 hel hfl hnl hll hLY;generalize M.frameP (M.enc x) = f at *;generalize M.enc x = en at *;generalize m + 1 = m1 at *;by_cases hz : 16 ≤ el
    ·rw [HEX.o hz]
     have tz : decide ((el : Int) < 16) = false := by simp; omega
     have tz' : decide (el < 16) = false := by simp; omega
     clear HEL HEX HLY CN CY CT;go_enter Tryz.func49, Tryz.ntmps49;go_wp2_with fail;with_reducible refine (CO.o _ (Qa _)).mono ?_
     rintro e w1 ⟨rfl, hb⟩;have HX := Qh ((Jae #[.int .i64 x.trace, .int .i64 x.id, .int .i64 x.parent, .string (S x.svc), .string (S x.host), .int .i64 x.start, .int .i64 x.dur, .string (S x.note)] 39 w).below hb);have HB := Qh (Jaa (Qa _) hb);have x0 := HX.o.cell 0;have x1 := HX.o.cell 1;have x2 := HX.o.cell 2;have x3 := HX.o.cell 3;have x4 := HX.o.cell 4;have x5 := HX.o.cell 5;have x6 := HX.o.cell 6;have x7 := HX.o.cell 7;simp at x0 x1 x2 x3 x4 x5 x6 x7;clear hb CO;go_wp2_with fail;with_reducible refine (CE.o _).mono ?_
     rintro e w2 ⟨rfl, hb⟩;replace HB := Qh (Jaa HB.o hb);clear hb CE HX x0 x1 x2 x3 x4 x5 x6 x7;go_wp2_with fail;with_reducible refine (CF.o _).mono ?_
     rintro e w3 ⟨rfl, hb⟩;replace HB := Qh (Jaa HB.o hb);clear hb CF;obtain ⟨y0, y1, y2⟩ := HSC.o _ _ _ _ (HH.o _ HB.o) rfl;go_wp2_with fail
     go_region_held3 (fun W => W.cell? ⟨q, 1, none⟩ = some (.slice (some ⟨g, o, none⟩) m1 cap) ∧ W.cell? ⟨g, o + m, none⟩ = some (.int .i64 (ln : Nat))) (go_keep) (first
      | (go_at_call 98; refine (CR.o _ (Jaa HB.o ((Below.refl w3.heap.size w3).drew))).mono ?_; rintro e w5 ⟨rfl, hb5⟩; replace HB := Qh (Jaa HB.o (Jaa ((Below.refl w3.heap.size w3).drew) hb5)); clear hb5; obtain ⟨z0, z1, z2⟩ := HSC.o _ _ _ _ (HH.o _ HB.o) rfl))
     go_wp2_with fail;with_reducible refine (CX.o _ HB.o).mono ?_
     rintro e w6 ho;have HO := Qh (OpD.pre HB.o ho);obtain ⟨rfl, -⟩ := ho;clear CX;go_wp2_with fail;go_ret;exact HO.o
    ·rw [HEL.o hz]
     have tz : decide ((el : Int) < 16) = true := by simp; omega
     have tz' : decide (el < 16) = true := by simp; omega
     clear HEL HEX CX;go_enter Tryz.func49, Tryz.ntmps49;go_wp2_with fail;with_reducible refine (CO.o _ (Qa _)).mono ?_
     rintro e w1 ⟨rfl, hb⟩;have HX := Qh ((Jae #[.int .i64 x.trace, .int .i64 x.id, .int .i64 x.parent, .string (S x.svc), .string (S x.host), .int .i64 x.start, .int .i64 x.dur, .string (S x.note)] 39 w).below hb);have HB := Qh (Jaa (Qa _) hb);have x0 := HX.o.cell 0;have x1 := HX.o.cell 1;have x2 := HX.o.cell 2;have x3 := HX.o.cell 3;have x4 := HX.o.cell 4;have x5 := HX.o.cell 5;have x6 := HX.o.cell 6;have x7 := HX.o.cell 7;simp at x0 x1 x2 x3 x4 x5 x6 x7;clear hb CO;go_wp2_with fail;with_reducible refine (CE.o _).mono ?_
     rintro e w2 ⟨rfl, hb⟩;replace HB := Qh (Jaa HB.o hb);clear hb CE HX x0 x1 x2 x3 x4 x5 x6 x7;go_wp2_with fail;with_reducible refine (CF.o _).mono ?_
     rintro e w3 ⟨rfl, hb⟩;replace HB := Qh (Jaa HB.o hb);clear hb CF;obtain ⟨y0, y1, y2⟩ := HSC.o _ _ _ _ (HH.o _ HB.o) rfl;go_wp2_with fail
     go_region_held3 (fun W => W.cell? ⟨q, 1, none⟩ = some (.slice (some ⟨g, o, none⟩) m1 cap) ∧ W.cell? ⟨g, o + m, none⟩ = some (.int .i64 (ln : Nat))) (go_keep) (first
      | (go_at_call 98; refine (CR.o _ (Jaa HB.o ((Below.refl w3.heap.size w3).drew))).mono ?_; rintro e w5 ⟨rfl, hb5⟩; replace HB := Qh (Jaa HB.o (Jaa ((Below.refl w3.heap.size w3).drew) hb5)); clear hb5; obtain ⟨z0, z1, z2⟩ := HSC.o _ _ _ _ (HH.o _ HB.o) rfl))
     clear y0 y1 y2;go_wp2_with fail
     go_region_held3 (fun W => W.cell? ⟨q, 0, none⟩ = some (.pointer (some ⟨r, 0, none⟩)) ∧ W.cell? ⟨q, 1, none⟩ = some (.slice (some ⟨g, o, none⟩) m1 cap) ∧ W.cell? ⟨g, o + m, none⟩ = some (.int .i64 (ln : Nat))) (go_keep) (first
      | (go_at_call 97; refine (CN.o _).mono ?_; rintro e w6 ⟨rfl, hb6⟩; have HB6 := Qh (Jaa HB.o (Jaa ((Below.refl w5.heap.size w5).drew) hb6)); clear hb6; obtain ⟨u0, u1, u2⟩ := HSC.o _ _ _ _ (HH.o _ HB6.o) rfl)
      | (go_at_call 102; refine (CY.o _ HB6.o).mono ?_; rintro e w7 ho; have HO := Qh ho; obtain ⟨rfl, c4, hd4, -, -⟩ := ho; have HD4 := Qh hd4; clear hd4; obtain ⟨a0, a1, a2⟩ := HSC.o _ _ _ _ HD4.o rfl)
      | (go_at_call 95; refine (CT.o _ _ HD4.o).mono ?_; rintro e w8 ht; have HT := Qh ht; obtain ⟨hd5, -⟩ := ht.dc HD4.o; obtain ⟨rfl, -⟩ := ht; obtain ⟨b0, b1, b2⟩ := HSC.o _ _ _ _ hd5 rfl; clear hd5))
     go_wp2_with fail;go_ret;exact HLY.o _ _ (Jc0 HB6.o HO.o HT.o)
 ·have he : append6 x G D = (51, D, G) := by unfold append6; rw [if_pos hs, Jb0 hs]
  rw [he];rw [decide_eq_true hs] at CO;have HS := Qh (fun W (k : Below w.heap.size w W) => Jbl (v := .int .i64 51) h k);clear h he hs hr hO hB hen hfew hx;go_enter Tryz.func49, Tryz.ntmps49;go_wp2_with fail;with_reducible refine (CO.o _ (Qa _)).mono ?_
  rintro e w1 ⟨rfl, hb⟩;have HB := Qh (Jaa (Qa _) hb);clear hb CO;go_wp2_with fail;go_ret;exact HS.o _ HB.o
end
end
section
open Go Go.RowKit Go.Maps
namespace Dk
theorem append_okd {D : St} (h : Ok D) (nm s : List UInt8) : Ok (append nm s D).2 := by
 unfold append;split
 ·exact h
 ·split
  ·exact h
  ·split
   ·exact h
   ·rename_i q1 q2 q3
    simp only [not_or, not_and, Bool.not_eq_false] at q2 q3;refine struck_ok5 (put_ok5 (f := ⟨nm, (get nm D.L).dat ++ s, (get nm D.L).safe⟩) h q2 ?_ ?_ ?_)
    ·have := get_safe h.l nm
     simp only [List.length_append]; omega
    ·cases hh : has nm D.L with
     | true => exact .inl rfl
     | false => exact .inr (q3.1 hh)
    ·simp only [List.length_append]; omega
theorem remove_okd {D : St} (h : Ok D) (nm : List UInt8) : Ok (remove nm D).2 := by
 unfold remove;split
 ·exact h
 ·split
  ·exact h
  ·have hs := struck_ok5 h
   dsimp only
   by_cases hc' : (struck D).1 = true
   case pos => rw [if_pos hc']; exact hs
   have hc : (struck D).1 = false := by simpa using hc'
   rw [if_neg hc'];obtain ⟨hL, hR⟩ := struck_keep hc;have := del_ok5 hs nm;rw [hL] at this;exact this
end Dk
def Jgv (q : Nat) (w : World) : Nat := match w.cell? ⟨q, 1, none⟩ with
 | some (.slice _ n _) => n
 | _ => 0
section
open Hl
variable {B r q : Nat} {c c' : Rc} {vs vs' : Value} {D D' : Dk.St} {G G' : Hl.Lg} {w w' w1 : World} {v v' : Value} {e e' : Ending}
theorem DcIn.rest {g o m cap : Nat} (h : DcIn B r q c (.slice (some ⟨g, o, none⟩) (m + 1) cap) D G w) (hm : G.S.length = m + 1) :
  DcIn B r q c (.slice (some ⟨g, o + 1, none⟩) m (cap - 1)) D G.shift (w.setCell ⟨q, 1, none⟩ (.slice (some ⟨g, o + 1, none⟩) m (cap - 1))) := by
 have hw : Wr (fun k => k = q) w (w.setCell ⟨q, 1, none⟩ (.slice (some ⟨g, o + 1, none⟩) m (cap - 1))) := Jai _ _ _ rfl;have hl : G.shift.S.length = m := by show G.S.tail.length = m; rw [List.length_tail]; omega
 have hx : nats (G.shift.S.map (·.n)) = (nats (G.S.map (·.n))).drop 1 := by
  show nats (G.S.tail.map (·.n)) = _
  unfold nats;rw [List.drop_one, List.map_tail, List.map_tail]
 have hr := h.row;rw [hm] at hr;refine ⟨h.disk.wr hw (fun k hk e => h.ap k (.inl e) hk), ?_, ?_, h.ap, h.bq, h.br, by rw [hl]; have := h.few; omega⟩
 ·exact h.box.set 1 _
 ·rw [hl, hx]
  exact (hr.rest).wr hw (fun k hk e => hr.ne h.box (by decide) k hk e)
theorem DcIn.len (h : DcIn B r q c vs D G w) : Jgv q w = G.S.length := by
 obtain ⟨ao, cap, rfl, -, -⟩ := h.row.val;unfold Jgv;rw [show w.cell? ⟨q, 1, none⟩ = some (.slice ao G.S.length cap) from h.box.cell 1]
structure RtJ6 (B r q : Nat) (c : Rc) (vs : Value) (n : Nat) (F : Int × Dk.St × Hl.Lg) (w : World) (D : Dk.St) (G : Hl.Lg) (wr : World) : Prop where
 h : OpD B r q c vs (.int .i64 0) D G w (.returned (.int .i64 0)) wr
 f : retainL n G.S G D = F
 ok : Dk.Ok D
 few : ∀ s ∈ G.S, s.n ≤ 1000
theorem Jlp (h : DcIn B r q c vs D G w) (hO : Dk.Ok D) (hB : B ≤ w.heap.size) (n : Int) (hn : n ≤ 9223372036854775807) (hfew : ∀ s ∈ G.S, s.n ≤ 1000) : Calls Tryz.prog 44 #[.pointer (some ⟨q, 0, none⟩), .int .i64 n] w (OpD B r q c vs (.int .i64 (retain6 n G D).1) (retain6 n G D).2.1 (retain6 n G D).2.2 w) := by
 have CO := Qh (Jbc h);have HS := Qh (fun (v : Value) W (k : Below w.heap.size w W) => Jbl (v := v) h k);by_cases hs : Hl.state D G = 0
 ·rw [decide_eq_false (by simp [hs])] at CO
  by_cases hn1 : n < 1
  ·have he : retain6 n G D = (2, D, G) := by unfold retain6; rw [if_neg (by simp [hs]), if_pos hn1]
   rw [he];have dn : decide (n < 1) = true := by simpa using hn1
   clear h he hs hfew hO hB;go_enter Tryz.func44, Tryz.ntmps44;go_wp2_with fail;with_reducible refine CO.o.mono ?_
   rintro e w1 ⟨rfl, hb⟩;have HB := Qh hb;clear hb CO;go_wp2_with fail;go_ret;exact HS.o _ _ HB.o
  ·have dn : decide (n < 1) = false := by simpa using hn1
   obtain ⟨nn, rfl⟩ : ∃ k : Nat, n = (k : Int) := ⟨n.toNat, by omega⟩
   obtain ⟨F, hF⟩ : ∃ F, F = retainL nn G.S G D := ⟨_, rfl⟩
   have he : retain6 nn G D = F := by unfold retain6; rw [if_neg (by simp [hs]), if_neg hn1, hF, Int.toNat_natCast]
   rw [he];have hn2 : 1 ≤ nn := by omega
   have HI0 := Qh (fun W (k : Below w.heap.size w W) => (⟨HS.o _ W k, hF.symm, hO, hfew⟩ : RtJ6 B r q c vs nn F w D G W));have HB0 := Qh hB;clear h he hs hfew hO hB hF HS;go_enter Tryz.func44, Tryz.ntmps44;go_wp2_with fail;with_reducible refine CO.o.mono ?_
   rintro e w1 ⟨rfl, hb⟩;have HI := Qh (HI0.o w1 hb);clear hb CO HI0;go_wp2_with fail;go_loopw [] (fun wr => ∃ D' G', Hid (RtJ6 B r q c vs nn F w D' G' wr)) (fun wr => Jgv q wr)
   case atStart => exact ⟨D, G, HI⟩
   case round =>
    clear HI;obtain ⟨w3, rfl⟩ : ∃ x, x = wr := ⟨_, rfl⟩
    obtain ⟨D', G', HI⟩ := hrel;obtain ⟨⟨-, c1, vs1, hd, hff, hw⟩, hf, hok, hfw⟩ := HI.o;obtain ⟨ao, cap, rfl, hcm, hcp⟩ := hd.row.val;have c3 : w3.cell? ⟨q, 1, none⟩ = some (.slice ao G'.S.length cap) := hd.box.cell 1;have hml := hd.len;have hkf := hd.few;by_cases hle : G'.S.length ≤ nn
    ·have dl : decide ((nn : Int) < (G'.S.length : Int)) = false := by simp; omega
     have dl' : decide (nn < G'.S.length) = false := by simp; omega
     have HF := Qh (show OpD B r q c vs (.int .i64 F.1) F.2.1 F.2.2 w (.returned (.int .i64 0)) w3 from by
      have hf2 := hf;rw [retainL_few hle] at hf2;rw [← hf2]
      exact HI.o.h)
     clear HI hf hw hff hd hcm hcp hml hok hfw;generalize G'.S.length = M at *;go_wp2_with fail;go_ret;exact HF.o
    ·obtain ⟨m, hm⟩ : ∃ m, G'.S.length = (m + 1) + 1 := ⟨G'.S.length - 2, by omega⟩
     obtain ⟨s, S', hSS⟩ : ∃ s S', G'.S = s :: S' := by
      cases hq : G'.S with
      | nil => rw [hq] at hm; simp at hm
      | cons a b => exact ⟨a, b, rfl⟩
     obtain ⟨g, o, cap', hvq, hc1, hc2, hcj⟩ := hd.lastc hm;rw [hm] at hvq;simp only [Value.slice.injEq] at hvq;obtain ⟨rfl, -, rfl⟩ := hvq;have hsn : s.n ≤ 1000 := hfw s (by rw [hSS]; exact List.mem_cons_self);have hSl : S'.length = m + 1 := by have := congrArg List.length hSS; rw [hm, List.length_cons] at this; omega
     have g0 : (G'.S[0]'(by omega)) = s := by simp only [hSS]; rfl
     simp only [hm] at hd
     have HSC := Qh (fun c' D2 G2 W (k : DcIn B r q c' (.slice (some ⟨g, o, none⟩) (m + 1 + 1) cap) D2 G2 W) (e : G2.S = G'.S) => show W.cell? ⟨q, 0, none⟩ = some (.pointer (some ⟨r, 0, none⟩)) ∧ W.cell? ⟨q, 1, none⟩ = some (.slice (some ⟨g, o, none⟩) (m + 1 + 1) cap) ∧ W.cell? ⟨g, o, none⟩ = some (.int .i64 (s.n : Nat)) from by
      refine ⟨k.box.cell 0, k.box.cell 1, ?_⟩;obtain ⟨g', o', cap2, hv2, -, -, q4⟩ := k.lastc (by rw [e]; exact hm);simp only [Value.slice.injEq, Option.some.injEq, Addr.mk.injEq, true_and, and_true] at hv2;obtain ⟨⟨rfl, rfl⟩, -⟩ := hv2;have := q4 0 (by rw [e]; omega);simp only [e, g0, Nat.add_zero] at this
      exact this)
     have CN := Qh (fun W => Jca s.n (by omega) W)
     have CY := Qh (show ∀ W, Below w3.heap.size w3 W → Calls Tryz.prog 92 #[.pointer (some ⟨r, 0, none⟩), .string (S (nm s.n))] W (OpJ B r q c1 (.slice (some ⟨g, o, none⟩) (m + 1 + 1) cap) (.int .i64 (Dk.remove (nm s.n) D').1) (Dk.remove (nm s.n) D').2 G' W) from fun W k =>
      (Ji2 (hd.below k).disk (Nat.le_trans (Nat.le_trans HB0.o hw.size) k.size) (nm s.n) hok.n hok.k).mono fun e w' ho => OpI.dj (hd.below k) ho)
     have CT := Qh (show ∀ c' W, DcIn B r q c' (.slice (some ⟨g, o, none⟩) (m + 1 + 1) cap) (Dk.remove (nm s.n) D').2 G' W → Calls Tryz.prog 95 #[.pointer (some ⟨q, 0, none⟩), .int .i64 (Dk.remove (nm s.n) D').1] W (TolR6 G' (Dk.remove (nm s.n) D').1 q W) from fun c' W k => Jdr k _);have hrl := retainL_cons nn s S' G' D';rw [← hSS, hf, if_neg (by omega)] at hrl;have HOK := Qh (Dk.remove_okd hok (nm s.n));generalize nm s.n = N at *;obtain ⟨rr, hrr⟩ : ∃ rr, rr = Dk.remove N D' := ⟨_, rfl⟩
     rw [← hrr] at CY CT hrl HOK;have dl : decide ((nn : Int) < ((m + 1 + 1 : Nat) : Int)) = true := by simp; omega
     have dl' : decide (nn < m + 1 + 1) = true := by simp; omega
     have dl3 : decide ((nn : Int) < (m : Int) + 1 + 1) = true := by have := dl'; simp only [decide_eq_true_eq] at *; omega
     have HHB := Qh (fun W (k : Below w3.heap.size w3 W) => hd.below k);obtain ⟨x0, x1, x2⟩ := HSC.o _ _ _ _ hd rfl;have HFF := Qh hff;have HW := Qh hw;have HRL := Qh hrl;have HML := Qh (hml.trans hm);have HFW := Qh hfw;have HSS := Qh hSS;have HM := Qh hm;have hmm : m + 1 + 1 ≤ 1000 := by omega
     have hi2 : (0 : Int) < (m : Int) + 1 + 1 := by omega
     have hi3 : (0 : Int) < ((m + 1 + 1 : Nat) : Int) := by omega
     obtain ⟨sn, hsn2⟩ : ∃ x, x = s.n := ⟨_, rfl⟩
     rw [← hsn2] at x2 CN HSC;clear HI hf hw hff hd hrl hml hfw hok hrr hcm hcp hc1 hc2 hcj g0 hle hSl hsn hsn2 hSS hm hkf c3;go_wp2_with fail
     go_region_held3 (fun W => W.cell? ⟨q, 0, none⟩ = some (.pointer (some ⟨r, 0, none⟩)) ∧ W.cell? ⟨q, 1, none⟩ = some (.slice (some ⟨g, o, none⟩) (m + 1 + 1) cap) ∧ W.cell? ⟨g, o, none⟩ = some (.int .i64 (sn : Nat))) (go_keep) (first
      | (go_at_call 97; refine (CN.o _).mono ?_; rintro e w4 ⟨rfl, hb4⟩; have HB4 := Qh (Jaa ((Below.refl w3.heap.size w3).drew) hb4); clear hb4; obtain ⟨z0, z1, z2⟩ := HSC.o _ _ _ _ (HHB.o _ HB4.o) rfl)
      | (go_at_call 92; refine (CY.o _ HB4.o).mono ?_; rintro e w5 ho; have HO := Qh ho; obtain ⟨rfl, c4, hd4, -, -⟩ := ho; have HD4 := Qh hd4; clear hd4; obtain ⟨y0, y1, y2⟩ := HSC.o _ _ _ _ HD4.o rfl)
      | (go_at_call 95; refine (CT.o _ _ HD4.o).mono ?_; rintro e w6 ht; have HT := Qh ht; obtain ⟨hd5, -⟩ := ht.dc HD4.o; obtain ⟨rfl, -⟩ := ht; obtain ⟨u0, u1, u2⟩ := HSC.o _ _ _ _ hd5 rfl; clear hd5))
     have HOP := Qh ((Jc0 HB4.o HO.o HT.o).lift HFF.o HW.o)
     have HOP2 := Qh (show rr.1 = 0 → ∃ c5, DcIn B r q c5 (.slice (some ⟨g, o, none⟩) (m + 1 + 1) cap) rr.2 G' w6 ∧ (∀ k, DcF r q c5 (.slice (some ⟨g, o, none⟩) (m + 1 + 1) cap) k → DcF r q c vs k ∨ w.heap.size ≤ k) ∧ Wr (DcF r q c vs) w w6 from fun z => by
      obtain ⟨-, c5, h1, h2, h3⟩ := HO.o;obtain ⟨d1, d2⟩ := HT.o.dc h1;rw [z, hold_zero] at d1;have h2' : ∀ k, DcF r q c5 (.slice (some ⟨g, o, none⟩) (m + 1 + 1) cap) k → DcF r q c1 (.slice (some ⟨g, o, none⟩) (m + 1 + 1) cap) k ∨ w3.heap.size ≤ k := fun k hk => (h2 k hk).imp id (Nat.le_trans HB4.o.size)
      refine ⟨c5, d1, fun k hk => ?_, ?_⟩
      ·rcases h2' k hk with z | z
       ·exact HFF.o k z
       ·exact .inr (Nat.le_trans HW.o.size z)
      ·exact HW.o.step (((Jad HB4.o).trans h3).trans (d2.mono (fun x hx => .inl (.inr (.inl hx))))) (fun x hx => HFF.o x hx))
     clear HO HT HD4 x0 x1 x2 y0 y1 y2 z0 z1 z2 HB4 HHB CN CY CT HFF;by_cases hr : rr.1 = 0
     ·obtain ⟨c5, hd5, hf5, hw5⟩ := HOP2.o hr
      have d1 : (rr.1 != 0) = false := by simp [hr]
      have HD5 := Qh hd5;have HF5 := Qh hf5;have HW5 := Qh hw5;clear hd5 hf5 hw5 HOP HOP2;have hcap : m + 1 + 1 ≤ cap := by obtain ⟨_, _, _, hv, k1, -⟩ := HD5.o.lastc HM.o; simp only [Value.slice.injEq] at hv; omega
      have hcap2 : cap ≤ maxLen := by obtain ⟨_, _, _, hv, -, k1, -⟩ := HD5.o.lastc HM.o; simp only [Value.slice.injEq] at hv; omega
      have hcap1 : ¬ cap = 1 := by omega
      have f9 : w6.frozen? ⟨q, 1, none⟩ = false := HD5.o.box.free 1;go_wp2_with fail
      have HI : RtJ6 B r q c vs nn F w rr.2 G'.shift (w6.setCell ⟨q, 1, none⟩ (.slice (some ⟨g, o + 1, none⟩) (m + 1) (cap - 1))) := by
       have hR := HD5.o.rest HM.o;have hset := Jai (A := fun z => z = q) w6 ⟨q, 1, none⟩ (.slice (some ⟨g, o + 1, none⟩) (m + 1) (cap - 1)) rfl;refine ⟨⟨rfl, c5, _, hR, fun k hk => HF5.o k ?_, HW5.o.step hset (fun x hx => ?_)⟩, ?_, HOK.o, fun s hs => HFW.o s (List.mem_of_mem_tail hs)⟩
       ·rcases hk with z | z | z
        ·exact .inl z
        ·exact .inr (.inl z)
        ·exact .inr (.inr z)
       ·rw [hx]
        exact HF5.o q (.inr (.inl rfl))
       ·have := HRL.o
        rw [if_pos hr] at this;rw [this];show retainL nn G'.S.tail G'.shift rr.2 = _
        rw [HSS.o];rfl
      refine ⟨⟨_, _, Qh HI⟩, ?_⟩;rw [HML.o, HI.h.2.choose_spec.choose_spec.1.len];show G'.S.tail.length < _
      rw [List.length_tail, HM.o];omega
     ·have d1 : (rr.1 != 0) = true := by simp [hr]
      rw [if_neg hr] at HRL
      have HOP3 := Qh (show OpD B r q c vs (.int .i64 F.1) F.2.1 F.2.2 w (.returned (.int .i64 F.1)) w6 from by
       rw [HRL.o]
       exact HOP.o)
      have hf1 : F.1 = rr.1 := by rw [HRL.o]
      rw [hf1] at HOP3;clear HOP HOP2 HRL u0 u1 u2;go_wp2_with fail;go_ret;rw [hf1];exact HOP3.o
 ·have he : retain6 n G D = (51, D, G) := by unfold retain6; rw [if_pos hs, Jb0 hs]
  rw [he];rw [decide_eq_true hs] at CO;clear h he hs hfew hO hB;go_enter Tryz.func44, Tryz.ntmps44;go_wp2_with fail;with_reducible refine CO.o.mono ?_
  rintro e w1 ⟨rfl, hb⟩;have HB := Qh hb;clear hb CO;go_wp2_with fail;go_ret;exact HS.o _ _ HB.o
end
end
section
open Go Go.RowKit Go.Maps
section
open Hl
variable {B r q : Nat} {c c' : Rc} {vs vs' : Value} {D D' : Dk.St} {G G' : Hl.Lg} {w w' w1 : World} {v v' : Value} {e e' : Ending}
def RcSf (D : Dk.St) (G : Lg) : Prop := ∀ s ∈ G.S, (M.wh ((Dk.get (nm s.n) D.L).dat.take (Dk.get (nm s.n) D.L).safe) 0).1.length = cntE s.es (Dk.get (nm s.n) D.L).safe ∧ (Dk.get (nm s.n) D.L).safe ≤ (Dk.get (nm s.n) D.L).dat.length
theorem Jje (h : DcIn B r q c vs D G w) (hr : Hl.state D G = 0 → RcOk D G) (hsf : Hl.state D G = 0 → RcSf D G) : Calls Tryz.prog 52 #[.pointer (some ⟨q, 0, none⟩)] w fun e w' => e = .returned (.int .i64 (sureL D G : Nat)) ∧ Below w.heap.size w w' := by
 have CO := Qh (Jbc h);have HH := Qh (fun W (k : Below w.heap.size w W) => h.below k);by_cases hs : Hl.state D G = 0
 ·have hf : sureL D G = sureS D G.S 0 := if_pos hs
  rw [hf];rw [decide_eq_false (by simp [hs])] at CO;by_cases h0 : G.S.length = 0
  ·have hn : G.S = [] := List.length_eq_zero_iff.1 h0
   obtain ⟨ao, cap, rfl, -, -⟩ := h.row.val;rw [show sureS D G.S 0 = 0 from by rw [hn]; rfl];clear h hf hs hn hr hsf;go_enter Tryz.func52, Tryz.ntmps52;go_wp2_with fail;with_reducible refine CO.o.mono ?_
   rintro e w1 ⟨rfl, hb⟩;have x1 : w1.cell? ⟨q, 1, none⟩ = some (.slice ao G.S.length cap) := (HH.o _ hb).box.cell 1;rw [h0] at x1;have HB := Qh hb;clear hb CO;go_wp2_with fail;go_ret;exact ⟨rfl, HB.o⟩
  ·obtain ⟨m, hm⟩ : ∃ m, G.S.length = m + 1 := ⟨G.S.length - 1, by omega⟩
   obtain ⟨g, o, cap, rfl, hc1, hc2, hcj⟩ := h.lastc hm;have hm63 : m + 1 ≤ 1000 := by have := h.few; omega
   have HSC := Qh (fun W (k : Below w.heap.size w W) => show W.cell? ⟨q, 0, none⟩ = some (.pointer (some ⟨r, 0, none⟩)) ∧ W.cell? ⟨q, 1, none⟩ = some (.slice (some ⟨g, o, none⟩) (m + 1) cap) ∧ ∀ j (hj : j < G.S.length), W.cell? ⟨g, o + j, none⟩ = some (.int .i64 ((G.S[j]).n : Nat)) from by
    refine ⟨(HH.o W k).box.cell 0, (HH.o W k).box.cell 1, ?_⟩;obtain ⟨g', o', cap2, hv2, -, -, q4⟩ := (HH.o W k).lastc hm;simp only [Value.slice.injEq, Option.some.injEq, Addr.mk.injEq, true_and, and_true] at hv2;obtain ⟨⟨rfl, rfl⟩, -⟩ := hv2
    exact q4)
   obtain ⟨R, hR⟩ : ∃ R, R = sureS D G.S 0 := ⟨_, rfl⟩
   have HR0 := Qh (show ∀ a, sureS D (G.S.drop 0) a = R from fun a => by
    rw [List.drop_zero, hR];cases hq : G.S with
    | nil => rw [hq] at hm; simp at hm
    | cons x y => rfl)
   rw [← hR];have HRC := Qh (hr hs).rec_;have HSF := Qh (hsf hs);have HM := Qh hm;have t1 : ((((m + 1 : Nat) : Int)) == 0) = false := by simp; omega
   have t2 : (((m : Int) + 1) == 0) = false := by simp; omega
   have hi2 : (0 : Int) < (m : Int) + 1 := by omega
   have hi3 : (0 : Int) < ((m + 1 : Nat) : Int) := by omega
   clear h hf hs h0 hr hsf hc1 hc2 hcj hR hm;go_enter Tryz.func52, Tryz.ntmps52;go_wp2_with fail;with_reducible refine CO.o.mono ?_
   rintro e w1 ⟨rfl, hb⟩;obtain ⟨x0, x1, x2⟩ := HSC.o _ hb;have x3 := x2 0 (by have := HM.o; omega);rw [Nat.add_zero] at x3;generalize (G.S[0]'(by have := HM.o; omega)).n = n0 at *;clear x2;have HB := Qh hb;clear hb CO;go_wp2_with fail;clear x0 x1 x3;go_loopw [3, 4] (fun v i wr => ∃ (a k : Nat), k ≤ m + 1 ∧ i = .int .i64 k ∧ v = .int .i64 a ∧ Hid (sureS D (G.S.drop k) a = R ∧ Below w.heap.size w wr)) (fun _ i _ => m + 1 - (intOf i).toNat)
   case atStart => exact ⟨n0, 0, by omega, rfl, rfl, Qh ⟨HR0.o n0, HB.o⟩⟩
   case round =>
    clear HB HR0;obtain ⟨w3, rfl⟩ : ∃ x, x = wr := ⟨_, rfl⟩
    obtain ⟨a, k, hk, rfl, rfl, HI⟩ := hrel;obtain ⟨x0, x1, x2⟩ := HSC.o _ HI.o.2;by_cases hle : m + 1 ≤ k
    ·have hkk : k = m + 1 := by omega
     have dl : decide ((k : Int) < ((m + 1 : Nat) : Int)) = false := by simp; omega
     have dl1 : decide ((k : Int) < (m : Int) + 1) = false := by simp; omega
     have dl' : decide (k < m + 1) = false := by simp; omega
     have HB := Qh HI.o.2;have hRa : a = R := by have := HI.o.1; rw [hkk, List.drop_of_length_le (by have := HM.o; omega)] at this; exact this
     subst hRa;clear HI x2 hkk;go_wp2_with fail;go_ret;exact ⟨rfl, HB.o⟩
    ·have dl : decide ((k : Int) < ((m + 1 : Nat) : Int)) = true := by simp; omega
     have dl1 : decide ((k : Int) < (m : Int) + 1) = true := by simp; omega
     have dl' : decide (k < m + 1) = true := by simp; omega
     have x3 := x2 k (by have := HM.o; omega);clear x2;obtain ⟨s, hsd⟩ : ∃ s, s = G.S[k]'(by have := HM.o; omega) := ⟨_, rfl⟩
     rw [← hsd] at x3;have hsm : s ∈ G.S := by rw [hsd]; exact List.getElem_mem _
     obtain ⟨r1, r2, r3⟩ := HRC.o s hsm;obtain ⟨q1, q2⟩ := HSF.o s hsm;have HDR := Qh (show G.S.drop k = s :: G.S.drop (k + 1) from by rw [hsd]; exact List.drop_eq_getElem_cons (by have := HM.o; omega));have CD := Qh (fun W (k : Below w.heap.size w W) => Jdq (HH.o W k) s.n (by omega));have CN := Qh (fun W => Jca s.n (by omega) W);have CS := Qh (show ∀ W, Below w.heap.size w W → Calls Tryz.prog 109 #[.pointer (some ⟨r, 0, none⟩), .string (S (nm s.n))] W fun e w' => e = .returned (.int .i64 (Dk.get (nm s.n) D.L).safe) ∧ W = w' from fun W k => Jiu (HH.o W k).disk (nm s.n))
     have CR := Qh (show ∀ W, Below w.heap.size w W → Calls Tryz.prog 98 #[.pointer (some ⟨q, 0, none⟩), .int .i64 (s.n : Nat)] W fun e w' => e = .returned (.int .i64 (s.es.length : Nat)) ∧ Below W.heap.size W w' from fun W k => by
      have := Jc6 (HH.o W k) s.n (by omega) r2;rw [r1] at this
      exact this)
     have CW := Qh (fun W => Jcn ((Dk.get (nm s.n) D.L).dat.take (Dk.get (nm s.n) D.L).safe) (by rw [List.length_take]; omega) W);have hce := cntE_le s.es (Dk.get (nm s.n) D.L).safe
     have HST := Qh (show R = if cntE s.es (Dk.get (nm s.n) D.L).safe < s.es.length then s.n + cntE s.es (Dk.get (nm s.n) D.L).safe else sureS D (G.S.drop (k + 1)) (s.n + cntE s.es (Dk.get (nm s.n) D.L).safe) from by
      have := HI.o.1;rw [HDR.o] at this
      exact this.symm)
     rw [q1] at CW;generalize nm s.n = N at *;generalize (Dk.get N D.L).safe = sf at *;generalize (Dk.get N D.L).dat = dt at *;generalize cntE s.es sf = ce at *;generalize (M.wh (dt.take sf) 0).2 = en at *;generalize (M.wh (dt.take sf) 0).1 = rs at *;generalize s.es.length = el at *;generalize s.n = sn at *;have HSC3 := Qh (fun W (k : Below w3.heap.size w3 W) => (HSC.o _ (Jaa HI.o.2 k)));have HXK := Qh (fun W (k2 : Below w3.heap.size w3 W) => show W.cell? ⟨q, 0, none⟩ = some (.pointer (some ⟨r, 0, none⟩)) ∧ W.cell? ⟨q, 1, none⟩ = some (.slice (some ⟨g, o, none⟩) (m + 1) cap) ∧ W.cell? ⟨g, o + k, none⟩ = some (.int .i64 (sn : Nat)) from ⟨Jab x0 k2, Jab x1 k2, Jab x3 k2⟩);have HB := Qh HI.o.2;have hi4 : (k : Int) < (m : Int) + 1 := by omega
     have hi5 : (k : Int) < ((m + 1 : Nat) : Int) := by omega
     have hsf1 : (sf : Int) ≤ (dt.length : Int) := by omega
     have wsn : IntKind.i64.wrap ((sn : Int) + (ce : Int)) = ((sn + ce : Nat) : Int) := by rw [IntWalk.i64_in _ (by omega)]; omega
     have RP := Jat (P := Tryz.prog) 9 Tryz.underlying9 dt (sf : Int) sf rfl q2;clear HI hle hsd hsm r1 HDR HSC3 q1;go_wp2_with fail
     go_region_held3 (fun W => W.cell? ⟨q, 0, none⟩ = some (.pointer (some ⟨r, 0, none⟩)) ∧ W.cell? ⟨q, 1, none⟩ = some (.slice (some ⟨g, o, none⟩) (m + 1) cap) ∧ W.cell? ⟨g, o + k, none⟩ = some (.int .i64 (sn : Nat))) (go_keep) (first
      | (go_at_call 89; refine (CD.o _ (Jaa HB.o ((Below.refl w3.heap.size w3).drew))).mono ?_; rintro e w4 ⟨rfl, hb4⟩; have HB4 := Qh (Jaa ((Below.refl w3.heap.size w3).drew) hb4); clear hb4; obtain ⟨z0, z1, z2⟩ := HXK.o _ HB4.o)
      | (go_at_call 97; refine (CN.o _).mono ?_; rintro e w5 ⟨rfl, hb5⟩; have HB5 := Qh (Jaa HB4.o hb5); clear hb5; obtain ⟨y0, y1, y2⟩ := HXK.o _ HB5.o)
      | (go_at_call 109; refine (CS.o _ (Jaa HB.o HB5.o)).mono ?_; rintro e w6 ⟨rfl, rfl⟩)
      | (go_at_call 88; refine (CW.o _).mono ?_; rintro e w7 ⟨v, rfl, hrw, hb7⟩; obtain ⟨ao, cp, rfl⟩ := Jac hrw; have HB7 := Qh (Jaa HB5.o hb7); clear hb7 hrw; obtain ⟨u0, u1, u2⟩ := HXK.o _ HB7.o))
     replace HB := Qh (Jaa HB.o HB7.o);clear x0 x1 x3 z0 z1 z2 y0 y1 y2 HB4 HB5 CD CN CS CW RP;by_cases hz : ce < el
     ·have dz : decide ((ce : Int) < (el : Int)) = true := by simp; omega
      have dz' : decide (ce < el) = true := by simp; omega
      have hRR : sn + ce = R := by have := HST.o; rw [if_pos hz] at this; exact this.symm
      go_wp2_with fail;with_reducible refine (CR.o _ HB.o).mono ?_
      rintro e w8 ⟨rfl, hb8⟩;have HB8 := Qh (Jaa HB.o hb8);clear hb8;go_wp2_with fail;go_ret;exact ⟨rfl, HB8.o⟩
     ·have dz : decide ((ce : Int) < (el : Int)) = false := by simp; omega
      have dz' : decide (ce < el) = false := by simp; omega
      have wk : IntKind.i64.wrap ((k : Int) + 1) = ((k + 1 : Nat) : Int) := by rw [IntWalk.i64_in _ (by omega)]; omega
      have HST2 := Qh (show sureS D (G.S.drop (k + 1)) (sn + ce) = R from by have := HST.o; rw [if_neg hz] at this; exact this.symm);go_wp2_with fail;with_reducible refine (CR.o _ HB.o).mono ?_
      rintro e w8 ⟨rfl, hb8⟩;have HB8 := Qh (Jaa HB.o hb8);clear hb8;go_wp2_with fail;go_roundw
      case rel => exact ⟨sn + ce, k + 1, by omega, by go_num, by go_num, Qh ⟨HST2.o, HB8.o⟩⟩
      case measure => simp [intOf]; omega
 ·have hf : sureL D G = 0 := if_neg hs
  rw [hf];rw [decide_eq_true hs] at CO;clear h hf hs hr hsf;go_enter Tryz.func52, Tryz.ntmps52;go_wp2_with fail;with_reducible refine CO.o.mono ?_
  rintro e w1 ⟨rfl, hb⟩;have HB := Qh hb;clear hb CO;go_wp2_with fail;go_ret;exact ⟨rfl, HB.o⟩
end
end
section
open Go Go.RowKit Go.Maps
namespace Hl
def outN (fl : List M.Sp) (x y d : Nat) : List M.Sp := (fl.take (min d y)).drop x
theorem outN_in {fl : List M.Sp} {x y d : Nat} (h1 : x ≤ d) (h2 : d < y) (h3 : d < fl.length) : outN fl x y (d + 1) = outN fl x y d ++ [fl[d]] := by
 unfold outN;rw [show min (d + 1) y = d + 1 from by omega, show min d y = d from by omega, List.take_add_one, List.getElem?_eq_getElem h3];rw [List.drop_append_of_le_length (by rw [List.length_take]; omega)];rfl
theorem outN_out {fl : List M.Sp} {x y d : Nat} (h : d < x ∨ y ≤ d) : outN fl x y (d + 1) = outN fl x y d := by
 unfold outN;rcases h with h | h
 ·rw [List.drop_eq_nil_of_le (by rw [List.length_take]; omega), List.drop_eq_nil_of_le (by rw [List.length_take]; omega)]
 ·rw [show min (d + 1) y = y from by omega, show min d y = y from by omega]
theorem outN_len {fl : List M.Sp} {x y d : Nat} (h : d ≤ fl.length) : (outN fl x y d).length = min d y - x := by
 unfold outN;rw [List.length_drop, List.length_take];omega
theorem outN_zero (fl : List M.Sp) (x y : Nat) : outN fl x y 0 = [] := by
 unfold outN;rw [Nat.zero_min, List.take_zero, List.drop_nil]
theorem cn_at : ∀ (Z : List Sg) (F : Nat), Cn F Z → ∀ i (hi : i < Z.length), (Z[i]).n = F + cnt (Z.take i)
 | [], _, _, i, hi => absurd hi (Nat.not_lt_zero _)
 | s :: Z, F, ⟨q1, q2⟩, 0, hi => by simpa [cnt, flat] using q1
 | s :: Z, F, ⟨q1, q2⟩, i + 1, hi => by
  have := cn_at Z _ q2 i (by simpa using hi);rw [List.getElem_cons_succ, this, List.take_succ_cons, cnt_cons];omega
theorem cnt_take_succ {Z : List Sg} {i : Nat} (hi : i < Z.length) : cnt (Z.take (i + 1)) = cnt (Z.take i) + (Z[i]).L.length := by
 rw [List.take_add_one, List.getElem?_eq_getElem hi];exact cnt_snoc _ _
theorem flat_at {Z : List Sg} {i k : Nat} (hi : i < Z.length) (hk : k < (Z[i]).L.length) : ∃ h : cnt (Z.take i) + k < (flat Z).length, (flat Z)[cnt (Z.take i) + k] = (Z[i]).L[k] := by
 have e : flat Z = flat (Z.take i) ++ ((Z[i]).L ++ flat (Z.drop (i + 1))) := by
  have h1 := List.take_append_drop i Z;rw [List.drop_eq_getElem_cons hi] at h1;conv => lhs; rw [← h1]
  rw [flat_app, flat_cons]
 have hl : (flat (Z.take i)).length = cnt (Z.take i) := rfl
 have hlt : cnt (Z.take i) + k < (flat Z).length := by
  rw [e, List.length_append, List.length_append, hl]; omega
 refine ⟨hlt, ?_⟩
 have : (flat Z)[cnt (Z.take i) + k]? = some ((Z[i]).L[k]) := by
  rw [e, List.getElem?_append_right (by rw [hl]; omega), hl, Nat.add_sub_cancel_left, List.getElem?_append_left hk, List.getElem?_eq_getElem hk]
 rw [List.getElem?_eq_getElem hlt] at this;exact Option.some.inj this
theorem cnt_take_le {Z : List Sg} (i : Nat) : cnt (Z.take i) ≤ cnt Z := by
 have e : flat Z = flat (Z.take i) ++ flat (Z.drop i) := by rw [← flat_app, List.take_append_drop]
 show (flat (Z.take i)).length ≤ (flat Z).length
 rw [e, List.length_append];omega
end Hl
theorem Jlq {w : World} {B B' : Nat} {e e' : TypeId} {sz sz' : Nat} {v u : Value} {n m : Nat} {xs ys : List Value} (h : w.ownsRow B e sz v n xs) (k : w.ownsRow B' e' sz' u m ys) (hne : e ≠ e') : v.ownBlock = none ∨ v.ownBlock ≠ u.ownBlock := by
 rcases h.2 with ⟨rfl, _⟩ | ⟨g, cap, cur, rfl, hb, hg, _⟩
 ·exact .inl rfl
 ·right
  rcases k.2 with ⟨rfl, _⟩ | ⟨g', cap', cur', rfl, hb', hg', _⟩
  ·simp [Value.ownBlock]
  ·simp only [Value.ownBlock, ne_eq, Option.some.injEq]
   intro e1;subst e1;rw [hg] at hg';simp at hg';exact hne hg'.2
section
open Hl
variable {B r q : Nat} {c c' : Rc} {vs vs' : Value} {D D' : Dk.St} {G G' : Hl.Lg} {w w' w1 : World} {v v' : Value} {e e' : Ending}
theorem Jqj {Z : List Sg} (hs : Hl.state D G = 0) (hZ : RdOk D Z) {z : Sg} (hz : z ∈ Z) : (M.wh (Dk.get (nm z.n) D.L).dat 0).1 = z.L.map M.enc ∧ (Dk.get (nm z.n) D.L).dat.length ≤ 1000000 ∧ Mays z.L ∧ z.L.length ≤ 1000 := by
 have hup : D.up = true := by
  unfold Hl.state at hs;split at hs
  ·cases hs
  ·rename_i h; cases hu : D.up with
   | true => rfl
   | false => exact absurd (.inr (.inl hu)) h
 obtain ⟨tl, q1, q2, q3, q4⟩ := hZ z hz
 have hd : (Dk.get (nm z.n) D.L).dat = dat z.L ++ tl := by
  unfold Dk.read at q1;rw [if_neg (by rw [hup]; simp)] at q1;split at q1
  ·simp at q1
  ·exact (Prod.mk.inj q1).2
 have h1 := wh_rec q3 z.L [] q2;rw [List.nil_append, List.length_nil] at h1;have h2 := dat_most q2;have h3 := q3.2;rw [hd, h1, List.length_append];exact ⟨rfl, by omega, q2, q4⟩
theorem Jgw {B : Nat} {v : Value} {n : Nat} {ps : List (List UInt8)} (h : w.ownsRow B 9 1 v n (txs ps)) {k : Nat} (hk : k < n) (hl : ps.length = n) : ∃ g cap, v = .slice (some ⟨g, 0, none⟩) n cap ∧ w.cell? ⟨g, k, none⟩ = some (.string (S (ps[k]))) := by
 rcases h.2 with ⟨rfl, rfl⟩ | ⟨g, cap, cur, rfl, _⟩
 ·exact absurd hk (Nat.not_lt_zero _)
 ·obtain ⟨g', o', cap', hv, -, -, h3, -⟩ := (Jak h).shape (by omega)
  simp only [Value.slice.injEq, Option.some.injEq, Addr.mk.injEq, true_and, and_true] at hv;obtain ⟨⟨rfl, rfl⟩, rfl⟩ := hv;refine ⟨g, cap, rfl, ?_⟩;have := h3 k (by omega);rw [Nat.zero_add] at this;rw [this];unfold txs;rw [List.getElem?_map, List.getElem?_eq_getElem (by omega)];rfl
theorem Jo4 (h : DcIn B r q c vs D G w) (Z : List Sg) (hG : G.S = Z.map smOf) (hZ : Hl.state D G = 0 → RdOk D Z) (hr : Hl.state D G = 0 → RcOk D G) (hsf : Hl.state D G = 0 → RcSf D G) (hcn : Hl.state D G = 0 → Cn (firstL D G) Z ∧ sureL D G ≤ firstL D G + cnt Z ∧ firstL D G + cnt Z ≤ 900) (from_ most : Int) (hf : -9223372036854775808 ≤ from_ ∧ from_ ≤ 9223372036854775807) (hmo : -9223372036854775808 ≤ most ∧ most ≤ 9223372036854775807) :
  Calls Tryz.prog 45 #[.pointer (some ⟨q, 0, none⟩), .int .i64 from_, .int .i64 most] w (Jeg (readS Z D G from_ most) (readNb D G from_ most) (readE D G from_ most) w) := by
 have CO := Qh (Jbc h);have HH := Qh (fun W (k : Below w.heap.size w W) => h.below k);unfold readS readNb;obtain ⟨er, her⟩ : ∃ er, er = readE D G from_ most := ⟨_, rfl⟩
 rw [← her];unfold readE at her;by_cases hs : Hl.state D G = 0
 ·rw [if_neg (by simp [hs])] at her
  rw [decide_eq_false (by simp [hs])] at CO;by_cases h0 : most < 0
  ·rw [if_pos h0] at her
   subst her;rw [if_neg (by decide), if_neg (by decide)];have d0 : decide (most < 0) = true := by simpa using h0
   clear h hG hZ hsf hr hcn hs;go_enter Tryz.func45, Tryz.ntmps45;go_wp2_with fail;with_reducible refine CO.o.mono ?_
   rintro e w1 ⟨rfl, hb⟩;have HB := Qh hb;clear hb CO;go_wp2_with fail;go_ret3
   exact Jb9 HB.o
  ·rw [if_neg h0] at her
   have d0 : decide (most < 0) = false := by simpa using h0
   have CU := Qh (fun W (k : Below w.heap.size w W) => Jje (h.below k) hr hsf);have CF := Qh (fun W (k : Below w.heap.size w W) => Jhi (h.below k));obtain ⟨hc1, hc2, hc3⟩ := hcn hs;unfold upTo6;obtain ⟨su, hsu2⟩ : ∃ su, su = sureL D G := ⟨_, rfl⟩
   obtain ⟨fi, hfi⟩ : ∃ fi, fi = firstL D G := ⟨_, rfl⟩
   rw [← hsu2, ← hfi] at her hc2;rw [← hfi] at hc1 hc3 CF;rw [← hsu2] at CU ⊢;clear hsu2 hfi;by_cases hbad : from_ < (fi : Nat) ∨ (su : Nat) < from_
   ·rw [if_pos hbad] at her
    subst her;rw [if_neg (by decide), if_neg (by decide)];have RN := Qh (fun w' (k : Below w.heap.size w w') => Jb9 (er := 4) k);clear h hG hZ hs hr hsf hcn hc1 hc2;by_cases hb1 : from_ < (fi : Nat)
    ·have d1 : decide (from_ < (fi : Int)) = true := by simpa using hb1
     clear hbad;go_enter Tryz.func45, Tryz.ntmps45;go_wp2_with fail;with_reducible refine CO.o.mono ?_
     rintro e w1 ⟨rfl, hb⟩;have HB := Qh hb;clear hb CO;go_wp2_with fail;with_reducible refine (CU.o _ HB.o).mono ?_
     rintro e w2 ⟨rfl, hb⟩;replace HB := Qh (Jaa HB.o hb);clear hb CU;go_wp2_with fail;with_reducible refine (CF.o _ HB.o).mono ?_
     rintro e w3 ⟨rfl, hb⟩;replace HB := Qh (Jaa HB.o hb);clear hb CF;go_wp2_with fail;go_ret3
     exact RN.o _ HB.o
    ·have d1 : decide (from_ < (fi : Int)) = false := by simpa using hb1
     have d2 : decide ((su : Int) < from_) = true := by simpa using hbad.resolve_left hb1
     clear hbad;go_enter Tryz.func45, Tryz.ntmps45;go_wp2_with fail;with_reducible refine CO.o.mono ?_
     rintro e w1 ⟨rfl, hb⟩;have HB := Qh hb;clear hb CO;go_wp2_with fail;with_reducible refine (CU.o _ HB.o).mono ?_
     rintro e w2 ⟨rfl, hb⟩;replace HB := Qh (Jaa HB.o hb);clear hb CU;go_wp2_with fail;with_reducible refine (CF.o _ HB.o).mono ?_
     rintro e w3 ⟨rfl, hb⟩;replace HB := Qh (Jaa HB.o hb);clear hb CF;go_wp2_with fail;go_ret3
     exact RN.o _ HB.o
   ·rw [if_neg hbad] at her
    subst her;rw [if_pos rfl, if_pos rfl];obtain ⟨a, rfl⟩ : ∃ a : Nat, from_ = (a : Int) := ⟨from_.toNat, by omega⟩
    obtain ⟨mo, rfl⟩ : ∃ m : Nat, most = (m : Int) := ⟨most.toNat, by omega⟩
    simp only [Int.toNat_natCast];have hau : a ≤ su := by omega
    have hfa : fi ≤ a := by omega
    obtain ⟨cc, hcc⟩ : ∃ c, c = a + min mo (su - a) := ⟨_, rfl⟩
    rw [← hcc, readAll_eq a cc Z fi hc1];obtain ⟨x, hx⟩ : ∃ x, x = a - fi := ⟨_, rfl⟩
    obtain ⟨y, hy⟩ : ∃ y, y = cc - fi := ⟨_, rfl⟩
    rw [← hx, ← hy];have hfl : (flat Z).length = cnt Z := rfl
    have HFN := Qh (show outN (flat Z) x y (cnt Z) = ((flat Z).take y).drop x from by
     unfold outN
     rw [show min (cnt Z) y = y from by omega])
    have HLN := Qh (fun d (hd : d ≤ cnt Z) => outN_len (x := x) (y := y) (show d ≤ (flat Z).length from hd));have hzl : Z.length ≤ 1000 := by have := h.few; rw [hG, List.length_map] at this; exact this
    have HAT := Qh (fun i (hi : i < Z.length) => cn_at Z fi hc1 i hi);have HRD := Qh (fun z (hz : z ∈ Z) => Jqj hs (hZ hs) hz);have HGS := Qh hG;have d1 : decide ((a : Int) < (fi : Int)) = false := by simp; omega
    have d1' : decide (a < fi) = false := by simp; omega
    have d2 : decide ((su : Int) < (a : Int)) = false := by simp; omega
    have d2' : decide (su < a) = false := by simp; omega
    have hgl : G.S.length = Z.length := by rw [hG, List.length_map]
    obtain ⟨ag, cg, rfl, hcg1, hcg2⟩ := h.row.val;rw [hgl] at HH
    have HSC := Qh (fun W (k : Below w.heap.size w W) => show W.cell? ⟨q, 0, none⟩ = some (.pointer (some ⟨r, 0, none⟩)) ∧ W.cell? ⟨q, 1, none⟩ = some (.slice ag Z.length cg) ∧ ∀ j (hj : j < Z.length), ∃ g o, ag = some ⟨g, o, none⟩ ∧ W.cell? ⟨g, o + j, none⟩ = some (.int .i64 ((Z[j]).n : Nat)) from by
     refine ⟨(HH.o W k).box.cell 0, (HH.o W k).box.cell 1, fun j hj => ?_⟩;obtain ⟨g', o', cap', hv, -, -, h3, -⟩ := (HH.o W k).row.shape (by omega);simp only [Value.slice.injEq] at hv;obtain ⟨rfl, -, -⟩ := hv;refine ⟨g', o', rfl, ?_⟩;rw [h3 j (by omega), HGS.o];unfold nats;rw [List.map_map, List.map_map, List.getElem?_map, List.getElem?_eq_getElem hj]
     rfl)
    obtain ⟨i0, z0, hi0, hz0, h01, h02, h03⟩ := Jdl;have hxy : y ≤ cnt Z := by omega
    have hxc : x + fi = a ∧ y + fi = cc ∧ a ≤ cc := by omega
    have HCC := Qh hcc;rw [← HFN.o];clear h hG hZ hs hr hsf hcn hc1 hbad hgl hcc hx hy;go_enter Tryz.func45, Tryz.ntmps45;go_wp2_with fail;with_reducible refine CO.o.mono ?_
    rintro e w1 ⟨rfl, hb⟩;have HB := Qh hb;clear hb CO;go_wp2_with fail;with_reducible refine (CU.o _ HB.o).mono ?_
    rintro e w2 ⟨rfl, hb⟩;replace HB := Qh (Jaa HB.o hb);clear hb CU;go_wp2_with fail;with_reducible refine (CF.o _ HB.o).mono ?_
    rintro e w3 ⟨rfl, hb⟩;replace HB := Qh (Jaa HB.o hb);clear hb CF;go_wp2_with fail;go_loopw [10, 11] (fun v i wr => ∃ (k : Nat) (ao : Option Addr) (cap : Nat), k ≤ Z.length ∧ i = .int .i64 k ∧ v = .slice ao (outN (flat Z) x y (cnt (Z.take k))).length cap ∧ Hid (wr.ownsRow w.heap.size 39 8 (.slice ao (outN (flat Z) x y (cnt (Z.take k))).length cap) (outN (flat Z) x y (cnt (Z.take k))).length (sps (outN (flat Z) x y (cnt (Z.take k)))) ∧ Below w.heap.size w wr)) (fun _ i _ => Z.length - (intOf i).toNat)
    case atStart =>
     refine ⟨0, none, 0, Nat.zero_le _, rfl, ?_, ?_⟩
     ·rw [show cnt (Z.take 0) = 0 from rfl, outN_zero]
      rfl
     ·rw [show cnt (Z.take 0) = 0 from rfl, outN_zero]
      exact Qh ⟨World.ownsRow_nil _ _ _ _, HB.o⟩
    case round =>
     clear HB;obtain ⟨w3, rfl⟩ : ∃ x, x = wr := ⟨_, rfl⟩
     obtain ⟨i, ao, cap, hi, rfl, rfl, HI⟩ := hrel;obtain ⟨x0, x1, x2⟩ := HSC.o _ HI.o.2;by_cases hle : Z.length ≤ i
     ·obtain rfl : i = Z.length := by omega
      have dl : decide ((Z.length : Int) < (Z.length : Int)) = false := by simp
      have hol := HLN.o (cnt Z) (Nat.le_refl _);rw [List.take_length] at HI ⊢;have wac : IntKind.i64.wrap ((a : Int) + ((outN (flat Z) x y (cnt Z)).length : Int)) = (cc : Int) := by rw [hol, IntWalk.i64_in _ (by omega)]; omega
      clear x2 HFN HLN HAT HRD HGS HH hol;generalize outN (flat Z) x y (cnt Z) = K at *;go_wp2_with fail;go_ret3
      exact ⟨ao, cap, rfl, HI.o.1, HI.o.2⟩
     ·have dl : decide ((i : Int) < (Z.length : Int)) = true := by simp; omega
      have dl' : decide (i < Z.length) = true := by simp; omega
      have hil : i < Z.length := by omega
      obtain ⟨g, o, rfl, x3⟩ := x2 i hil;clear x2;obtain ⟨s, hsd⟩ : ∃ s, s = Z[i] := ⟨_, rfl⟩
      have hsm : s ∈ Z := by rw [hsd]; exact List.getElem_mem _
      obtain ⟨q1, q2, q3, q4⟩ := HRD.o s hsm;have hsn := HAT.o i hil;rw [← hsd] at x3 hsn;have hct := cnt_take_succ hil;rw [← hsd] at hct;have hctl := cnt_take_le (Z := Z) (i + 1);have HFA := Qh (fun k (hk : k < s.L.length) => show ∃ h : cnt (Z.take i) + k < (flat Z).length, (flat Z)[cnt (Z.take i) + k] = s.L[k] from by subst hsd; exact flat_at hil hk);have CD := Qh (fun W (k : Below w.heap.size w W) => Jdq (HH.o W k) s.n (by omega));have CW := Qh (fun W => Jcn (Dk.get (nm s.n) D.L).dat q2 W);rw [q1] at CW;generalize (Dk.get (nm s.n) D.L).dat = dt at *;generalize (M.wh dt 0).2 = en at *;have HQ3 := Qh q3;obtain ⟨d0, hd0⟩ : ∃ d, d = cnt (Z.take i) := ⟨_, rfl⟩
      rw [← hd0] at HI hsn hct HFA ⊢;have HCT := Qh hct;obtain ⟨nL, hnL⟩ : ∃ n, n = s.L.length := ⟨_, rfl⟩
      rw [← hnL] at q4 hct;have HNL := Qh hnL;have hnm : (s.L.map M.enc).length = nL := by rw [List.length_map, hnL]
      rw [hnm] at CW;have hi4 : (i : Int) < (Z.length : Int) := by omega
      have hi5 : (0 : Int) ≤ (i : Int) := by omega
      obtain ⟨sn, hsn2⟩ : ∃ n, n = s.n := ⟨_, rfl⟩
      rw [← hsn2] at x3 CD hsn;have HZI := Qh (show ∀ W, Below w3.heap.size w3 W → W.cell? ⟨q, 0, none⟩ = some (.pointer (some ⟨r, 0, none⟩)) ∧ W.cell? ⟨q, 1, none⟩ = some (.slice (some ⟨g, o, none⟩) Z.length cg) ∧ W.cell? ⟨g, o + i, none⟩ = some (.int .i64 (sn : Nat)) from fun W k => ⟨Jab x0 k, Jab x1 k, Jab x3 k⟩);have HB := Qh HI.o.2;have HSN := Qh hsn;have HZN := Qh (show (Z[i]'hil).n = sn from by rw [← hsd, ← hsn2]);have hb9 : sn + nL ≤ 900 := by omega
      have hd9 : d0 + nL ≤ cnt Z := by omega
      have HCT2 := Qh hct;clear hsd hsm hd0 q1 q2 q3 hsn2 hle hnL hnm hsn hct HCT hctl;go_wp2_with fail;with_reducible refine (CD.o _ HB.o).mono ?_
      rintro e w4 ⟨rfl, hb4⟩;have HB4 := Qh (Jaa HB.o hb4);have HO4 := Qh (Jbg HI.o.1 hb4);have HZ4 := Qh hb4;clear hb4 CD HI;go_wp2_with fail;with_reducible refine (CW.o _).mono ?_
      rintro e w5 ⟨v, rfl, hrw, hb5⟩;obtain ⟨aop, cpp, rfl⟩ := Jac hrw;have HB5 := Qh (Jaa HB4.o hb5);have HO5 := Qh (Jbg HO4.o hb5);have HP5 := Qh (show w5.ownsRow w.heap.size 9 1 (.slice aop nL cpp) nL (txs (s.L.map M.enc)) from ⟨hrw.1, hrw.2.imp id fun ⟨g, cap, cur, k0, k1, k2⟩ => ⟨g, cap, cur, k0, Nat.le_trans HB4.o.size k1, k2⟩⟩);have HZ5 := Qh (Jaa HZ4.o hb5);clear hb5 CW hrw HO4 HB4 HZ4 HB x0 x1 x3;go_wp2_with fail;go_loopw [10, 14] (fun v j wr => ∃ (k : Nat) (ao : Option Addr) (cap : Nat), k ≤ nL ∧ j = .int .i64 k ∧ v = .slice ao (outN (flat Z) x y (d0 + k)).length cap ∧ Hid (wr.ownsRow w.heap.size 39 8 (.slice ao (outN (flat Z) x y (d0 + k)).length cap) (outN (flat Z) x y (d0 + k)).length (sps (outN (flat Z) x y (d0 + k))) ∧ Below w.heap.size w wr ∧ wr.ownsRow w.heap.size 9 1 (.slice aop nL cpp) nL (txs (s.L.map M.enc)))) (fun _ j _ => nL - (intOf j).toNat)
      case atStart => exact ⟨0, ao, cap, Nat.zero_le _, rfl, rfl, Qh ⟨HO5.o, HB5.o, HP5.o⟩⟩
      case round =>
       clear HO5 HB5 HP5;obtain ⟨w6, rfl⟩ : ∃ x, x = wr := ⟨_, rfl⟩
       obtain ⟨k, ao, cap, hk, rfl, rfl, HI⟩ := hrel;by_cases hke : nL ≤ k
       ·obtain rfl : k = nL := by omega
        have dk : decide ((k : Int) < (k : Int)) = false := by simp
        have HJ := Qh (show w6.ownsRow w.heap.size 39 8 (.slice ao (outN (flat Z) x y (cnt (Z.take (i + 1)))).length cap) (outN (flat Z) x y (cnt (Z.take (i + 1)))).length (sps (outN (flat Z) x y (cnt (Z.take (i + 1))))) ∧ Below w.heap.size w w6 from by rw [HCT2.o]; exact ⟨HI.o.1, HI.o.2.1⟩);clear HI;rw [← HCT2.o];go_wp2_with fail;go_roundw
        case rel => exact ⟨i + 1, ao, cap, by omega, by go_num, rfl, HJ⟩
        case measure => simp [intOf]; omega
       ·have dk : decide ((k : Int) < (nL : Int)) = true := by simp; omega
        have dk' : decide (k < nL) = true := by simp; omega
        obtain ⟨y0, y1, y2⟩ := HSC.o _ HI.o.2.1;obtain ⟨g2, o2, he2, y3⟩ := y2 i hil;rw [HZN.o] at y3;obtain ⟨rfl, rfl⟩ : g2 = g ∧ o2 = o := by simp only [Option.some.injEq, Addr.mk.injEq, and_true] at he2; exact ⟨he2.1.symm, he2.2.symm⟩
        clear y2 he2;obtain ⟨hfx, hfe⟩ := HFA.o k (by have := HNL.o; omega);obtain ⟨xk, hxk⟩ : ∃ z, z = s.L[k]'(by have := HNL.o; omega) := ⟨_, rfl⟩
        have hmx : M.mayB xk = true ∧ xk.fits := HQ3.o xk (by rw [hxk]; exact List.getElem_mem _);obtain ⟨gp, cp2, hvp, y4⟩ := Jgw HI.o.2.2 (show k < nL from by omega) (by rw [List.length_map]; exact HNL.o.symm);rw [List.getElem_map, ← hxk] at y4;simp only [Value.slice.injEq, true_and] at hvp;obtain ⟨rfl, rfl⟩ := hvp;have CDc := Qh (fun W => by have := Jei (M.enc xk) (by have := M.enc_len hmx.1; omega) W; rw [M.dec_enc hmx.2 hmx.1] at this; simp only [decX, decE] at this; exact this);have hL9 := HLN.o (d0 + k) (by omega);have hIN := Qh (fun (h1 : x ≤ d0 + k) (h2 : d0 + k < y) => (show outN (flat Z) x y (d0 + (k + 1)) = outN (flat Z) x y (d0 + k) ++ [xk] from by rw [← Nat.add_assoc, outN_in h1 h2 hfx, hfe, hxk]));have hOUT := Qh (fun (h1 : d0 + k < x ∨ y ≤ d0 + k) => (show outN (flat Z) x y (d0 + (k + 1)) = outN (flat Z) x y (d0 + k) from outN_out h1));obtain ⟨K, hK⟩ : ∃ K, K = outN (flat Z) x y (d0 + k) := ⟨_, rfl⟩
        rw [← hK] at HI hL9 hIN hOUT ⊢;have HL9 := Qh hL9;have wn : IntKind.i64.wrap ((sn : Int) + (k : Int)) = ((sn + k : Nat) : Int) := by rw [IntWalk.i64_in _ (by omega)]; omega
        have hk4 : (k : Int) < (nL : Int) := by omega
        have hk5 : (0 : Int) ≤ (k : Int) := by omega
        obtain ⟨nk, hnk⟩ : ∃ n, n = sn + k := ⟨_, rfl⟩
        rw [← hnk] at wn;have HNK := Qh hnk;have HKL := Qh (show K.length ≤ 1000 from by omega);clear hK hxk hfe hfx hmx hL9 hnk hke;by_cases g1 : nk < a
        ·have e1 : decide ((a : Int) ≤ (nk : Int)) = false := by simp; omega
         have e1' : decide (a ≤ nk) = false := by simp; omega
         have HJ := Qh (hOUT.o (.inl (by have := HNK.o; have := HSN.o; omega)));clear CDc hIN hOUT y4;go_wp2_with fail;go_roundw
         case rel => exact ⟨k + 1, ao, cap, by omega, by go_num, by rw [HJ.o], by rw [HJ.o]; exact HI⟩
         case measure => simp [intOf]; omega
        ·have e1 : decide ((a : Int) ≤ (nk : Int)) = true := by simp; omega
         have e1' : decide (a ≤ nk) = true := by simp; omega
         by_cases g3 : su ≤ nk
         ·have e3 : decide ((nk : Int) < (su : Int)) = false := by simp; omega
          have e3' : decide (nk < su) = false := by simp; omega
          have HJ := Qh (hOUT.o (.inr (by have := HNK.o; have := HSN.o; have := HCC.o; omega)));clear CDc hIN hOUT y4;go_wp2_with fail;go_roundw
          case rel => exact ⟨k + 1, ao, cap, by omega, by go_num, by rw [HJ.o], by rw [HJ.o]; exact HI⟩
          case measure => simp [intOf]; omega
         ·have e3 : decide ((nk : Int) < (su : Int)) = true := by simp; omega
          have e3' : decide (nk < su) = true := by simp; omega
          by_cases g4 : mo ≤ K.length
          ·have e4 : decide ((K.length : Int) < (mo : Int)) = false := by simp; omega
           have e4' : decide (K.length < mo) = false := by simp; omega
           have HJ := Qh (hOUT.o (.inr (by have := HNK.o; have := HSN.o; have := HCC.o; have := HL9.o; omega)));clear CDc hIN hOUT y4;go_wp2_with fail;go_roundw
           case rel => exact ⟨k + 1, ao, cap, by omega, by go_num, by rw [HJ.o], by rw [HJ.o]; exact HI⟩
           case measure => simp [intOf]; omega
          ·have e4 : decide ((K.length : Int) < (mo : Int)) = true := by simp; omega
           have e4' : decide (K.length < mo) = true := by simp; omega
           have HJ := Qh (hIN.o (by have := HNK.o; have := HSN.o; omega) (by have := HNK.o; have := HSN.o; have := HCC.o; have := HL9.o; omega));have hkl := HKL.o;clear hIN hOUT;generalize M.enc xk = ek at *;go_wp2_with fail;with_reducible refine (CDc.o _).mono ?_
           rintro e w7 ⟨rfl, hb7⟩;have HO7 := Qh (Jbg HI.o.1 hb7);have HB7 := Qh (Jaa HI.o.2.1 hb7);have HP7 := Qh (Jbg HI.o.2.2 hb7);clear hb7 y0 y1 y3 y4 HI CDc;go_wp2_with (first | (refine Jdk rfl 39 _ _ rfl w7.heap.size _ rfl rfl 39 (spC M.sp0) (Jb4 w7) ?_ rfl (Jba xk) ?_; kernel_rfl; intro w8 hr8 hbel8 hoth8 hsz8; have hb8 := hbel8 w7.heap.size w7 (Nat.le_refl _) (Qa _); have HX8 := Qh (show RowIn #[.int .i64 xk.trace, .int .i64 xk.id, .int .i64 xk.parent, .string (S xk.svc), .string (S xk.host), .int .i64 xk.start, .int .i64 xk.dur, .string (S xk.note)] 39 w8 w7.heap.size from hr8); have HO8 := Qh (Jbg HO7.o hb8); have HP8 := Qh (Jbg HP7.o hb8); have HB8 := Qh (Jaa HB7.o hb8); clear hr8 hbel8 hoth8 hsz8 hb8) | (refine wpList_load_row rfl 39 _ rfl w7.heap.size rfl 39 _ (0, 0) _ HX8.o Tryz.underlying39 rfl ?_ ?_; kernel_rfl) | (at_builtin; refine wpList_append_own _ rfl _ _ 52 rfl w.heap.size 39 i0 z0 8 88 Tryz.underlying52 hi0 hz0 h01 h02 h03 (by decide) (.slice ao K.length cap) K.length (sps K) rfl (HO8.o.alloc _) ⟨w8.heap.size, 0, none⟩ 1 1 (spL xk) rfl rfl (Jmf _ _ _) (Jgh xk) (by unfold maxLen; omega) (by omega) (by have := HB8.o.size; rw [szA]; omega) ?_; intro v9 w9 hown9 hgrow9 hnil9; obtain ⟨ao9, cap9, rfl⟩ := Jf0 hown9; have HO9 := Qh (show w9.ownsRow w.heap.size 39 8 (.slice ao9 (K.length + 1) cap9) (K.length + 1) (sps (K ++ [xk])) from by rw [Jd8, Jkg]; exact hown9); have HP9 := Qh ((HP8.o.alloc (.cells #[.int .i64 xk.trace, .int .i64 xk.id, .int .i64 xk.parent, .string (S xk.svc), .string (S xk.host), .int .i64 xk.start, .int .i64 xk.dur, .string (S xk.note)] 39)).kept hgrow9 (Jlq HP8.o HO8.o (by decide))); have HB9 := Qh ((HB8.o.alloc HB8.o.size _).grown hgrow9 (by have h9 := HB8.o.size; rw [szA]; omega) (fun q hq => (HO8.o.lt q hq).1)); clear hown9 hgrow9 hnil9))
           go_roundw
           case rel => exact ⟨k + 1, ao9, cap9, by omega, by go_num, by rw [HJ.o, List.length_append]; rfl, by rw [HJ.o, List.length_append]; exact Qh ⟨HO9.o, HB9.o, HP9.o⟩⟩
           case measure => simp [intOf]; omega
 ·have he : er = 51 := by
   rw [if_pos hs] at her;rw [her];exact Jb0 hs
  subst he;rw [if_neg (by decide), if_neg (by decide)];rw [decide_eq_true hs] at CO;clear h hG hZ hs hr hsf hcn her;go_enter Tryz.func45, Tryz.ntmps45;go_wp2_with fail;with_reducible refine CO.o.mono ?_
  rintro e w1 ⟨rfl, hb⟩;have HB := Qh hb;clear hb CO;go_wp2_with fail;go_ret3
  exact Jb9 HB.o
end
end
end Go.Proofs.YtmammmjmipgmoaaGreatDoor
