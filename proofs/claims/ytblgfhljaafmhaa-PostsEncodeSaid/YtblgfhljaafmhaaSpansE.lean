/- Layer 3: Encode, the program's and the document's, each by a contract. -/
import Derived.Test.YtblgfhljaafmhaaSpansC
import Derived.Test.YtblgfhljaafmhaaIntsC2
import Derived.Deep.QuietTactic
import Derived.BigQuiet
import Derived.Lib.QuietBelow
namespace Go.Proofs.Ytblgfhljaafmhaa
set_option linter.unusedVariables false
open Go Go.RowKit
attribute [local go_sem ↓] run_index_S
attribute [local go_sem] S_append S_extract

theorem bcell {W w1 : World} (hb : Below W.heap.size W w1) : (∀ b o, b < W.heap.size → w1.cell? ⟨b, o, none⟩ = W.cell? ⟨b, o, none⟩) ∧ (∀ b o, b < W.heap.size → w1.frozen? ⟨b, o, none⟩ = W.frozen? ⟨b, o, none⟩) :=
  ⟨fun b o h => hb.cell (p := ⟨b, o, none⟩) h, fun b o h => hb.frozen (p := ⟨b, o, none⟩) h⟩

set_option maxHeartbeats 400000 in
theorem encode_no (x : M.Sp) (hx : x.fits) (hm : M.mayB x = false) (w : World) :
    Calls Try.prog 23 #[.agg #[.int .i64 x.trace, .int .i64 x.id, .int .i64 x.parent, .string (S x.svc), .string (S x.host), .int .i64 x.start, .int .i64 x.dur, .string (S x.note)]] w fun e w' => e = .returned (.tuple #[.string ⟨#[]⟩, .int .i64 2]) ∧ Below w.heap.size w w' := by
  have cc := fun W => check_any x hx W
  rw [hm] at cc
  have CC := Lib.hid cc
  clear cc
  go_enter Try.func23, Try.ntmps23
  go_wp2_with fail
  with_reducible refine (CC.out _).mono ?_
  rintro e w1 ⟨rfl, hb1⟩
  simp only [M.errOf]
  go_wp2_with fail
  go_ret2
  exact ⟨rfl, below_step ((Below.refl _ _).alloc (Nat.le_refl _) _) hb1⟩

theorem ret_se {a b : List UInt8} {n : Int} (h : a = b) : Ending.returned (.tuple #[.string ⟨a.toArray⟩, .int .i64 n]) = .returned (.tuple #[.string ⟨b.toArray⟩, .int .i64 n]) := by rw [h]

/-- A span lies in a block. -/
structure SpAt (x : M.Sp) (w : World) (b : Nat) : Prop where
  c0 : w.cell? ⟨b, 0, none⟩ = some (.int .i64 x.trace)
  c1 : w.cell? ⟨b, 1, none⟩ = some (.int .i64 x.id)
  c2 : w.cell? ⟨b, 2, none⟩ = some (.int .i64 x.parent)
  c3 : w.cell? ⟨b, 3, none⟩ = some (.string (S x.svc))
  c4 : w.cell? ⟨b, 4, none⟩ = some (.string (S x.host))
  c5 : w.cell? ⟨b, 5, none⟩ = some (.int .i64 x.start)
  c6 : w.cell? ⟨b, 6, none⟩ = some (.int .i64 x.dur)
  c7 : w.cell? ⟨b, 7, none⟩ = some (.string (S x.note))
  at_ : b < w.heap.size
theorem SpAt.below {x : M.Sp} {w w' : World} {b : Nat} (h : SpAt x w b) (hb : Below w.heap.size w w') : SpAt x w' b := by
  obtain ⟨c, f⟩ := bcell hb
  exact ⟨by rw [c _ _ h.at_]; exact h.c0, by rw [c _ _ h.at_]; exact h.c1, by rw [c _ _ h.at_]; exact h.c2, by rw [c _ _ h.at_]; exact h.c3, by rw [c _ _ h.at_]; exact h.c4, by rw [c _ _ h.at_]; exact h.c5, by rw [c _ _ h.at_]; exact h.c6, by rw [c _ _ h.at_]; exact h.c7, Nat.lt_of_lt_of_le h.at_ hb.size⟩
theorem SpAt.grown {x : M.Sp} {w : World} {b : Nat} (h : SpAt x w b) (d : Nat) (os : Array Obj) : SpAt x (Sort.grow (redrawn w d) os) b := h.below (below_regrown w d os)
theorem spAt_new (x : M.Sp) (w : World) (t : TypeId) : SpAt x (w.alloc (.cells #[.int .i64 x.trace, .int .i64 x.id, .int .i64 x.parent, .string (S x.svc), .string (S x.host), .int .i64 x.start, .int .i64 x.dur, .string (S x.note)] t)) w.heap.size := by
  refine ⟨?_, ?_, ?_, ?_, ?_, ?_, ?_, ?_, by simp⟩ <;> (rw [cell_new]; rfl)

/-- The rows of numbers and of texts that Encode goes along, and the span's own texts. -/
structure EncAt (x : M.Sp) (w : World) (a : Nat) : Prop where
  s : w.cell? ⟨a, 3, none⟩ = some (.string (S x.svc))
  h : w.cell? ⟨a, 4, none⟩ = some (.string (S x.host))
  n : w.cell? ⟨a, 7, none⟩ = some (.string (S x.note))
  at_ : a < w.heap.size
theorem EncAt.below {x : M.Sp} {w w' : World} {a : Nat} (h : EncAt x w a) (hb : Below w.heap.size w w') : EncAt x w' a := by
  obtain ⟨c, f⟩ := bcell hb
  have hs := hb.size
  exact ⟨by rw [c _ _ h.at_]; exact h.s, by rw [c _ _ h.at_]; exact h.h, by rw [c _ _ h.at_]; exact h.n, Nat.lt_of_lt_of_le h.at_ hs⟩
structure NumsAt (x : M.Sp) (w : World) (b : Nat) : Prop where
  c : ∀ j, j < 5 → w.cell? ⟨b, j, none⟩ = some (.int .i64 ((M.nums x).getD j 0 : Nat))
  at_ : b < w.heap.size
theorem NumsAt.below {x : M.Sp} {w w' : World} {b : Nat} (h : NumsAt x w b) (hb : Below w.heap.size w w') : NumsAt x w' b := by
  obtain ⟨c, f⟩ := bcell hb
  exact ⟨fun j hj => by rw [c _ _ h.at_]; exact h.c j hj, Nat.lt_of_lt_of_le h.at_ hb.size⟩
structure TxtsAt (x : M.Sp) (w : World) (b : Nat) : Prop where
  c : ∀ j, j < 3 → w.cell? ⟨b, j, none⟩ = some (.string (S ((M.txts x).getD j [])))
  at_ : b < w.heap.size
theorem TxtsAt.below {x : M.Sp} {w w' : World} {b : Nat} (h : TxtsAt x w b) (hb : Below w.heap.size w w') : TxtsAt x w' b := by
  obtain ⟨c, f⟩ := bcell hb
  exact ⟨fun j hj => by rw [c _ _ h.at_]; exact h.c j hj, Nat.lt_of_lt_of_le h.at_ hb.size⟩
theorem numsAt_new (x : M.Sp) (hm : M.mayB x = true) (w : World) (t : TypeId) : NumsAt x (w.alloc (.cells #[.int .i64 x.trace, .int .i64 x.id, .int .i64 x.parent, .int .i64 x.start, .int .i64 x.dur] t)) w.heap.size := by
  obtain ⟨h1, h2, h3, _, _, h4, h5, _⟩ := M.mayB_parts hm
  refine ⟨fun j hj => ?_, by simp⟩
  rw [cell_new]
  match j, hj with
  | 0, _ => simp [M.nums]; omega
  | 1, _ => simp [M.nums]; omega
  | 2, _ => simp [M.nums]; omega
  | 3, _ => simp [M.nums]; omega
  | 4, _ => simp [M.nums]; omega
theorem txtsAt_new (x : M.Sp) (w : World) (t : TypeId) : TxtsAt x (w.alloc (.cells #[.string (S x.svc), .string (S x.host), .string (S x.note)] t)) w.heap.size := by
  refine ⟨fun j hj => ?_, by simp⟩
  rw [cell_new]
  match j, hj with
  | 0, _ => simp [M.txts]
  | 1, _ => simp [M.txts]
  | 2, _ => simp [M.txts]

set_option maxHeartbeats 1000000 in
set_option maxRecDepth 100000 in
theorem encode_yes (x : M.Sp) (hx : x.fits) (hm : M.mayB x = true) (w : World) :
    Calls Try.prog 23 #[.agg #[.int .i64 x.trace, .int .i64 x.id, .int .i64 x.parent, .string (S x.svc), .string (S x.host), .int .i64 x.start, .int .i64 x.dur, .string (S x.note)]] w fun e w' => e = .returned (.tuple #[.string (S (M.enc x)), .int .i64 0]) ∧ Below w.heap.size w w' := by
  have cc := fun W => check_any x hx W
  rw [hm] at cc
  have CC := Lib.hid cc
  clear cc
  have HM := Lib.hid hm
  clear hm
  go_enter Try.func23, Try.ntmps23
  go_wp2_with fail
  with_reducible refine (CC.out _).mono ?_
  rintro e w1 ⟨rfl, hb1⟩
  have ea : EncAt x w1 w.heap.size := EncAt.below (w := w.alloc (.cells #[.int .i64 x.trace, .int .i64 x.id, .int .i64 x.parent, .string (S x.svc), .string (S x.host), .int .i64 x.start, .int .i64 x.dur, .string (S x.note)] 29)) ⟨by rw [cell_new]; rfl, by rw [cell_new]; rfl, by rw [cell_new]; rfl, by simp⟩ hb1
  obtain ⟨hc1, hf1⟩ := bcell hb1
  simp only [M.errOf]
  go_wp2_with fail
  have hbw : Below w.heap.size w w1 := below_step ((Below.refl _ _).alloc (Nat.le_refl _) _) hb1
  clear hc1 hf1 hb1
  go_loopw [5, 27] (fun s i wr => ∃ k : Nat, k ≤ 5 ∧ s = .string ⟨(M.encN ((M.nums x).take k)).toArray⟩ ∧ i = .int .i64 k ∧ Below w.heap.size w wr ∧ EncAt x wr w.heap.size ∧ NumsAt x wr w1.heap.size) (fun _ i _ => 5 - (intOf i).toNat)
  case atStart => exact ⟨0, by omega, rfl, rfl, hbw.alloc hbw.size _, ea.below ((Below.refl _ _).alloc (Nat.le_refl _) _), numsAt_new x HM.out w1 _⟩
  case round =>
    obtain ⟨k, hk, rfl, rfl, hb, he, hn⟩ := hrel
    have HE := Lib.hid he
    have HN := Lib.hid hn
    clear he hn
    by_cases hk5 : k < 5
    · have hck := HN.out.c k hk5
      have ht := M.nums_take x k hk5
      have hle := M.nums_le hx k
      have hlen : (M.encN ((M.nums x).take k)).length ≤ 50 := by
        have := M.encN_len ((M.nums x).take k)
        have h2 : ((M.nums x).take k).length ≤ k := by simp; omega
        omega
      have hpl := (M.putN_length ((M.nums x).getD k 0)).2
      have hs : M.encN ((M.nums x).take (k + 1)) = M.encN ((M.nums x).take k) ++ M.putN ((M.nums x).getD k 0) := by rw [ht, M.encN_snoc]
      have cp := fun W => put_nat ((M.nums x).getD k 0) W hle
      generalize (M.nums x).getD k 0 = n at *
      generalize M.encN ((M.nums x).take k) = acc at *
      generalize M.putN n = q at *
      have HS := Lib.hid hs
      have CP := Lib.hid cp
      clear hs cp ht
      go_wp2_with fail
      with_reducible refine (CP.out _).mono ?_
      rintro e w2 ⟨rfl, hb2⟩
      go_wp2_with fail
      go_roundw
      case rel => exact ⟨k + 1, by omega, by rw [HS.out], by go_num, below_step hb hb2, HE.out.below hb2, HN.out.below hb2⟩
      case measure => simp [intOf]; omega
    · have c3 := HE.out.s
      have c4 := HE.out.h
      have c7 := HE.out.n
      have ek : (M.nums x).take k = M.nums x := List.take_of_length_le (by simp [M.nums]; omega)
      have hlen5 : (M.encN ((M.nums x).take k)).length ≤ 50 := by
        have := M.encN_len ((M.nums x).take k)
        have h2 : ((M.nums x).take k).length ≤ 5 := by simp; omega
        omega
      rw [ek] at hlen5 ⊢
      go_wp2_with fail
      clear c3 c4 c7 ek
      have htx := txtsAt_new x wr 9
      have HTX := Lib.hid htx
      clear htx HE HN ea
      go_loopw [5, 44] (fun s i wq => ∃ j : Nat, j ≤ 3 ∧ s = .string ⟨(M.encN (M.nums x) ++ M.encT ((M.txts x).take j)).toArray⟩ ∧ i = .int .i64 j ∧ Below w.heap.size w wq ∧ TxtsAt x wq wr.heap.size) (fun _ i _ => 3 - (intOf i).toNat)
      case atStart => exact ⟨0, by omega, by simp [M.encT], rfl, hb.alloc hb.size _, HTX.out⟩
      case round =>
        obtain ⟨j, hj, rfl, rfl, hb4, hn⟩ := hrel
        have HN := Lib.hid hn
        clear hn HTX
        by_cases hj3 : j < 3
        · have hck := HN.out.c j hj3
          have ht := M.txts_take x j hj3
          have hle := M.txts_le HM.out j
          have hlen : (M.encT ((M.txts x).take j)).length ≤ 102 := by
            have := M.encT_len ((M.txts x).take j) (fun t ht => M.txts_mem HM.out t (List.mem_of_mem_take ht))
            have h2 : ((M.txts x).take j).length ≤ j := by simp; omega
            omega
          have hpl := (M.putN_length ((M.txts x).getD j []).length).2
          have hs : M.encN (M.nums x) ++ M.encT ((M.txts x).take (j + 1)) = M.encN (M.nums x) ++ M.encT ((M.txts x).take j) ++ (M.putN ((M.txts x).getD j []).length ++ (M.txts x).getD j []) := by rw [ht, M.encT_snoc, M.putT, List.append_assoc]
          have hla : (M.encN (M.nums x) ++ M.encT ((M.txts x).take j)).length ≤ 152 := by simp only [List.length_append]; omega
          have hlq : (M.putN ((M.txts x).getD j []).length ++ (M.txts x).getD j []).length ≤ 34 := by simp only [List.length_append]; omega
          have cp := fun W => putText_any ((M.txts x).getD j []) W (by omega)
          generalize M.putN ((M.txts x).getD j []).length ++ (M.txts x).getD j [] = q at *
          generalize (M.txts x).getD j [] = n at *
          generalize M.encN (M.nums x) ++ M.encT ((M.txts x).take j) = acc at *
          have HS := Lib.hid hs
          have CP := Lib.hid cp
          clear hs cp ht hlen hlen5 hpl
          go_wp2_with fail
          with_reducible refine (CP.out _).mono ?_
          rintro e w2 ⟨rfl, hb2⟩
          go_wp2_with fail
          go_roundw
          case rel => exact ⟨j + 1, by omega, by rw [HS.out], by go_num, below_step hb4 hb2, HN.out.below hb2⟩
          case measure => simp [intOf]; omega
        · obtain rfl : j = 3 := by omega
          go_wp2_with fail
          go_ret2
          exact ⟨rfl, hb4⟩

theorem encode_any (x : M.Sp) (hx : x.fits) (w : World) :
    Calls Try.prog 23 #[.agg #[.int .i64 x.trace, .int .i64 x.id, .int .i64 x.parent, .string (S x.svc), .string (S x.host), .int .i64 x.start, .int .i64 x.dur, .string (S x.note)]] w fun e w' => e = .returned (.tuple #[.string (S (if M.mayB x then M.enc x else [])), .int .i64 (M.errOf (M.mayB x))]) ∧ Below w.heap.size w w' := by
  cases hm : M.mayB x
  · exact encode_no x hx hm w
  · exact encode_yes x hx hm w

set_option maxHeartbeats 1000000 in
theorem refEncode_no (x : M.Sp) (hx : x.fits) (hm : M.mayB x = false) (w : World) :
    Calls Try.prog 27 #[.agg #[.int .i64 x.trace, .int .i64 x.id, .int .i64 x.parent, .string (S x.svc), .string (S x.host), .int .i64 x.start, .int .i64 x.dur, .string (S x.note)]] w fun e w' => e = .returned (.tuple #[.string ⟨#[]⟩, .int .i64 2]) ∧ Below w.heap.size w w' := by
  have cc := fun W => refMay_any x hx W
  rw [hm] at cc
  have CC := Lib.hid cc
  clear cc
  go_enter Try.func27, Try.ntmps27
  go_wp2_with fail
  with_reducible refine (CC.out _).mono ?_
  rintro e w1 ⟨rfl, hb1⟩
  go_wp2_with fail
  go_ret2
  exact ⟨rfl, below_step ((Below.refl _ _).alloc (Nat.le_refl _) _) hb1⟩

set_option maxHeartbeats 2000000 in
set_option maxRecDepth 100000 in
theorem refEncode_yes (x : M.Sp) (hx : x.fits) (hm : M.mayB x = true) (w : World) :
    Calls Try.prog 27 #[.agg #[.int .i64 x.trace, .int .i64 x.id, .int .i64 x.parent, .string (S x.svc), .string (S x.host), .int .i64 x.start, .int .i64 x.dur, .string (S x.note)]] w fun e w' => e = .returned (.tuple #[.string (S (M.enc x)), .int .i64 0]) ∧ Below w.heap.size w w' := by
  obtain ⟨h1, h2, h3, _, _, h4, h5, _⟩ := M.mayB_parts hm
  have l1 := M.txts_le hm 0
  have l2 := M.txts_le hm 1
  have l3 := M.txts_le hm 2
  have cc := fun W => refMay_any x hx W
  rw [hm] at cc
  have CC := Lib.hid cc
  clear cc hm
  have henc : M.enc x = (((((((M.putN x.trace.toNat ++ M.putN x.id.toNat) ++ M.putN x.parent.toNat) ++ M.putN x.start.toNat) ++ M.putN x.dur.toNat) ++ (M.putN x.svc.length ++ x.svc)) ++ (M.putN x.host.length ++ x.host)) ++ (M.putN x.note.length ++ x.note)) := by
    simp [M.enc, M.encN, M.encT, M.nums, M.txts, M.putT, List.append_assoc]
  have HENC := Lib.hid henc
  clear henc
  obtain ⟨trace, id, parent, svc, host, start, dur, note⟩ := x
  simp only [M.txts, List.getD_cons_zero, List.getD_cons_succ] at *
  obtain ⟨t, rfl⟩ := Int.eq_ofNat_of_zero_le (show 0 ≤ trace by omega)
  obtain ⟨i, rfl⟩ := Int.eq_ofNat_of_zero_le (show 0 ≤ id by omega)
  obtain ⟨p, rfl⟩ := Int.eq_ofNat_of_zero_le (show 0 ≤ parent by omega)
  obtain ⟨b, rfl⟩ := Int.eq_ofNat_of_zero_le (show 0 ≤ start by omega)
  obtain ⟨d, rfl⟩ := Int.eq_ofNat_of_zero_le (show 0 ≤ dur by omega)
  have p1 := (M.putN_length t).2
  have p2 := (M.putN_length i).2
  have p3 := (M.putN_length p).2
  have p4 := (M.putN_length b).2
  have p5 := (M.putN_length d).2
  have q1 : (M.putN svc.length ++ svc).length ≤ 34 := by have := (M.putN_length svc.length).2; simp only [List.length_append]; omega
  have q2 : (M.putN host.length ++ host).length ≤ 34 := by have := (M.putN_length host.length).2; simp only [List.length_append]; omega
  have q3 : (M.putN note.length ++ note).length ≤ 34 := by have := (M.putN_length note.length).2; simp only [List.length_append]; omega
  have c1 := fun W => refPut_nat t W (by omega)
  have c2 := fun W => refPut_nat i W (by omega)
  have c3 := fun W => refPut_nat p W (by omega)
  have c4 := fun W => refPut_nat b W (by omega)
  have c5 := fun W => refPut_nat d W (by omega)
  have d1 := fun W => refPutText_any svc W (by omega)
  have d2 := fun W => refPutText_any host W (by omega)
  have d3 := fun W => refPutText_any note W (by omega)
  simp only [Int.toNat_natCast] at HENC
  generalize M.putN t = e1 at *
  generalize M.putN i = e2 at *
  generalize M.putN p = e3 at *
  generalize M.putN b = e4 at *
  generalize M.putN d = e5 at *
  generalize M.putN svc.length ++ svc = e6 at *
  generalize M.putN host.length ++ host = e7 at *
  generalize M.putN note.length ++ note = e8 at *
  have C1 := Lib.hid c1
  have C2 := Lib.hid c2
  have C3 := Lib.hid c3
  have C4 := Lib.hid c4
  have C5 := Lib.hid c5
  have D1 := Lib.hid d1
  have D2 := Lib.hid d2
  have D3 := Lib.hid d3
  clear c1 c2 c3 c4 c5 d1 d2 d3
  go_enter Try.func27, Try.ntmps27
  go_wp2_with fail
  with_reducible refine (CC.out _).mono ?_
  rintro e w1 ⟨rfl, hb1⟩
  have hs1 := (spAt_new ⟨t, i, p, svc, host, b, d, note⟩ w 29).below hb1
  have HS1 := Lib.hid hs1
  clear hs1
  have g0 := fun d os => (HS1.out.grown d os).c0
  have g1 := fun d os => (HS1.out.grown d os).c1
  have g2 := fun d os => (HS1.out.grown d os).c2
  have g5 := fun d os => (HS1.out.grown d os).c5
  have g6 := fun d os => (HS1.out.grown d os).c6
  dsimp only at g0 g1 g2 g5 g6
  go_wp2_with fail
  refine wp_region_quiet_below (by kernel_rfl) (by kernel_rfl) ?_
  repeat (go_big_quiet_step ((first | (go_at_call 26; with_reducible exact Calls.regrown_of (C1.out _)) | (go_at_call 26; with_reducible exact Calls.regrown_of (C2.out _)) | (go_at_call 26; with_reducible exact Calls.regrown_of (C3.out _)) | (go_at_call 26; with_reducible exact Calls.regrown_of (C4.out _)) | (go_at_call 26; with_reducible exact Calls.regrown_of (C5.out _)))))
  refine wpQuiet_nil ?_
  intro _ hw1
  obtain ⟨⟨d1, d1o⟩, hw1⟩ := hw1
  subst hw1
  have hb2 := below_regrown w1 d1 d1o
  have hs2 := HS1.out.below hb2
  generalize Sort.grow (redrawn w1 d1) d1o = W2 at *
  have HS2 := Lib.hid hs2
  clear hs2 g0 g1 g2 g5 g6
  have g3 := fun d os => (HS2.out.grown d os).c3
  have g4 := fun d os => (HS2.out.grown d os).c4
  have g7 := fun d os => (HS2.out.grown d os).c7
  dsimp only at g3 g4 g7
  go_wp2_with fail
  refine wp_region_quiet_below (by kernel_rfl) (by kernel_rfl) ?_
  repeat (go_big_quiet_step ((first | (go_at_call 28; with_reducible exact Calls.regrown_of (D1.out _)) | (go_at_call 28; with_reducible exact Calls.regrown_of (D2.out _)) | (go_at_call 28; with_reducible exact Calls.regrown_of (D3.out _)))))
  refine wpQuiet_nil ?_
  intro _ hw2
  obtain ⟨⟨d2, d2o⟩, hw2⟩ := hw2
  subst hw2
  go_wp2_with fail
  go_ret2
  refine ⟨ret_se (Eq.trans ?_ HENC.out.symm), ?_⟩
  · simp only [List.append_assoc]
  exact below_step (below_step (below_step ((Below.refl _ _).alloc (Nat.le_refl _) _) hb1) hb2) (below_regrown W2 d2 d2o)

theorem refEncode_any (x : M.Sp) (hx : x.fits) (w : World) :
    Calls Try.prog 27 #[.agg #[.int .i64 x.trace, .int .i64 x.id, .int .i64 x.parent, .string (S x.svc), .string (S x.host), .int .i64 x.start, .int .i64 x.dur, .string (S x.note)]] w fun e w' => e = .returned (.tuple #[.string (S (if M.mayB x then M.enc x else [])), .int .i64 (M.errOf (M.mayB x))]) ∧ Below w.heap.size w w' := by
  cases hm : M.mayB x
  · exact refEncode_no x hx hm w
  · exact refEncode_yes x hx hm w

end Go.Proofs.Ytblgfhljaafmhaa
