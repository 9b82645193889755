/- Layer 4: the document's Frame, by a contract: bytes that are appended. -/
import Derived.Test.YtehcedepiepbiaaFramesS
import Derived.Lib.BufSteps
namespace Go.Proofs.Ytehcedepiepbiaa
set_option linter.unusedVariables false
open Go Go.RowKit
attribute [local go_sem ↓] run_index_S
attribute [local go_sem] S_append S_extract

theorem info8 : (Try.prog.info? 5).map (fun i => (i.zero, i.size, i.bytes)) = some (some (.int .u8 0), 1, 1) := by kernel_rfl

/-- The cells of bytes. -/
def u8s (l : List UInt8) : List Value := l.map fun b => Value.int .u8 b.toNat
theorem u8s_app (a b : List UInt8) : u8s (a ++ b) = u8s a ++ u8s b := by simp [u8s]
theorem u8s_str (l : List UInt8) : Lib.strCells (S l) = u8s l := by simp [Lib.strCells, u8s]

theorem size_S (l : List UInt8) : (S l).size = l.length := by simp [ByteArray.size]

/-- A buffer across a call. -/
theorem buf_below {B : Nat} {e : TypeId} {v : Value} {n : Nat} {xs : List Value} {W0 w w' : World} (h : Lib.OwnBuf B e v n xs W0 w) (hb : Below w.heap.size w w') : Lib.OwnBuf B e v n xs W0 w' := by
  obtain ⟨h1, h2, h3⟩ := h
  refine ⟨?_, h2.trans (hb.mono h3), Nat.le_trans h3 hb.size⟩
  obtain ⟨hx, hc⟩ := h1
  refine ⟨hx, ?_⟩
  rcases hc with hc | ⟨g, cap, cur, fz, rfl, hBg, hgg, rest⟩
  · exact .inl hc
  · exact .inr ⟨g, cap, cur, fz, rfl, hBg, by rw [hb.block g (Array.getElem?_eq_some_iff.1 hgg).1]; exact hgg, rest⟩

/-- 'string(b)' of a buffer. -/
theorem buf_back {P : Program} {B : Nat} {e : TypeId} {v : Value} {W0 w : World} (l : List UInt8) {n : Nat} (hn : n = l.length) (hpos : 0 < n) (h : Lib.OwnBuf B e v n (u8s l) W0 w) (src dst : TypeId) (hs : P.underlying src = some (.slice e)) (he : P.underlying e = some (.int .u8)) (hd : P.underlying dst = some .string) :
    (convert src dst v).run P w = .ok (.string ⟨l.toArray⟩) w := by
  obtain ⟨h1, _, _⟩ := h
  have h1' := h1
  rcases h1.2 with ⟨_, h0⟩ | ⟨g, cap, cur, fz, rfl, _, hgg, _⟩
  · omega
  · have hc := h1'.cells (g := g) (by simp [Value.ownBlock])
    subst hn
    exact run_convert_bytes_back w src dst e ⟨g, 0, none⟩ cap l hs he hd (fun j hj => hc j _ (by simp [u8s, List.getElem?_eq_getElem hj]))

/-- Three bytes appended. -/
theorem wpList_append_three {P : Program} {ops : Array Oper} {rest : List Oper} {o : Oper} {a : Act} {Q : Exit → Act → World → Prop} (hgd : o.guard = none) (s x : Operand) (t : TypeId)
    (ho : o.op = .call { callee := .builtin .append, args := #[s, x], argTypes := #[t, t] })
    (B : Nat) (e : TypeId) (i : TypeInfo) (ht : P.underlying t = some (.slice e)) (hi : P.info? e = some i) (hz : i.zero = some (.int .u8 0)) (hsize : i.size = 1) (hby : i.bytes = 1)
    (v : Value) (n : Nat) (xs : List Value) (hs : a.eval s = v) (W0 w0 : World) (c0 c1 c2 : Int) (hb : Lib.OwnBuf B e v n xs W0 w0)
    (hx : a.eval x = .slice (some ⟨w0.heap.size, 0, none⟩) 3 3) (hlen : n + 3 ≤ 140737488355328)
    (h : ∀ v' w', Lib.OwnBuf B e v' (n + 3) (xs ++ [.int .u8 c0, .int .u8 c1, .int .u8 c2]) W0 w' → wpList P ops Q rest (a.put o.dst v') w') : wpList P ops Q (o :: rest) a (w0.alloc (.cells #[.int .u8 c0, .int .u8 c1, .int .u8 c2] e)) := by
  have hb' := hb.alloc (.cells #[.int .u8 c0, .int .u8 c1, .int .u8 c2] e)
  refine wpList_append_ownF _ hgd s x t ho B e i (.int .u8 0) 1 1 ht hi hz hsize hby rfl (by decide) v n xs hs hb'.1 ⟨w0.heap.size, 0, none⟩ 3 3 [.int .u8 c0, .int .u8 c1, .int .u8 c2] hx rfl ?_ ?_ (by unfold maxLen; omega) (by omega) hb'.2.2 ?_
  · intro j u hj
    match j, hj with
    | 0, hj => simp at hj; subst hj; simp [Addr.add]
    | 1, hj => simp at hj; subst hj; simp [Addr.add]
    | 2, hj => simp at hj; subst hj; simp [Addr.add]
    | (j + 3), hj => simp at hj
  · intro u hu; simp at hu; rcases hu with rfl | rfl | rfl <;> rfl
  · intro v' w' ho' hg _
    exact h v' w' (hb'.grown ho' hg)

set_option maxHeartbeats 400000 in
theorem refFrame_long (l : List UInt8) (hl : 16384 < l.length) (w : World) :
    Calls Try.prog 14 #[.string (S l)] w fun e w' => e = .returned (.tuple #[.string ⟨#[]⟩, .int .i64 3]) ∧ w = w' := by
  have d1 : decide (16384 < (l.length : Int)) = true := by simp; omega
  go_enter Try.func14, Try.ntmps14
  go_wp2_with fail
  go_ret2
  exact ⟨rfl, rfl⟩

set_option maxHeartbeats 1000000 in
theorem refFrame_ok (l : List UInt8) (hl : l.length ≤ 16384) (w : World) :
    Calls Try.prog 14 #[.string (S l)] w fun e w' => e = .returned (.tuple #[.string (S (M.frameP l)), .int .i64 0]) ∧ Below w.heap.size w w' := by
  have d1 : decide (16384 < (l.length : Int)) = false := by simp; omega
  obtain ⟨i0, hi, hz0, hz1, hz2⟩ := info_parts info8
  have c1 : ∀ W, Calls Try.prog 27 #[.string (S l)] W fun e w' => e = .returned (.int .u32 (M.sumP l)) ∧ Below W.heap.size W w' := fun W => (refSum_any l (by omega) W).mono fun e w' ⟨he, hw⟩ => ⟨he, hw ▸ Below.refl _ _⟩
  have c2 := fun W => refBytes_any (M.sumP l) (M.sumP_lt l) W
  have hq : (M.big 4 (M.sumP l)).length = 4 := M.big_length 4 (M.sumP l)
  have hfr : M.frameP l = [2] ++ [UInt8.ofNat (l.length / 256), UInt8.ofNat (l.length % 256)] ++ l ++ M.big 4 (M.sumP l) ++ [3] := rfl
  generalize M.big 4 (M.sumP l) = q at *
  generalize M.frameP l = f at *
  generalize M.sumP l = sm at *
  have C1 := Lib.hid c1
  have C2 := Lib.hid c2
  have HF := Lib.hid hfr
  have HQ := Lib.hid hq
  have hq4 : q.length ≤ 4 := by omega
  clear c1 c2 hfr hq
  have b0 : Lib.OwnBuf w.heap.size 5 (.slice none 0 0) 0 [] w w := ⟨World.ownsRowF_nil _ _ _ _, Below.refl _ _, Nat.le_refl _⟩
  have HB0 := Lib.hid b0
  have h3 : u8s [2, UInt8.ofNat (l.length / 256), UInt8.ofNat (l.length % 256)] = [.int .u8 2, .int .u8 ((l.length : Int) / 256), .int .u8 ((l.length : Int) % 256)] := by
    have e1 : (UInt8.ofNat (l.length / 256)).toNat = l.length / 256 := by rw [UInt8.toNat_ofNat']; exact Nat.mod_eq_of_lt (by omega)
    have e2 : (UInt8.ofNat (l.length % 256)).toNat = l.length % 256 := by rw [UInt8.toNat_ofNat']; exact Nat.mod_eq_of_lt (by omega)
    simp [u8s, e1, e2]
  have H3 := Lib.hid h3
  clear h3
  clear b0
  go_enter Try.func14, Try.ntmps14
  go_wp2_with (first
    | (at_builtin; refine wpList_append_three rfl _ _ 35 rfl w.heap.size 5 i0 Try.underlying35 hi hz0 hz1 hz2 (.slice none 0 0) 0 [] rfl w w _ _ _ HB0.out rfl (by omega) ?_; intro v1 w1 hb1; have HB1 := Lib.hid (show Lib.OwnBuf w.heap.size 5 v1 3 (u8s [2, UInt8.ofNat (l.length / 256), UInt8.ofNat (l.length % 256)]) w w1 from by rw [H3.out]; exact hb1); clear hb1)
    | (at_builtin; refine Lib.wpList_append_text rfl _ _ 35 9 rfl w.heap.size 5 i0 Try.underlying35 Try.underlying9 hi hz0 hz1 hz2 _ 3 _ rfl w HB1.out (S l) rfl (by rw [size_S]; omega) ?_; intro v2 w2 hb2; have HB2 := Lib.hid (show Lib.OwnBuf w.heap.size 5 v2 (3 + l.length) (u8s ([2, UInt8.ofNat (l.length / 256), UInt8.ofNat (l.length % 256)] ++ l)) w w2 from by rw [u8s_app, ← u8s_str l, ← size_S l]; exact hb2); clear hb2))
  with_reducible refine (C1.out _).mono ?_
  rintro e w3 ⟨rfl, hb3⟩
  have HB3 := Lib.hid (buf_below HB2.out hb3)
  clear hb3
  go_wp2_with fail
  with_reducible refine (C2.out _).mono ?_
  rintro e w4 ⟨rfl, hb4⟩
  have HB4 := Lib.hid (buf_below HB3.out hb4)
  clear hb4
  go_wp2_with (first
    | (at_builtin; refine Lib.wpList_append_text rfl _ _ 35 9 rfl w.heap.size 5 i0 Try.underlying35 Try.underlying9 hi hz0 hz1 hz2 _ (3 + l.length) _ rfl w HB4.out (S q) rfl (by rw [size_S]; omega) ?_; intro v5 w5 hb5; have HB5 := Lib.hid (show Lib.OwnBuf w.heap.size 5 v5 (3 + l.length + q.length) (u8s ([2, UInt8.ofNat (l.length / 256), UInt8.ofNat (l.length % 256)] ++ l ++ q)) w w5 from by rw [u8s_app, ← u8s_str q, ← size_S q]; exact hb5); clear hb5)
    | (at_builtin; go_loud (refine Lib.wpList_append_byte rfl _ _ 35 rfl w.heap.size 5 i0 Try.underlying35 hi hz0 hz1 hz2 v5 (3 + l.length + q.length) _ rfl w _ _ HB5.out rfl (by omega) ?_; intro v6 w6 hb6; have HB6 := Lib.hid (show Lib.OwnBuf w.heap.size 5 v6 (3 + l.length + q.length + 1) (u8s ([2, UInt8.ofNat (l.length / 256), UInt8.ofNat (l.length % 256)] ++ l ++ q ++ [3])) w w6 from by rw [u8s_app]; exact hb6); clear hb6; have hcv := buf_back (P := Try.prog) ([2, UInt8.ofNat (l.length / 256), UInt8.ofNat (l.length % 256)] ++ l ++ q ++ [3]) (by simp only [List.length_append, List.length_cons, List.length_nil] <;> omega) (by omega) HB6.out 35 9 Try.underlying35 Try.underlying5 Try.underlying9)))
  go_ret2
  refine ⟨ret_fe ?_, HB6.out.2.1⟩
  rw [HF.out]
  simp

theorem frame_any (l : List UInt8) (w : World) :
    Calls Try.prog 13 #[.string (S l)] w fun e w' => e = .returned (.tuple #[.string (S (if l.length ≤ 16384 then M.frameP l else [])), .int .i64 (if l.length ≤ 16384 then 0 else 3)]) ∧ Below w.heap.size w w' := by
  by_cases h : l.length ≤ 16384
  · rw [if_pos h, if_pos h]; exact frame_ok l h w
  · rw [if_neg h, if_neg h]
    exact (frame_long l (by omega) w).mono fun e w' ⟨he, hw⟩ => ⟨he, hw ▸ Below.refl _ _⟩
theorem refFrame_any (l : List UInt8) (w : World) :
    Calls Try.prog 14 #[.string (S l)] w fun e w' => e = .returned (.tuple #[.string (S (if l.length ≤ 16384 then M.frameP l else [])), .int .i64 (if l.length ≤ 16384 then 0 else 3)]) ∧ Below w.heap.size w w' := by
  by_cases h : l.length ≤ 16384
  · rw [if_pos h, if_pos h]; exact refFrame_ok l h w
  · rw [if_neg h, if_neg h]
    exact (refFrame_long l (by omega) w).mono fun e w' ⟨he, hw⟩ => ⟨he, hw ▸ Below.refl _ _⟩

end Go.Proofs.Ytehcedepiepbiaa
