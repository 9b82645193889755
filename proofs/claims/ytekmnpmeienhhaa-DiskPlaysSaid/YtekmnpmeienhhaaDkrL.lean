/- Layer 5: an act, by the document; a disk and the document's side by side. -/
import Derived.Test.YtekmnpmeienhhaaDkrK
import Derived.Test.YtekmnpmeienhhaaDkrE
namespace Go.Proofs.Ytekmnpmeienhhaa
set_option linter.unusedVariables false
open Go Go.RowKit Go.Maps

section
variable {B r : Nat} {c : Rc} {D : Dk.St} {w w' : World}
set_option maxRecDepth 100000 in
set_option maxHeartbeats 4000000 in
theorem said5 (h : RfIn B r c D w) (hB : B ≤ w.heap.size) (hO : Dk.Ok D) (hrB : B ≤ r) (x : Ra) (hx : RaIn x) (hk : NsA5 w x.o x.keep) (hkB : ∀ y, x.keep ≠ [] → x.o = some y → y.block < B) (hs : D.starts ≤ 1000000000) :
    Calls Try.prog 21 #[.pointer (some ⟨r, 0, none⟩), .agg #[.int .u8 x.kind, .string (S x.name), .string (S x.other), .string (S x.data), .int .i64 x.n, .slice x.o x.keep.length x.k]] w (OpI B r c (.int .i64 (Dk.act x D).1) (Dk.act x D).2 w) := by
  have hb := (Below.refl w.heap.size w).alloc (Nat.le_refl _) (.cells #[.int .u8 x.kind, .string (S x.name), .string (S x.other), .string (S x.data), .int .i64 x.n, .slice x.o x.keep.length x.k] 34)
  have h' := h.below hb
  have hB' := Nat.le_trans hB hb.size
  have hk' := hk.below hb
  have hkr : ∀ y, x.keep ≠ [] → x.o = some y → y.block ≠ r ∧ ∀ z, c.a = some z → y.block ≠ z.block := fun y hn hy => by
    have h1 := hkB y hn hy
    refine ⟨fun e => by omega, fun z hz e => ?_⟩
    have h2 := (h.fr z.block (.inr (.inl ⟨z, hz, rfl⟩))).1
    rcases h2 with q | q <;> omega
  have FIN := Lib.hid (fun (q : Int × Dk.St) (e : Ending) (w2 : World) (ho : OpI B r c (.int .i64 q.1) q.2 (w.alloc (.cells #[.int .u8 x.kind, .string (S x.name), .string (S x.other), .string (S x.data), .int .i64 x.n, .slice x.o x.keep.length x.k] 34)) e w2) => (show OpI B r c (.int .i64 q.1) q.2 w e w2 from by
    obtain ⟨e1, c1, p1, p2, p3⟩ := ho
    refine ⟨e1, c1, p1, fun b hb2 => ?_, (wr_below hb).trans p3⟩
    rcases p2 b hb2 with q | q
    · exact .inl q
    · exact .inr (Nat.le_trans hb.size q)))
  have C1 := Lib.hid (rSync5 h' x.name hO.n hO.k)
  have C2 := Lib.hid (rRename5 h' hB' x.name x.other hx.other hO.n hO.k)
  have C3 := Lib.hid (rRemove5 h' hB' x.name hO.n hO.k)
  have C4 := Lib.hid (rCrash5 h' x.keep x.o x.k hx.keep hk' hkr)
  have C5 := Lib.hid (rStart5 h' hs)
  have C6 := Lib.hid (rFail5 h' hB' x.n hx.n x.keep x.o x.k hx.keep hk' (fun y hn hy => (hkr y hn hy).1))
  have C7 := Lib.hid (rAppend5 h' hB' x.name x.data hx.name hx.data hO.most hO.n hO.k)
  obtain ⟨hk0, hk1⟩ := hx.kind
  clear h h' hB hB' hk hk' hkB hkr hb hs hx hO hrB
  obtain ⟨m, hm, hlt⟩ : ∃ m : Nat, x.kind % 12 = (m : Int) ∧ m < 12 := ⟨(x.kind % 12).toNat, by omega, by omega⟩
  have HD := Lib.hid (show Dk.act x D = if (m : Int) = 4 ∨ (m : Int) = 5 then Dk.sync x.name D else if (m : Int) = 6 then Dk.rename x.name x.other D else if (m : Int) = 7 then Dk.remove x.name D else if (m : Int) = 8 then Dk.crash x.keep D else if (m : Int) = 9 ∨ (m : Int) = 10 then Dk.start D else if (m : Int) = 11 then Dk.fail x.n x.keep D else Dk.append x.name x.data D from by unfold Dk.act; rw [hm])
  have hcs : m = 0 ∨ m = 1 ∨ m = 2 ∨ m = 3 ∨ m = 4 ∨ m = 5 ∨ m = 6 ∨ m = 7 ∨ m = 8 ∨ m = 9 ∨ m = 10 ∨ m = 11 := by omega
  clear hlt
  rcases hcs with rfl | rfl | rfl | rfl | rfl | rfl | rfl | rfl | rfl | rfl | rfl | rfl
  all_goals
    go_enter Try.func21, Try.ntmps21
    go_wp2_with fail
    with_reducible first
      | refine C1.out.mono ?_
      | refine C2.out.mono ?_
      | refine C3.out.mono ?_
      | refine C4.out.mono ?_
      | refine C5.out.mono ?_
      | refine C6.out.mono ?_
      | refine C7.out.mono ?_
    rintro e w2 hR
    have HR := Lib.hid (FIN.out _ _ _ hR)
    obtain ⟨rfl, -⟩ := hR
    go_wp2_with fail
    go_ret
    rw [HD.out]
    exact HR.out
end
/-- A disk, and the document's, and blocks that neither has. -/
def Pl5 (P : Nat → Prop) (B a r : Nat) (D Dr : Dk.St) (w : World) : Prop := ∃ F c, DkAt B F a D w ∧ RfIn B r c Dr w ∧ B ≤ r ∧ (∀ k, Fr r c k → ¬ F k ∧ ¬ P k) ∧ (∀ k, P k → ¬ F k) ∧ (∀ k, P k → k < w.heap.size) ∧ B ≤ w.heap.size
section
variable {P P' : Nat → Prop} {B a r : Nat} {D Dr : Dk.St} {w w' : World}
theorem Pl5.ok (h : Pl5 P B a r D Dr w) : Dk.Ok D := by obtain ⟨F, c, h1, _⟩ := h; exact h1.ok
theorem Pl5.size (h : Pl5 P B a r D Dr w) : B ≤ w.heap.size := by obtain ⟨_, _, _, _, _, _, _, _, q⟩ := h; exact q
theorem Pl5.below (h : Pl5 P B a r D Dr w) (hb : Below w.heap.size w w') : Pl5 P B a r D Dr w' := by
  obtain ⟨F, c, h1, h2, h3, h4, h5, h6, h7⟩ := h
  exact ⟨F, c, h1.below hb, h2.below hb, h3, h4, h5, fun k hk => Nat.lt_of_lt_of_le (h6 k hk) hb.size, Nat.le_trans h7 hb.size⟩
theorem Pl5.less (h : Pl5 P B a r D Dr w) (hP : ∀ k, P' k → P k) : Pl5 P' B a r D Dr w := by
  obtain ⟨F, c, h1, h2, h3, h4, h5, h6, h7⟩ := h
  exact ⟨F, c, h1, h2, h3, fun k hk => ⟨(h4 k hk).1, fun q => (h4 k hk).2 (hP k q)⟩, fun k hk => h5 k (hP k hk), fun k hk => h6 k (hP k hk), h7⟩
theorem Pl5.newrow (h : Pl5 P B a r D Dr w) (hb : Below w.heap.size w w') : Pl5 (fun q => P q ∨ (w.heap.size ≤ q ∧ q < w'.heap.size)) B a r D Dr w' := by
  obtain ⟨F, c, h1, h2, h3, h4, h5, h6, h7⟩ := h
  have f1 := h1.fp
  refine ⟨F, c, h1.below hb, h2.below hb, h3, fun k hk => ⟨(h4 k hk).1, fun q => ?_⟩, fun k hk hf => ?_, fun k hk => ?_, Nat.le_trans h7 hb.size⟩
  · rcases q with q | q
    · exact (h4 k hk).2 q
    · have := (h2.fr k hk).2; omega
  · rcases hk with hk | hk
    · exact h5 k hk hf
    · have := (f1 k hf).2; omega
  · rcases hk with hk | hk
    · exact Nat.lt_of_lt_of_le (h6 k hk) hb.size
    · exact hk.2
theorem Pl5.tell (h : Pl5 P B a r D Dr w) : ∃ X, DkX X B a D w := by
  obtain ⟨F, c, h1, h2, h3, h4, h5, h6, h7⟩ := h
  exact ⟨fun _ => False, F, h1, fun _ _ q => q⟩
theorem Pl5.ref (h : Pl5 P B a r D Dr w) : ∃ c, RfIn B r c Dr w := by
  obtain ⟨F, c, h1, h2, _⟩ := h
  exact ⟨c, h2⟩
theorem Pl5.done (h : Pl5 P B a r D Dr w) (x : Ra) (hx : RaIn x) (hk : NsA5 w x.o x.keep) (hkB : ∀ y, x.keep ≠ [] → x.o = some y → P y.block ∨ y.block < B) (hs : D.starts ≤ 1000000000) :
    Calls Try.prog 20 #[.pointer (some ⟨a, 0, none⟩), .agg #[.int .u8 x.kind, .string (S x.name), .string (S x.other), .string (S x.data), .int .i64 x.n, .slice x.o x.keep.length x.k]] w fun e w' => e = .returned (.int .i64 (Dk.act x D).1) ∧ Pl5 P B a r (Dk.act x D).2 Dr w' ∧ Wr (fun k => B ≤ k ∧ ¬ P k) w w' := by
  obtain ⟨F, c, h1, h2, h3, h4, h5, h6, h7⟩ := h
  have hX : DkX (fun k => Fr r c k ∨ P k) B a D w := ⟨F, h1, fun k hk hx => hx.elim (fun q => (h4 k q).1 hk) (fun q => h5 k q hk)⟩
  refine (done5 hX (fun k hk => hk.elim (fun q => (h2.fr k q).2) (h6 k)) h7 x hx hk (fun y hn hy => (hkB y hn hy).elim (fun q => .inl (.inr q)) .inr) hs).mono ?_
  rintro e w' ⟨q1, ⟨F', q2, q3⟩, q4⟩
  exact ⟨q1, ⟨F', c, q2, h2.wr q4 (fun b hb ha => ha.2 (.inl hb)), h3, fun k hk => ⟨fun hf => q3 k hf (.inl hk), (h4 k hk).2⟩, fun k hk hf => q3 k hf (.inr hk), fun k hk => Nat.lt_of_lt_of_le (h6 k hk) q4.size, Nat.le_trans h7 q4.size⟩, q4.mono (fun k hk => .inl ⟨hk.1, fun hp => hk.2 (.inr hp)⟩)⟩
theorem Pl5.said (h : Pl5 P B a r D Dr w) (hO : Dk.Ok Dr) (x : Ra) (hx : RaIn x) (hk : NsA5 w x.o x.keep) (hkB : ∀ y, x.keep ≠ [] → x.o = some y → y.block < B) (hs : Dr.starts ≤ 1000000000) :
    Calls Try.prog 21 #[.pointer (some ⟨r, 0, none⟩), .agg #[.int .u8 x.kind, .string (S x.name), .string (S x.other), .string (S x.data), .int .i64 x.n, .slice x.o x.keep.length x.k]] w fun e w' => e = .returned (.int .i64 (Dk.act x Dr).1) ∧ Pl5 P B a r D (Dk.act x Dr).2 w' ∧ Wr (fun k => B ≤ k ∧ ¬ P k) w w' := by
  obtain ⟨F, c, h1, h2, h3, h4, h5, h6, h7⟩ := h
  have f1 := h1.fp
  refine (said5 h2 h7 hO h3 x hx hk hkB hs).mono ?_
  rintro e w' ⟨q1, c', q2, q3, q4⟩
  refine ⟨q1, ⟨F, c', h1.wr q4 (fun b hb ha => (h4 b ha).1 hb), q2, h3, fun k hk => ?_, h5, fun k hk => Nat.lt_of_lt_of_le (h6 k hk) q4.size, Nat.le_trans h7 q4.size⟩, q4.mono (fun k hk => .inl ⟨?_, (h4 k hk).2⟩)⟩
  · rcases q3 k hk with q | q
    · exact h4 k q
    · exact ⟨fun hf => by have := (f1 k hf).2; omega, fun hp => by have := h6 k hp; omega⟩
  · rcases (h2.fr k hk).1 with q | q
    · omega
    · exact q
end

end Go.Proofs.Ytekmnpmeienhhaa
