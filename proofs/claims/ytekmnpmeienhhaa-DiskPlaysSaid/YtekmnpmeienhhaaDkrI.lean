/- Layer 5: the document's disk: Remove, Rename, New. -/
import Derived.Test.YtekmnpmeienhhaaDkrH
namespace Go.Proofs.Ytekmnpmeienhhaa
set_option linter.unusedVariables false
open Go Go.RowKit Go.Maps

namespace Dk
theorem del_del5 (nm : List UInt8) (L : List Fl) : del nm (del nm L) = del nm L := by unfold del; rw [List.filter_filter]; simp
theorem ren_eq5 {a b : List UInt8} {L : List Fl} (h : OkL L) (ha : has a L = true) : ren a b L = put ⟨b, (get a L).dat, (get a L).safe⟩ (del a L) := by
  unfold ren
  split
  · rename_i e
    subst e
    obtain ⟨m1, m2⟩ := get_mem ha
    obtain ⟨k, hk, e1⟩ := List.mem_iff_getElem.1 m1
    have e2 : (⟨a, (get a L).dat, (get a L).safe⟩ : Fl) = get a L := (show ∀ G : Fl, G.name = a → (⟨a, G.dat, G.safe⟩ : Fl) = G from fun G h => by cases G; simp only at h; subst h; rfl) _ m2
    rw [e2]
    have e3 : put (get a L) (del a L) = put (get a L) L := by
      unfold put
      rw [m2, del_del5]
    rw [e3, put_at h.up hk (by rw [e1])]
    rw [← e1, List.set_getElem_self]
  · rfl
end Dk
theorem OpI.res {B r : Nat} {c : Rc} {v v' : Value} {D' : Dk.St} {w w' : World} {e e' : Ending} (h : OpI B r c v D' w e w') (he : e' = .returned v') : OpI B r c v' D' w e' w' := ⟨he, h.2⟩
section
variable {B r : Nat} {c : Rc} {D : Dk.St} {w w' : World}
set_option maxRecDepth 100000 in
set_option maxHeartbeats 4000000 in
theorem rRemove5 (h : RfIn B r c D w) (hB : B ≤ w.heap.size) (nm : List UInt8) (hn : ∀ p, D.set = some p → (p.1 : Int) ≤ 9223372036854775807) (hks : ∀ p, D.set = some p → Dk.KsOk p.2) :
    Calls Try.prog 60 #[.pointer (some ⟨r, 0, none⟩), .string (S nm)] w (OpI B r c (.int .i64 (Dk.remove nm D).1) (Dk.remove nm D).2 w) := by
  have CA := Lib.hid (rAsks5 h nm)
  have CC := Lib.hid (fun hu => rChanges5 h hu hn hks)
  have HI := Lib.hid h
  clear h hn hks
  go_enter Try.func60, Try.ntmps60
  go_wp2_with fail
  with_reducible refine CA.out.mono ?_
  rintro e w1 ⟨⟨hu, rfl⟩ | ⟨hu, hh, rfl⟩ | ⟨k, hk, hu, he, rfl⟩, rfl⟩
  · have HQ := Lib.hid (show OpI B r c (.int .i64 (Dk.remove nm D).1) (Dk.remove nm D).2 w (.returned (.int .i64 51)) w from by
      rw [show Dk.remove nm D = (51, D) from by unfold Dk.remove; rw [if_pos hu]]; exact OpI.same HI.out)
    go_wp2_with fail
    go_ret
    exact HQ.out
  · have HQ := Lib.hid (show OpI B r c (.int .i64 (Dk.remove nm D).1) (Dk.remove nm D).2 w (.returned (.int .i64 4)) w from by
      rw [show Dk.remove nm D = (4, D) from by unfold Dk.remove; rw [if_neg (by rw [hu]; decide), if_pos hh]]; exact OpI.same HI.out)
    go_wp2_with fail
    go_ret
    exact HQ.out
  · obtain ⟨q1, q2⟩ := get_at5 HI.out.ok hk he
    have HD := Lib.hid (show Dk.remove nm D = if (Dk.struck D).1 = true then (51, (Dk.struck D).2) else (0, { (Dk.struck D).2 with L := Dk.del nm D.L }) from by
      have e0 : Dk.remove nm D = if (Dk.struck D).1 = true then (51, (Dk.struck D).2) else (0, { (Dk.struck D).2 with L := Dk.del nm D.L }) := by
        unfold Dk.remove; rw [if_neg (by rw [hu]; decide), if_neg (by rw [q2]; decide)]
      exact e0)
    replace CC := Lib.hid (CC.out hu)
    have HHE := Lib.hid he
    clear he q1 q2
    go_wp2_with fail
    with_reducible refine CC.out.mono ?_
    rintro e w2 ho
    have HO := Lib.hid ho
    obtain ⟨rfl, c2, hI2, hF2, hW2⟩ := ho
    cases hst : (Dk.struck D).1 with
    | true =>
      have hch : Dk.chg D = 51 := by unfold Dk.chg; rw [hst]; rfl
      rw [hch]
      have HQ := Lib.hid (show OpI B r c (.int .i64 (Dk.remove nm D).1) (Dk.remove nm D).2 w (.returned (.int .i64 51)) w2 from by
        rw [HD.out, if_pos hst]; have := HO.out; exact ⟨rfl, this.2⟩)
      clear hI2 hF2 hW2 hch
      go_wp2_with fail
      go_ret
      exact HQ.out
    | false =>
      have hch : Dk.chg D = 0 := by unfold Dk.chg; rw [hst]; rfl
      rw [hch]
      have hL := struck_L5 hst
      have hk1 : k < (Dk.struck D).2.L.length := by rw [hL]; exact hk
      have CT := Lib.hid (rCut5 hI2 (Nat.le_trans hB hW2.size) hk1)
      have HQ := Lib.hid (show ∀ w3, OpI B r c2 (.tuple #[]) { (Dk.struck D).2 with L := Dk.del ((Dk.struck D).2.L[k]).name (Dk.struck D).2.L } w2 (.returned (.tuple #[])) w3 → OpI B r c (.int .i64 (Dk.remove nm D).1) (Dk.remove nm D).2 w (.returned (.int .i64 0)) w3 from fun w3 h3 => by
        rw [HD.out, if_neg (by rw [hst]; decide)]
        have e1 : ((Dk.struck D).2.L[k]).name = nm := by simp only [hL]; exact HHE.out
        rw [e1, hL] at h3
        obtain ⟨_, c3, p1, p2, p3⟩ := h3
        refine ⟨rfl, c3, p1, fun b hb => ?_, hW2.step p3 (fun x hx => hF2 x hx)⟩
        rcases p2 b hb with h | h
        · exact hF2 b h
        · exact .inr (Nat.le_trans hW2.size h))
      clear hI2 hF2 hW2 hch hL
      go_wp2_with fail
      with_reducible refine CT.out.mono ?_
      rintro e w3 ho3
      obtain rfl := ho3.1
      have HQ3 := Lib.hid (HQ.out _ ho3)
      clear ho3
      go_wp2_with fail
      go_ret
      exact HQ3.out
/-- A new disk. -/
def rc0 : Rc := ⟨none, 0, 0, none, 0, []⟩
set_option maxRecDepth 100000 in
theorem rNew5 (n : Nat) (w : World) (h1 : 1 ≤ n) (h2 : n ≤ 1048576) : Calls Try.prog 18 #[.int .i64 n] w fun e w' => e = .returned (.tuple #[.pointer (some ⟨w.heap.size, 0, none⟩), .int .i64 0]) ∧ RfIn w.heap.size w.heap.size rc0 (Dk.new n) w' ∧ Below w.heap.size w w' := by
  have d1 : decide ((n : Int) < (1 : Int)) = false := decide_eq_false (by omega)
  have d2 : decide ((1048576 : Int) < (n : Int)) = false := decide_eq_false (by omega)
  have HB := Lib.hid ((Below.refl w.heap.size w).alloc (Nat.le_refl _) (.cells #[.int .i64 n, .int .i64 0, .bool false, .bool false, .slice none 0 0, .int .i64 0, .slice none 0 0] 91))
  have HK := Lib.hid (bk_new #[.int .i64 n, .int .i64 0, .bool false, .bool false, .slice none 0 0, .int .i64 0, .slice none 0 0] 91 w)
  go_enter Try.func18, Try.ntmps18
  go_wp2_with fail
  go_ret2
  exact ⟨rfl, ⟨HK.out, World.ownsRow_nil _ _ _ _, World.ownsRow_nil _ _ _ _, fun p hp => (by cases hp), ⟨List.Pairwise.nil, fun f hf => (by cases hf), fun f hf => (by cases hf)⟩, by show 0 ≤ 1024; decide, by show 0 ≤ 1048576; decide⟩, HB.out⟩
end

end Go.Proofs.Ytekmnpmeienhhaa
