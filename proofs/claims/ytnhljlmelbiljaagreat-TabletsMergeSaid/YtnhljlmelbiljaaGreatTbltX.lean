/- Layer 19: what the laws have in common. -/
import Derived.Test.YtnhljlmelbiljaaGreatTbltW
import Derived.Test.YtnhljlmelbiljaaGreatZJ
import Derived.Test.YtnhljlmelbiljaaGreatZR
namespace Go.Proofs.YtnhljlmelbiljaaGreat
set_option linter.unusedVariables false
set_option linter.unusedSimpArgs false
open Go Go.RowKit

theorem DaIn.ok {x : M.Da} (h : DaIn x) (hs : SmallDa x) : (∀ c, c ∈ x.L → ClOk c) ∧ ∀ r, r ∈ x.R → ∀ c, c ∈ r.l → ClOk c :=
  ⟨fun c hc => by have := hs.l.2 c hc; unfold SmallC at this; exact ⟨by omega, by omega, h.li c hc⟩, fun r hr c hc => by have := (hs.each r hr).2 c hc; unfold SmallC at this; exact ⟨by omega, by omega, (h.ri r hr).ints c hc⟩⟩
theorem made19_cap (f t : List UInt8) (L : List M.Cl) (Lo : Option Addr) (Lk : Nat) (R : List M.Rw) (Ro : Option Addr) (Rk : Nat) (w : World) (hi : DaIn ⟨f, t, L, Lo, Lk, R, Ro, Rk⟩) (h : DaAt w ⟨f, t, L, Lo, Lk, R, Ro, Rk⟩) (hs : SmallDa ⟨f, t, L, Lo, Lk, R, Ro, Rk⟩) :
    Calls Tryz.prog 11 #[.agg #[.string (S f), .string (S t), .slice Lo L.length Lk, .slice Ro R.length Rk]] w fun e w' => ∃ b ta tc Ts ro rc Rs, e = .returned (.tuple #[.agg #[.string (S f), .string (S t), .pointer (some ⟨b, 0, none⟩), .slice ta (Ts : List M.Tp).length tc], .agg #[.string (S f), .string (S t), .slice ro (Rs : List M.Rw).length rc], .bool true]) ∧ Mk19 (M.putsL [] L) b ta Ts ro Rs w' ∧ Mq19 (M.putsL [] L) Ts Rs ∧ Below w.heap.size w w' ∧ Rs.length ≤ rc :=
  (made19_any ⟨f, t, L, Lo, Lk, R, Ro, Rk⟩ w h hs (hi.ok hs).1 (hi.ok hs).2).mono fun e w' ⟨b, ta, tc, Ts, ro, rc, Rs, e1, hm, hc⟩ => ⟨b, ta, tc, Ts, ro, rc, Rs, e1, (hm.kit hs).1, (hm.kit hs).2, hm.bel, hc⟩
theorem beyond19_use (f t : List UInt8) (L : List M.Cl) (Lo : Option Addr) (Lk : Nat) (R : List M.Rw) (Ro : Option Addr) (Rk : Nat) (w : World) (hi : DaIn ⟨f, t, L, Lo, Lk, R, Ro, Rk⟩) (h : DaAt w ⟨f, t, L, Lo, Lk, R, Ro, Rk⟩) :
    Calls Tryz.prog 9 #[.agg #[.string (S f), .string (S t), .slice Lo L.length Lk, .slice Ro R.length Rk]] w fun e w' => (e = .returned (.bool true) ∨ (e = .returned (.bool false) ∧ SmallDa ⟨f, t, L, Lo, Lk, R, Ro, Rk⟩)) ∧ Below w.heap.size w w' := beyond19_any ⟨f, t, L, Lo, Lk, R, Ro, Rk⟩ w hi h
/-- What is known of a tablet in its box. -/
structure Tw19 (w : World) (f t : List UInt8) (K0 : List M.Cl) (b8 b : Nat) (ta : Option Addr) (tc : Nat) (Ts : List M.Tp) (ro : Option Addr) (Rs : List M.Rw) (W : World) : Prop where
  kit : Mk19 K0 b ta Ts ro Rs W
  bx : RowIn #[.string (S f), .string (S t), .pointer (some ⟨b, 0, none⟩), .slice ta Ts.length tc] 32 W b8
  bel : Below w.heap.size w W
section
variable {w : World} {f t : List UInt8} {K0 : List M.Cl} {b8 b : Nat} {ta : Option Addr} {tc : Nat} {Ts : List M.Tp} {ro : Option Addr} {Rs : List M.Rw} {W W' : World}
theorem Tw19.below (h : Tw19 w f t K0 b8 b ta tc Ts ro Rs W) (hb : Below W.heap.size W W') : Tw19 w f t K0 b8 b ta tc Ts ro Rs W' := ⟨h.kit.below hb, h.bx.below hb, below_step h.bel hb⟩
theorem Tw19.s (h : Tw19 w f t K0 b8 b ta tc Ts ro Rs W) : W.cell? ⟨b8, 0, none⟩ = some (.string (S f)) ∧ W.cell? ⟨b8, 1, none⟩ = some (.string (S t)) ∧ W.cell? ⟨b8, 2, none⟩ = some (.pointer (some ⟨b, 0, none⟩)) ∧ W.cell? ⟨b8, 3, none⟩ = some (.slice ta Ts.length tc) :=
  ⟨h.bx.cell 0, h.bx.cell 1, h.bx.cell 2, h.bx.cell 3⟩
theorem tmrg19 (h : TtAt W (.pointer (some ⟨b, 0, none⟩)) ta K0 Ts) (hf : f.length ≤ 1000) (ht : t.length ≤ 1000) :
    Calls Tryz.prog 19 #[.agg #[.string (S f), .string (S t), .pointer (some ⟨b, 0, none⟩), .slice ta Ts.length tc], .nilFunc] W fun e w' => NewR19 (M.rangeT f t (M.tls Ts) [] []) W e w' := merge19_nil f t _ ta tc K0 Ts W h (by omega) (by omega)
end
/-- Lengths of what a tablet tells. -/
theorem len_sum19 : ∀ (R : List (List M.Cl)) (n : Nat), (∀ l, l ∈ R → l.length ≤ n) → (R.map List.length).sum ≤ R.length * n
  | [], n, _ => by simp
  | l :: R, n, h => by
    have h1 := len_sum19 R n (fun l hl => h l (List.mem_cons_of_mem _ hl))
    have h2 := h l (by simp)
    simp only [List.map_cons, List.sum_cons, List.length_cons, Nat.add_mul]
    omega
theorem rangeT_len19 (f t : List UInt8) (R : List (List M.Cl)) (a b : List UInt8) (n : Nat) (h : ∀ l, l ∈ R → l.length ≤ n) : (M.rangeT f t R a b).length ≤ R.length * n := by
  have h1 := M.newR_len (R.map (M.rangeL (M.winA f a) (M.winB t b)))
  have h2 := len_sum19 (R.map (M.rangeL (M.winA f a) (M.winB t b))) n (fun l hl => by
    obtain ⟨m, hm, rfl⟩ := List.mem_map.1 hl
    exact Nat.le_trans (M.range_len _ _ m) (h m hm))
  rw [List.length_map] at h2
  exact Nat.le_trans h1 h2
theorem Mq19.mlen {K0 : List M.Cl} {Ts : List M.Tp} {Rs : List M.Rw} (h : Mq19 K0 Ts Rs) (f t a b : List UInt8) : (M.rangeT f t (M.tls Ts) a b).length ≤ 200 := by
  have h1 := rangeT_len19 f t (M.tls Ts) a b 40 h.lt
  have h2 : (M.tls Ts).length = Ts.length := by simp [M.tls]
  rw [h2] at h1
  have h3 : Ts.length * 40 ≤ 5 * 40 := Nat.mul_le_mul_right _ h.n
  omega
theorem same19_yes (A : List M.Cl) (a b : Option Addr) (n c1 c2 : Nat) (hn : A.length = n) (h : n ≤ 1000) {w : World} (ha : ClsAt w a A) (hb : ClsAt w b A) :
    Calls Tryz.prog 17 #[.slice a n c1, .slice b n c2] w fun e w' => e = .returned (.bool true) ∧ Below w.heap.size w w' := by
  subst hn
  exact (sameCells18_any (L := A) (K := A) c1 c2 ha hb (by omega) (by omega)).mono fun _ _ h => h.is rfl

end Go.Proofs.YtnhljlmelbiljaaGreat
