import Derived.Test.YtmammmjmipgmoaaGreatDoorZHd
import Derived.Test.YtmammmjmipgmoaaGreatDoorZO
import Derived.Test.YtmammmjmipgmoaaGreatDoorZQh
set_option linter.unusedVariables false
set_option maxRecDepth 100000
set_option maxHeartbeats 16000000
namespace Go.Proofs.YtmammmjmipgmoaaGreatDoor
open Go Go.RowKit Go.Maps
namespace Hl
def mendT (G : Lg) (t : Bool) (D : Dk.St) : Int × Dk.St := if t = true then mendD G D else (0, D)
def openR (Z : List Sg) (tz : List UInt8) (D : Dk.St) : Int × Dk.St := if D.up = false then (51, D) else Dk.run [Dk.clear nD, mendT ⟨D.starts, false, Z.map smOf⟩ (decide (tz ≠ []))] D
end Hl
section
variable {X : Nat → Prop} {B b d : Nat} {G : Hl.Lg} {D : Dk.St} {vs : Value} {P : List (Hl.Sm × Value)} {w w' : World}
open Hl
theorem Jqg (fs : List (Nat × Array Value × Array Value)) (g cap : Nat) (acts : List (Dk.St → Int × Dk.St)) (hl : acts.length = fs.length) (h63 : fs.length ≤ 1000)
  (hL : LgIn B b d G vs P w) (h : DkX X B d D w) (hX : ∀ k, X k → k < w.heap.size) (hB : B ≤ w.heap.size) (hv : Vr w) (hF : ∀ k, LgF b vs P k → X k) (h3 : 3 ≤ B) (hg : X g)
  (hc : ∀ j (hj : j < fs.length), w.cell? ⟨g, j, none⟩ = some (fnV6 fs[j])) (hin : ∀ i (hi : i < fs.length), Jdn fs[i].1)
  (hs : ∀ i (hi : i < fs.length) (hi' : i < acts.length) w', (Dk.run (acts.take i) D).1 = 0 → DkX X B d (Dk.run (acts.take i) D).2 w' → LgIn B b d G vs P w' → Vr w' → Wr (fun k => B ≤ k ∧ ¬ X k) w w' → Calls Tryz.prog fs[i].1 (fs[i].2.1 ++ fs[i].2.2) w' (OpX X B d (acts[i] (Dk.run (acts.take i) D).2) w')) :
  Calls Tryz.prog 61 #[.pointer (some ⟨b, 0, none⟩), .slice (some ⟨g, 0, none⟩) fs.length cap] w (RwL6 X B b d G vs P (Dk.run acts D) w) := by
 have keepL : ∀ {w'}, Wr (fun k => B ≤ k ∧ ¬ X k) w w' → LgIn B b d G vs P w' := fun hw => hL.wr hw (fun k hk q => q.2 (hF k hk))
 have keepV : ∀ {w'}, Wr (fun k => B ≤ k ∧ ¬ X k) w w' → Vr w' := fun hw => hv.wr hw (fun k hk q => by omega)
 have key := Jc7 fs g cap (fun i w' => DkX X B d (Dk.run (acts.take i) D).2 w' ∧ (Dk.run (acts.take i) D).1 = 0 ∧ Wr (fun k => B ≤ k ∧ ¬ X k) w w') (fun v w' => OpX X B d (Dk.run acts D) w (.returned (.int .i64 v)) w') w ⟨by rw [List.take_zero]; exact h, by rw [List.take_zero]; rfl, Wr.refl _ _⟩
  (fun i w' ⟨_, _, hw⟩ j hj => Jam (hc j hj) hw (fun q => q.2 hg))
  (fun i hi w' ⟨h1, h2, hw⟩ => by
   have hi' : i < acts.length := by omega
   refine (hs i hi hi' w' h2 h1 (keepL hw) (keepV hw) hw).mono ?_;rintro e w2 ⟨rfl, q2, q3⟩;have er : Dk.run (acts.take (i + 1)) D = acts[i] (Dk.run (acts.take i) D).2 := by rw [List.take_succ_eq_append_getElem hi', Dk.run_snoc, Dk.next_ok h2]
   refine ⟨_, rfl, fun hv => ⟨by rw [er]; exact q2, by rw [er]; exact hv, hw.trans q3⟩, fun hv => ?_⟩
   have ef : Dk.run acts D = acts[i] (Dk.run (acts.take i) D).2 := by
    have := Dk.run_fail (acts.take (i + 1)) (acts.drop (i + 1)) D (by rw [er]; exact hv);rw [List.take_append_drop] at this;rw [this, er]
   exact ⟨by rw [ef], by rw [ef]; exact q2, hw.trans q3⟩) h63 hin
 have key2 : Calls Tryz.prog 156 #[.slice (some ⟨g, 0, none⟩) fs.length cap] w fun e w' => ∃ v : Int, e = .returned (.int .i64 v) ∧ OpX X B d (Dk.run acts D) w (.returned (.int .i64 v)) w' := by
  refine key.mono ?_;rintro e w2 ⟨v, rfl, q1, q2⟩;refine ⟨v, rfl, ?_⟩;by_cases hv : v = 0
  ·subst hv
   obtain ⟨a, b, c⟩ := q1 rfl;rw [← hl, List.take_length] at a b;exact ⟨by rw [b], a, c⟩
  ·exact q2 hv
 refine (Jgr (b := b) _ (fun v w' => OpX X B d (Dk.run acts D) w (.returned (.int .i64 v)) w') key2 (fun v w' ho => ⟨_, _, (keepL ho.2.2).box, by show 2 < 4; decide⟩)).mono ?_;rintro e w2 ⟨v, w1, rfl, ho, rfl⟩;obtain ⟨o1, o2, o3⟩ := ho;simp only [Ending.returned.injEq, Value.int.injEq, true_and] at o1;subst o1;obtain ⟨k1, k2⟩ := (keepL o3).ovw (Dk.run acts D).1;refine ⟨rfl, k1, o2.wr k2 (fun k hk => by rw [hk]; exact hF b (.inl rfl)), (keepV o3).wr k2 (fun k hk q => by have := hL.bB; omega), ?_⟩;exact (o3.mono (fun k q => .inl (.inr q))).trans (k2.mono (fun k q => .inl (.inl q)))
theorem Jo0 (hL : LgIn B b d G vs P w) (h : DkX X B d D w) (hX : ∀ k, X k → k < w.heap.size) (hB : B ≤ w.heap.size) (hv : Vr w) (hF : ∀ k, LgF b vs P k → X k) (h3 : 3 ≤ B) {bd lb tb ga : Nat} (yd : X bd) (yl : X lb) (yt : X tb) (ya : X ga) {T1 T2 T3 T4 : TypeId} (t : Bool)
  (kd : Bk #[.pointer (some ⟨d, 0, none⟩)] T1 w bd) (kl : Bk #[.pointer (some ⟨b, 0, none⟩)] T2 w lb) (kt : Bk #[.bool t] T3 w tb)
  (ka : Bk #[.func (Fn.func 62) #[] #[.pointer (some ⟨bd, 0, none⟩)], .func (Fn.func 65) #[] #[.pointer (some ⟨lb, 0, none⟩), .pointer (some ⟨tb, 0, none⟩)]] T4 w ga)
  (hm : t = true → (Dk.clear nD D).1 = 0 → G.S ≠ [] ∧ (lastS G).size ≤ (Dk.read (nm (lastS G).n) (Dk.clear nD D).2).2.length ∧ (Dk.read (nm (lastS G).n) (Dk.clear nD D).2).2.length ≤ 10000000) :
  Calls Tryz.prog 61 #[.pointer (some ⟨b, 0, none⟩), .slice (some ⟨ga, 0, none⟩) 2 2] w (RwL6 X B b d G vs P (Dk.run [Dk.clear nD, mendT G t] D) w) := by
 refine Jqg [(62, #[], #[.pointer (some ⟨bd, 0, none⟩)]), (65, #[], #[.pointer (some ⟨lb, 0, none⟩), .pointer (some ⟨tb, 0, none⟩)])] ga 2 [Dk.clear nD, mendT G t] rfl (by simp) hL h hX hB hv hF h3 ya
  (fun j hj => by
   match j, hj with
   | 0, _ => exact ka.cell 0
   | 1, _ => exact ka.cell 1)
  (fun i hi => by
   match i, hi with
   | 0, _ => exact Jav (fn := Tryz.f62) (by kernel_rfl) (by kernel_rfl) rfl
   | 1, _ => exact Jav (fn := Tryz.f65) (by kernel_rfl) (by kernel_rfl) rfl)
  (fun i hi hi' w' h0 hd hl hv' hw => by
   match i, hi, hi' with
   | 0, _, _ => exact Jp9 hd (fun k hk => Nat.lt_of_lt_of_le (hX k hk) hw.size) (Nat.le_trans hB hw.size) ((kd.wr hw (fun q => q.2 yd)).cell 0)
   | 1, _, _ =>
    have e1 : Dk.run ([Dk.clear nD, mendT G t].take 1) D = Dk.clear nD D := Jcd _ D;rw [e1] at h0 hd;simp only [e1];refine Jqa (t := t) ?_ ((kl.wr hw (fun q => q.2 yl)).cell 0) ((kt.wr hw (fun q => q.2 yt)).cell 0);show Calls _ _ _ _ (OpX X B d (mendT G t (Dk.clear nD D).2) w')
    unfold mendT;cases t with
    | false =>
     rw [if_neg (by simp)];refine (Jov w' _).mono ?_;rintro e w2 ⟨rfl, rfl⟩;exact ⟨rfl, hd, Wr.refl _ _⟩
    | true =>
     rw [if_pos rfl];obtain ⟨m1, m2, m3⟩ := hm rfl h0
     exact Jm6 hl hd (fun k hk => Nat.lt_of_lt_of_le (hX k hk) hw.size) (Nat.le_trans hB hw.size) hv' hF m1 m2 m3)
end
end Go.Proofs.YtmammmjmipgmoaaGreatDoor
