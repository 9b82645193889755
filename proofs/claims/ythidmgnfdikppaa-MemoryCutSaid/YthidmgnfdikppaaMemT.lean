/- Layer 15: a memory beside blocks that it may not write; the example's cells. -/
import Derived.Test.YthidmgnfdikppaaMemS
namespace Go.Proofs.Ythidmgnfdikppaa
set_option linter.unusedVariables false
set_option linter.unusedSimpArgs false
open Go Go.RowKit

/-- A memory that does not write some blocks. -/
def MemX (X : Nat → Prop) (B b : Nat) (L : List M.Cl) (w : World) : Prop := ∃ pa pc Ps, MemAt B b pa pc Ps L w ∧ SmP Ps ∧ ∀ k, WrS b pa Ps k → ¬ X k
theorem MemX.below {X : Nat → Prop} {B b : Nat} {L : List M.Cl} {w w' : World} (h : MemX X B b L w) (hb : Below w.heap.size w w') : MemX X B b L w' := by
  obtain ⟨pa, pc, Ps, h1, h2, h3⟩ := h
  exact ⟨pa, pc, Ps, h1.below hb, h2, h3⟩
theorem MemX.more {X X' : Nat → Prop} {B b : Nat} {L : List M.Cl} {w : World} (h : MemX X B b L w) (hX : ∀ k, X' k → X k ∨ w.heap.size ≤ k) : MemX X' B b L w := by
  obtain ⟨pa, pc, Ps, h1, h2, h3⟩ := h
  refine ⟨pa, pc, Ps, h1, h2, fun k hk hx => ?_⟩
  rcases hX k hx with q | q
  · exact h3 k hk q
  · have := (h1.wr hk).2
    omega
instance car_memX {w w' : World} {X : Nat → Prop} {B b : Nat} {L : List M.Cl} : Car w w' (MemX X B b L w) (MemX X B b L w') := ⟨fun hb h => h.below hb⟩
def PutX (X : Nat → Prop) (B b : Nat) (v : Int) (L : List M.Cl) (w : World) (e : Ending) (w' : World) : Prop := e = .returned (.int .i64 v) ∧ MemX X B b L w' ∧ OnlyS (fun k => B ≤ k ∧ ¬ X k) w w'
theorem putX15 {X : Nat → Prop} {B b : Nat} {L : List M.Cl} (c : M.Cl) {w : World} (h : MemX X B b L w) (hX : ∀ k, X k → k < w.heap.size) (hB : B ≤ w.heap.size) (hc : ClOk c) (hn : L.length < 50000) :
    Calls Try.prog 51 #[.pointer (some ⟨b, 0, none⟩), .agg (clA c)] w (PutX X B b (if M.mayC c then 0 else 2) (M.putL c L) w) := by
  obtain ⟨pa, pc, Ps, h1, h2, h3⟩ := h
  refine (put15_any B b pa pc Ps L c w h1 h2 hB hc hn).mono ?_
  rintro e w' ⟨rfl, pa', pc', Ps', k1, k2, k3, k4⟩
  refine ⟨rfl, ⟨pa', pc', Ps', k1, k2, fun k hk hx => ?_⟩, k3.mono (fun k hk => ⟨(h1.wr hk).1, h3 k hk⟩)⟩
  rcases k4.1 k hk with q | q
  · exact h3 k q hx
  · have := hX k hx
    omega
theorem memX_new (X : Nat → Prop) (w : World) (hX : ∀ k, X k → k ≠ w.heap.size) : MemX X w.heap.size w.heap.size [] (w.alloc (.cells #[.slice none 0 0, .int .i64 0, .bool true] 132)) :=
  ⟨none, 0, [], memAt_new w _ (Nat.le_refl _), (fun p hp => by cases hp), fun k hk hx => by
    rcases hk with rfl | ⟨o, e⟩ | ⟨p, hp, _⟩
    · exact hX _ hx rfl
    · cases e
    · cases hp⟩
theorem rangeX15 {X : Nat → Prop} {B b : Nat} {L : List M.Cl} {w : World} (h : MemX X B b L w) :
    Calls Try.prog 56 #[.pointer (some ⟨b, 0, none⟩), .string ⟨#[]⟩, .string ⟨#[]⟩] w fun e w' => RangeR10 L w e w' := by
  obtain ⟨pa, pc, Ps, h1, h2, h3⟩ := h
  have := range15_any B b pa pc Ps L [] [] w h1 (by simp) (by simp)
  rw [M.range_nil] at this
  exact this
theorem lenX15 {X : Nat → Prop} {B b : Nat} {L : List M.Cl} {w : World} (h : MemX X B b L w) :
    Calls Try.prog 53 #[.pointer (some ⟨b, 0, none⟩)] w fun e w' => e = .returned (.int .i64 L.length) ∧ w = w' := by
  obtain ⟨pa, pc, Ps, h1, h2, h3⟩ := h
  exact len15_any B b pa pc Ps L w h1
theorem getX15 {X : Nat → Prop} {B b : Nat} {L : List M.Cl} {w : World} (key : List UInt8) (h : MemX X B b L w) :
    Calls Try.prog 54 #[.pointer (some ⟨b, 0, none⟩), .string (S key)] w fun e w' => FindR9 (M.findL key L) w e w' := by
  obtain ⟨pa, pc, Ps, h1, h2, h3⟩ := h
  exact get15_any B b pa pc Ps L key w h1
def CutX (L : List M.Cl) (key : List UInt8) (w : World) (e : Ending) (w' : World) : Prop :=
  ∃ b1 b2, e = .returned (.tuple #[.pointer (some ⟨b1, 0, none⟩), .pointer (some ⟨b2, 0, none⟩)]) ∧ MemX (fun _ => False) w.heap.size b1 (L.filter (M.below key)) w' ∧ MemX (fun _ => False) w.heap.size b2 (L.filter (fun c => !M.below key c)) w' ∧ Below w.heap.size w w'
theorem cutX15 {X : Nat → Prop} {B b : Nat} {L : List M.Cl} {w : World} (key : List UInt8) (h : MemX X B b L w) :
    Calls Try.prog 60 #[.pointer (some ⟨b, 0, none⟩), .string (S key)] w (CutX L key w) := by
  obtain ⟨pa, pc, Ps, h1, h2, h3⟩ := h
  refine (cut15_any B b pa pc Ps L key w h1).mono ?_
  rintro e w' ⟨b1, pa1, pc1, P1, b2, pa2, pc2, P2, rfl, m1, m2, s1, s2, _, _, hb⟩
  exact ⟨b1, b2, rfl, ⟨pa1, pc1, P1, m1, s1, fun _ _ h => h⟩, ⟨pa2, pc2, P2, m2, s2, fun _ _ h => h⟩, hb⟩
def JoinX (L : List M.Cl) (w : World) (e : Ending) (w' : World) : Prop := ∃ b, e = .returned (.pointer (some ⟨b, 0, none⟩)) ∧ MemX (fun _ => False) w.heap.size b L w' ∧ Below w.heap.size w w'
theorem joinX15 {X Y : Nat → Prop} {Ba Bb ba bb : Nat} {La Lb : List M.Cl} {w : World} (ha : MemX X Ba ba La w) (hb : MemX Y Bb bb Lb w) (hn : La.length + Lb.length ≤ 40000) :
    Calls Try.prog 62 #[.pointer (some ⟨ba, 0, none⟩), .pointer (some ⟨bb, 0, none⟩)] w (JoinX (M.joinL La Lb) w) := by
  obtain ⟨pa, pca, Pa, h1, _, _⟩ := ha
  obtain ⟨pb, pcb, Pb, k1, _, _⟩ := hb
  refine (join15_any Ba Bb ba bb pa pb pca pcb Pa Pb La Lb w h1 k1 hn).mono ?_
  rintro e w' ⟨b, pa', pc', Ps', rfl, m, s, _, hb⟩
  exact ⟨b, rfl, ⟨pa', pc', Ps', m, s, fun _ _ h => h⟩, hb⟩
/-! The example's cells. -/
def M.x15 : M.Cl := ⟨[97], 1, [120]⟩
def M.y15 : M.Cl := ⟨[97], 2, [121]⟩
def M.z15 : M.Cl := ⟨[97], 1, [122]⟩
def M.o15 : M.Cl := ⟨[], 0, []⟩
def M.b15 : M.Cl := ⟨[98], 1, []⟩
theorem M.ok15 : ClOk M.x15 ∧ ClOk M.y15 ∧ ClOk M.z15 ∧ ClOk M.o15 ∧ ClOk M.b15 := by
  unfold ClOk M.x15 M.y15 M.z15 M.o15 M.b15
  simp
  refine ⟨?_, ?_, ?_, ?_, ?_⟩ <;> (constructor <;> simp)
theorem M.may15 : M.mayC M.x15 = true ∧ M.mayC M.y15 = true ∧ M.mayC M.z15 = true ∧ M.mayC M.o15 = false ∧ M.mayC M.b15 = true := by decide
theorem M.put15 : M.putL M.x15 [] = [M.x15] ∧ M.putL M.y15 [M.x15] = [M.y15, M.x15] ∧ M.putL M.z15 [M.y15, M.x15] = [M.y15, M.x15] ∧ M.putL M.o15 [M.y15, M.x15] = [M.y15, M.x15] ∧ M.putL M.b15 [M.y15, M.x15] = [M.y15, M.x15, M.b15] := by
  refine ⟨?_, ?_, ?_, ?_, ?_⟩ <;> decide
theorem M.find15 : M.findL [97] [M.y15, M.x15] = some M.y15 := by decide
theorem M.cut15 : [M.y15, M.x15, M.b15].filter (M.below [98]) = [M.y15, M.x15] ∧ [M.y15, M.x15, M.b15].filter (fun c => !M.below [98] c) = [M.b15] := by decide
theorem M.join15 : (M.joinL [M.y15, M.x15] [M.b15]).length = 3 := by decide

end Go.Proofs.Ythidmgnfdikppaa
