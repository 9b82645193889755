/- Layer 15: a memory and the document's, side by side, in turns. -/
import Derived.Test.YthidmgnfdikppaaMemYb
namespace Go.Proofs.Ythidmgnfdikppaa
set_option linter.unusedVariables false
set_option linter.unusedSimpArgs false
open Go Go.RowKit

/-- A memory is not touched by what is written to the document's own block. -/
theorem memX_ref {X : Nat → Prop} {B b rb : Nat} {L : List M.Cl} {C : Array Value} {w w' : World} (h : MemX X B b L w) (hr : RowIn C 78 w rb) (hO : OnlyS (fun k => k = rb) w w') : MemX X B b L w' := by
  obtain ⟨pa, pc, Ps, h1, h2, h3⟩ := h
  refine ⟨pa, pc, Ps, h1.only hO (fun k hk e => ?_), h2, h3⟩
  subst e
  rcases hk with rfl | ⟨o, rfl⟩ | ⟨p, hp, rfl⟩
  · exact rowIn_ne h1.row hr (by decide) rfl
  · exact row_apart hr h1.pgs.row (by decide) k rfl rfl
  · obtain ⟨_, ⟨C', hC⟩, _⟩ := h1.blk p hp
    exact rowIn_ne hC hr (by decide) rfl
theorem memX_base {X : Nat → Prop} {B b : Nat} {L : List M.Cl} {w : World} (h : MemX X B b L w) : B ≤ w.heap.size := by
  obtain ⟨pa, pc, Ps, h1, h2, h3⟩ := h
  exact Nat.le_trans h1.bb (Nat.le_of_lt h1.row.lt)
/-- A memory of cells L1, and the document's of L2, neither of which writes the other. -/
def Pl (B b rb : Nat) (L1 L2 : List M.Cl) (w : World) : Prop := ∃ (X : Nat → Prop) (ao : Option Addr) (cap : Nat), MemX X B b L1 w ∧ RefM rb ao cap L2 w ∧ X rb ∧ (∀ a, ao = some a → X a.block) ∧ (∀ k, X k → k < w.heap.size) ∧ B ≤ rb
theorem Pl.below {B b rb : Nat} {L1 L2 : List M.Cl} {w w' : World} (h : Pl B b rb L1 L2 w) (hb : Below w.heap.size w w') : Pl B b rb L1 L2 w' := by
  obtain ⟨X, ao, cap, h1, h2, h3, h4, h5, h6⟩ := h
  exact ⟨X, ao, cap, h1.below hb, h2.below hb, h3, h4, fun k hk => Nat.lt_of_lt_of_le (h5 k hk) hb.size, h6⟩
instance car_pl15 {w w' : World} {B b rb : Nat} {L1 L2 : List M.Cl} : Car w w' (Pl B b rb L1 L2 w) (Pl B b rb L1 L2 w') := ⟨fun hb h => h.below hb⟩
theorem Pl.base {B b rb : Nat} {L1 L2 : List M.Cl} {w : World} (h : Pl B b rb L1 L2 w) : B ≤ w.heap.size := by
  obtain ⟨X, ao, cap, h1, _⟩ := h
  exact memX_base h1
def PlR (v : Int) (B b rb : Nat) (L1 L2 : List M.Cl) (w : World) (e : Ending) (w' : World) : Prop := e = .returned (.int .i64 v) ∧ Pl B b rb L1 L2 w' ∧ Below B w w'
theorem Pl.mput {B b rb : Nat} {L1 L2 : List M.Cl} {w : World} (c : M.Cl) (h : Pl B b rb L1 L2 w) (hc : ClOk c) (hn : L1.length < 50000) :
    Calls Try.prog 51 #[.pointer (some ⟨b, 0, none⟩), .agg (clA c)] w (PlR (if M.mayC c then 0 else 2) B b rb (M.putL c L1) L2 w) := by
  have hB := h.base
  obtain ⟨X, ao, cap, h1, h2, h3, h4, h5, h6⟩ := h
  refine (putX15 c h1 h5 hB hc hn).mono ?_
  rintro e w' ⟨rfl, k1, k2⟩
  refine ⟨rfl, ⟨X, ao, cap, k1, h2.only k2 (fun q => q.2 h3) (fun a ha q => q.2 (h4 a ha)), h3, h4, fun k hk => Nat.lt_of_lt_of_le (h5 k hk) k2.size, h6⟩, k2.below (fun k hk => hk.1) hB⟩
theorem Pl.rput {B b rb : Nat} {L1 L2 : List M.Cl} {w : World} (c : M.Cl) (h : Pl B b rb L1 L2 w) (hc : ClOk c) (hn : L2.length ≤ 100000) :
    Calls Try.prog 52 #[.pointer (some ⟨rb, 0, none⟩), .agg (clA c)] w (PlR (if M.mayC c then 0 else 2) B b rb L1 (M.putL c L2) w) := by
  have hB := h.base
  obtain ⟨X, ao, cap, h1, h2, h3, h4, h5, h6⟩ := h
  refine (refPut15_any rb ao cap L2 c w h2 hc hn).mono ?_
  rintro e w' ⟨rfl, ao', cap', k1, k2, k3⟩
  have hX : MemX (fun k => X k ∨ (w.heap.size ≤ k ∧ k < w'.heap.size)) B b L1 w := h1.more (fun k hk => by
    rcases hk with hk | hk
    · exact .inl hk
    · exact .inr hk.1)
  refine ⟨rfl, ⟨_, ao', cap', memX_ref hX h2.row k2, k1, .inl h3, fun a ha => ?_, fun k hk => ?_, h6⟩, k2.below (fun k hk => by omega) hB⟩
  · rcases k3 with e | e
    · exact .inl (h4 a (e ▸ ha))
    · exact .inr (e a ha)
  · rcases hk with hk | hk
    · exact Nat.lt_of_lt_of_le (h5 k hk) k2.size
    · exact hk.2
theorem Pl.mget {B b rb : Nat} {L1 L2 : List M.Cl} {w : World} (key : List UInt8) (h : Pl B b rb L1 L2 w) : Calls Try.prog 54 #[.pointer (some ⟨b, 0, none⟩), .string (S key)] w fun e w' => FindR9 (M.findL key L1) w e w' := by
  obtain ⟨X, ao, cap, h1, _⟩ := h
  exact getX15 key h1
theorem Pl.rget {B b rb : Nat} {L1 L2 : List M.Cl} {w : World} (key : List UInt8) (h : Pl B b rb L1 L2 w) (hn : L2.length ≤ 1000000) : Calls Try.prog 55 #[.pointer (some ⟨rb, 0, none⟩), .string (S key)] w fun e w' => FindR9 (M.findL key L2) w e w' := by
  obtain ⟨X, ao, cap, h1, h2, _⟩ := h
  exact refGet15_any L2 hn rb ao cap key w h2
theorem Pl.mlen {B b rb : Nat} {L1 L2 : List M.Cl} {w : World} (h : Pl B b rb L1 L2 w) : Calls Try.prog 53 #[.pointer (some ⟨b, 0, none⟩)] w fun e w' => e = .returned (.int .i64 L1.length) ∧ w = w' := by
  obtain ⟨X, ao, cap, h1, _⟩ := h
  exact lenX15 h1
theorem Pl.mrng {B b rb : Nat} {L1 L2 : List M.Cl} {w : World} (h : Pl B b rb L1 L2 w) : Calls Try.prog 56 #[.pointer (some ⟨b, 0, none⟩), .string ⟨#[]⟩, .string ⟨#[]⟩] w fun e w' => RangeR10 L1 w e w' := by
  obtain ⟨X, ao, cap, h1, _⟩ := h
  exact rangeX15 h1
theorem Pl.mrng2 {B b rb : Nat} {L1 L2 : List M.Cl} {w : World} (lo hi : List UInt8) (h : Pl B b rb L1 L2 w) (k1 : lo.length ≤ 140737488351232) (k2 : hi.length ≤ 140737488351232) : Calls Try.prog 56 #[.pointer (some ⟨b, 0, none⟩), .string (S lo), .string (S hi)] w fun e w' => RangeR10 (M.rangeL lo hi L1) w e w' := by
  obtain ⟨X, ao, cap, ⟨pa, pc, Ps, h1, _, _⟩, _⟩ := h
  exact range15_any B b pa pc Ps L1 lo hi w h1 k1 k2
theorem Pl.rrng2 {B b rb : Nat} {L1 L2 : List M.Cl} {w : World} (lo hi : List UInt8) (h : Pl B b rb L1 L2 w) (hn : L2.length ≤ 900000) (hv : ∀ c ∈ L2, ClOk c) (k1 : lo.length ≤ 140737488351232) (k2 : hi.length ≤ 140737488351232) : Calls Try.prog 57 #[.pointer (some ⟨rb, 0, none⟩), .string (S lo), .string (S hi)] w fun e w' => RangeR10 (M.rangeL lo hi L2) w e w' := by
  obtain ⟨X, ao, cap, h1, h2, _⟩ := h
  exact refRange15_any L2 hn rb ao cap lo hi w h2 hv k1 k2
theorem Pl.cell {B b rb : Nat} {L1 L2 : List M.Cl} {w : World} (h : Pl B b rb L1 L2 w) : ∃ ao cap, w.cell? ⟨rb, 0, none⟩ = some (.slice ao L2.length cap) ∧ ClsAt w ao L2 := by
  obtain ⟨X, ao, cap, h1, h2, _⟩ := h
  exact ⟨ao, cap, h2.row.cell 0, h2.cls⟩
theorem Pl.rowr {B b rb : Nat} {L1 L2 : List M.Cl} {w : World} (h : Pl B b rb L1 L2 w) : ∃ ao cap, RowIn #[.slice ao L2.length cap] 78 w rb ∧ ClsAt w ao L2 := by
  obtain ⟨X, ao, cap, h1, h2, _⟩ := h
  exact ⟨ao, cap, h2.row, h2.cls⟩
/-- Both without cells. -/
theorem pl_new (w : World) : Pl w.heap.size w.heap.size (w.heap.size + 1) [] [] ((w.alloc (.cells #[.slice none 0 0, .int .i64 0, .bool true] 132)).alloc (.cells #[.slice none 0 0] 78)) := by
  have h1 := memX_new (fun k => k = w.heap.size + 1) w (fun k hk => by omega)
  refine ⟨fun k => k = w.heap.size + 1, none, 0, h1.below ((Below.refl _ _).alloc (Nat.le_refl _) _), ⟨rowIn_at _ _ _ _ (by rw [szA]), clsAt_nil _ _, Nat.le_refl _, fun h => absurd rfl h⟩, rfl, (fun a ha => by cases ha), (fun k hk => by rw [szA, szA]; omega), by omega⟩

end Go.Proofs.Ythidmgnfdikppaa
