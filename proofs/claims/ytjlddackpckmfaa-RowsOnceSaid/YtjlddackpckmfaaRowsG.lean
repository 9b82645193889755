/- Layer 21: the law's shelf: the last cell of a key, by a contract. -/
import Derived.Test.YtjlddackpckmfaaRowsF
import Derived.Test.YtjlddackpckmfaaZF
namespace Go.Proofs.Ytjlddackpckmfaa
set_option linter.unusedVariables false
open Go Go.RowKit
attribute [local go_sem ↓] run_index_S
attribute [local go_sem] S_append S_extract

abbrev clZ : Array Value := #[.string ⟨#[]⟩, .int .i64 0, .string ⟨#[]⟩]
/-- A shelf: a struct of one field, the slice of its cells. -/
structure ShelfAt (w : World) (b : Nat) (cs : List M.Cl) : Prop where
  sh : ∃ ao cap, RowIn #[.slice ao cs.length cap] 44 w b ∧ ClsAt w ao cs
theorem ShelfAt.below {w w' : World} {b : Nat} {cs : List M.Cl} (h : ShelfAt w b cs) (hb : Below w.heap.size w w') : ShelfAt w' b cs := by
  obtain ⟨ao, cap, h1, h2⟩ := h.sh
  exact ⟨ao, cap, h1.below hb, h2.below hb⟩
instance car_shelf {w w' : World} {b : Nat} {cs : List M.Cl} : Car w w' (ShelfAt w b cs) (ShelfAt w' b cs) := ⟨fun hb h => h.below hb⟩
/-- What 'get' comes to. -/
def GetR (r : Option M.Cl) (w : World) (e : Ending) (w' : World) : Prop := e = .returned (.tuple #[.agg (clA (r.getD M.cl0)), .bool r.isSome]) ∧ Below w.heap.size w w'

set_option maxHeartbeats 2000000 in
set_option maxRecDepth 100000 in
theorem shelfGet_any (b : Nat) (cs : List M.Cl) (hlen : cs.length ≤ 1000000) (key : List UInt8) (w : World) (h : ShelfAt w b cs) :
    Calls Try.prog 20 #[.pointer (some ⟨b, 0, none⟩), .string (S key)] w fun e w' => GetR (M.getL cs key) w e w' := by
  obtain ⟨ao, cap, h1, h2⟩ := h.sh
  have hb := h1.lt
  have HS := Lib.hid (h1.more (.cells clZ 25))
  have HC := Lib.hid (h2.below ((Below.refl _ _).alloc (Nat.le_refl _) (.cells clZ 25)))
  have HR := Lib.hid (rowIn_new clZ 25 w)
  have HB := Lib.hid ((Below.refl w.heap.size w).alloc (Nat.le_refl _) (.cells clZ 25))
  clear h1 h2 h
  have p0 := HS.out.cell 0
  simp only [List.getElem?_toArray, List.getElem?_cons_zero] at p0
  go_enter Try.func20, Try.ntmps20
  go_wp2_with fail
  generalize w.alloc (.cells #[.string ⟨#[]⟩, .int .i64 0, .string ⟨#[]⟩] 25) = w0 at *
  clear p0
  go_loop [6] (fun i => ∃ (k : Nat) (iv : Int), k ≤ cs.length ∧ iv = (k : Int) - 1 ∧ i = .int .i64 iv ∧ Hid (∀ j (hj : j < cs.length), k ≤ j → cs[j].key ≠ key)) (fun i => (intOf i + 1).toNat)
  case atStart => exact ⟨cs.length, _, Nat.le_refl _, rfl, rfl, Lib.hid (fun j hj h => by omega)⟩
  case round =>
    obtain ⟨k, iv, hk, hiv, rfl, HN⟩ := hrel
    have p0 := HS.out.cell 0
    simp only [List.getElem?_toArray, List.getElem?_cons_zero] at p0
    cases k with
    | zero =>
      obtain rfl : iv = -1 := by omega
      clear hiv
      have HG := Lib.hid (M.getL_none (k := key) (fun j hj => HN.out j hj (Nat.zero_le _)))
      go_wp2_with (refine wpList_store_row rfl 25 _ _ rfl w.heap.size _ rfl rfl 25 clZ HR.out ?_ rfl (by simp [Value.oneCell']) ?_; kernel_rfl)
      try simp only [Exit.inBlock, Exit.then]
      exact bodyPost_ret (ret_rowP2 rfl _ _ w.heap.size rfl (load_struct Try.underlying25 (by kernel_rfl) (RowIn.rowP HR.out))) rfl ⟨by rw [HG.out]; rfl, below_setRow HB.out (Nat.le_refl _) _⟩
    | succ m =>
      obtain rfl : iv = (m : Int) := by omega
      clear hiv
      obtain ⟨g, off, rfl, hc⟩ := HC.out.off m (by omega)
      have hmi : (m : Int) < (cs.length : Int) := by omega
      obtain ⟨c0, c1, c2⟩ := hc
      have HE := Lib.hid (show cs.getD m M.cl0 = cs[m] from by simp [List.getD, List.getElem?_eq_getElem (show m < cs.length by omega)])
      generalize cs.getD m M.cl0 = c at *
      by_cases hkey : c.key = key
      · have HG := Lib.hid (M.getL_at (k := key) (i := m) (by omega) (by rw [← HE.out]; exact hkey) (fun j hj hij => HN.out j hj (by omega)))
        have d0 : (c.key == key) = true := by simpa using hkey
        clear hkey
        go_wp2_with (refine wpList_store_row rfl 25 _ _ rfl w.heap.size _ rfl rfl 25 clZ HR.out ?_ rfl (by simp [Value.oneCell']) ?_; kernel_rfl)
        try simp only [Exit.inBlock, Exit.then]
        exact bodyPost_ret (ret_rowP2 rfl _ _ w.heap.size rfl (load_struct Try.underlying25 (by kernel_rfl) (RowIn.rowP HR.out))) rfl ⟨by rw [HG.out, ← HE.out]; rfl, below_setRow HB.out (Nat.le_refl _) _⟩
      · have d0 : (c.key == key) = false := by simpa using hkey
        have HK := Lib.hid hkey
        clear hkey
        go_wp2_with fail
        go_round
        case rel => exact ⟨m, _, by omega, rfl, rfl, Lib.hid (fun j hj h => by
          by_cases e : j = m
          · subst e; rw [← HE.out]; exact HK.out
          · exact HN.out j hj (by omega))⟩
        case measure => simp [intOf]

end Go.Proofs.Ytjlddackpckmfaa
