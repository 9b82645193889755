/- Layer 9: the closures that see cells, by contracts; frames. -/
import Derived.Test.YtppkecilbkgbdaaBlocksE
namespace Go.Proofs.Ytppkecilbkgbdaa
set_option linter.unusedVariables false
open Go Go.RowKit
attribute [local go_sem ↓] run_index_S
attribute [local go_sem] S_append S_extract

/-- Only blocks of a set may have turned; blocks may have been laid. -/
structure OnlyS (A : Nat → Prop) (w w' : World) : Prop where
  os : w'.os = w.os
  tape : w'.tape = w.tape
  output : w'.output = w.output
  size : w.heap.size ≤ w'.heap.size
  block : ∀ k, k < w.heap.size → ¬ A k → w'.heap[k]? = w.heap[k]?
theorem onlyS_below {A : Nat → Prop} {w w' : World} (h : Below w.heap.size w w') : OnlyS A w w' := ⟨h.os, h.tape, h.output, h.size, fun k hk _ => h.block k hk⟩
theorem onlyS_grown {A : Nat → Prop} {w w' : World} {row : Option Nat} (h : w.grownBy w' row) (hr : ∀ q, row = some q → A q) : OnlyS A w w' := ⟨h.os, h.tape, h.output, h.size, fun k hk hn => h.block k hk (fun e => hn (hr k e.symm))⟩
theorem OnlyS.trans {A : Nat → Prop} {a b c : World} (h : OnlyS A a b) (k : OnlyS A b c) : OnlyS A a c :=
  ⟨k.os.trans h.os, k.tape.trans h.tape, k.output.trans h.output, Nat.le_trans h.size k.size, fun i hi hn => (k.block i (Nat.lt_of_lt_of_le hi h.size) hn).trans (h.block i hi hn)⟩
theorem OnlyS.mono {A A' : Nat → Prop} {w w' : World} (h : OnlyS A w w') (hA : ∀ k, A k → A' k) : OnlyS A' w w' := ⟨h.os, h.tape, h.output, h.size, fun k hk hn => h.block k hk (fun ha => hn (hA k ha))⟩
theorem OnlyS.below {A : Nat → Prop} {w w' : World} {B : Nat} (h : OnlyS A w w') (hA : ∀ k, A k → B ≤ k) (hB : B ≤ w.heap.size) : Below B w w' :=
  ⟨h.os, h.tape, h.output, h.size, fun k hk => h.block k (by omega) (fun ha => by have := hA k ha; omega)⟩
theorem OnlyS.row {A : Nat → Prop} {w w' : World} {C : Array Value} {T : TypeId} {g : Nat} (h : OnlyS A w w') (hr : RowIn C T w g) (hn : ¬ A g) : RowIn C T w' g := by
  have hlt := hr.lt
  unfold RowIn at *
  rw [h.block g hlt hn]; exact hr
theorem OnlyS.own {A : Nat → Prop} {w w' : World} {B sz : Nat} {e : TypeId} {v : Value} {n : Nat} {xs : List Value} (h : OnlyS A w w') (hr : w.ownsRow B e sz v n xs) (hn : ∀ q, v.ownBlock = some q → ¬ A q) : w'.ownsRow B e sz v n xs := by
  have hl := hr.lt
  refine ⟨hr.1, ?_⟩
  rcases hr.2 with h0 | ⟨g, cap, cur, hv, hB, hg, rest⟩
  · exact .inl h0
  · have ho : v.ownBlock = some g := by rw [hv]; rfl
    exact .inr ⟨g, cap, cur, hv, hB, (h.block g (hl g ho).2 (hn g ho)).trans hg, rest⟩
/-- Blocks of unlike types are not the same. -/
theorem rowIn_ne {w : World} {C D : Array Value} {T U : TypeId} {b c : Nat} (h : RowIn C T w b) (k : RowIn D U w c) (hne : T ≠ U) : b ≠ c := by
  intro e
  subst e
  unfold RowIn at *
  rw [h] at k
  simp at k
  exact hne k.2
def SeeDR (B lb : Nat) (v : Value) (L : List M.Cl) (w : World) (e : Ending) (w' : World) : Prop := e = .returned (.tuple #[]) ∧ ∃ v', RowIn #[v'] 22 w' lb ∧ w'.ownsRow B 32 3 v' L.length (cls L) ∧ OnlyS (fun k => k = lb ∨ v.ownBlock = some k) w w'
set_option maxHeartbeats 2000000 in
set_option maxRecDepth 100000 in
theorem seeD_any (c : M.Cl) (B lb : Nat) (v : Value) (pre : List M.Cl) (hn : pre.length ≤ 1000000) (w : World) (h1 : RowIn #[v] 22 w lb) (h2 : w.ownsRow B 32 3 v pre.length (cls pre)) (hB : B ≤ w.heap.size) :
    Calls Try.prog 41 #[.agg (clA c), .pointer (some ⟨lb, 0, none⟩)] w fun e w' => SeeDR B lb v (pre ++ [c]) w e w' := by
  obtain ⟨j0, y0, hj, hy0, hy1, hy2, hy3⟩ := infoCl_parts
  obtain ⟨ao, cap, rfl⟩ := ownP_shape h2
  have HL := Lib.hid h1
  have HO := Lib.hid h2
  have HLT := Lib.hid (show lb < w.heap.size from h1.lt)
  have HF := Lib.hid (onlyS_below (A := fun k => k = lb ∨ (Value.slice ao pre.length cap).ownBlock = some k) (Below.refl w.heap.size w))
  clear h1 h2
  replace HL := carryA (w := w) (.cells (clA c) 32) HL
  replace HO := carryA (w := w) (.cells (clA c) 32) HO
  have HX := Lib.hid (rowIn_new (clA c) 32 w)
  have l0 : (w.alloc (.cells (clA c) 32)).cell? ⟨lb, 0, none⟩ = some (.slice ao pre.length cap) := HL.out.cell 0
  go_enter Try.func41, Try.ntmps41
  go_wp2_with (at_builtin; refine wpList_append_own _ rfl _ _ 22 rfl B 32 j0 y0 3 40 Try.underlying22 hj hy0 hy1 hy2 hy3 (by decide) (.slice ao pre.length cap) pre.length (cls pre) rfl (HO.out.alloc _) ⟨w.heap.size + 1, 0, none⟩ 1 1 (clL c) rfl rfl (fun j u hu => by rw [show w.heap.size + 1 = (w.alloc (.cells (clA c) 32)).heap.size from (szA _ _).symm]; exact cl_new _ c _ j u hu) (clL_oneC c) (by unfold maxLen; omega) (by omega) (by rw [szA, szA]; omega) ?_; intro v8 w8 ho8 hg8 hn8; obtain ⟨a8, c8, rfl⟩ := ownP_shape ho8; have HO8 := Lib.hid (show w8.ownsRow B 32 3 (.slice a8 (pre.length + 1) c8) (pre.length + 1) (cls (pre ++ [c])) from by rw [cls_append, cls_one]; exact ho8); have HG8 := Lib.hid hg8; have HL8 := Lib.hid (RowIn.grownP (HL.out.more _) hg8 (row_apart (HL.out) HO.out (by decide))); have l8 : w8.cell? ⟨lb, 0, none⟩ = some (.slice ao pre.length cap) := HL8.out.cell 0; have f8 := HL8.out.free 0; clear ho8 hg8 hn8 l0)
  go_end0
  have hr := row_apart HL8.out HO8.out (by decide)
  refine ⟨rfl, _, HL8.out.set 0 _, ?_, ?_⟩
  · rw [show (pre ++ [c]).length = pre.length + 1 from by simp]
    exact HO8.out.kept (grownBy_setCell' _ _ _) (.inr (fun e => hr lb e rfl))
  · exact ((onlyS_below (((Below.refl w.heap.size w).alloc (Nat.le_refl _) _).alloc (by rw [szA]; omega) _)).trans (onlyS_grown HG8.out (fun q hq => .inr hq))).trans (onlyS_grown (grownBy_setCell' _ _ _) (fun q hq => .inl (by cases hq; rfl)))

def DisM (m : Nat) (w : World) (d : Nat) : Option M.Cl → Prop
  | none => RowIn #[.pointer none] 74 w d
  | some q => ∃ g, g < m ∧ g ≠ d ∧ RowIn #[.pointer (some ⟨g, 0, none⟩)] 74 w d ∧ RowIn (clA q) 62 w g
theorem DisAt.toM {w : World} {d : Nat} {p : Option M.Cl} (h : DisAt w d p) : DisM w.heap.size w d p := by
  cases p with
  | none => exact h
  | some q => obtain ⟨g, h0, h1, h2⟩ := h; exact ⟨g, h2.lt, h0, h1, h2⟩
theorem DisM.at_ {m : Nat} {w : World} {d : Nat} {p : Option M.Cl} (h : DisM m w d p) : DisAt w d p := by
  cases p with
  | none => exact h
  | some q => obtain ⟨g, _, h0, h1, h2⟩ := h; exact ⟨g, h0, h1, h2⟩
theorem DisM.only {A : Nat → Prop} {m : Nat} {w w' : World} {d : Nat} {p : Option M.Cl} (h : DisM m w d p) (hf : OnlyS A w w') (hd : ¬ A d) (hg : ∀ g C, g < m → RowIn C 62 w g → ¬ A g) : DisM m w' d p := by
  cases p with
  | none => exact hf.row h hd
  | some q => obtain ⟨g, hm, h0, h1, h2⟩ := h; exact ⟨g, hm, h0, hf.row h1 hd, hf.row h2 (hg g _ hm h2)⟩
/-- What stands between two cells that are decoded: the closures' variables, and the cells so far. -/
structure JD (B x y d lb m : Nat) (pre : List M.Cl) (W : World) : Prop where
  bx : B ≤ x ∧ x < m
  bY : B ≤ y ∧ y < m
  bd : B ≤ d ∧ d < m
  bl : B ≤ lb ∧ lb < m
  rx : RowIn #[.func (.func 41) #[] #[.pointer (some ⟨lb, 0, none⟩)]] 65 W x
  rY : RowIn #[.func (.func 48) #[] #[.pointer (some ⟨d, 0, none⟩)]] 57 W y
  rd : DisM m W d (M.lastO none pre)
  rl : ∃ v, RowIn #[v] 22 W lb ∧ W.ownsRow B 32 3 v pre.length (cls pre) ∧ ∀ q, v.ownBlock = some q → q < m
theorem onlyS_from {m : Nat} {w w' : World} (h : Below m w w') : OnlyS (fun k => m ≤ k) w w' := ⟨h.os, h.tape, h.output, h.size, fun k hk hn => h.block k (by omega)⟩
theorem JD.keep {B x y d lb m : Nat} {pre : List M.Cl} {W W' : World} (h : JD B x y d lb m pre W) (hb : Below m W W') : JD B x y d lb m pre W' := by
  have hf := onlyS_from hb
  obtain ⟨v, h1, h2, h3⟩ := h.rl
  exact ⟨h.bx, h.bY, h.bd, h.bl, hf.row h.rx (by have := h.bx; omega), hf.row h.rY (by have := h.bY; omega), h.rd.only hf (by have := h.bd; omega) (fun g _ hg _ => by omega), v, hf.row h1 (by have := h.bl; omega), hf.own h2 (fun q hq => by have := h3 q hq; omega), h3⟩
def E1R (b : Bool) (J : World → Prop) (B m : Nat) (w : World) (e : Ending) (w' : World) : Prop := e = .returned (.bool (!b)) ∧ (b = true → J w') ∧ OnlyS (fun k => B ≤ k ∧ k < m) w w'
set_option maxHeartbeats 2000000 in
set_option maxRecDepth 100000 in
theorem each1D_any (c : M.Cl) (hc : ClOk c) (B x y d lb m : Nat) (pre : List M.Cl) (hn : pre.length ≤ 1000000) (w : World) (hJ : JD B x y d lb m pre w) (hB : B ≤ m) (hm : m ≤ w.heap.size) :
    Calls Try.prog 51 #[.agg (clA c), .pointer (some ⟨x, 0, none⟩), .pointer (some ⟨y, 0, none⟩)] w fun e w' => E1R (M.nextB (M.lastO none pre) c) (fun w' => JD B x y d lb w'.heap.size (pre ++ [c]) w') B m w e w' := by
  obtain ⟨⟨bx1, bx2⟩, ⟨by1, by2⟩, ⟨bd1, bd2⟩, ⟨bl1, bl2⟩, rx, rY, rd, v, rl, ro, rq⟩ := hJ
  have hb := (Below.refl w.heap.size w).alloc (Nat.le_refl _) (.cells (clA c) 32)
  have hf0 : OnlyS (fun k => B ≤ k ∧ k < m) w (w.alloc (.cells (clA c) 32)) := onlyS_below hb
  have hX := rowIn_new (clA c) 32 w
  have hsz : (w.alloc (.cells (clA c) 32)).heap.size = w.heap.size + 1 := szA _ _
  replace rx := rx.below hb
  replace rY := rY.below hb
  replace rl := rl.below hb
  replace ro := ownP_below ro hb
  replace rd : DisM m (w.alloc (.cells (clA c) 32)) d (M.lastO none pre) := rd.only (A := fun k => w.heap.size ≤ k) (onlyS_from hb) (by omega) (fun g _ hg _ => by omega)
  have CD := Lib.hid (seeD_any c B lb v pre hn (w.alloc (.cells (clA c) 32)) rl ro (by omega))
  have x0 : (w.alloc (.cells (clA c) 32)).cell? ⟨x, 0, none⟩ = some _ := rx.cell 0
  have HX := Lib.hid hX
  have HRX := Lib.hid rx
  have HRY := Lib.hid rY
  have HRD := Lib.hid rd
  have HRL := Lib.hid rl
  have HRO := Lib.hid ro
  have HF := Lib.hid hf0
  have HRQ := Lib.hid rq
  clear hb hX hsz rx rY rl ro rd hf0 rq
  go_enter Try.func51, Try.ntmps51
  go_wp2_with fail
  with_reducible refine (CD.out).mono ?_
  rintro e w2 ⟨rfl, v', hl2, ho2, hf2⟩
  have hqB := fun q (hq : v.ownBlock = some q) => (HRO.out.lt q hq).1
  have HX2 := Lib.hid (hf2.row HX.out (fun h => h.elim (fun h => by omega) (fun h => by have := HRQ.out _ h; omega)))
  have HRX2 := Lib.hid (hf2.row HRX.out (fun h => h.elim (fun h => rowIn_ne HRX.out HRL.out (by decide) h) (fun h => row_apart HRX.out HRO.out (by decide) _ h rfl)))
  have HRY2 := Lib.hid (hf2.row HRY.out (fun h => h.elim (fun h => rowIn_ne HRY.out HRL.out (by decide) h) (fun h => row_apart HRY.out HRO.out (by decide) _ h rfl)))
  have hdrow : ∃ C, RowIn C 74 (w.alloc (.cells (clA c) 32)) d := by
    have := HRD.out
    cases hp : M.lastO none pre with
    | none => rw [hp] at this; exact ⟨_, this⟩
    | some q => rw [hp] at this; obtain ⟨g, _, _, h1, _⟩ := this; exact ⟨_, h1⟩
  obtain ⟨Cd, hdrow⟩ := hdrow
  have HRD2 := Lib.hid (HRD.out.only hf2 (fun h => h.elim (fun h => rowIn_ne hdrow HRL.out (by decide) h) (fun h => row_apart hdrow HRO.out (by decide) _ h rfl)) (fun g C hg hr h => h.elim (fun h => rowIn_ne hr HRL.out (by decide) h) (fun h => row_apart hr HRO.out (by decide) _ h rfl)))
  have HF2 := Lib.hid (HF.out.trans (hf2.mono (fun k hk => hk.elim (fun h => by omega) (fun h => ⟨hqB k h, HRQ.out k h⟩))))
  have HL2 := Lib.hid hl2
  have HO2 := Lib.hid ho2
  have hs2 := hf2.size
  rw [szA] at hs2
  clear hl2 ho2 hf2 hdrow hqB CD HX HRX HRY HRD HRL HRO HF x0
  have x0 : w2.cell? ⟨y, 0, none⟩ = some _ := HRY2.out.cell 0
  have y0 : w2.cell? ⟨w.heap.size, 0, none⟩ = some (.string (S c.key)) := HX2.out.cell 0
  have y1 : w2.cell? ⟨w.heap.size, 1, none⟩ = some (.int .i64 c.seq) := HX2.out.cell 1
  have y2 : w2.cell? ⟨w.heap.size, 2, none⟩ = some (.string (S c.val)) := HX2.out.cell 2
  go_wp2_with fail
  with_reducible refine (dis1_any c hc _ d w2 HRD2.out.at_).mono ?_
  rintro e w3 ⟨rfl, h3, hg3⟩
  have hf3 : OnlyS (fun k => k = d) w2 w3 := onlyS_grown hg3 (fun q hq => by cases hq; rfl)
  have hs3 := hf3.size
  obtain ⟨Cd, hdrow⟩ : ∃ C, RowIn C 74 w2 d := by
    have := HRD2.out
    cases hp : M.lastO none pre with
    | none => rw [hp] at this; exact ⟨_, this⟩
    | some q => rw [hp] at this; obtain ⟨g, _, _, h1, _⟩ := this; exact ⟨_, h1⟩
  have HJ3 := Lib.hid (show M.nextB (M.lastO none pre) c = true → JD B x y d lb w3.heap.size (pre ++ [c]) w3 from fun hb => by
    refine ⟨⟨bx1, by omega⟩, ⟨by1, by omega⟩, ⟨bd1, by omega⟩, ⟨bl1, by omega⟩, hf3.row HRX2.out (rowIn_ne HRX2.out hdrow (by decide)), hf3.row HRY2.out (rowIn_ne HRY2.out hdrow (by decide)), ?_, v', hf3.row HL2.out (rowIn_ne HL2.out hdrow (by decide)), ?_, ?_⟩
    · rw [M.lastO_snoc]; exact (h3 hb).toM
    · exact hf3.own HO2.out (fun q hq => row_apart hdrow HO2.out (by decide) q hq)
    · intro q hq; have := (HO2.out.lt q hq).2; omega)
  have HF3 := Lib.hid (HF2.out.trans (hf3.mono (fun k hk => by subst hk; exact ⟨bd1, bd2⟩)))
  clear h3 hg3 hf3 hdrow x0 y0 y1 y2
  go_wp2_with fail
  go_ret
  exact ⟨rfl, HJ3.out, HF3.out⟩

end Go.Proofs.Ytppkecilbkgbdaa
