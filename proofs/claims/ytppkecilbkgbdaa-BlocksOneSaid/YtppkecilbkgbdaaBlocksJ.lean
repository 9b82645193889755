/- Layer 9: the cells of bytes, by a contract. -/
import Derived.Test.YtppkecilbkgbdaaBlocksI
import Derived.Laws.EntriesVeiled
namespace Go.Proofs.Ytppkecilbkgbdaa
set_option linter.unusedVariables false
open Go Go.RowKit
attribute [local go_sem ↓] run_index_S
attribute [local go_sem] S_append S_extract

set_option maxHeartbeats 2000000 in
set_option maxRecDepth 100000 in
theorem eachD_any (s : List UInt8) (hs : s.length ≤ 1000000) (B lb : Nat) (w : World) (hB : B ≤ lb) (hl : RowIn #[.slice none 0 0] 22 w lb) :
    Calls Try.prog 40 #[.string (S s), .func (.func 41) #[] #[.pointer (some ⟨lb, 0, none⟩)]] w fun e w' => TellR (JD B w.heap.size (w.heap.size + 2) (w.heap.size + 1) lb) B (M.decC s) w e w' := by
  have hmf : ∀ (fn : Fn) (first cap : Array Value) (w : World), (Instr.makeFunc fn first cap).run Try.prog w = .ok (.func fn first cap) w := fun _ _ _ _ => rfl
  have hlt := hl.lt
  obtain ⟨V1, hV1⟩ : ∃ v, v = Value.func (.func 41) #[] #[.pointer (some ⟨lb, 0, none⟩)] := ⟨_, rfl⟩
  obtain ⟨V2, hV2⟩ : ∃ v, v = Value.func (.func 48) #[] #[.pointer (some ⟨w.heap.size + 1, 0, none⟩)] := ⟨_, rfl⟩
  have hb := (((Below.refl w.heap.size w).alloc (Nat.le_refl _) (.cells #[V1] 65)).alloc (by rw [szA]; omega) (.cells #[.pointer none] 74)).alloc (by rw [szA, szA]; omega) (.cells #[V2] 57)
  have hx := ((rowIn_new #[V1] 65 w).more (.cells #[.pointer none] 74)).more (.cells #[V2] 57)
  have hd := (rowIn_at #[.pointer none] 74 (w.alloc (.cells #[V1] 65)) (w.heap.size + 1) (by rw [szA])).more (.cells #[V2] 57)
  have hy := rowIn_at #[V2] 57 ((w.alloc (.cells #[V1] 65)).alloc (.cells #[.pointer none] 74)) (w.heap.size + 2) (by rw [szA, szA])
  have hz : (((w.alloc (.cells #[V1] 65)).alloc (.cells #[.pointer none] 74)).alloc (.cells #[V2] 57)).heap.size = w.heap.size + 3 := by rw [szA, szA, szA]
  have HT := Lib.hid (tell9_any (JD B w.heap.size (w.heap.size + 2) (w.heap.size + 1) lb) B w.heap.size (w.heap.size + 2) s hs (fun m pre W W' h k => h.keep k) (fun m pre c W h1 h2 h3 h4 h5 => each1D_any c h1 B w.heap.size (w.heap.size + 2) (w.heap.size + 1) lb m pre h2 W h3 h4 h5)
    (((w.alloc (.cells #[V1] 65)).alloc (.cells #[.pointer none] 74)).alloc (.cells #[V2] 57)) (by rw [hz]; omega)
    ⟨⟨by omega, by rw [hz]; omega⟩, ⟨by omega, by rw [hz]; omega⟩, ⟨by omega, by rw [hz]; omega⟩, ⟨hB, by rw [hz]; omega⟩, hV1 ▸ hx, hV2 ▸ hy, hd, .slice none 0 0, hl.below hb, World.ownsRow_nil _ _ _ _, fun q hq => by simp [Value.ownBlock] at hq⟩)
  have HB := Lib.hid (hb.mono (show B ≤ w.heap.size from by omega))
  rw [hV1, hV2] at HT HB
  clear hb hx hd hy hz hl
  subst hV1 hV2
  go_enter Try.func40, Try.ntmps40
  go_wp2_with fail
  with_reducible refine (disorder_any _).mono ?_
  rintro e w1 ⟨rfl, rfl⟩
  go_wp2_with fail
  with_reducible refine (HT.out).mono ?_
  rintro e w2 h
  have HH := Lib.hid h
  clear h HT
  unfold TellR at HH
  cases hd : M.decC s with
  | none =>
    rw [hd] at HH
    simp only at HH
    obtain ⟨rfl, hb⟩ := HH.out
    have HB2 := Lib.hid (HB.out.trans hb)
    have HD := Lib.hid hd
    clear hd hb HH
    go_wp2_with fail
    go_ret
    exact HD.out ▸ ⟨rfl, HB2.out⟩
  | some L =>
    rw [hd] at HH
    simp only at HH
    obtain ⟨⟨rfl, hj⟩, hb⟩ := HH.out
    have HB2 := Lib.hid (HB.out.trans hb)
    have HJ := Lib.hid hj
    have HD := Lib.hid hd
    clear hd hb hj HH
    go_wp2_with fail
    go_ret
    exact HD.out ▸ ⟨⟨rfl, HJ.out⟩, HB2.out⟩

def DecR9 (r : Option (List M.Cl)) (w : World) (e : Ending) (w' : World) : Prop := (match r with
  | some L => ∃ ao cap, e = .returned (.tuple #[.slice ao L.length cap, .int .i64 0]) ∧ w'.ownsRow w.heap.size 32 3 (.slice ao L.length cap) L.length (cls L)
  | none => e = .returned (.tuple #[.slice none 0 0, .int .i64 30])) ∧ Below w.heap.size w w'
set_option maxHeartbeats 2000000 in
theorem decode9_any (s : List UInt8) (hs : s.length ≤ 1000000) (w : World) :
    Calls Try.prog 20 #[.string (S s)] w fun e w' => DecR9 (M.decC s) w e w' := by
  have hmf : ∀ (fn : Fn) (first cap : Array Value) (w : World), (Instr.makeFunc fn first cap).run Try.prog w = .ok (.func fn first cap) w := fun _ _ _ _ => rfl
  have HB := Lib.hid ((Below.refl w.heap.size w).alloc (Nat.le_refl _) (.cells #[.slice none 0 0] 22))
  have HE := Lib.hid (eachD_any s hs w.heap.size w.heap.size (w.alloc (.cells #[.slice none 0 0] 22)) (Nat.le_refl _) (rowIn_new _ _ _))
  go_enter Try.func20, Try.ntmps20
  go_wp2_with fail
  with_reducible refine (HE.out).mono ?_
  rintro e w2 h
  have HH := Lib.hid h
  clear h HE
  unfold TellR at HH
  cases hd : M.decC s with
  | none =>
    rw [hd] at HH
    simp only at HH
    obtain ⟨rfl, hb⟩ := HH.out
    have HB2 := Lib.hid (HB.out.trans hb)
    have HD := Lib.hid hd
    clear hd hb HH
    go_wp2_with fail
    go_ret2
    exact HD.out ▸ ⟨rfl, HB2.out⟩
  | some L =>
    rw [hd] at HH
    simp only at HH
    obtain ⟨⟨rfl, m, hm, hj⟩, hb⟩ := HH.out
    obtain ⟨v, h1, h2, -⟩ := hj.rl
    obtain ⟨ao, cap, rfl⟩ := ownP_shape h2
    have HB2 := Lib.hid (HB.out.trans hb)
    have HO := Lib.hid h2
    have HD := Lib.hid hd
    have x0 : w2.cell? ⟨w.heap.size, 0, none⟩ = some (.slice ao L.length cap) := h1.cell 0
    clear hd hb hj HH h1 h2
    go_wp2_with fail
    go_ret2
    exact HD.out ▸ ⟨⟨ao, cap, rfl, HO.out⟩, HB2.out⟩

end Go.Proofs.Ytppkecilbkgbdaa
