/- Layer 10: what comes in: arrays of two and of three texts. -/
import Derived.Test.YthidmgnfdikppaaZF
import Derived.OpenShut
namespace Go.Proofs.Ythidmgnfdikppaa
set_option linter.unusedVariables false
open Go Go.RowKit

def U2s (v : Value) : Prop := ∃ a b : List UInt8, v = .agg #[.string (S a), .string (S b)]
def U3s (v : Value) : Prop := ∃ a b c : List UInt8, v = .agg #[.string (S a), .string (S b), .string (S c)]
section
variable {H : Type} {enc : TypeId × Value → H} {W : World} {r : Reach} {b0 : Nat} {v : Value} {d : DataW H} {p : List MemPlace}
set_option linter.constructorNameAsVariable false
theorem okWide_array10 {n : Nat} {e t : TypeId} (ht : Try.prog.underlying t = some (.array n e)) (h : Value.okWide Try.prog W r b0 t v) : ∃ cs, v = .agg cs ∧ cs.size = Try.prog.cellsOf t := by
  simp only [Value.okWide, ht] at h
  obtain ⟨cs, h1, h2, _⟩ := h
  exact ⟨cs, h1, h2⟩
theorem str_of10 (a : ByteArray) : Value.string a = .string (S a.data.toList) := by simp [S]
set_option maxRecDepth 100000 in
theorem open_two (hv : Value.okWide Try.prog W r b0 31 v) (h : DataW.Trod enc Try.prog W 0 (fun _ => true) true 31 v d p) : U2s v := by
  obtain ⟨cs, rfl, hsz⟩ := okWide_array10 Try.underlying31 hv
  obtain ⟨fuel, hf⟩ := h
  have k1 : Try.prog.cellsOf 9 = 1 := by kernel_rfl
  have k2 : Try.prog.cellsOf 31 = 2 := by kernel_rfl
  rw [k2] at hsz
  obtain ⟨xs, m, _, _, _, hl, hel⟩ := DataW.trod_array Try.underlying31 hf
  rw [k1] at hel
  match cs, hsz with
  | ⟨[c0, c1]⟩, _ =>
    have h0 := hel 0 (by omega)
    have h1 := hel 1 (by omega)
    rw [List.getElem?_eq_getElem (by omega)] at h0 h1
    obtain ⟨a0, e0, _, w0⟩ := DataW.trod_string Try.underlying9 h0
    obtain ⟨a1, e1, _, w1⟩ := DataW.trod_string Try.underlying9 h1
    simp [Value.cells] at e0 e1
    subst e0 e1
    exact ⟨a0.data.toList, a1.data.toList, by rw [← str_of10, ← str_of10]⟩
set_option maxRecDepth 100000 in
theorem open_three (hv : Value.okWide Try.prog W r b0 51 v) (h : DataW.Trod enc Try.prog W 0 (fun _ => true) true 51 v d p) : U3s v := by
  obtain ⟨cs, rfl, hsz⟩ := okWide_array10 Try.underlying51 hv
  obtain ⟨fuel, hf⟩ := h
  have k1 : Try.prog.cellsOf 9 = 1 := by kernel_rfl
  have k2 : Try.prog.cellsOf 51 = 3 := by kernel_rfl
  rw [k2] at hsz
  obtain ⟨xs, m, _, _, _, hl, hel⟩ := DataW.trod_array Try.underlying51 hf
  rw [k1] at hel
  match cs, hsz with
  | ⟨[c0, c1, c2]⟩, _ =>
    have h0 := hel 0 (by omega)
    have h1 := hel 1 (by omega)
    have h2 := hel 2 (by omega)
    rw [List.getElem?_eq_getElem (by omega)] at h0 h1 h2
    obtain ⟨a0, e0, _, w0⟩ := DataW.trod_string Try.underlying9 h0
    obtain ⟨a1, e1, _, w1⟩ := DataW.trod_string Try.underlying9 h1
    obtain ⟨a2, e2, _, w2⟩ := DataW.trod_string Try.underlying9 h2
    simp [Value.cells] at e0 e1 e2
    subst e0 e1 e2
    exact ⟨a0.data.toList, a1.data.toList, a2.data.toList, by rw [← str_of10, ← str_of10, ← str_of10]⟩
end

end Go.Proofs.Ythidmgnfdikppaa
