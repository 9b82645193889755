/- Layer 5: fall. -/
import Derived.Test.YtekmnpmeienhhaaDiskP
import Derived.Test.YtekmnpmeienhhaaDiskQm
import Derived.Laws.EntriesVeiled
namespace Go.Proofs.Ytekmnpmeienhhaa
set_option linter.unusedVariables false
open Go Go.RowKit Go.Maps

/-- Numbers that are to be read. -/
def NsA5 (w : World) (ao : Option Addr) (l : List Int) : Prop := l ≠ [] → ∃ g off, ao = some ⟨g, off, none⟩ ∧ ∀ j, j < l.length → w.cell? ⟨g, off + j, none⟩ = some (.int .i64 (l.getD j 0))
theorem cell_lt5 {w : World} {p : Addr} {v : Value} (h : w.cell? p = some v) : p.block < w.heap.size := by
  unfold World.cell? at h
  rcases Nat.lt_or_ge p.block w.heap.size with q | q
  · exact q
  · rw [Array.getElem?_eq_none q] at h; simp at h
theorem NsA5.wr {w w' : World} {ao : Option Addr} {l : List Int} {A : Nat → Prop} (h : NsA5 w ao l) (hw : Wr A w w') (hA : ∀ a, l ≠ [] → ao = some a → ¬ A a.block) : NsA5 w' ao l := fun hn => by
  obtain ⟨g, off, e, hc⟩ := h hn
  refine ⟨g, off, e, fun j hj => ?_⟩
  have h1 := hc j hj
  rw [← h1]
  exact World.cell?_of_block (a := ⟨g, off + j, none⟩) (hw.block g (cell_lt5 h1) (hA _ hn e))
theorem NsA5.below {w w' : World} {ao : Option Addr} {l : List Int} (h : NsA5 w ao l) (hb : Below w.heap.size w w') : NsA5 w' ao l := h.wr (A := fun _ => False) (wr_below hb) (fun _ _ _ q => q)
theorem nsA_row5 {w : World} {B : Nat} {ao : Option Addr} {cap : Nat} {l : List Int} (h : w.ownsRow B 3 1 (.slice ao l.length cap) l.length (l.map (Value.int .i64))) : NsA5 w ao l := fun hn => by
  have hl : 0 < l.length := List.length_pos_iff.2 hn
  obtain ⟨g, e, _, _, _⟩ := row_at5 h hl
  refine ⟨g, 0, e, fun j hj => ?_⟩
  obtain ⟨g', e', _, _, hc⟩ := row_at5 h hj
  rw [e] at e'
  injection e' with e'
  injection e' with e'
  subst e'
  rw [Nat.zero_add, hc]
  simp [List.getD, hj]
theorem row_take5 {w : World} {B : Nat} {e : TypeId} {ao : Option Addr} {n cap s : Nat} {xs : List Value} (h : w.ownsRow B e 1 (.slice ao n cap) n xs) (hs : s ≤ n) : w.ownsRow B e 1 (.slice ao s cap) s (xs.take s) := by
  have hl : xs.length = n := by simpa using h.1
  refine ⟨by rw [List.length_take, hl]; omega, ?_⟩
  rcases h.2 with ⟨e1, rfl⟩ | ⟨g, cap', cur, e1, hB, hg, hc, hm, hz, ht⟩
  · injection e1 with q1 q2 q3
    subst q1 q3
    obtain rfl : s = 0 := by omega
    exact .inl ⟨rfl, rfl⟩
  · injection e1 with q1 q2 q3
    subst q1 q3
    refine .inr ⟨g, cap, cur, rfl, hB, hg, by omega, hm, hz, ?_⟩
    rw [← ht, List.take_take]
    congr 1
    omega
theorem row_cap5 {w : World} {B : Nat} {e : TypeId} {ao : Option Addr} {n cap : Nat} {xs : List Value} (h : w.ownsRow B e 1 (.slice ao n cap) n xs) : n ≤ cap ∧ (ao = none → cap = 0) ∧ ∀ a, ao = some a → a.off = 0 ∧ a.spot = none := by
  rcases h.2 with ⟨e1, rfl⟩ | ⟨g, cap', cur, e1, hB, hg, hc, hm, hz, ht⟩
  · injection e1 with q1 q2 q3
    subst q1 q3
    exact ⟨Nat.le_refl _, fun _ => rfl, fun a ha => by cases ha⟩
  · injection e1 with q1 q2 q3
    subst q1 q3
    exact ⟨hc, (fun h => by cases h), fun a ha => by cases ha; exact ⟨rfl, rfl⟩⟩
theorem run_to5 (W : World) {ao : Option Addr} {n cap s : Nat} (i : Int) (hi : i = s) (hs : s ≤ cap) : (Instr.slice 68 (.slice ao n cap) none (some (.int .i64 i)) none).run Try.prog W = .ok (.slice ao s cap) W := by
  subst hi
  have ht : Try.prog.underlying 68 = some (.slice (Try.prog.elem 68)) := by kernel_rfl
  rw [run_slice_h (P := Try.prog) (w := W) _ ao n cap ht .i64 s (by omega) (by omega)]
  have hz : (sizeOf (Try.prog.elem 68)).run Try.prog W = .ok 1 W := by kernel_rfl
  rw [hz]
  simp only [Result.andThen, sliced, Nat.zero_mul, Nat.sub_zero, Int.toNat_natCast]
  have e : (if cap = 0 then ao else ao.map (fun x => x.add 0)) = ao := by
    split
    · rfl
    · cases ao with
      | none => rfl
      | some a => simp [Addr.add]
  rw [e]
section
variable {B d mb : Nat} {V : List UInt8 → Value} {sv : Value} {c : Cs} {D : Dk.St} {w : World} {F : Nat → Prop}
def dnD (D : Dk.St) (ks : List Int) (k : Nat) : Dk.St := { D with up := false, set := none, L := Dk.mix ks D.L k }
theorem dnD_all (D : Dk.St) (ks : List Int) : dnD D ks D.L.length = Dk.fall ks D := by unfold dnD Dk.fall; rw [Dk.mix_all]
/-- So far as the loop of 'fall' has come. -/
def FlI (B d mb : Nat) (V : List UInt8 → Value) (D : Dk.St) (ks : List Int) (ao nao : Option Addr) (nac : Nat) (w wr : World) (k : Nat) : Prop :=
  ∃ Vk, DkCo B d mb Vk .nilFunc (dnD D ks k) wr ∧ (∀ nm, (Vk nm).ownBlock = (V nm).ownBlock) ∧ Wr (fun q => q = d ∨ q = mb) w wr ∧ NsA5 wr ao ks ∧ wr.ownsRow w.heap.size 9 1 (.slice nao D.L.length nac) D.L.length (txs5 (Dk.names D.L))
theorem own_any5 (ao : Option Addr) (n c n' c' : Nat) : (Value.slice ao n c).ownBlock = (Value.slice ao n' c').ownBlock := by cases ao <;> rfl
theorem FlI.step {ks : List Int} {ao nao : Option Addr} {nac k m X sz' n : Nat} {Vk : List UInt8 → Value} {f : Dk.Fl} {fo : Option Addr} {fc : Nat} {CX : Array Value} {W4 W7 w8 : World}
    (hC : DkCo B d mb Vk .nilFunc (dnD D ks k) W4) (hfm : f ∈ (dnD D ks k).L) (hvk : Vk f.name = .slice fo f.dat.length fc) (hm1 : f.safe + m ≤ f.dat.length)
    (hput : Dk.put ⟨f.name, f.dat.take (f.safe + m), f.safe + m⟩ (Dk.mix ks D.L k) = Dk.mix ks D.L (k + 1)) (hsz : sz' = Dk.size (Dk.mix ks D.L (k + 1)))
    (hX : Bk CX 93 W4 X) (hB : Bk ((dkC (dnD D ks k) mb .nilFunc).setIfInBounds 1 (.int .i64 sz')) 43 W7 d) (hW : Wr (fun q => q = d ∨ q = X) W4 W7)
    (hmap : w8.ownsMap Try.prog 9 heldR mb n (datM (upV Vk f.name (.slice fo (f.safe + m) fc)) (Dk.put ⟨f.name, f.dat.take (f.safe + m), f.safe + m⟩ (dnD D ks k).L))) (ht : W7.mapTurned w8 mb)
    (hVo : ∀ nm, (Vk nm).ownBlock = (V nm).ownBlock) (hWr : Wr (fun q => q = d ∨ q = mb) w W4) (hXw : w.heap.size ≤ X)
    (hNs : NsA5 W4 ao ks) (hkn : ∀ a, ks ≠ [] → ao = some a → ¬ (a.block = d ∨ a.block = mb)) (hkX : ∀ a, ks ≠ [] → ao = some a → a.block < X)
    (hNr : W4.ownsRow w.heap.size 9 1 (.slice nao D.L.length nac) D.L.length (txs5 (Dk.names D.L))) : FlI B d mb V D ks ao nao nac w w8 (k + 1) := by
  have hmd := hC.ne
  have hmX := map_bk5 hC.map hX
  have hw78 : Wr (fun q => q = mb) W7 w8 := wr_turned ht rfl
  have hw : Wr (fun q => q = d ∨ q = X ∨ q = mb) W4 w8 := (hW.mono (fun x hx => .inl (hx.elim .inl (fun e => .inr (.inl e))))).step hw78 (fun x hx => .inl (.inr (.inr hx)))
  have hrne : ∀ g ∈ (dnD D ks k).L, ∀ q, (Vk g.name).ownBlock = some q → ¬ (q = d ∨ q = X ∨ q = mb) := fun g hg q hq => by
    have h1 := hC.rne hg hq
    have h2 := bk_row hX (hC.row g hg) (by decide) q hq
    rintro (e | e | e)
    · exact h1.1 e
    · exact h2 e
    · exact h1.2.1 e
  have hrow := hC.row f hfm
  rw [hvk] at hrow
  have htk := row_take5 hrow hm1
  have hbt : (bts f.dat).take (f.safe + m) = bts (f.dat.take (f.safe + m)) := by unfold bts; rw [List.map_take]
  have hlt : (f.dat.take (f.safe + m)).length = f.safe + m := by rw [List.length_take]; omega
  rw [hbt] at htk
  have hown : ∀ q, (Value.slice fo (f.safe + m) fc).ownBlock = some q → (Vk f.name).ownBlock = some q := fun q hq => by rw [hvk, own_any5 fo _ _ (f.safe + m) fc]; exact hq
  have hput' : Dk.put ⟨f.name, f.dat.take (f.safe + m), f.safe + m⟩ (dnD D ks k).L = Dk.mix ks D.L (k + 1) := hput
  have h1 : DkCo B d mb (upV Vk f.name (.slice fo (f.safe + m) fc)) .nilFunc { dnD D ks k with L := Dk.put ⟨f.name, f.dat.take (f.safe + m), f.safe + m⟩ (dnD D ks k).L } w8 := by
    refine hC.putW (f := ⟨f.name, f.dat.take (f.safe + m), f.safe + m⟩) (v := .slice fo (f.safe + m) fc) hw (fun g hg hn q hq => hrne g hg q hq) ?_ hmap ?_ (fun g hg hn q hq hq' => ?_)
    · have h2 := hB.wr hw78 (fun e => hmd e.symm)
      rw [hsz, ← hput'] at h2
      exact h2
    · show w8.ownsRow B 5 1 (.slice fo (f.safe + m) fc) (f.dat.take (f.safe + m)).length _
      rw [hlt]
      exact row_wr htk hw (fun q hq => hrne f hfm q (hown q hq))
    · exact hC.ap f hfm g hg (fun e => hn e.symm) q (hown q hq) hq'
  rw [hput'] at h1
  refine ⟨_, h1, fun nm => ?_, hWr.step hw (fun x hx => ?_), hNs.wr hw (fun a hn ha hx => ?_), row_wr hNr hw (fun q hq hx => ?_)⟩
  · by_cases e : nm = f.name
    · subst e
      rw [upV_same, ← hVo f.name, hvk]
      exact own_any5 _ _ _ _ _
    · rw [upV_other _ _ e]; exact hVo nm
  · rcases hx with e | e | e
    · exact .inl (.inl e)
    · exact .inr (by omega)
    · exact .inl (.inr e)
  · rcases hx with e | e | e
    · exact hkn a hn ha (.inl e)
    · have := hkX a hn ha; omega
    · exact hkn a hn ha (.inr e)
  · rcases hx with e | e | e
    · exact bk_row hC.box hNr (by decide) q hq e
    · exact bk_row hX hNr (by decide) q hq e
    · exact map_row5 hC.map hNr q hq e
set_option maxRecDepth 100000 in
set_option maxHeartbeats 4000000 in
theorem fall5 (h : DkCo B d mb V sv D w) (hBd : B ≤ d) (hBm : B ≤ mb) (hO : Dk.OkL D.L) (hz : Dk.size D.L ≤ D.room) (hrm : D.room ≤ 1048576) (hn : D.L.length ≤ 1024) (ks : List Int) (ao : Option Addr) (cap : Nat) (hKO : Dk.KsOk ks) (hk : NsA5 w ao ks) (hkd : ∀ a, ks ≠ [] → ao = some a → a.block ≠ d) :
    Calls Try.prog 73 #[.pointer (some ⟨d, 0, none⟩), .slice ao ks.length cap] w fun e w' =>
      e = .returned (.tuple #[]) ∧ (∃ V', DkCo B d mb V' .nilFunc (Dk.fall ks D) w' ∧ ∀ nm, (V' nm).ownBlock = (V nm).ownBlock) ∧ Wr (fun q => q = d ∨ q = mb) w w' := by
  have hkm : ∀ a, ks ≠ [] → ao = some a → a.block ≠ mb := fun a hn ha e => by
    obtain ⟨g, off, e1, hc⟩ := hk hn
    rw [ha] at e1
    injection e1 with e1
    subst e1
    have h0 := hc 0 (List.length_pos_iff.2 hn)
    obtain ⟨es, clock, hm, _⟩ := h.map
    simp only at e
    subst e
    unfold World.cell? at h0
    simp only [hm] at h0
    cases h0
  have HKN := Lib.hid (show ∀ a, ks ≠ [] → ao = some a → ¬ (a.block = d ∨ a.block = mb) from fun a h1 h2 h3 => h3.elim (hkd a h1 h2) (hkm a h1 h2))
  have HK := Lib.hid hk
  have hks := hKO.len
  have HKB := Lib.hid hKO.at_
  have HX := Lib.hid h
  have HO := Lib.hid hO
  have HNL := Lib.hid (show (Dk.names D.L).length = D.L.length from by simp [Dk.names])
  have c3 : ∀ i, w.cell? ⟨d, i, none⟩ = (dkC D mb sv)[i]? := fun i => h.box.cell i
  have x3 : w.cell? ⟨d, 3, none⟩ = some (.bool D.up) := c3 3
  have x5 : w.cell? ⟨d, 5, none⟩ = some sv := c3 5
  have f3 : ∀ j, w.frozen? ⟨d, j, none⟩ = false := fun j => h.box.free j
  have HSZ := Lib.hid (fun k (hk : k ≤ D.L.length) => Nat.le_trans (Dk.mix_le (ks := ks) hO hk) (Nat.le_trans hz hrm))
  have HB1 := Lib.hid ((h.box.set 3 (.bool false)).set 5 .nilFunc)
  have HB2 := Lib.hid hBd
  have HB3 := Lib.hid hBm
  have HRM := Lib.hid hrm
  have HZZ := Lib.hid hz
  have HNN := Lib.hid hn
  clear h hO hkm hkd hk hKO c3 hBd hBm hrm hz hn
  go_enter Try.func73, Try.ntmps73
  go_wp2_with fail
  obtain ⟨W0, hW0⟩ : ∃ x, x = (w.setCell ⟨d, 3, none⟩ (.bool false)).setCell ⟨d, 5, none⟩ .nilFunc := ⟨_, rfl⟩
  rw [← hW0] at HB1 ⊢
  have hw0 : Wr (fun q => q = d) w W0 := by rw [hW0]; exact (wr_set (A := fun q => q = d) _ _ _ rfl).trans (wr_set _ _ _ rfl)
  clear hW0 x3 x5 f3
  have hc0 : DkCo B d mb V .nilFunc (dnD D ks 0) W0 := HX.out.boxed hw0 (by unfold dnD; exact Dk.mix_zero _ _) (by
    have h1 := HB1.out
    unfold dkC dnD
    rw [Dk.mix_zero]
    exact h1)
  have hdk : DkAt B (fun b => B ≤ b ∧ b < W0.heap.size) d (dnD D ks 0) W0 := by
    refine ⟨⟨Dk.mix_ok HO.out 0, by unfold dnD; rw [Dk.mix_len]; exact HNN.out, by unfold dnD; rw [Dk.mix_zero]; exact HZZ.out, HRM.out, (fun p hp => by cases hp), (fun _ => rfl), (fun p hp => by cases hp)⟩, mb, V, .nilFunc, ⟨0, 0, 0, none, 0⟩, hc0.in rfl, ?_, fun b hb => hb⟩
    rintro b (rfl | rfl | ⟨f, hf, hq⟩ | ⟨hn, _⟩)
    · exact ⟨HB2.out, hc0.box.lt⟩
    · exact ⟨HB3.out, hc0.map.lt⟩
    · have := hc0.rne hf hq
      exact ⟨this.2.2.1, this.2.2.2⟩
    · exact absurd rfl hn
  have CN := Lib.hid (names5 hdk)
  have HE0 := Lib.hid (show Dk.names (dnD D ks 0).L = Dk.names D.L from by unfold dnD; exact Dk.mix_names _ _ _)
  rw [HE0.out] at CN
  have HC0 := Lib.hid hc0
  have HW0 := Lib.hid (hw0.mono (A' := fun q => q = d ∨ q = mb) (fun x hx => .inl (.inl hx)))
  have HK0 := Lib.hid (HK.out.wr HW0.out HKN.out)
  clear hc0 hdk hw0 HB1 HE0
  with_reducible refine CN.out.mono ?_
  rintro e W1 ⟨nao, nac, rfl, hrn, hbn⟩
  have HI0 := Lib.hid (show FlI B d mb V D ks ao nao nac w W1 0 from ⟨V, HC0.out.below hbn, fun _ => rfl, HW0.out.trans (wr_below hbn), HK0.out.below hbn, by
    have h1 := row_base5 hrn HW0.out.size
    rw [HNL.out] at h1
    exact h1⟩)
  clear CN HC0 HW0 HK0 hrn hbn
  rw [HNL.out]
  go_wp2_with fail
  go_loopw [17] (fun i wr => ∃ k : Nat, k ≤ D.L.length ∧ i = .int .i64 k ∧ Hid (FlI B d mb V D ks ao nao nac w wr k)) (fun i _ => D.L.length - (intOf i).toNat)
  case atStart => exact ⟨0, Nat.zero_le _, rfl, HI0⟩
  case round =>
    rename_i wr
    obtain ⟨k, hk, rfl, HH⟩ := hrel
    have HFk := HNN.out
    by_cases hlt : k < D.L.length
    · have d1 : decide (k < D.L.length) = true := by simpa using hlt
      obtain ⟨Vk, hC, hVo, hWr, hNs, hNr⟩ := HH.out
      have hg := Dk.mix_get (ks := ks) HO.out hlt
      have hms := Dk.mix_size (ks := ks) HO.out hlt
      have hmp := Lib.hid (Dk.mix_put (ks := ks) HO.out hlt)
      have hzk := HSZ.out k hk
      have hm := List.getElem_mem hlt
      have hsf := HO.out.safe _ hm
      have hn16 := (Dk.at5 HO.out hlt).2.2
      have hvr := hC.vrow (D.L[k]).name
      have hvo : vOf Vk (D.L[k]).name (dnD D ks k).L = Vk (D.L[k]).name := if_pos hg.2
      have hgg : Dk.get (D.L[k]).name (dnD D ks k).L = D.L[k] := hg.1
      have hgg0 := hgg
      rw [hvo, hgg] at hvr
      obtain ⟨fo, fc, hv⟩ := row_shape5 hvr
      rw [hv] at hvr
      have hcap := (row_cap5 hvr).1
      have HV := Lib.hid (hvo.trans hv)
      have HVK := Lib.hid hv
      have HGG := Lib.hid hgg
      have HVR := Lib.hid hvr
      obtain ⟨g, rfl, _, _, hcg⟩ := row_at5 hNr hlt
      have hnk : (txs5 (Dk.names D.L))[k]? = some (.string (S (D.L[k]).name)) := by simp [txs5, Dk.names, hlt]
      rw [hnk] at hcg
      have c2 : wr.cell? ⟨d, 2, none⟩ = some (.map (some mb)) := hC.box.cell 2
      have HM := Lib.hid hC.map
      have HNM := Lib.hid (show (D.L[k]).name.length ≤ 140737488351232 from by omega)
      have HMEM := Lib.hid (show D.L[k] ∈ (dnD D ks k).L from by have h1 := (Dk.get_mem (L := (dnD D ks k).L) hg.2).1; rw [hgg0] at h1; exact h1)
      have HKX := Lib.hid (show ∀ a, ks ≠ [] → ao = some a → a.block < wr.heap.size from fun a hn ha => by
        obtain ⟨g1, o1, e1, h1⟩ := hNs hn
        rw [ha] at e1
        injection e1 with e1
        subst e1
        exact cell_lt5 (h1 0 (List.length_pos_iff.2 hn)))
      have HLEN := Lib.hid (show (dnD D ks k).L.length ≤ 100000 from by unfold dnD; simp only; rw [Dk.mix_len]; omega)
      have HC := Lib.hid hC
      have HVO := Lib.hid hVo
      have HWR := Lib.hid hWr
      have HNS := Lib.hid hNs
      have HNR := Lib.hid hNr
      have hzf : (D.L[k]).dat.length ≤ 1048576 := Nat.le_trans (Dk.mem_size HO.out hm) (Nat.le_trans HZZ.out HRM.out)
      have hzg : (D.L[k]).dat.length ≤ Dk.size (Dk.mix ks D.L k) := by
        have h1 := Dk.get_size (Dk.mix_ok (ks := ks) HO.out k) (D.L[k]).name
        rw [hg.1] at h1
        exact h1
      have hkr : k < ks.length → -9223372036854775808 ≤ ks.getD k 0 ∧ ks.getD k 0 ≤ 9223372036854775807 := fun h => HKB.out _ (by
        have : ks.getD k 0 = ks[k] := by simp [List.getD, h]
        rw [this]; exact List.getElem_mem h)
      have hk0 : ¬ k < ks.length → ks.getD k 0 = 0 := fun h => by simp [List.getD, h]
      have HKC := Lib.hid (fun (W : World) (hN : NsA5 W ao ks) (h : k < ks.length) => hN (fun e => by rw [e] at h; simp at h))
      clear hC hVo hWr hNs hNr hg hvr hvo hgg hgg0 hv hnk hm
      have hld : (Dk.left (D.L[k]) (ks.getD k 0)).dat.length = (D.L[k]).safe + min (ks.getD k 0).toNat ((D.L[k]).dat.length - (D.L[k]).safe) := by
        rw [Dk.left_dat _ _ hsf]; rfl
      have HLF := Lib.hid (show Dk.left (D.L[k]) (ks.getD k 0) = ⟨(D.L[k]).name, (D.L[k]).dat.take ((D.L[k]).safe + min (ks.getD k 0).toNat ((D.L[k]).dat.length - (D.L[k]).safe)), (D.L[k]).safe + min (ks.getD k 0).toNat ((D.L[k]).dat.length - (D.L[k]).safe)⟩ from rfl)
      rw [hld] at hms
      generalize D.L[k] = f at *
      generalize hkv : ks.getD k 0 = kv at *
      have HKV := Lib.hid hkv
      obtain ⟨m, hm⟩ : ∃ m, m = min kv.toNat (f.dat.length - f.safe) := ⟨_, rfl⟩
      rw [← hm] at hms HLF
      have hm1 : f.safe + m ≤ f.dat.length := by omega
      clear hkv hld
      obtain ⟨sz, hsz⟩ : ∃ sz, sz = Dk.size (Dk.mix ks D.L k) := ⟨_, rfl⟩
      have HSZK := Lib.hid hsz
      rw [← hsz] at hms hzk hzg
      obtain ⟨sz', hsz'⟩ : ∃ sz', sz' = Dk.size (Dk.mix ks D.L (k + 1)) := ⟨_, rfl⟩
      have HSZK' := Lib.hid hsz'
      rw [← hsz'] at hms
      clear hsz hsz'
      by_cases hkk : k < ks.length
      · have d2 : decide (k < ks.length) = true := by simpa using hkk
        have hmin : min (max kv 0) ((f.dat.length : Int) - (f.safe : Int)) = (m : Int) := by have := hkr hkk; omega
        have HMIN := Lib.hid hmin
        have hkr1 := hkr hkk
        have HKK := Lib.hid hkk
        have hki : (k : Int) < (ks.length : Int) := by omega
        clear hkr hk0 hm hkk hmin
        go_wp2_with (at_lookup; refine wpList_look5 _ rfl _ _ rfl rfl rfl HM.out HNM.out _ HV.out ?_; rw [HGG.out])
        have HXB := Lib.hid (bk_new #[.slice fo f.dat.length fc, .int .i64 f.safe] 93 wr)
        have HC2 := Lib.hid (HC.out.below ((Below.refl _ _).alloc (Nat.le_refl _) (.cells #[.slice fo f.dat.length fc, .int .i64 f.safe] 93)))
        have HN2 := Lib.hid (HNS.out.below ((Below.refl _ _).alloc (Nat.le_refl _) (.cells #[.slice fo f.dat.length fc, .int .i64 f.safe] 93)))
        have HR2 := Lib.hid (row_below5 HNR.out ((Below.refl _ _).alloc (Nat.le_refl _) (.cells #[.slice fo f.dat.length fc, .int .i64 f.safe] 93)))
        have HW2 := Lib.hid (HWR.out.trans (wr_alloc wr (.cells #[.slice fo f.dat.length fc, .int .i64 f.safe] 93)))
        have HV2 := Lib.hid (row_below5 HVR.out ((Below.refl _ _).alloc (Nat.le_refl _) (.cells #[.slice fo f.dat.length fc, .int .i64 f.safe] 93)))
        have HXL := Lib.hid (show w.heap.size ≤ wr.heap.size from HWR.out.size)
        generalize (wr.alloc (.cells #[.slice fo f.dat.length fc, .int .i64 f.safe] 93)) = W2 at *
        generalize wr.heap.size = X at *
        clear c2 hcg HC HNS HNR HWR HVR HM HH
        have e1 : IntKind.i64.wrap ((f.dat.length : Int) - (f.safe : Int)) = (f.dat.length : Int) - (f.safe : Int) := IntWalk.i64_in _ (by omega)
        obtain ⟨ga, oa, rfl, hka⟩ := HKC.out W2 HN2.out HKK.out
        have hka1 := hka k HKK.out
        rw [HKV.out] at hka1
        have HKA := Lib.hid hka1
        clear hka hka1
        refine wp_region_held_drew (S := fun V => V.cell? ⟨ga, oa + k, none⟩ = some (.int .i64 kv) ∧ V.cell? ⟨X, 0, none⟩ = some (.slice fo f.dat.length fc) ∧ V.cell? ⟨X, 1, none⟩ = some (.int .i64 f.safe)) (by kernel_rfl) ?_ (fun hHeld => ?_)
        · exact ⟨HKA.out, HXB.out.cell 0, HXB.out.cell 1⟩
        replace HXB := Lib.hid (show _ from HXB.out.drew)
        replace HC2 := Lib.hid (show _ from HC2.out.drew)
        replace HW2 := Lib.hid (show _ from HW2.out.drew)
        obtain ⟨W3, hW3⟩ : ∃ x, x = World.drew W2 := ⟨_, rfl⟩
        replace HN2 := Lib.hid (show NsA5 (World.drew W2) _ ks from HN2.out)
        replace HR2 := Lib.hid (row_below5 HR2.out ((Below.refl _ W2).drew))
        replace HV2 := Lib.hid (row_below5 HV2.out ((Below.refl _ W2).drew))
        rw [← hW3] at HXB HC2 HN2 HR2 HW2 HV2 hHeld ⊢
        clear hW3
        refine wpAnyH_take (i := 0) (oi := { dst := some 32, op := Op.move (Operand.tmp 1), type := 32, pos := "disk.go:203", after := #[], guard := none }) (v := ?_) rfl (by kernel_rfl) (by kernel_rfl) (by kernel_rfl) (fun _ _ _ h => h) (Or.inl ⟨by rfl, ?_⟩) (by assumption) ?_
        rotate_left
        · (intro w hSw; (try dsimp only at hSw); go_simp); (first | done | with_reducible rfl)
        try simp only [Act.put, List.setIfInBounds_toArray, List.set_cons_zero, List.set_cons_succ]
        refine wpAnyH_take (i := 1) (oi := { dst := some 33, op := Op.move (Operand.tmp 4), type := 3, pos := "disk.go:203", after := #[], guard := none }) (v := ?_) rfl (by kernel_rfl) (by kernel_rfl) (by kernel_rfl) (fun _ _ _ h => h) (Or.inl ⟨by rfl, ?_⟩) (by assumption) ?_
        rotate_left
        · (intro w hSw; (try dsimp only at hSw); go_simp); (first | done | with_reducible rfl)
        try simp only [Act.put, List.setIfInBounds_toArray, List.set_cons_zero, List.set_cons_succ]
        refine wpAnyH_take (i := 2) (oi := { dst := some 34, op := Op.indexAddr 32 (Operand.tmp 32) (Operand.tmp 33), type := 0, pos := "disk.go:203", after := #[{ on := 0, ground := Ground.data }, { on := 1, ground := Ground.data }], guard := none }) (v := ?_) rfl (by kernel_rfl) (by kernel_rfl) (by kernel_rfl) (fun _ _ _ h => h) (Or.inl ⟨by rfl, ?_⟩) (by assumption) ?_
        rotate_left
        · (intro w hSw; (try dsimp only at hSw); go_simp); (first | done | with_reducible rfl)
        try simp only [Act.put, List.setIfInBounds_toArray, List.set_cons_zero, List.set_cons_succ]
        refine wpAnyH_take (i := 3) (oi := { dst := some 35, op := Op.load 3 (Operand.tmp 34), type := 3, pos := "disk.go:203", after := #[{ on := 2, ground := Ground.data }], guard := none }) (v := ?_) rfl (by kernel_rfl) (by kernel_rfl) (by kernel_rfl) (fun _ _ _ h => h) (Or.inl ⟨by rfl, ?_⟩) (by assumption) ?_
        rotate_left
        · (intro w hSw; (try dsimp only at hSw); go_simp); (first | done | with_reducible rfl)
        try simp only [Act.put, List.setIfInBounds_toArray, List.set_cons_zero, List.set_cons_succ]
        refine wpAnyH_take (i := 4) (oi := { dst := some 36, op := Op.call { callee := Callee.builtin Builtin.max, args := #[Operand.tmp 35, Operand.const (Value.int IntKind.i64 0)], argTypes := #[3, 3] }, type := 3, pos := "disk.go:203", after := #[{ on := 3, ground := Ground.data }], guard := none }) (v := ?_) rfl (by kernel_rfl) (by kernel_rfl) (by kernel_rfl) (fun _ _ _ h => h) (Or.inl ⟨by rfl, ?_⟩) (by assumption) ?_
        rotate_left
        · (intro w hSw; (try dsimp only at hSw); go_simp); (first | done | with_reducible rfl)
        try simp only [Act.put, List.setIfInBounds_toArray, List.set_cons_zero, List.set_cons_succ]
        refine wpAnyH_take (i := 5) (oi := { dst := some 37, op := Op.fieldAddr 93 (Operand.tmp 6) 0, type := 0, pos := "disk.go:203", after := #[], guard := none }) (v := ?_) rfl (by kernel_rfl) (by kernel_rfl) (by kernel_rfl) (fun _ _ _ h => h) (Or.inl ⟨by rfl, ?_⟩) (by assumption) ?_
        rotate_left
        · (intro w hSw; (try dsimp only at hSw); go_simp); (first | done | with_reducible rfl)
        try simp only [Act.put, List.setIfInBounds_toArray, List.set_cons_zero, List.set_cons_succ]
        refine wpAnyH_take (i := 6) (oi := { dst := some 38, op := Op.load 68 (Operand.tmp 37), type := 68, pos := "disk.go:203", after := #[{ on := 5, ground := Ground.data }], guard := none }) (v := ?_) rfl (by kernel_rfl) (by kernel_rfl) (by kernel_rfl) (fun _ _ _ h => h) (Or.inl ⟨by rfl, ?_⟩) (by assumption) ?_
        rotate_left
        · (intro w hSw; (try dsimp only at hSw); go_simp); (first | done | with_reducible rfl)
        try simp only [Act.put, List.setIfInBounds_toArray, List.set_cons_zero, List.set_cons_succ]
        refine wpAnyH_take (i := 7) (oi := { dst := some 39, op := Op.call { callee := Callee.builtin Builtin.len, args := #[Operand.tmp 38], argTypes := #[68] }, type := 3, pos := "disk.go:203", after := #[{ on := 6, ground := Ground.data }], guard := none }) (v := ?_) rfl (by kernel_rfl) (by kernel_rfl) (by kernel_rfl) (fun _ _ _ h => h) (Or.inl ⟨by rfl, ?_⟩) (by assumption) ?_
        rotate_left
        · (intro w hSw; (try dsimp only at hSw); go_simp); (first | done | with_reducible rfl)
        try simp only [Act.put, List.setIfInBounds_toArray, List.set_cons_zero, List.set_cons_succ]
        refine wpAnyH_take (i := 8) (oi := { dst := some 40, op := Op.fieldAddr 93 (Operand.tmp 6) 1, type := 0, pos := "disk.go:203", after := #[], guard := none }) (v := ?_) rfl (by kernel_rfl) (by kernel_rfl) (by kernel_rfl) (fun _ _ _ h => h) (Or.inl ⟨by rfl, ?_⟩) (by assumption) ?_
        rotate_left
        · (intro w hSw; (try dsimp only at hSw); go_simp); (first | done | with_reducible rfl)
        try simp only [Act.put, List.setIfInBounds_toArray, List.set_cons_zero, List.set_cons_succ]
        refine wpAnyH_take (i := 9) (oi := { dst := some 41, op := Op.load 3 (Operand.tmp 40), type := 3, pos := "disk.go:203", after := #[{ on := 8, ground := Ground.data }], guard := none }) (v := ?_) rfl (by kernel_rfl) (by kernel_rfl) (by kernel_rfl) (fun _ _ _ h => h) (Or.inl ⟨by rfl, ?_⟩) (by assumption) ?_
        rotate_left
        · (intro w hSw; (try dsimp only at hSw); go_simp); (first | done | with_reducible rfl)
        try simp only [Act.put, List.setIfInBounds_toArray, List.set_cons_zero, List.set_cons_succ]
        refine wpAnyH_take (i := 10) (oi := { dst := some 42, op := Op.binOp BinOp.sub 3 (Operand.tmp 39) (Operand.tmp 41) 3, type := 3, pos := "disk.go:203", after := #[{ on := 7, ground := Ground.data }, { on := 9, ground := Ground.data }], guard := none }) (v := ?_) rfl (by kernel_rfl) (by kernel_rfl) (by kernel_rfl) (fun _ _ _ h => h) (Or.inl ⟨by rfl, ?_⟩) (by assumption) ?_
        rotate_left
        · (intro w hSw; (try dsimp only at hSw); go_simp); (first | done | with_reducible rfl)
        try simp only [Act.put, List.setIfInBounds_toArray, List.set_cons_zero, List.set_cons_succ]
        refine wpAnyH_take (i := 11) (oi := { dst := some 43, op := Op.call { callee := Callee.builtin Builtin.min, args := #[Operand.tmp 36, Operand.tmp 42], argTypes := #[3, 3] }, type := 3, pos := "disk.go:203", after := #[{ on := 4, ground := Ground.data }, { on := 10, ground := Ground.data }], guard := none }) (v := ?_) rfl (by kernel_rfl) (by kernel_rfl) (by kernel_rfl) (fun _ _ _ h => h) (Or.inl ⟨by rfl, ?_⟩) (by assumption) ?_
        rotate_left
        · (intro w hSw; (try dsimp only at hSw); go_simp); (first | done | with_reducible rfl)
        try simp only [Act.put, List.setIfInBounds_toArray, List.set_cons_zero, List.set_cons_succ]
        refine wpAnyH_take (i := 12) (oi := { dst := some 7, op := Op.assign (Operand.tmp 43), type := 3, pos := "disk.go:203", after := #[{ on := 11, ground := Ground.data }, { on := 0, ground := Ground.phase }, { on := 1, ground := Ground.phase }, { on := 2, ground := Ground.phase }, { on := 3, ground := Ground.phase }, { on := 4, ground := Ground.phase }, { on := 5, ground := Ground.phase }, { on := 6, ground := Ground.phase }, { on := 7, ground := Ground.phase }, { on := 8, ground := Ground.phase }, { on := 9, ground := Ground.phase }, { on := 10, ground := Ground.phase }, { on := 11, ground := Ground.phase }], guard := none }) (v := ?_) rfl (by kernel_rfl) (by kernel_rfl) (by kernel_rfl) (fun _ _ _ h => h) (Or.inl ⟨by rfl, ?_⟩) (by assumption) ?_
        rotate_left
        · (intro w hSw; (try dsimp only at hSw); go_simp); (first | done | with_reducible rfl)
        refine wpAnyH_done (by kernel_rfl) ?_ _
        clear hHeld HKA
        rw [HMIN.out]
        go_wp2_with fail
        have e2 : IntKind.i64.wrap ((f.dat.length : Int) - (f.safe : Int) - (m : Int)) = (f.dat.length : Int) - (f.safe : Int) - (m : Int) := IntWalk.i64_in _ (by omega)
        have e3 : IntKind.i64.wrap ((sz : Int) - ((f.dat.length : Int) - (f.safe : Int) - (m : Int))) = (sz : Int) - ((f.dat.length : Int) - (f.safe : Int) - (m : Int)) := IntWalk.i64_in _ (by omega)
        have HSE := Lib.hid (show (sz : Int) - ((f.dat.length : Int) - (f.safe : Int) - (m : Int)) = (sz' : Int) from by omega)
        have HSB := Lib.hid (show W3.cell? ⟨d, 1, none⟩ = some (.int .i64 sz) from by rw [HC2.out.box.cell 1, HSZK.out]; rfl)
        refine wp_region_Z (S := fun V => V.cell? ⟨d, 1, none⟩ = some (.int .i64 sz) ∧ V.cell? ⟨X, 0, none⟩ = some (.slice fo f.dat.length fc) ∧ V.cell? ⟨X, 1, none⟩ = some (.int .i64 f.safe)) 15 (by kernel_rfl) ?_ (fun hHeld => ?_)
        · exact ⟨HSB.out, HXB.out.cell 0, HXB.out.cell 1⟩
        replace HXB := Lib.hid (show _ from HXB.out.drew)
        replace HC2 := Lib.hid (show _ from HC2.out.drew)
        replace HW2 := Lib.hid (show _ from HW2.out.drew)
        obtain ⟨W4, hW4⟩ : ∃ x, x = World.drew W3 := ⟨_, rfl⟩
        replace HN2 := Lib.hid (show NsA5 (World.drew W3) _ ks from HN2.out)
        replace HR2 := Lib.hid (row_below5 HR2.out ((Below.refl _ W3).drew))
        replace HV2 := Lib.hid (row_below5 HV2.out ((Below.refl _ W3).drew))
        replace HSB := Lib.hid (show (World.drew W3).cell? ⟨d, 1, none⟩ = some (.int .i64 sz) from HSB.out)
        rw [← hW4] at HXB HC2 HN2 HR2 HW2 HV2 HSB hHeld ⊢
        clear hW4
        refine wpAnyZ_takeY (i := 0) (oi := { dst := some 44, op := Op.move (Operand.tmp 0), type := 24, pos := "disk.go:205", after := #[], guard := none }) (v := ?_) rfl (by kernel_rfl) (by kernel_rfl) (by kernel_rfl) (by rfl) (fun _ _ _ h => h) (Or.inl ⟨by rfl, ?_⟩) (by assumption) ?_
        rotate_left
        · (intro w; go_simp); (first | done | with_reducible rfl)
        try simp only [Act.put, List.setIfInBounds_toArray, List.set_cons_zero, List.set_cons_succ]
        refine wpAnyZ_takeY (i := 1) (oi := { dst := some 45, op := Op.nilCheck (Operand.tmp 44), type := 0, pos := "disk.go:205", after := #[{ on := 0, ground := Ground.data }], guard := none }) (v := ?_) rfl (by kernel_rfl) (by kernel_rfl) (by kernel_rfl) (by rfl) (fun _ _ _ h => h) (Or.inl ⟨by rfl, ?_⟩) (by assumption) ?_
        rotate_left
        · (intro w; go_simp); (first | done | with_reducible rfl)
        try simp only [Act.put, List.setIfInBounds_toArray, List.set_cons_zero, List.set_cons_succ]
        refine wpAnyZ_takeY (i := 2) (oi := { dst := some 46, op := Op.fieldAddr 43 (Operand.tmp 45) 1, type := 0, pos := "disk.go:205", after := #[{ on := 1, ground := Ground.data }], guard := none }) (v := ?_) rfl (by kernel_rfl) (by kernel_rfl) (by kernel_rfl) (by rfl) (fun _ _ _ h => h) (Or.inl ⟨by rfl, ?_⟩) (by assumption) ?_
        rotate_left
        · (intro w; go_simp); (first | done | with_reducible rfl)
        try simp only [Act.put, List.setIfInBounds_toArray, List.set_cons_zero, List.set_cons_succ]
        refine wpAnyZ_take (i := 3) (oi := { dst := some 47, op := Op.load 3 (Operand.tmp 46), type := 3, pos := "disk.go:205", after := #[{ on := 2, ground := Ground.data }], guard := none }) (v := ?_) [12, 13, 14, 15] rfl (by kernel_rfl) (by kernel_rfl) (by kernel_rfl) (by kernel_rfl) (fun _ _ _ h => h) (Or.inl ⟨by rfl, ?_⟩) (by assumption) ?_
        rotate_left
        · (intro w hSw; (try dsimp only at hSw); go_simp); (first | done | with_reducible rfl)
        try simp only [Act.put, List.setIfInBounds_toArray, List.set_cons_zero, List.set_cons_succ]
        refine wpAnyZ_takeY (i := 4) (oi := { dst := some 48, op := Op.fieldAddr 93 (Operand.tmp 6) 0, type := 0, pos := "disk.go:205", after := #[], guard := none }) (v := ?_) rfl (by kernel_rfl) (by kernel_rfl) (by kernel_rfl) (by rfl) (fun _ _ _ h => h) (Or.inl ⟨by rfl, ?_⟩) (by assumption) ?_
        rotate_left
        · (intro w; go_simp); (first | done | with_reducible rfl)
        try simp only [Act.put, List.setIfInBounds_toArray, List.set_cons_zero, List.set_cons_succ]
        refine wpAnyZ_take (i := 5) (oi := { dst := some 49, op := Op.load 68 (Operand.tmp 48), type := 68, pos := "disk.go:205", after := #[{ on := 4, ground := Ground.data }], guard := none }) (v := ?_) [6, 9, 11, 12, 13, 14, 15] rfl (by kernel_rfl) (by kernel_rfl) (by kernel_rfl) (by kernel_rfl) (fun _ _ _ h => h) (Or.inl ⟨by rfl, ?_⟩) (by assumption) ?_
        rotate_left
        · (intro w hSw; (try dsimp only at hSw); go_simp); (first | done | with_reducible rfl)
        try simp only [Act.put, List.setIfInBounds_toArray, List.set_cons_zero, List.set_cons_succ]
        refine wpAnyZ_takeY (i := 6) (oi := { dst := some 50, op := Op.call { callee := Callee.builtin Builtin.len, args := #[Operand.tmp 49], argTypes := #[68] }, type := 3, pos := "disk.go:205", after := #[{ on := 5, ground := Ground.data }], guard := none }) (v := ?_) rfl (by kernel_rfl) (by kernel_rfl) (by kernel_rfl) (by rfl) (fun _ _ _ h => h) (Or.inl ⟨by rfl, ?_⟩) (by assumption) ?_
        rotate_left
        · (intro w; go_simp); (first | done | with_reducible rfl)
        try simp only [Act.put, List.setIfInBounds_toArray, List.set_cons_zero, List.set_cons_succ]
        refine wpAnyZ_takeY (i := 7) (oi := { dst := some 51, op := Op.fieldAddr 93 (Operand.tmp 6) 1, type := 0, pos := "disk.go:205", after := #[], guard := none }) (v := ?_) rfl (by kernel_rfl) (by kernel_rfl) (by kernel_rfl) (by rfl) (fun _ _ _ h => h) (Or.inl ⟨by rfl, ?_⟩) (by assumption) ?_
        rotate_left
        · (intro w; go_simp); (first | done | with_reducible rfl)
        try simp only [Act.put, List.setIfInBounds_toArray, List.set_cons_zero, List.set_cons_succ]
        refine wpAnyZ_take (i := 8) (oi := { dst := some 52, op := Op.load 3 (Operand.tmp 51), type := 3, pos := "disk.go:205", after := #[{ on := 7, ground := Ground.data }], guard := none }) (v := ?_) [9, 11, 12, 13, 14, 15] rfl (by kernel_rfl) (by kernel_rfl) (by kernel_rfl) (by kernel_rfl) (fun _ _ _ h => h) (Or.inl ⟨by rfl, ?_⟩) (by assumption) ?_
        rotate_left
        · (intro w hSw; (try dsimp only at hSw); go_simp); (first | done | with_reducible rfl)
        try simp only [Act.put, List.setIfInBounds_toArray, List.set_cons_zero, List.set_cons_succ]
        refine wpAnyZ_takeY (i := 9) (oi := { dst := some 53, op := Op.binOp BinOp.sub 3 (Operand.tmp 50) (Operand.tmp 52) 3, type := 3, pos := "disk.go:205", after := #[{ on := 6, ground := Ground.data }, { on := 8, ground := Ground.data }], guard := none }) (v := ?_) rfl (by kernel_rfl) (by kernel_rfl) (by kernel_rfl) (by rfl) (fun _ _ _ h => h) (Or.inl ⟨by rfl, ?_⟩) (by assumption) ?_
        rotate_left
        · (intro w; go_simp); (first | done | with_reducible rfl)
        try simp only [Act.put, List.setIfInBounds_toArray, List.set_cons_zero, List.set_cons_succ]
        refine wpAnyZ_takeY (i := 10) (oi := { dst := some 54, op := Op.move (Operand.tmp 7), type := 3, pos := "disk.go:205", after := #[], guard := none }) (v := ?_) rfl (by kernel_rfl) (by kernel_rfl) (by kernel_rfl) (by rfl) (fun _ _ _ h => h) (Or.inl ⟨by rfl, ?_⟩) (by assumption) ?_
        rotate_left
        · (intro w; go_simp); (first | done | with_reducible rfl)
        try simp only [Act.put, List.setIfInBounds_toArray, List.set_cons_zero, List.set_cons_succ]
        refine wpAnyZ_takeY (i := 11) (oi := { dst := some 55, op := Op.binOp BinOp.sub 3 (Operand.tmp 53) (Operand.tmp 54) 3, type := 3, pos := "disk.go:205", after := #[{ on := 9, ground := Ground.data }, { on := 10, ground := Ground.data }], guard := none }) (v := ?_) rfl (by kernel_rfl) (by kernel_rfl) (by kernel_rfl) (by rfl) (fun _ _ _ h => h) (Or.inl ⟨by rfl, ?_⟩) (by assumption) ?_
        rotate_left
        · (intro w; go_simp); (first | done | with_reducible rfl)
        try simp only [Act.put, List.setIfInBounds_toArray, List.set_cons_zero, List.set_cons_succ]
        refine wpAnyZ_takeY (i := 12) (oi := { dst := some 56, op := Op.binOp BinOp.sub 3 (Operand.tmp 47) (Operand.tmp 55) 3, type := 3, pos := "disk.go:205", after := #[{ on := 3, ground := Ground.data }, { on := 11, ground := Ground.data }], guard := none }) (v := ?_) rfl (by kernel_rfl) (by kernel_rfl) (by kernel_rfl) (by rfl) (fun _ _ _ h => h) (Or.inl ⟨by rfl, ?_⟩) (by assumption) ?_
        rotate_left
        · (intro w; go_simp); (first | done | with_reducible rfl)
        try simp only [Act.put, List.setIfInBounds_toArray, List.set_cons_zero, List.set_cons_succ]
        refine wpAnyZ_takeY (i := 13) (oi := { dst := some 57, op := Op.nilCheck (Operand.tmp 44), type := 0, pos := "disk.go:205", after := #[{ on := 0, ground := Ground.data }, { on := 0, ground := Ground.phase }, { on := 1, ground := Ground.phase }, { on := 2, ground := Ground.phase }, { on := 3, ground := Ground.phase }, { on := 4, ground := Ground.phase }, { on := 5, ground := Ground.phase }, { on := 6, ground := Ground.phase }, { on := 7, ground := Ground.phase }, { on := 8, ground := Ground.phase }, { on := 9, ground := Ground.phase }, { on := 10, ground := Ground.phase }, { on := 11, ground := Ground.phase }, { on := 12, ground := Ground.phase }], guard := none }) (v := ?_) rfl (by kernel_rfl) (by kernel_rfl) (by kernel_rfl) (by rfl) (fun _ _ _ h => h) (Or.inl ⟨by rfl, ?_⟩) (by assumption) ?_
        rotate_left
        · (intro w; go_simp); (first | done | with_reducible rfl)
        try simp only [Act.put, List.setIfInBounds_toArray, List.set_cons_zero, List.set_cons_succ]
        refine wpAnyZ_takeY (i := 14) (oi := { dst := some 58, op := Op.fieldAddr 43 (Operand.tmp 57) 1, type := 0, pos := "disk.go:205", after := #[{ on := 13, ground := Ground.data }, { on := 0, ground := Ground.phase }, { on := 1, ground := Ground.phase }, { on := 2, ground := Ground.phase }, { on := 3, ground := Ground.phase }, { on := 4, ground := Ground.phase }, { on := 5, ground := Ground.phase }, { on := 6, ground := Ground.phase }, { on := 7, ground := Ground.phase }, { on := 8, ground := Ground.phase }, { on := 9, ground := Ground.phase }, { on := 10, ground := Ground.phase }, { on := 11, ground := Ground.phase }, { on := 12, ground := Ground.phase }], guard := none }) (v := ?_) rfl (by kernel_rfl) (by kernel_rfl) (by kernel_rfl) (by rfl) (fun _ _ _ h => h) (Or.inl ⟨by rfl, ?_⟩) (by assumption) ?_
        rotate_left
        · (intro w; go_simp); (first | done | with_reducible rfl)
        try simp only [Act.put, List.setIfInBounds_toArray, List.set_cons_zero, List.set_cons_succ]
        refine wpAnyZ_ready (rs := [15]) (by kernel_rfl) (by simp) ?_
        refine AllReadyZ.last (o := { dst := none, op := Op.store 3 (Operand.tmp 58) (Operand.tmp 56), type := 0, pos := "disk.go:205", after := #[{ on := 14, ground := Ground.data }, { on := 12, ground := Ground.data }, { on := 0, ground := Ground.phase }, { on := 1, ground := Ground.phase }, { on := 2, ground := Ground.phase }, { on := 3, ground := Ground.phase }, { on := 4, ground := Ground.phase }, { on := 5, ground := Ground.phase }, { on := 6, ground := Ground.phase }, { on := 7, ground := Ground.phase }, { on := 8, ground := Ground.phase }, { on := 9, ground := Ground.phase }, { on := 10, ground := Ground.phase }, { on := 11, ground := Ground.phase }, { on := 12, ground := Ground.phase }], guard := none }) rfl (fun K hK => ?_) AllReadyZ.nil
        have f1 := HC2.out.box.free 1
        have m1 := HSB.out
        go_simp
        refine hK.out _ _ ?_
        clear hK K
        refine wpAny_done (by kernel_rfl) ?_ _
        clear hHeld f1 m1 e1 e2 e3
        rw [HSE.out]
        have HB5 := Lib.hid (HC2.out.box.set 1 (.int .i64 sz'))
        have HW5 := Lib.hid (show Wr (fun q => q = d) W4 (W4.setCell ⟨d, 1, none⟩ (.int .i64 sz')) from wr_set _ _ _ rfl)
        generalize (W4.setCell ⟨d, 1, none⟩ (.int .i64 sz')) = W5 at *
        have hXd : X ≠ d := fun e => by have h1 := HXB.out; have h2 := HC2.out.box; unfold Bk at h1 h2; rw [e, h2] at h1; simp at h1
        have HXD := Lib.hid hXd
        have HX5 := Lib.hid (HXB.out.wr HW5.out hXd)
        clear hXd
        have x0 : W5.cell? ⟨X, 0, none⟩ = some (.slice fo f.dat.length fc) := HX5.out.cell 0
        have x1 : W5.cell? ⟨X, 1, none⟩ = some (.int .i64 f.safe) := HX5.out.cell 1
        have xf : ∀ j, W5.frozen? ⟨X, j, none⟩ = false := fun j => HX5.out.free j
        have hto := fun (W : World) => run_to5 W (ao := fo) (n := f.dat.length) (cap := fc) (s := f.safe + m) ((f.safe : Int) + (m : Int)) (by omega) (by omega)
        go_wp2_with fail
        rw [show ((f.safe : Int) + (m : Int)) = ((f.safe + m : Nat) : Int) from by omega]
        clear x0 x1 xf hto
        have HX6 := Lib.hid ((HX5.out.set 1 (.int .i64 ((f.safe + m) : Nat))).set 0 (.slice fo (f.safe + m) fc))
        have HW6 := Lib.hid (show Wr (fun q => q = d ∨ q = X) W4 ((W5.setCell ⟨X, 1, none⟩ (.int .i64 ((f.safe + m) : Nat))).setCell ⟨X, 0, none⟩ (.slice fo (f.safe + m) fc)) from ((HW5.out.mono (fun x hx => .inl (.inl hx))).trans (wr_set (A := fun q => q = d ∨ q = X) _ _ _ (.inr rfl))).trans (wr_set (A := fun q => q = d ∨ q = X) _ _ _ (.inr rfl)))
        have HB6 := Lib.hid (((HB5.out.other (c := X) (fun e => HXD.out e.symm) 1 (.int .i64 ((f.safe + m) : Nat))).other (c := X) (fun e => HXD.out e.symm) 0 (.slice fo (f.safe + m) fc)))
        generalize ((W5.setCell ⟨X, 1, none⟩ (.int .i64 ((f.safe + m) : Nat))).setCell ⟨X, 0, none⟩ (.slice fo (f.safe + m) fc)) = W6 at *
        have HMX := Lib.hid (map_bk5 HC2.out.map HXB.out)
        have HM6 := Lib.hid (map_wr HC2.out.map HW6.out (fun h => h.elim HC2.out.ne HMX.out))
        have HS2 := Lib.hid (show W6.cell? ⟨d, 2, none⟩ = some (.map (some mb)) from HB6.out.cell 2)
        have HS0 := Lib.hid (show W6.cell? ⟨X, 0, none⟩ = some (.slice fo (f.safe + m) fc) from HX6.out.cell 0)
        have HS1 := Lib.hid (show W6.cell? ⟨X, 1, none⟩ = some (.int .i64 ((f.safe + m) : Nat)) from HX6.out.cell 1)
        refine wp_region_Z (S := fun V => V.cell? ⟨d, 2, none⟩ = some (.map (some mb)) ∧ V.cell? ⟨X, 0, none⟩ = some (.slice fo (f.safe + m) fc) ∧ V.cell? ⟨X, 1, none⟩ = some (.int .i64 ((f.safe + m) : Nat))) 6 (by kernel_rfl) ?_ (fun hHeld => ?_)
        · exact ⟨HS2.out, HS0.out, HS1.out⟩
        replace HM6 := Lib.hid HM6.out.drew
        replace HB6 := Lib.hid HB6.out.drew
        replace HW6 := Lib.hid HW6.out.drew
        obtain ⟨W7, hW7⟩ : ∃ x, x = World.drew W6 := ⟨_, rfl⟩
        rw [← hW7] at HM6 HB6 HW6 hHeld ⊢
        clear hW7
        refine wpAnyZ_takeY (i := 0) (oi := { dst := some 70, op := Op.move (Operand.tmp 0), type := 24, pos := "disk.go:208", after := #[], guard := none }) (v := ?_) rfl (by kernel_rfl) (by kernel_rfl) (by kernel_rfl) (by rfl) (fun _ _ _ h => h) (Or.inl ⟨by rfl, ?_⟩) (by assumption) ?_
        rotate_left
        · (intro w; go_simp); (first | done | with_reducible rfl)
        try simp only [Act.put, List.setIfInBounds_toArray, List.set_cons_zero, List.set_cons_succ]
        refine wpAnyZ_takeY (i := 1) (oi := { dst := some 71, op := Op.nilCheck (Operand.tmp 70), type := 0, pos := "disk.go:208", after := #[{ on := 0, ground := Ground.data }], guard := none }) (v := ?_) rfl (by kernel_rfl) (by kernel_rfl) (by kernel_rfl) (by rfl) (fun _ _ _ h => h) (Or.inl ⟨by rfl, ?_⟩) (by assumption) ?_
        rotate_left
        · (intro w; go_simp); (first | done | with_reducible rfl)
        try simp only [Act.put, List.setIfInBounds_toArray, List.set_cons_zero, List.set_cons_succ]
        refine wpAnyZ_takeY (i := 2) (oi := { dst := some 72, op := Op.fieldAddr 43 (Operand.tmp 71) 2, type := 0, pos := "disk.go:208", after := #[{ on := 1, ground := Ground.data }], guard := none }) (v := ?_) rfl (by kernel_rfl) (by kernel_rfl) (by kernel_rfl) (by rfl) (fun _ _ _ h => h) (Or.inl ⟨by rfl, ?_⟩) (by assumption) ?_
        rotate_left
        · (intro w; go_simp); (first | done | with_reducible rfl)
        try simp only [Act.put, List.setIfInBounds_toArray, List.set_cons_zero, List.set_cons_succ]
        refine wpAnyZ_take (i := 3) (oi := { dst := some 73, op := Op.load 41 (Operand.tmp 72), type := 41, pos := "disk.go:208", after := #[{ on := 2, ground := Ground.data }], guard := none }) (v := ?_) [6] rfl (by kernel_rfl) (by kernel_rfl) (by kernel_rfl) (by kernel_rfl) (fun _ _ _ h => h) (Or.inl ⟨by rfl, ?_⟩) (by assumption) ?_
        rotate_left
        · (intro w hSw; (try dsimp only at hSw); go_simp); (first | done | with_reducible rfl)
        try simp only [Act.put, List.setIfInBounds_toArray, List.set_cons_zero, List.set_cons_succ]
        refine wpAnyZ_takeY (i := 4) (oi := { dst := some 74, op := Op.move (Operand.tmp 5), type := 9, pos := "disk.go:208", after := #[], guard := none }) (v := ?_) rfl (by kernel_rfl) (by kernel_rfl) (by kernel_rfl) (by rfl) (fun _ _ _ h => h) (Or.inl ⟨by rfl, ?_⟩) (by assumption) ?_
        rotate_left
        · (intro w; go_simp); (first | done | with_reducible rfl)
        try simp only [Act.put, List.setIfInBounds_toArray, List.set_cons_zero, List.set_cons_succ]
        refine wpAnyZ_take (i := 5) (oi := { dst := some 75, op := Op.load 93 (Operand.tmp 6), type := 93, pos := "disk.go:208", after := #[], guard := none }) (v := ?_) [6] rfl (by kernel_rfl) (by kernel_rfl) (by kernel_rfl) (by kernel_rfl) (fun _ _ _ h => h) (Or.inl ⟨by rfl, ?_⟩) (by assumption) ?_
        rotate_left
        · (intro w hSw; (try dsimp only at hSw); go_simp); (first | done | with_reducible rfl)
        try simp only [Act.put, List.setIfInBounds_toArray, List.set_cons_zero, List.set_cons_succ]
        refine wpAnyZ_ready (rs := [6]) (by kernel_rfl) (by simp) ?_
        refine AllReadyZ.last (o := { dst := none, op := Op.mapUpdate 41 (Operand.tmp 73) (Operand.tmp 74) (Operand.tmp 75), type := 0, pos := "disk.go:208", after := #[{ on := 3, ground := Ground.data }, { on := 4, ground := Ground.data }, { on := 5, ground := Ground.data }, { on := 0, ground := Ground.phase }, { on := 1, ground := Ground.phase }, { on := 2, ground := Ground.phase }, { on := 3, ground := Ground.phase }, { on := 4, ground := Ground.phase }, { on := 5, ground := Ground.phase }], guard := none }) rfl (fun K hK => ?_) AllReadyZ.nil
        refine step_put5 (f := (⟨f.name, f.dat.take (f.safe + m), (f.safe + m)⟩ : Dk.Fl)) (u := .slice fo (f.safe + m) fc) (by rfl) _ _ _ (by rfl) (by rfl) (by rfl) (by rfl) HM6.out HLEN.out HNM.out ?_
        intro w8 hm8 ht8
        refine hK.out _ _ ?_
        clear hK K
        refine wpAny_done (by kernel_rfl) ?_ _
        have hput := hmp.out
        rw [HLF.out] at hput
        have HFI := Lib.hid (FlI.step (m := m) HC2.out HMEM.out HVK.out (by omega) hput HSZK'.out HXB.out HB6.out HW6.out hm8 ht8 HVO.out HW2.out HXL.out HN2.out HKN.out HKX.out HR2.out)
        clear hput hm8 ht8 hHeld
        go_wp2_with fail
        go_roundw
        case rel => exact ⟨k + 1, by omega, by go_num, HFI⟩
        case measure => simp [intOf]; omega
      · have d2 : decide (k < ks.length) = false := by simpa using hkk
        have hm0 : m = 0 := by rw [hm, hk0 hkk]; simp
        clear hkr hk0 hm hkk
        go_wp2_with (at_lookup; refine wpList_look5 _ rfl _ _ rfl rfl rfl HM.out HNM.out _ HV.out ?_; rw [HGG.out])
        have HXB := Lib.hid (bk_new #[.slice fo f.dat.length fc, .int .i64 f.safe] 93 wr)
        have HC2 := Lib.hid (HC.out.below ((Below.refl _ _).alloc (Nat.le_refl _) (.cells #[.slice fo f.dat.length fc, .int .i64 f.safe] 93)))
        have HN2 := Lib.hid (HNS.out.below ((Below.refl _ _).alloc (Nat.le_refl _) (.cells #[.slice fo f.dat.length fc, .int .i64 f.safe] 93)))
        have HR2 := Lib.hid (row_below5 HNR.out ((Below.refl _ _).alloc (Nat.le_refl _) (.cells #[.slice fo f.dat.length fc, .int .i64 f.safe] 93)))
        have HW2 := Lib.hid (HWR.out.trans (wr_alloc wr (.cells #[.slice fo f.dat.length fc, .int .i64 f.safe] 93)))
        have HV2 := Lib.hid (row_below5 HVR.out ((Below.refl _ _).alloc (Nat.le_refl _) (.cells #[.slice fo f.dat.length fc, .int .i64 f.safe] 93)))
        have HXL := Lib.hid (show w.heap.size ≤ wr.heap.size from HWR.out.size)
        generalize (wr.alloc (.cells #[.slice fo f.dat.length fc, .int .i64 f.safe] 93)) = W2 at *
        generalize wr.heap.size = X at *
        clear c2 hcg HC HNS HNR HWR HVR HM HH
        have e1 : IntKind.i64.wrap ((f.dat.length : Int) - (f.safe : Int)) = (f.dat.length : Int) - (f.safe : Int) := IntWalk.i64_in _ (by omega)
        obtain rfl : m = 0 := hm0
        have e2 : IntKind.i64.wrap ((f.dat.length : Int) - (f.safe : Int) - 0) = (f.dat.length : Int) - (f.safe : Int) := by rw [Int.sub_zero]; exact e1
        have e3 : IntKind.i64.wrap ((sz : Int) - ((f.dat.length : Int) - (f.safe : Int))) = (sz : Int) - ((f.dat.length : Int) - (f.safe : Int)) := IntWalk.i64_in _ (by omega)
        have HSE := Lib.hid (show (sz : Int) - ((f.dat.length : Int) - (f.safe : Int)) = (sz' : Int) from by omega)
        have HSB := Lib.hid (show W2.cell? ⟨d, 1, none⟩ = some (.int .i64 sz) from by rw [HC2.out.box.cell 1, HSZK.out]; rfl)
        refine wp_region_Z (S := fun V => V.cell? ⟨d, 1, none⟩ = some (.int .i64 sz) ∧ V.cell? ⟨X, 0, none⟩ = some (.slice fo f.dat.length fc) ∧ V.cell? ⟨X, 1, none⟩ = some (.int .i64 f.safe)) 15 (by kernel_rfl) ?_ (fun hHeld => ?_)
        · exact ⟨HSB.out, HXB.out.cell 0, HXB.out.cell 1⟩
        replace HXB := Lib.hid (show _ from HXB.out.drew)
        replace HC2 := Lib.hid (show _ from HC2.out.drew)
        replace HW2 := Lib.hid (show _ from HW2.out.drew)
        obtain ⟨W4, hW4⟩ : ∃ x, x = World.drew W2 := ⟨_, rfl⟩
        replace HN2 := Lib.hid (show NsA5 (World.drew W2) _ ks from HN2.out)
        replace HR2 := Lib.hid (row_below5 HR2.out ((Below.refl _ W2).drew))
        replace HV2 := Lib.hid (row_below5 HV2.out ((Below.refl _ W2).drew))
        replace HSB := Lib.hid (show (World.drew W2).cell? ⟨d, 1, none⟩ = some (.int .i64 sz) from HSB.out)
        rw [← hW4] at HXB HC2 HN2 HR2 HW2 HV2 HSB hHeld ⊢
        clear hW4
        refine wpAnyZ_takeY (i := 0) (oi := { dst := some 44, op := Op.move (Operand.tmp 0), type := 24, pos := "disk.go:205", after := #[], guard := none }) (v := ?_) rfl (by kernel_rfl) (by kernel_rfl) (by kernel_rfl) (by rfl) (fun _ _ _ h => h) (Or.inl ⟨by rfl, ?_⟩) (by assumption) ?_
        rotate_left
        · (intro w; go_simp); (first | done | with_reducible rfl)
        try simp only [Act.put, List.setIfInBounds_toArray, List.set_cons_zero, List.set_cons_succ]
        refine wpAnyZ_takeY (i := 1) (oi := { dst := some 45, op := Op.nilCheck (Operand.tmp 44), type := 0, pos := "disk.go:205", after := #[{ on := 0, ground := Ground.data }], guard := none }) (v := ?_) rfl (by kernel_rfl) (by kernel_rfl) (by kernel_rfl) (by rfl) (fun _ _ _ h => h) (Or.inl ⟨by rfl, ?_⟩) (by assumption) ?_
        rotate_left
        · (intro w; go_simp); (first | done | with_reducible rfl)
        try simp only [Act.put, List.setIfInBounds_toArray, List.set_cons_zero, List.set_cons_succ]
        refine wpAnyZ_takeY (i := 2) (oi := { dst := some 46, op := Op.fieldAddr 43 (Operand.tmp 45) 1, type := 0, pos := "disk.go:205", after := #[{ on := 1, ground := Ground.data }], guard := none }) (v := ?_) rfl (by kernel_rfl) (by kernel_rfl) (by kernel_rfl) (by rfl) (fun _ _ _ h => h) (Or.inl ⟨by rfl, ?_⟩) (by assumption) ?_
        rotate_left
        · (intro w; go_simp); (first | done | with_reducible rfl)
        try simp only [Act.put, List.setIfInBounds_toArray, List.set_cons_zero, List.set_cons_succ]
        refine wpAnyZ_take (i := 3) (oi := { dst := some 47, op := Op.load 3 (Operand.tmp 46), type := 3, pos := "disk.go:205", after := #[{ on := 2, ground := Ground.data }], guard := none }) (v := ?_) [12, 13, 14, 15] rfl (by kernel_rfl) (by kernel_rfl) (by kernel_rfl) (by kernel_rfl) (fun _ _ _ h => h) (Or.inl ⟨by rfl, ?_⟩) (by assumption) ?_
        rotate_left
        · (intro w hSw; (try dsimp only at hSw); go_simp); (first | done | with_reducible rfl)
        try simp only [Act.put, List.setIfInBounds_toArray, List.set_cons_zero, List.set_cons_succ]
        refine wpAnyZ_takeY (i := 4) (oi := { dst := some 48, op := Op.fieldAddr 93 (Operand.tmp 6) 0, type := 0, pos := "disk.go:205", after := #[], guard := none }) (v := ?_) rfl (by kernel_rfl) (by kernel_rfl) (by kernel_rfl) (by rfl) (fun _ _ _ h => h) (Or.inl ⟨by rfl, ?_⟩) (by assumption) ?_
        rotate_left
        · (intro w; go_simp); (first | done | with_reducible rfl)
        try simp only [Act.put, List.setIfInBounds_toArray, List.set_cons_zero, List.set_cons_succ]
        refine wpAnyZ_take (i := 5) (oi := { dst := some 49, op := Op.load 68 (Operand.tmp 48), type := 68, pos := "disk.go:205", after := #[{ on := 4, ground := Ground.data }], guard := none }) (v := ?_) [6, 9, 11, 12, 13, 14, 15] rfl (by kernel_rfl) (by kernel_rfl) (by kernel_rfl) (by kernel_rfl) (fun _ _ _ h => h) (Or.inl ⟨by rfl, ?_⟩) (by assumption) ?_
        rotate_left
        · (intro w hSw; (try dsimp only at hSw); go_simp); (first | done | with_reducible rfl)
        try simp only [Act.put, List.setIfInBounds_toArray, List.set_cons_zero, List.set_cons_succ]
        refine wpAnyZ_takeY (i := 6) (oi := { dst := some 50, op := Op.call { callee := Callee.builtin Builtin.len, args := #[Operand.tmp 49], argTypes := #[68] }, type := 3, pos := "disk.go:205", after := #[{ on := 5, ground := Ground.data }], guard := none }) (v := ?_) rfl (by kernel_rfl) (by kernel_rfl) (by kernel_rfl) (by rfl) (fun _ _ _ h => h) (Or.inl ⟨by rfl, ?_⟩) (by assumption) ?_
        rotate_left
        · (intro w; go_simp); (first | done | with_reducible rfl)
        try simp only [Act.put, List.setIfInBounds_toArray, List.set_cons_zero, List.set_cons_succ]
        refine wpAnyZ_takeY (i := 7) (oi := { dst := some 51, op := Op.fieldAddr 93 (Operand.tmp 6) 1, type := 0, pos := "disk.go:205", after := #[], guard := none }) (v := ?_) rfl (by kernel_rfl) (by kernel_rfl) (by kernel_rfl) (by rfl) (fun _ _ _ h => h) (Or.inl ⟨by rfl, ?_⟩) (by assumption) ?_
        rotate_left
        · (intro w; go_simp); (first | done | with_reducible rfl)
        try simp only [Act.put, List.setIfInBounds_toArray, List.set_cons_zero, List.set_cons_succ]
        refine wpAnyZ_take (i := 8) (oi := { dst := some 52, op := Op.load 3 (Operand.tmp 51), type := 3, pos := "disk.go:205", after := #[{ on := 7, ground := Ground.data }], guard := none }) (v := ?_) [9, 11, 12, 13, 14, 15] rfl (by kernel_rfl) (by kernel_rfl) (by kernel_rfl) (by kernel_rfl) (fun _ _ _ h => h) (Or.inl ⟨by rfl, ?_⟩) (by assumption) ?_
        rotate_left
        · (intro w hSw; (try dsimp only at hSw); go_simp); (first | done | with_reducible rfl)
        try simp only [Act.put, List.setIfInBounds_toArray, List.set_cons_zero, List.set_cons_succ]
        refine wpAnyZ_takeY (i := 9) (oi := { dst := some 53, op := Op.binOp BinOp.sub 3 (Operand.tmp 50) (Operand.tmp 52) 3, type := 3, pos := "disk.go:205", after := #[{ on := 6, ground := Ground.data }, { on := 8, ground := Ground.data }], guard := none }) (v := ?_) rfl (by kernel_rfl) (by kernel_rfl) (by kernel_rfl) (by rfl) (fun _ _ _ h => h) (Or.inl ⟨by rfl, ?_⟩) (by assumption) ?_
        rotate_left
        · (intro w; go_simp); (first | done | with_reducible rfl)
        try simp only [Act.put, List.setIfInBounds_toArray, List.set_cons_zero, List.set_cons_succ]
        refine wpAnyZ_takeY (i := 10) (oi := { dst := some 54, op := Op.move (Operand.tmp 7), type := 3, pos := "disk.go:205", after := #[], guard := none }) (v := ?_) rfl (by kernel_rfl) (by kernel_rfl) (by kernel_rfl) (by rfl) (fun _ _ _ h => h) (Or.inl ⟨by rfl, ?_⟩) (by assumption) ?_
        rotate_left
        · (intro w; go_simp); (first | done | with_reducible rfl)
        try simp only [Act.put, List.setIfInBounds_toArray, List.set_cons_zero, List.set_cons_succ]
        refine wpAnyZ_takeY (i := 11) (oi := { dst := some 55, op := Op.binOp BinOp.sub 3 (Operand.tmp 53) (Operand.tmp 54) 3, type := 3, pos := "disk.go:205", after := #[{ on := 9, ground := Ground.data }, { on := 10, ground := Ground.data }], guard := none }) (v := ?_) rfl (by kernel_rfl) (by kernel_rfl) (by kernel_rfl) (by rfl) (fun _ _ _ h => h) (Or.inl ⟨by rfl, ?_⟩) (by assumption) ?_
        rotate_left
        · (intro w; go_simp); (first | done | with_reducible rfl)
        try simp only [Act.put, List.setIfInBounds_toArray, List.set_cons_zero, List.set_cons_succ]
        refine wpAnyZ_takeY (i := 12) (oi := { dst := some 56, op := Op.binOp BinOp.sub 3 (Operand.tmp 47) (Operand.tmp 55) 3, type := 3, pos := "disk.go:205", after := #[{ on := 3, ground := Ground.data }, { on := 11, ground := Ground.data }], guard := none }) (v := ?_) rfl (by kernel_rfl) (by kernel_rfl) (by kernel_rfl) (by rfl) (fun _ _ _ h => h) (Or.inl ⟨by rfl, ?_⟩) (by assumption) ?_
        rotate_left
        · (intro w; go_simp); (first | done | with_reducible rfl)
        try simp only [Act.put, List.setIfInBounds_toArray, List.set_cons_zero, List.set_cons_succ]
        refine wpAnyZ_takeY (i := 13) (oi := { dst := some 57, op := Op.nilCheck (Operand.tmp 44), type := 0, pos := "disk.go:205", after := #[{ on := 0, ground := Ground.data }, { on := 0, ground := Ground.phase }, { on := 1, ground := Ground.phase }, { on := 2, ground := Ground.phase }, { on := 3, ground := Ground.phase }, { on := 4, ground := Ground.phase }, { on := 5, ground := Ground.phase }, { on := 6, ground := Ground.phase }, { on := 7, ground := Ground.phase }, { on := 8, ground := Ground.phase }, { on := 9, ground := Ground.phase }, { on := 10, ground := Ground.phase }, { on := 11, ground := Ground.phase }, { on := 12, ground := Ground.phase }], guard := none }) (v := ?_) rfl (by kernel_rfl) (by kernel_rfl) (by kernel_rfl) (by rfl) (fun _ _ _ h => h) (Or.inl ⟨by rfl, ?_⟩) (by assumption) ?_
        rotate_left
        · (intro w; go_simp); (first | done | with_reducible rfl)
        try simp only [Act.put, List.setIfInBounds_toArray, List.set_cons_zero, List.set_cons_succ]
        refine wpAnyZ_takeY (i := 14) (oi := { dst := some 58, op := Op.fieldAddr 43 (Operand.tmp 57) 1, type := 0, pos := "disk.go:205", after := #[{ on := 13, ground := Ground.data }, { on := 0, ground := Ground.phase }, { on := 1, ground := Ground.phase }, { on := 2, ground := Ground.phase }, { on := 3, ground := Ground.phase }, { on := 4, ground := Ground.phase }, { on := 5, ground := Ground.phase }, { on := 6, ground := Ground.phase }, { on := 7, ground := Ground.phase }, { on := 8, ground := Ground.phase }, { on := 9, ground := Ground.phase }, { on := 10, ground := Ground.phase }, { on := 11, ground := Ground.phase }, { on := 12, ground := Ground.phase }], guard := none }) (v := ?_) rfl (by kernel_rfl) (by kernel_rfl) (by kernel_rfl) (by rfl) (fun _ _ _ h => h) (Or.inl ⟨by rfl, ?_⟩) (by assumption) ?_
        rotate_left
        · (intro w; go_simp); (first | done | with_reducible rfl)
        try simp only [Act.put, List.setIfInBounds_toArray, List.set_cons_zero, List.set_cons_succ]
        refine wpAnyZ_ready (rs := [15]) (by kernel_rfl) (by simp) ?_
        refine AllReadyZ.last (o := { dst := none, op := Op.store 3 (Operand.tmp 58) (Operand.tmp 56), type := 0, pos := "disk.go:205", after := #[{ on := 14, ground := Ground.data }, { on := 12, ground := Ground.data }, { on := 0, ground := Ground.phase }, { on := 1, ground := Ground.phase }, { on := 2, ground := Ground.phase }, { on := 3, ground := Ground.phase }, { on := 4, ground := Ground.phase }, { on := 5, ground := Ground.phase }, { on := 6, ground := Ground.phase }, { on := 7, ground := Ground.phase }, { on := 8, ground := Ground.phase }, { on := 9, ground := Ground.phase }, { on := 10, ground := Ground.phase }, { on := 11, ground := Ground.phase }, { on := 12, ground := Ground.phase }], guard := none }) rfl (fun K hK => ?_) AllReadyZ.nil
        have f1 := HC2.out.box.free 1
        have m1 := HSB.out
        go_simp
        refine hK.out _ _ ?_
        clear hK K
        refine wpAny_done (by kernel_rfl) ?_ _
        clear hHeld f1 m1 e1 e2 e3
        rw [HSE.out]
        have HB5 := Lib.hid (HC2.out.box.set 1 (.int .i64 sz'))
        have HW5 := Lib.hid (show Wr (fun q => q = d) W4 (W4.setCell ⟨d, 1, none⟩ (.int .i64 sz')) from wr_set _ _ _ rfl)
        generalize (W4.setCell ⟨d, 1, none⟩ (.int .i64 sz')) = W5 at *
        have hXd : X ≠ d := fun e => by have h1 := HXB.out; have h2 := HC2.out.box; unfold Bk at h1 h2; rw [e, h2] at h1; simp at h1
        have HXD := Lib.hid hXd
        have HX5 := Lib.hid (HXB.out.wr HW5.out hXd)
        clear hXd
        have x0 : W5.cell? ⟨X, 0, none⟩ = some (.slice fo f.dat.length fc) := HX5.out.cell 0
        have x1 : W5.cell? ⟨X, 1, none⟩ = some (.int .i64 f.safe) := HX5.out.cell 1
        have xf : ∀ j, W5.frozen? ⟨X, j, none⟩ = false := fun j => HX5.out.free j
        have hto := fun (W : World) => run_to5 W (ao := fo) (n := f.dat.length) (cap := fc) (s := f.safe + 0) ((f.safe : Int) + 0) (by omega) (by omega)
        go_wp2_with fail
        have hms0 : Dk.left f kv = ⟨f.name, f.dat.take (f.safe + 0), f.safe + 0⟩ := HLF.out
        clear x0 x1 xf hto
        have HX6 := Lib.hid ((HX5.out.set 1 (.int .i64 (f.safe : Nat))).set 0 (.slice fo f.safe fc))
        have HW6 := Lib.hid (show Wr (fun q => q = d ∨ q = X) W4 ((W5.setCell ⟨X, 1, none⟩ (.int .i64 (f.safe : Nat))).setCell ⟨X, 0, none⟩ (.slice fo f.safe fc)) from ((HW5.out.mono (fun x hx => .inl (.inl hx))).trans (wr_set (A := fun q => q = d ∨ q = X) _ _ _ (.inr rfl))).trans (wr_set (A := fun q => q = d ∨ q = X) _ _ _ (.inr rfl)))
        have HB6 := Lib.hid (((HB5.out.other (c := X) (fun e => HXD.out e.symm) 1 (.int .i64 (f.safe : Nat))).other (c := X) (fun e => HXD.out e.symm) 0 (.slice fo f.safe fc)))
        generalize ((W5.setCell ⟨X, 1, none⟩ (.int .i64 (f.safe : Nat))).setCell ⟨X, 0, none⟩ (.slice fo f.safe fc)) = W6 at *
        have HMX := Lib.hid (map_bk5 HC2.out.map HXB.out)
        have HM6 := Lib.hid (map_wr HC2.out.map HW6.out (fun h => h.elim HC2.out.ne HMX.out))
        have HS2 := Lib.hid (show W6.cell? ⟨d, 2, none⟩ = some (.map (some mb)) from HB6.out.cell 2)
        have HS0 := Lib.hid (show W6.cell? ⟨X, 0, none⟩ = some (.slice fo f.safe fc) from HX6.out.cell 0)
        have HS1 := Lib.hid (show W6.cell? ⟨X, 1, none⟩ = some (.int .i64 (f.safe : Nat)) from HX6.out.cell 1)
        refine wp_region_Z (S := fun V => V.cell? ⟨d, 2, none⟩ = some (.map (some mb)) ∧ V.cell? ⟨X, 0, none⟩ = some (.slice fo f.safe fc) ∧ V.cell? ⟨X, 1, none⟩ = some (.int .i64 (f.safe : Nat))) 6 (by kernel_rfl) ?_ (fun hHeld => ?_)
        · exact ⟨HS2.out, HS0.out, HS1.out⟩
        replace HM6 := Lib.hid HM6.out.drew
        replace HB6 := Lib.hid HB6.out.drew
        replace HW6 := Lib.hid HW6.out.drew
        obtain ⟨W7, hW7⟩ : ∃ x, x = World.drew W6 := ⟨_, rfl⟩
        rw [← hW7] at HM6 HB6 HW6 hHeld ⊢
        clear hW7
        refine wpAnyZ_takeY (i := 0) (oi := { dst := some 70, op := Op.move (Operand.tmp 0), type := 24, pos := "disk.go:208", after := #[], guard := none }) (v := ?_) rfl (by kernel_rfl) (by kernel_rfl) (by kernel_rfl) (by rfl) (fun _ _ _ h => h) (Or.inl ⟨by rfl, ?_⟩) (by assumption) ?_
        rotate_left
        · (intro w; go_simp); (first | done | with_reducible rfl)
        try simp only [Act.put, List.setIfInBounds_toArray, List.set_cons_zero, List.set_cons_succ]
        refine wpAnyZ_takeY (i := 1) (oi := { dst := some 71, op := Op.nilCheck (Operand.tmp 70), type := 0, pos := "disk.go:208", after := #[{ on := 0, ground := Ground.data }], guard := none }) (v := ?_) rfl (by kernel_rfl) (by kernel_rfl) (by kernel_rfl) (by rfl) (fun _ _ _ h => h) (Or.inl ⟨by rfl, ?_⟩) (by assumption) ?_
        rotate_left
        · (intro w; go_simp); (first | done | with_reducible rfl)
        try simp only [Act.put, List.setIfInBounds_toArray, List.set_cons_zero, List.set_cons_succ]
        refine wpAnyZ_takeY (i := 2) (oi := { dst := some 72, op := Op.fieldAddr 43 (Operand.tmp 71) 2, type := 0, pos := "disk.go:208", after := #[{ on := 1, ground := Ground.data }], guard := none }) (v := ?_) rfl (by kernel_rfl) (by kernel_rfl) (by kernel_rfl) (by rfl) (fun _ _ _ h => h) (Or.inl ⟨by rfl, ?_⟩) (by assumption) ?_
        rotate_left
        · (intro w; go_simp); (first | done | with_reducible rfl)
        try simp only [Act.put, List.setIfInBounds_toArray, List.set_cons_zero, List.set_cons_succ]
        refine wpAnyZ_take (i := 3) (oi := { dst := some 73, op := Op.load 41 (Operand.tmp 72), type := 41, pos := "disk.go:208", after := #[{ on := 2, ground := Ground.data }], guard := none }) (v := ?_) [6] rfl (by kernel_rfl) (by kernel_rfl) (by kernel_rfl) (by kernel_rfl) (fun _ _ _ h => h) (Or.inl ⟨by rfl, ?_⟩) (by assumption) ?_
        rotate_left
        · (intro w hSw; (try dsimp only at hSw); go_simp); (first | done | with_reducible rfl)
        try simp only [Act.put, List.setIfInBounds_toArray, List.set_cons_zero, List.set_cons_succ]
        refine wpAnyZ_takeY (i := 4) (oi := { dst := some 74, op := Op.move (Operand.tmp 5), type := 9, pos := "disk.go:208", after := #[], guard := none }) (v := ?_) rfl (by kernel_rfl) (by kernel_rfl) (by kernel_rfl) (by rfl) (fun _ _ _ h => h) (Or.inl ⟨by rfl, ?_⟩) (by assumption) ?_
        rotate_left
        · (intro w; go_simp); (first | done | with_reducible rfl)
        try simp only [Act.put, List.setIfInBounds_toArray, List.set_cons_zero, List.set_cons_succ]
        refine wpAnyZ_take (i := 5) (oi := { dst := some 75, op := Op.load 93 (Operand.tmp 6), type := 93, pos := "disk.go:208", after := #[], guard := none }) (v := ?_) [6] rfl (by kernel_rfl) (by kernel_rfl) (by kernel_rfl) (by kernel_rfl) (fun _ _ _ h => h) (Or.inl ⟨by rfl, ?_⟩) (by assumption) ?_
        rotate_left
        · (intro w hSw; (try dsimp only at hSw); go_simp); (first | done | with_reducible rfl)
        try simp only [Act.put, List.setIfInBounds_toArray, List.set_cons_zero, List.set_cons_succ]
        refine wpAnyZ_ready (rs := [6]) (by kernel_rfl) (by simp) ?_
        refine AllReadyZ.last (o := { dst := none, op := Op.mapUpdate 41 (Operand.tmp 73) (Operand.tmp 74) (Operand.tmp 75), type := 0, pos := "disk.go:208", after := #[{ on := 3, ground := Ground.data }, { on := 4, ground := Ground.data }, { on := 5, ground := Ground.data }, { on := 0, ground := Ground.phase }, { on := 1, ground := Ground.phase }, { on := 2, ground := Ground.phase }, { on := 3, ground := Ground.phase }, { on := 4, ground := Ground.phase }, { on := 5, ground := Ground.phase }], guard := none }) rfl (fun K hK => ?_) AllReadyZ.nil
        refine step_put5 (f := (⟨f.name, f.dat.take f.safe, f.safe⟩ : Dk.Fl)) (u := .slice fo f.safe fc) (by rfl) _ _ _ (by rfl) (by rfl) (by rfl) (by rfl) HM6.out HLEN.out HNM.out ?_
        intro w8 hm8 ht8
        refine hK.out _ _ ?_
        clear hK K
        refine wpAny_done (by kernel_rfl) ?_ _
        have hput := hmp.out
        rw [hms0] at hput
        have HFI := Lib.hid (FlI.step (m := 0) HC2.out HMEM.out HVK.out (by omega) hput HSZK'.out HXB.out HB6.out HW6.out hm8 ht8 HVO.out HW2.out HXL.out HN2.out HKN.out HKX.out HR2.out)
        clear hput hm8 ht8 hHeld
        go_wp2_with fail
        go_roundw
        case rel => exact ⟨k + 1, by omega, by go_num, HFI⟩
        case measure => simp [intOf]; omega
    · have d1 : decide (k < D.L.length) = false := by simpa using hlt
      obtain rfl : k = D.L.length := by omega
      go_wp2_with fail
      go_end0
      obtain ⟨Vk, hC, hVo, hWr, _⟩ := HH.out
      rw [dnD_all] at hC
      exact ⟨rfl, ⟨Vk, hC, hVo⟩, hWr⟩
end

end Go.Proofs.Ytekmnpmeienhhaa
