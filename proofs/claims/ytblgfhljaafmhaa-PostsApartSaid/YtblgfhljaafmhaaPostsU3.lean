/- Layer 12: PostsApart, walked. -/
import Derived.Test.YtblgfhljaafmhaaPostsU2
namespace Go.Proofs.Ytblgfhljaafmhaa
set_option linter.unusedVariables false
open Go Go.RowKit
attribute [local go_sem ↓] run_index_S
attribute [local go_sem] S_append S_extract

theorem M.Ak.ext' {a d : M.Ak} (h1 : a.host = d.host) (h2 : a.first = d.first) (h3 : a.next = d.next) : a = d := by
  cases a; cases d; simp_all
theorem M.Ak.diff {a d : M.Ak} (h : ¬ a = d) : (¬ a.host = d.host) ∨ (a.host = d.host ∧ ¬ a.first = d.first) ∨ (a.host = d.host ∧ a.first = d.first ∧ ¬ a.next = d.next) := by
  by_cases h1 : a.host = d.host
  · by_cases h2 : a.first = d.first
    · exact .inr (.inr ⟨h1, h2, fun h3 => h (M.Ak.ext' h1 h2 h3)⟩)
    · exact .inr (.inl ⟨h1, h2⟩)
  · exact .inl h1
theorem encBl_inj {b c : M.Bt} (hb : ∀ x ∈ b.sps, x.fits) (hc : ∀ x ∈ c.sps, x.fits) (h : M.bOk b = true) (k : M.bOk c = true) : encBl b = encBl c ↔ b = c := by
  unfold encBl
  rw [if_pos h, if_pos k]
  exact ⟨M.encB_inj hb hc h k, fun e => by rw [e]⟩
theorem encAl_inj {a d : M.Ak} (h : M.aMay a = true) (k : M.aMay d = true) : encAl a = encAl d ↔ a = d := by
  unfold encAl
  rw [if_pos h, if_pos k]
  exact ⟨M.encA_inj h k, fun e => by rw [e]⟩
def ak2C (a d : M.Ak) : Array Value := #[.int .i64 a.host, .int .i64 a.first, .int .i64 a.next, .int .i64 d.host, .int .i64 d.first, .int .i64 d.next]
/-- Two acks that come in. -/
def UAk2 (v : Value) : Prop := ∃ a d : M.Ak, v = .agg #[.int .i64 a.host, .int .i64 a.first, .int .i64 a.next, .int .i64 d.host, .int .i64 d.first, .int .i64 d.next]
section
variable {H : Type} {enc : TypeId × Value → H} {W : World} {r : Reach} {b0 : Nat} {v : Value} {d : DataW H} {p : List MemPlace}
theorem open_ack2 (hv : Value.okWide Try.prog W r b0 44 v) (h : DataW.Trod enc Try.prog W 0 (fun _ => true) true 44 v d p) : UAk2 v := by
  have hu := Try.underlying44
  simp only [Value.okWide, hu] at hv
  obtain ⟨cs, rfl, hsz, _⟩ := hv
  obtain ⟨fuel, hf⟩ := h
  have c3 : Try.prog.cellsOf 26 = 3 := by kernel_rfl
  have c6 : Try.prog.cellsOf 44 = 6 := by kernel_rfl
  obtain ⟨xs, m, _, _, hlen, hn, hel⟩ := DataW.trod_array hu hf
  have hlen' : cs.toList.length = 6 := hlen.trans c6
  obtain ⟨l⟩ := cs
  match l, hlen' with
  | [k0, k1, k2, k3, k4, k5], _ =>
    have h0 := hel 0 (by omega)
    have h1 := hel 1 (by omega)
    rw [c3] at h0 h1
    obtain ⟨x0, hx0⟩ : ∃ x, xs[0]? = some x := ⟨xs[0], by simp [hn]⟩
    obtain ⟨x1, hx1⟩ : ∃ x, xs[1]? = some x := ⟨xs[1], by simp [hn]⟩
    rw [hx0] at h0
    rw [hx1] at h1
    obtain ⟨a, e0, _⟩ := ak_cellsP h0
    obtain ⟨d, e1, _⟩ := ak_cellsP h1
    simp at e0 e1
    obtain ⟨rfl, rfl, rfl⟩ := e0
    obtain ⟨rfl, rfl, rfl⟩ := e1
    exact ⟨a, d, rfl⟩
end

set_option maxHeartbeats 8000000 in
set_option maxRecDepth 100000 in
theorem postsApart_calls (W : World) (v : Value) (hv : UBt W v) (v2 : Value) (hv2 : UBt W v2) (u : Value) (hu : UAk2 u) :
    Calls Try.prog 8 #[v, v2, u] W fun e w' => e = .returned (.bool true) ∧ Below W.heap.size W w' := by
  obtain ⟨h, f, L, ao, cap, rfl, hbd, hlen, hint, hcap, hs⟩ := hv
  obtain ⟨h2, f2, L2, ao2, cap2, rfl, hbd2, hlen2, hint2, hcap2, hs2⟩ := hv2
  obtain ⟨a, d, rfl⟩ := hu
  have bw := (((Below.refl W.heap.size W).alloc (Nat.le_refl _) (.cells #[.int .i64 h, .int .i64 f, .slice ao L.length cap] 24)).alloc (by rw [szA]; omega) (.cells #[.int .i64 h2, .int .i64 f2, .slice ao2 L2.length cap2] 24)).alloc (by rw [szA, szA]; omega) (.cells #[.int .i64 a.host, .int .i64 a.first, .int .i64 a.next, .int .i64 d.host, .int .i64 d.first, .int .i64 d.next] 44)
  have HB0 := Lib.hid bw
  have HS0 := Lib.hid (hs.below bw)
  have HT0 := Lib.hid (hs2.below bw)
  have HR0 := Lib.hid (((rowIn_new #[.int .i64 h, .int .i64 f, .slice ao L.length cap] 24 W).more (.cells #[.int .i64 h2, .int .i64 f2, .slice ao2 L2.length cap2] 24)).more (.cells #[.int .i64 a.host, .int .i64 a.first, .int .i64 a.next, .int .i64 d.host, .int .i64 d.first, .int .i64 d.next] 44))
  have HQ0 := Lib.hid ((rowIn_at #[.int .i64 h2, .int .i64 f2, .slice ao2 L2.length cap2] 24 (W.alloc (.cells #[.int .i64 h, .int .i64 f, .slice ao L.length cap] 24)) (W.heap.size + 1) (by rw [szA])).more (.cells #[.int .i64 a.host, .int .i64 a.first, .int .i64 a.next, .int .i64 d.host, .int .i64 d.first, .int .i64 d.next] 44))
  have HA0 := Lib.hid (rowIn_at #[.int .i64 a.host, .int .i64 a.first, .int .i64 a.next, .int .i64 d.host, .int .i64 d.first, .int .i64 d.next] 44 ((W.alloc (.cells #[.int .i64 h, .int .i64 f, .slice ao L.length cap] 24)).alloc (.cells #[.int .i64 h2, .int .i64 f2, .slice ao2 L2.length cap2] 24)) (W.heap.size + 1 + 1) (by rw [szA, szA]))
  have CG := Lib.hid (fun W' hs' => great12_any (w := W') (ao := ao) h f L cap hs' hlen)
  have CK := Lib.hid (fun W' hs' => great12_any (w := W') (ao := ao2) h2 f2 L2 cap2 hs' hlen2)
  clear bw hs hs2
  go_enter Try.func8, Try.ntmps8
  go_wp2_with fail
  with_reducible refine (CG.out _ HS0.out).mono ?_
  rintro e w1 ⟨rfl | ⟨rfl, hsm⟩, hb1⟩
  · go_wp2_with fail
    go_ret
    exact ⟨rfl, below_step HB0.out hb1⟩
  have HR1 := Lib.hid (HR0.out.below hb1)
  have HQ1 := Lib.hid (HQ0.out.below hb1)
  have HA1 := Lib.hid (HA0.out.below hb1)
  have HS1 := Lib.hid (HS0.out.below hb1)
  have HT1 := Lib.hid (HT0.out.below hb1)
  have HB1 := Lib.hid (below_step HB0.out hb1)
  clear hb1
  have s0 : w1.cell? ⟨W.heap.size + 1, 0, none⟩ = some (.int .i64 h2) := HQ1.out.cell 0
  have s1 : w1.cell? ⟨W.heap.size + 1, 1, none⟩ = some (.int .i64 f2) := HQ1.out.cell 1
  have s2 : w1.cell? ⟨W.heap.size + 1, 2, none⟩ = some (.slice ao2 L2.length cap2) := HQ1.out.cell 2
  go_wp2_with fail
  with_reducible refine (CK.out _ HT1.out).mono ?_
  rintro e w2 ⟨rfl | ⟨rfl, hsm2⟩, hb2⟩
  · go_wp2_with fail
    go_ret
    exact ⟨rfl, below_step HB1.out hb2⟩
  have HR2 := Lib.hid (HR1.out.below hb2)
  have HQ2 := Lib.hid (HQ1.out.below hb2)
  have HA2 := Lib.hid (HA1.out.below hb2)
  have HS2 := Lib.hid (HS1.out.below hb2)
  have HT2 := Lib.hid (HT1.out.below hb2)
  have HB2 := Lib.hid (below_step HB1.out hb2)
  clear hb2 s0 s1 s2
  have hf := fun x (hx : x ∈ L) => by
    have h1 := hsm.2 x hx
    exact (hint x hx).fits (by have := h1.1; omega) (by have := h1.2.1; omega) (by have := h1.2.2; omega)
  have hf2 := fun x (hx : x ∈ L2) => by
    have h1 := hsm2.2 x hx
    exact (hint2 x hx).fits (by have := h1.1; omega) (by have := h1.2.1; omega) (by have := h1.2.2; omega)
  have h50 := hsm.1
  have h51 := hsm2.1
  have HI := Lib.hid (fun k1 k2 => encBl_inj (b := ⟨h, f, L⟩) (c := ⟨h2, f2, L2⟩) hf hf2 k1 k2)
  have HJ := Lib.hid (fun k1 k2 => encAl_inj (a := a) (d := d) k1 k2)
  have CB := Lib.hid (fun W' hs' => encB_l ⟨h, f, L⟩ ao cap W' (by dsimp only; omega) hf hs')
  have CC := Lib.hid (fun W' hs' => encB_l ⟨h2, f2, L2⟩ ao2 cap2 W' (by dsimp only; omega) hf2 hs')
  have CA := Lib.hid (fun W' => encA_l a W')
  have CD := Lib.hid (fun W' => encA_l d W')
  have CS := Lib.hid (fun W' hs1 hs2 => sameBatch_any (w := W') (ao := ao) (bo := ao2) ⟨h, f, L⟩ ⟨h2, f2, L2⟩ cap cap2 hs1 hs2 (by dsimp only; omega) (by dsimp only; omega))
  dsimp only at CB CC CS
  clear hsm hint hlen hcap hf hsm2 hint2 hlen2 hcap2 hf2
  generalize encBl ⟨h, f, L⟩ = s at *
  generalize encBl ⟨h2, f2, L2⟩ = t at *
  generalize encAl a = y at *
  generalize encAl d = z at *
  generalize hk1 : M.bOk ⟨h, f, L⟩ = k1 at *
  generalize hk2 : M.bOk ⟨h2, f2, L2⟩ = k2 at *
  generalize hk3 : M.aMay a = k3 at *
  generalize hk4 : M.aMay d = k4 at *
  clear hk1 hk2 hk3 hk4
  have r0 : w2.cell? ⟨W.heap.size, 0, none⟩ = some (.int .i64 h) := HR2.out.cell 0
  have r1 : w2.cell? ⟨W.heap.size, 1, none⟩ = some (.int .i64 f) := HR2.out.cell 1
  have r2 : w2.cell? ⟨W.heap.size, 2, none⟩ = some (.slice ao L.length cap) := HR2.out.cell 2
  go_wp2_with fail
  with_reducible refine (CB.out _ HS2.out).mono ?_
  rintro e w3 ⟨rfl, hb3⟩
  have HR3 := Lib.hid (HR2.out.below hb3)
  have HQ3 := Lib.hid (HQ2.out.below hb3)
  have HA3 := Lib.hid (HA2.out.below hb3)
  have HS3 := Lib.hid (HS2.out.below hb3)
  have HT3 := Lib.hid (HT2.out.below hb3)
  have HB3 := Lib.hid (below_step HB2.out hb3)
  clear hb3
  clear r0 r1 r2
  have s0 : w3.cell? ⟨W.heap.size + 1, 0, none⟩ = some (.int .i64 h2) := HQ3.out.cell 0
  have s1 : w3.cell? ⟨W.heap.size + 1, 1, none⟩ = some (.int .i64 f2) := HQ3.out.cell 1
  have s2 : w3.cell? ⟨W.heap.size + 1, 2, none⟩ = some (.slice ao2 L2.length cap2) := HQ3.out.cell 2
  go_wp2_with fail
  with_reducible refine (CC.out _ HT3.out).mono ?_
  rintro e w4 ⟨rfl, hb4⟩
  have HR4 := Lib.hid (HR3.out.below hb4)
  have HQ4 := Lib.hid (HQ3.out.below hb4)
  have HA4 := Lib.hid (HA3.out.below hb4)
  have HS4 := Lib.hid (HS3.out.below hb4)
  have HT4 := Lib.hid (HT3.out.below hb4)
  have HB4 := Lib.hid (below_step HB3.out hb4)
  clear hb4
  clear s0 s1 s2
  have q0 : w4.cell? ⟨W.heap.size + 1 + 1, 0, none⟩ = some (.int .i64 a.host) := HA4.out.cell 0
  have q1 : w4.cell? ⟨W.heap.size + 1 + 1, 1, none⟩ = some (.int .i64 a.first) := HA4.out.cell 1
  have q2 : w4.cell? ⟨W.heap.size + 1 + 1, 2, none⟩ = some (.int .i64 a.next) := HA4.out.cell 2
  go_wp2_with fail
  with_reducible refine (CA.out _).mono ?_
  rintro e w5 ⟨rfl, hb5⟩
  have HR5 := Lib.hid (HR4.out.below hb5)
  have HQ5 := Lib.hid (HQ4.out.below hb5)
  have HA5 := Lib.hid (HA4.out.below hb5)
  have HS5 := Lib.hid (HS4.out.below hb5)
  have HT5 := Lib.hid (HT4.out.below hb5)
  have HB5 := Lib.hid (below_step HB4.out hb5)
  clear hb5
  clear q0 q1 q2
  have q3 : w5.cell? ⟨W.heap.size + 1 + 1, 3, none⟩ = some (.int .i64 d.host) := HA5.out.cell 3
  have q4 : w5.cell? ⟨W.heap.size + 1 + 1, 4, none⟩ = some (.int .i64 d.first) := HA5.out.cell 4
  have q5 : w5.cell? ⟨W.heap.size + 1 + 1, 5, none⟩ = some (.int .i64 d.next) := HA5.out.cell 5
  go_wp2_with fail
  with_reducible refine (CD.out _).mono ?_
  rintro e w6 ⟨rfl, hb6⟩
  have HR6 := Lib.hid (HR5.out.below hb6)
  have HQ6 := Lib.hid (HQ5.out.below hb6)
  have HA6 := Lib.hid (HA5.out.below hb6)
  have HS6 := Lib.hid (HS5.out.below hb6)
  have HT6 := Lib.hid (HT5.out.below hb6)
  have HB6 := Lib.hid (below_step HB5.out hb6)
  clear hb6
  clear q3 q4 q5
  have r0 : w6.cell? ⟨W.heap.size, 0, none⟩ = some (.int .i64 h) := HR6.out.cell 0
  have r1 : w6.cell? ⟨W.heap.size, 1, none⟩ = some (.int .i64 f) := HR6.out.cell 1
  have r2 : w6.cell? ⟨W.heap.size, 2, none⟩ = some (.slice ao L.length cap) := HR6.out.cell 2
  have s0 : w6.cell? ⟨W.heap.size + 1, 0, none⟩ = some (.int .i64 h2) := HQ6.out.cell 0
  have s1 : w6.cell? ⟨W.heap.size + 1, 1, none⟩ = some (.int .i64 f2) := HQ6.out.cell 1
  have s2 : w6.cell? ⟨W.heap.size + 1, 2, none⟩ = some (.slice ao2 L2.length cap2) := HQ6.out.cell 2
  have q0 : w6.cell? ⟨W.heap.size + 1 + 1, 0, none⟩ = some (.int .i64 a.host) := HA6.out.cell 0
  have q1 : w6.cell? ⟨W.heap.size + 1 + 1, 1, none⟩ = some (.int .i64 a.first) := HA6.out.cell 1
  have q2 : w6.cell? ⟨W.heap.size + 1 + 1, 2, none⟩ = some (.int .i64 a.next) := HA6.out.cell 2
  have q3 : w6.cell? ⟨W.heap.size + 1 + 1, 3, none⟩ = some (.int .i64 d.host) := HA6.out.cell 3
  have q4 : w6.cell? ⟨W.heap.size + 1 + 1, 4, none⟩ = some (.int .i64 d.first) := HA6.out.cell 4
  have q5 : w6.cell? ⟨W.heap.size + 1 + 1, 5, none⟩ = some (.int .i64 d.next) := HA6.out.cell 5
  cases k1 with
  | false =>
    cases k3 with
    | false =>
      simp only [M.errOf]
      go_wp2_with (go_at_call 15; refine (does12 _).mono ?_; rintro e w8 ⟨rfl, hb8⟩)
      all_goals
        go_ret
        exact ⟨rfl, below_step HB6.out (by assumption)⟩
    | true =>
      cases k4 with
      | false =>
        simp only [M.errOf]
        go_wp2_with (go_at_call 15; refine (does12 _).mono ?_; rintro e w8 ⟨rfl, hb8⟩)
        all_goals
          go_ret
          exact ⟨rfl, below_step HB6.out (by assumption)⟩
      | true =>
        have hj := HJ.out rfl rfl
        by_cases had : a = d
        · have hyz : (y == z) = true := by simpa using hj.2 had
          have g1 : a.host = d.host := by rw [had]
          have g2 : a.first = d.first := by rw [had]
          have g3 : a.next = d.next := by rw [had]
          clear hj had
          simp only [M.errOf]
          go_wp2_with (go_at_call 15; refine (does12 _).mono ?_; rintro e w8 ⟨rfl, hb8⟩)
          all_goals
            go_ret
            exact ⟨rfl, below_step HB6.out (by assumption)⟩
        · have hyz : (y == z) = false := by simpa using fun h => had (hj.1 h)
          clear hj
          rcases M.Ak.diff had with h9 | h9 | h9
          all_goals
            clear had
            (try obtain ⟨g1, h9⟩ := h9)
            (try obtain ⟨g2, h9⟩ := h9)
            simp only [M.errOf]
            go_wp2_with (go_at_call 15; refine (does12 _).mono ?_; rintro e w8 ⟨rfl, hb8⟩)
            all_goals
              go_ret
              exact ⟨rfl, below_step HB6.out (by assumption)⟩
  | true =>
    cases k2 with
    | false =>
      cases k3 with
      | false =>
        simp only [M.errOf]
        go_wp2_with (go_at_call 15; refine (does12 _).mono ?_; rintro e w8 ⟨rfl, hb8⟩)
        all_goals
          go_ret
          exact ⟨rfl, below_step HB6.out (by assumption)⟩
      | true =>
        cases k4 with
        | false =>
          simp only [M.errOf]
          go_wp2_with (go_at_call 15; refine (does12 _).mono ?_; rintro e w8 ⟨rfl, hb8⟩)
          all_goals
            go_ret
            exact ⟨rfl, below_step HB6.out (by assumption)⟩
        | true =>
          have hj := HJ.out rfl rfl
          by_cases had : a = d
          · have hyz : (y == z) = true := by simpa using hj.2 had
            have g1 : a.host = d.host := by rw [had]
            have g2 : a.first = d.first := by rw [had]
            have g3 : a.next = d.next := by rw [had]
            clear hj had
            simp only [M.errOf]
            go_wp2_with (go_at_call 15; refine (does12 _).mono ?_; rintro e w8 ⟨rfl, hb8⟩)
            all_goals
              go_ret
              exact ⟨rfl, below_step HB6.out (by assumption)⟩
          · have hyz : (y == z) = false := by simpa using fun h => had (hj.1 h)
            clear hj
            rcases M.Ak.diff had with h9 | h9 | h9
            all_goals
              clear had
              (try obtain ⟨g1, h9⟩ := h9)
              (try obtain ⟨g2, h9⟩ := h9)
              simp only [M.errOf]
              go_wp2_with (go_at_call 15; refine (does12 _).mono ?_; rintro e w8 ⟨rfl, hb8⟩)
              all_goals
                go_ret
                exact ⟨rfl, below_step HB6.out (by assumption)⟩
    | true =>
      have hi := HI.out rfl rfl
      by_cases hbc : (⟨h, f, L⟩ : M.Bt) = ⟨h2, f2, L2⟩
      · have hst : (s == t) = true := by simpa using hi.2 hbc
        have HBC := Lib.hid hbc
        clear hi hbc
        cases k3 with
        | false =>
          simp only [M.errOf]
          go_wp2_with (first | (go_at_call 14; refine (CS.out _ HS6.out HT6.out).mono ?_; rintro e w7 ⟨ht, hf, hb7⟩; obtain rfl := ht HBC.out; have HB7 := Lib.hid (below_step HB6.out hb7); have q0 : w7.cell? ⟨W.heap.size + 1 + 1, 0, none⟩ = some (.int .i64 a.host) := (HA6.out.below hb7).cell 0; have q1 : w7.cell? ⟨W.heap.size + 1 + 1, 1, none⟩ = some (.int .i64 a.first) := (HA6.out.below hb7).cell 1; have q2 : w7.cell? ⟨W.heap.size + 1 + 1, 2, none⟩ = some (.int .i64 a.next) := (HA6.out.below hb7).cell 2; have q3 : w7.cell? ⟨W.heap.size + 1 + 1, 3, none⟩ = some (.int .i64 d.host) := (HA6.out.below hb7).cell 3; have q4 : w7.cell? ⟨W.heap.size + 1 + 1, 4, none⟩ = some (.int .i64 d.first) := (HA6.out.below hb7).cell 4; have q5 : w7.cell? ⟨W.heap.size + 1 + 1, 5, none⟩ = some (.int .i64 d.next) := (HA6.out.below hb7).cell 5; clear ht hf hb7) | (go_at_call 15; refine (does12 _).mono ?_; rintro e w8 ⟨rfl, hb8⟩))
          all_goals
            go_ret
            exact ⟨rfl, below_step HB7.out (by assumption)⟩
        | true =>
          cases k4 with
          | false =>
            simp only [M.errOf]
            go_wp2_with (first | (go_at_call 14; refine (CS.out _ HS6.out HT6.out).mono ?_; rintro e w7 ⟨ht, hf, hb7⟩; obtain rfl := ht HBC.out; have HB7 := Lib.hid (below_step HB6.out hb7); have q0 : w7.cell? ⟨W.heap.size + 1 + 1, 0, none⟩ = some (.int .i64 a.host) := (HA6.out.below hb7).cell 0; have q1 : w7.cell? ⟨W.heap.size + 1 + 1, 1, none⟩ = some (.int .i64 a.first) := (HA6.out.below hb7).cell 1; have q2 : w7.cell? ⟨W.heap.size + 1 + 1, 2, none⟩ = some (.int .i64 a.next) := (HA6.out.below hb7).cell 2; have q3 : w7.cell? ⟨W.heap.size + 1 + 1, 3, none⟩ = some (.int .i64 d.host) := (HA6.out.below hb7).cell 3; have q4 : w7.cell? ⟨W.heap.size + 1 + 1, 4, none⟩ = some (.int .i64 d.first) := (HA6.out.below hb7).cell 4; have q5 : w7.cell? ⟨W.heap.size + 1 + 1, 5, none⟩ = some (.int .i64 d.next) := (HA6.out.below hb7).cell 5; clear ht hf hb7) | (go_at_call 15; refine (does12 _).mono ?_; rintro e w8 ⟨rfl, hb8⟩))
            all_goals
              go_ret
              exact ⟨rfl, below_step HB7.out (by assumption)⟩
          | true =>
            have hj := HJ.out rfl rfl
            by_cases had : a = d
            · have hyz : (y == z) = true := by simpa using hj.2 had
              have g1 : a.host = d.host := by rw [had]
              have g2 : a.first = d.first := by rw [had]
              have g3 : a.next = d.next := by rw [had]
              clear hj had
              simp only [M.errOf]
              go_wp2_with (first | (go_at_call 14; refine (CS.out _ HS6.out HT6.out).mono ?_; rintro e w7 ⟨ht, hf, hb7⟩; obtain rfl := ht HBC.out; have HB7 := Lib.hid (below_step HB6.out hb7); have q0 : w7.cell? ⟨W.heap.size + 1 + 1, 0, none⟩ = some (.int .i64 a.host) := (HA6.out.below hb7).cell 0; have q1 : w7.cell? ⟨W.heap.size + 1 + 1, 1, none⟩ = some (.int .i64 a.first) := (HA6.out.below hb7).cell 1; have q2 : w7.cell? ⟨W.heap.size + 1 + 1, 2, none⟩ = some (.int .i64 a.next) := (HA6.out.below hb7).cell 2; have q3 : w7.cell? ⟨W.heap.size + 1 + 1, 3, none⟩ = some (.int .i64 d.host) := (HA6.out.below hb7).cell 3; have q4 : w7.cell? ⟨W.heap.size + 1 + 1, 4, none⟩ = some (.int .i64 d.first) := (HA6.out.below hb7).cell 4; have q5 : w7.cell? ⟨W.heap.size + 1 + 1, 5, none⟩ = some (.int .i64 d.next) := (HA6.out.below hb7).cell 5; clear ht hf hb7) | (go_at_call 15; refine (does12 _).mono ?_; rintro e w8 ⟨rfl, hb8⟩))
              all_goals
                go_ret
                exact ⟨rfl, below_step HB7.out (by assumption)⟩
            · have hyz : (y == z) = false := by simpa using fun h => had (hj.1 h)
              clear hj
              rcases M.Ak.diff had with h9 | h9 | h9
              all_goals
                clear had
                (try obtain ⟨g1, h9⟩ := h9)
                (try obtain ⟨g2, h9⟩ := h9)
                simp only [M.errOf]
                go_wp2_with (first | (go_at_call 14; refine (CS.out _ HS6.out HT6.out).mono ?_; rintro e w7 ⟨ht, hf, hb7⟩; obtain rfl := ht HBC.out; have HB7 := Lib.hid (below_step HB6.out hb7); have q0 : w7.cell? ⟨W.heap.size + 1 + 1, 0, none⟩ = some (.int .i64 a.host) := (HA6.out.below hb7).cell 0; have q1 : w7.cell? ⟨W.heap.size + 1 + 1, 1, none⟩ = some (.int .i64 a.first) := (HA6.out.below hb7).cell 1; have q2 : w7.cell? ⟨W.heap.size + 1 + 1, 2, none⟩ = some (.int .i64 a.next) := (HA6.out.below hb7).cell 2; have q3 : w7.cell? ⟨W.heap.size + 1 + 1, 3, none⟩ = some (.int .i64 d.host) := (HA6.out.below hb7).cell 3; have q4 : w7.cell? ⟨W.heap.size + 1 + 1, 4, none⟩ = some (.int .i64 d.first) := (HA6.out.below hb7).cell 4; have q5 : w7.cell? ⟨W.heap.size + 1 + 1, 5, none⟩ = some (.int .i64 d.next) := (HA6.out.below hb7).cell 5; clear ht hf hb7) | (go_at_call 15; refine (does12 _).mono ?_; rintro e w8 ⟨rfl, hb8⟩))
                all_goals
                  go_ret
                  exact ⟨rfl, below_step HB7.out (by assumption)⟩
      · have hst : (s == t) = false := by simpa using fun h => hbc (hi.1 h)
        have HBC := Lib.hid hbc
        clear hi hbc
        cases k3 with
        | false =>
          simp only [M.errOf]
          go_wp2_with (first | (go_at_call 14; refine (CS.out _ HS6.out HT6.out).mono ?_; rintro e w7 ⟨ht, hf, hb7⟩; obtain rfl := hf HBC.out; have HB7 := Lib.hid (below_step HB6.out hb7); have q0 : w7.cell? ⟨W.heap.size + 1 + 1, 0, none⟩ = some (.int .i64 a.host) := (HA6.out.below hb7).cell 0; have q1 : w7.cell? ⟨W.heap.size + 1 + 1, 1, none⟩ = some (.int .i64 a.first) := (HA6.out.below hb7).cell 1; have q2 : w7.cell? ⟨W.heap.size + 1 + 1, 2, none⟩ = some (.int .i64 a.next) := (HA6.out.below hb7).cell 2; have q3 : w7.cell? ⟨W.heap.size + 1 + 1, 3, none⟩ = some (.int .i64 d.host) := (HA6.out.below hb7).cell 3; have q4 : w7.cell? ⟨W.heap.size + 1 + 1, 4, none⟩ = some (.int .i64 d.first) := (HA6.out.below hb7).cell 4; have q5 : w7.cell? ⟨W.heap.size + 1 + 1, 5, none⟩ = some (.int .i64 d.next) := (HA6.out.below hb7).cell 5; clear ht hf hb7) | (go_at_call 15; refine (does12 _).mono ?_; rintro e w8 ⟨rfl, hb8⟩))
          all_goals
            go_ret
            exact ⟨rfl, below_step HB7.out (by assumption)⟩
        | true =>
          cases k4 with
          | false =>
            simp only [M.errOf]
            go_wp2_with (first | (go_at_call 14; refine (CS.out _ HS6.out HT6.out).mono ?_; rintro e w7 ⟨ht, hf, hb7⟩; obtain rfl := hf HBC.out; have HB7 := Lib.hid (below_step HB6.out hb7); have q0 : w7.cell? ⟨W.heap.size + 1 + 1, 0, none⟩ = some (.int .i64 a.host) := (HA6.out.below hb7).cell 0; have q1 : w7.cell? ⟨W.heap.size + 1 + 1, 1, none⟩ = some (.int .i64 a.first) := (HA6.out.below hb7).cell 1; have q2 : w7.cell? ⟨W.heap.size + 1 + 1, 2, none⟩ = some (.int .i64 a.next) := (HA6.out.below hb7).cell 2; have q3 : w7.cell? ⟨W.heap.size + 1 + 1, 3, none⟩ = some (.int .i64 d.host) := (HA6.out.below hb7).cell 3; have q4 : w7.cell? ⟨W.heap.size + 1 + 1, 4, none⟩ = some (.int .i64 d.first) := (HA6.out.below hb7).cell 4; have q5 : w7.cell? ⟨W.heap.size + 1 + 1, 5, none⟩ = some (.int .i64 d.next) := (HA6.out.below hb7).cell 5; clear ht hf hb7) | (go_at_call 15; refine (does12 _).mono ?_; rintro e w8 ⟨rfl, hb8⟩))
            all_goals
              go_ret
              exact ⟨rfl, below_step HB7.out (by assumption)⟩
          | true =>
            have hj := HJ.out rfl rfl
            by_cases had : a = d
            · have hyz : (y == z) = true := by simpa using hj.2 had
              have g1 : a.host = d.host := by rw [had]
              have g2 : a.first = d.first := by rw [had]
              have g3 : a.next = d.next := by rw [had]
              clear hj had
              simp only [M.errOf]
              go_wp2_with (first | (go_at_call 14; refine (CS.out _ HS6.out HT6.out).mono ?_; rintro e w7 ⟨ht, hf, hb7⟩; obtain rfl := hf HBC.out; have HB7 := Lib.hid (below_step HB6.out hb7); have q0 : w7.cell? ⟨W.heap.size + 1 + 1, 0, none⟩ = some (.int .i64 a.host) := (HA6.out.below hb7).cell 0; have q1 : w7.cell? ⟨W.heap.size + 1 + 1, 1, none⟩ = some (.int .i64 a.first) := (HA6.out.below hb7).cell 1; have q2 : w7.cell? ⟨W.heap.size + 1 + 1, 2, none⟩ = some (.int .i64 a.next) := (HA6.out.below hb7).cell 2; have q3 : w7.cell? ⟨W.heap.size + 1 + 1, 3, none⟩ = some (.int .i64 d.host) := (HA6.out.below hb7).cell 3; have q4 : w7.cell? ⟨W.heap.size + 1 + 1, 4, none⟩ = some (.int .i64 d.first) := (HA6.out.below hb7).cell 4; have q5 : w7.cell? ⟨W.heap.size + 1 + 1, 5, none⟩ = some (.int .i64 d.next) := (HA6.out.below hb7).cell 5; clear ht hf hb7) | (go_at_call 15; refine (does12 _).mono ?_; rintro e w8 ⟨rfl, hb8⟩))
              all_goals
                go_ret
                exact ⟨rfl, below_step HB7.out (by assumption)⟩
            · have hyz : (y == z) = false := by simpa using fun h => had (hj.1 h)
              clear hj
              rcases M.Ak.diff had with h9 | h9 | h9
              all_goals
                clear had
                (try obtain ⟨g1, h9⟩ := h9)
                (try obtain ⟨g2, h9⟩ := h9)
                simp only [M.errOf]
                go_wp2_with (first | (go_at_call 14; refine (CS.out _ HS6.out HT6.out).mono ?_; rintro e w7 ⟨ht, hf, hb7⟩; obtain rfl := hf HBC.out; have HB7 := Lib.hid (below_step HB6.out hb7); have q0 : w7.cell? ⟨W.heap.size + 1 + 1, 0, none⟩ = some (.int .i64 a.host) := (HA6.out.below hb7).cell 0; have q1 : w7.cell? ⟨W.heap.size + 1 + 1, 1, none⟩ = some (.int .i64 a.first) := (HA6.out.below hb7).cell 1; have q2 : w7.cell? ⟨W.heap.size + 1 + 1, 2, none⟩ = some (.int .i64 a.next) := (HA6.out.below hb7).cell 2; have q3 : w7.cell? ⟨W.heap.size + 1 + 1, 3, none⟩ = some (.int .i64 d.host) := (HA6.out.below hb7).cell 3; have q4 : w7.cell? ⟨W.heap.size + 1 + 1, 4, none⟩ = some (.int .i64 d.first) := (HA6.out.below hb7).cell 4; have q5 : w7.cell? ⟨W.heap.size + 1 + 1, 5, none⟩ = some (.int .i64 d.next) := (HA6.out.below hb7).cell 5; clear ht hf hb7) | (go_at_call 15; refine (does12 _).mono ?_; rintro e w8 ⟨rfl, hb8⟩))
                all_goals
                  go_ret
                  exact ⟨rfl, below_step HB7.out (by assumption)⟩

end Go.Proofs.Ytblgfhljaafmhaa
