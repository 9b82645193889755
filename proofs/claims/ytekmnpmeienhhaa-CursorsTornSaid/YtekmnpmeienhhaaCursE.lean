/- Layer 13: a disk beside boxes; the example. -/
import Derived.Test.YtekmnpmeienhhaaCursD
import Derived.Test.YtekmnpmeienhhaaDiskD
namespace Go.Proofs.Ytekmnpmeienhhaa
set_option linter.unusedVariables false
open Go Go.RowKit Go.Maps

/-- A disk, and boxes that it doesn't have. -/
structure DB (W : World) (bs : List (Nat × Array Value × TypeId)) (B d : Nat) (D : Dk.St) (w : World) : Prop where
  dk : DkX (fun k => ∃ p ∈ bs, k = p.1) B d D w
  bx : ∀ p ∈ bs, Bk p.2.1 p.2.2 w p.1
  bel : Below W.heap.size W w
  hB : B ≤ w.heap.size
  hW : W.heap.size ≤ B
section
variable {W w w' : World} {bs : List (Nat × Array Value × TypeId)} {B d : Nat} {D : Dk.St}
theorem DB.below (h : DB W bs B d D w) (hb : Below w.heap.size w w') : DB W bs B d D w' := ⟨h.dk.below hb, fun p hp => (h.bx p hp).below hb, below_step h.bel hb, Nat.le_trans h.hB hb.size, h.hW⟩
theorem DB.xlt (h : DB W bs B d D w) : ∀ k, (∃ p ∈ bs, k = p.1) → k < w.heap.size := fun k ⟨p, hp, e⟩ => by rw [e]; exact (h.bx p hp).lt
theorem DB.op {r : Int × Dk.St} {e : Ending} (h : DB W bs B d D w) (ho : OpX (fun k => ∃ p ∈ bs, k = p.1) B d r w e w') : e = .returned (.int .i64 r.1) ∧ DB W bs B d r.2 w' := by
  obtain ⟨o1, o2, o3⟩ := ho
  exact ⟨o1, o2, fun p hp => (h.bx p hp).wr o3 (fun q => q.2 ⟨p, hp, rfl⟩), h.bel.trans (o3.below (fun q hq => Nat.le_trans h.hW hq.1) h.bel.size), Nat.le_trans h.hB o3.size, h.hW⟩
theorem DB.box (h : DB W bs B d D w) (C : Array Value) (T : TypeId) : DB W ((w.heap.size, C, T) :: bs) B d D (w.alloc (.cells C T)) := by
  have hb := (Below.refl w.heap.size w).alloc (Nat.le_refl _) (.cells C T)
  refine ⟨(h.dk.more (fun k hk => ?_)).below hb, fun p hp => ?_, below_step h.bel hb, Nat.le_trans h.hB hb.size, h.hW⟩
  · obtain ⟨p, hp, e⟩ := hk
    rcases List.mem_cons.1 hp with rfl | hp
    · exact .inr (by rw [e]; exact Nat.le_refl _)
    · exact .inl ⟨p, hp, e⟩
  · rcases List.mem_cons.1 hp with rfl | hp
    · exact bk_new _ _ _
    · exact (h.bx p hp).below hb
theorem DB.add (h : DB W bs B d D w) {b : Nat} {C : Array Value} {T : TypeId} (hk : Bk C T w b) (hb : b < B) : DB W ((b, C, T) :: bs) B d D w := by
  refine ⟨?_, fun p hp => ?_, h.bel, h.hB, h.hW⟩
  · obtain ⟨F, h1, h2⟩ := h.dk
    have h1' := h1
    obtain ⟨_, _, _, _, _, _, _, f1⟩ := h1'
    refine ⟨F, h1, fun k hk hx => ?_⟩
    obtain ⟨p, hp, e⟩ := hx
    rcases List.mem_cons.1 hp with rfl | hp
    · have := (f1 k hk).1
      simp only at e
      omega
    · exact h2 k hk ⟨p, hp, e⟩
  · rcases List.mem_cons.1 hp with rfl | hp
    · exact hk
    · exact h.bx p hp
theorem DB.set (h : DB W bs B d D w) {b : Nat} {C : Array Value} {T : TypeId} (hm : (b, C, T) ∈ bs) {C' : Array Value} (hk : Bk C' T w' b) (hw : Wr (fun q => q = b) w w') (hn : bs.Pairwise fun p q => p.1 ≠ q.1) (hWb : W.heap.size ≤ b) :
    DB W (bs.map fun p => if p.1 = b then (b, C', T) else p) B d D w' := by
  refine ⟨(h.dk.wr hw (fun k hk => ⟨_, hm, hk⟩)).less (fun k hk => ?_), fun p hp => ?_, h.bel.trans (hw.below (fun q hq => by rw [hq]; exact hWb) h.bel.size), Nat.le_trans h.hB hw.size, h.hW⟩
  · obtain ⟨p, hp, e⟩ := hk
    obtain ⟨q, hq, rfl⟩ := List.mem_map.1 hp
    split at e
    · exact ⟨_, hm, e⟩
    · exact ⟨q, hq, e⟩
  · obtain ⟨q, hq, rfl⟩ := List.mem_map.1 hp
    split
    · exact hk
    · rename_i hne
      exact (h.bx q hq).wr hw hne
theorem DB.save (h : DB W bs B d D w) (c : Cu.C) : Calls Try.prog 56 #[.pointer (some ⟨d, 0, none⟩), .agg #[.int .i64 c.next, .int .i64 c.gap]] w fun e w' => e = .returned (.int .i64 (Cu.save c D).1) ∧ DB W bs B d (Cu.save c D).2 w' :=
  (save13_any h.dk h.xlt h.hB c).mono fun e w' ho => h.op ho
theorem DB.load (h : DB W bs B d D w) : Calls Try.prog 50 #[.pointer (some ⟨d, 0, none⟩)] w fun e w' => e = loadV13 (Cu.load D) ∧ DB W bs B d D w' :=
  (load13_any h.dk).mono fun e w' ho => ⟨ho.1, h.below ho.2⟩
theorem DB.start (h : DB W bs B d D w) (hs : D.starts ≤ 1000000000) : Calls Try.prog 35 #[.pointer (some ⟨d, 0, none⟩)] w fun e w' => e = .returned (.int .i64 (Dk.start D).1) ∧ DB W bs B d (Dk.start D).2 w' :=
  (startX h.dk h.xlt h.hB hs).mono fun e w' ho => h.op ho
theorem DB.crash (h : DB W bs B d D w) (ks : List Int) (ao : Option Addr) (cap : Nat) (hK : Dk.KsOk ks) (hk : NsA5 w ao ks) (hkX : ∀ a, ks ≠ [] → ao = some a → (∃ p ∈ bs, a.block = p.1) ∨ a.block < B) : Calls Try.prog 37 #[.pointer (some ⟨d, 0, none⟩), .slice ao ks.length cap] w fun e w' => e = .returned (.int .i64 (Dk.crash ks D).1) ∧ DB W bs B d (Dk.crash ks D).2 w' :=
  (crashX h.dk h.xlt h.hB ks ao cap hK hk hkX).mono fun e w' ho => h.op ho
theorem DB.fail (h : DB W bs B d D w) (n : Int) (ks : List Int) (ao : Option Addr) (cap : Nat) (hn : n ≤ 9223372036854775807) (hK : Dk.KsOk ks) (hk : NsA5 w ao ks) : Calls Try.prog 39 #[.pointer (some ⟨d, 0, none⟩), .int .i64 n, .slice ao ks.length cap] w fun e w' => e = .returned (.int .i64 (Dk.fail n ks D).1) ∧ DB W bs B d (Dk.fail n ks D).2 w' :=
  (failX h.dk h.xlt h.hB n ks ao cap hn hK hk).mono fun e w' ho => h.op ho
theorem DB.append (h : DB W bs B d D w) (nm s : List UInt8) (hl : nm.length ≤ 140737488351232) (hs : s.length ≤ 140737488351232) : Calls Try.prog 32 #[.pointer (some ⟨d, 0, none⟩), .string (S nm), .string (S s)] w fun e w' => e = .returned (.int .i64 (Dk.append nm s D).1) ∧ DB W bs B d (Dk.append nm s D).2 w' :=
  (appendX h.dk h.xlt h.hB nm s hl hs).mono fun e w' ho => h.op ho
theorem DB.names (h : DB W bs B d D w) : Calls Try.prog 27 #[.pointer (some ⟨d, 0, none⟩)] w fun e w' => ∃ ao cap, e = .returned (.slice ao D.L.length cap) ∧ TsA5 w' ao (Dk.names D.L) ∧ DB W bs B d D w' ∧ (∀ a, ao = some a → w.heap.size ≤ a.block) :=
  (namesX h.dk).mono fun e w' ho => by
    obtain ⟨ao, cap, rfl, hr, hb⟩ := ho
    have hl : (Dk.names D.L).length = D.L.length := by unfold Dk.names; rw [List.length_map]
    refine ⟨ao, cap, by rw [hl], tsA_row5 hr, h.below hb, fun a ha => (hr.lt a.block (by rw [ha]; rfl)).1⟩
theorem newDB (n : Nat) (w : World) (h1 : 1 ≤ n) (h2 : n ≤ 1048576) {W : World} (hb : Below W.heap.size W w) : Calls Try.prog 17 #[.int .i64 n] w fun e w' => ∃ d, e = .returned (.tuple #[.pointer (some ⟨d, 0, none⟩), .int .i64 0]) ∧ DB W [] w.heap.size d (Dk.new n) w' ∧ Below w.heap.size w w' :=
  (newXd5 n w h1 h2).mono fun e w' ho => by
    obtain ⟨d, rfl, hd, hb2, _⟩ := ho
    exact ⟨d, rfl, ⟨hd.less (fun k hk => by obtain ⟨p, hp, _⟩ := hk; cases hp), fun p hp => (by cases hp), below_step hb hb2, hb2.size, hb.size⟩, hb2⟩
end
namespace Cu
def exD : Dk.St := ⟨100, 0, true, none, [⟨nC, [67, 3, 0], 3⟩]⟩
theorem ex1 : encR ⟨300, 2⟩ = (0, [67, 130, 44, 2]) := by rfl
theorem ex2 : dec [67, 130, 44, 2] = some ⟨300, 2⟩ := by rfl
theorem ex3 : load (Dk.new 100) = (0, c0) := by rfl
theorem ex4 : save ⟨3, 0⟩ (Dk.new 100) = (0, exD) := by rfl
theorem ex5 : load exD = (0, ⟨3, 0⟩) := by rfl
theorem ex6 : save ⟨-1, 0⟩ exD = (2, exD) := by rfl
end Cu
theorem one_ts13 (W : World) (a : List UInt8) : TsA5 (W.alloc (.cells #[.string (S a)] 9)) (some ⟨W.heap.size, 0, none⟩) [a] := fun _ => ⟨W.heap.size, 0, rfl, fun j hj => by
  have h := bk_new #[.string (S a)] 9 W
  have hj2 : j = 0 := by simp at hj; omega
  subst hj2
  exact h.cell 0⟩
theorem ex_texts13 (ao : Option Addr) (ac : Nat) (W : World) (h : TsA5 W ao [Cu.nC]) : Calls Try.prog 33 #[.slice ao 1 ac, .slice (some ⟨W.heap.size, 0, none⟩) 1 1] (W.alloc (.cells #[.string (S Cu.nC)] 9)) fun e w' => e = .returned (.bool true) ∧ Below (W.alloc (.cells #[.string (S Cu.nC)] 9)).heap.size (W.alloc (.cells #[.string (S Cu.nC)] 9)) w' :=
  sameTexts5_any [Cu.nC] [Cu.nC] (by decide) (by decide) ao _ ac 1 _ (h.below ((Below.refl _ _).alloc (Nat.le_refl _) _)) (one_ts13 W Cu.nC)
set_option maxRecDepth 100000 in
set_option maxHeartbeats 4000000 in
theorem does13 (w : World) : Calls Try.prog 48 #[] w fun e w' => e = .returned (.bool true) ∧ Below w.heap.size w w' := by
  have CN := Lib.hid (show Calls Try.prog 17 #[.int .i64 100] w _ from newDB 100 w (by decide) (by decide) (Below.refl w.heap.size w))
  have CE := Lib.hid (fun W => show Calls Try.prog 44 #[.agg #[.int .i64 300, .int .i64 2]] W fun e w' => e = .returned (.tuple #[.string { data := #[67, 130, 44, 2] }, .int .i64 0]) ∧ Below W.heap.size W w' from by have := enc13_any ⟨300, 2⟩ W; rw [Cu.ex1] at this; exact this)
  have CD := Lib.hid (fun W => show Calls Try.prog 46 #[.string { data := #[67, 130, 44, 2] }] W fun e w' => e = .returned (.tuple #[.agg #[.int .i64 300, .int .i64 2], .int .i64 0]) ∧ Below W.heap.size W w' from by have := dec13_any [67, 130, 44, 2] (by decide) W; rw [Cu.ex2] at this; exact this)
  go_enter Try.func48, Try.ntmps48
  go_wp2_with fail
  with_reducible refine CN.out.mono ?_
  rintro e w0 ⟨d, rfl, hd, -⟩
  have HD := Lib.hid hd
  clear hd CN
  generalize w.heap.size = B0 at HD
  go_wp2_with fail
  with_reducible refine (CE.out _).mono ?_
  rintro e w1 ⟨rfl, hb⟩
  replace HD := Lib.hid (HD.out.below hb)
  clear hb CE
  go_wp2_with fail
  with_reducible refine (CD.out _).mono ?_
  rintro e w2 ⟨rfl, hb⟩
  replace HD := Lib.hid ((HD.out.below hb).box #[.int .i64 300, .int .i64 2] 71)
  clear hb CD
  obtain ⟨b5, hb5⟩ : ∃ x, x = w2.heap.size := ⟨_, rfl⟩
  have CL := Lib.hid HD.out.load
  rw [Cu.ex3] at CL
  go_wp2_with fail
  with_reducible refine CL.out.mono ?_
  rintro e w3 ⟨rfl, hd⟩
  replace HD := Lib.hid (hd.box #[.int .i64 0, .int .i64 0] 71)
  clear hd CL
  unfold loadV13 Cu.c0
  simp only
  have CS := Lib.hid (HD.out.save ⟨3, 0⟩)
  rw [Cu.ex4] at CS
  go_wp2_with fail
  with_reducible refine CS.out.mono ?_
  rintro e w4 ⟨rfl, hd⟩
  replace HD := Lib.hid hd
  clear hd CS
  have CL := Lib.hid HD.out.load
  rw [Cu.ex5] at CL
  go_wp2_with fail
  with_reducible refine CL.out.mono ?_
  rintro e w5 ⟨rfl, hd⟩
  replace HD := Lib.hid (hd.box #[.int .i64 3, .int .i64 0] 71)
  clear hd CL
  unfold loadV13
  simp only
  go_upto_region 7 with fail
  have q1 := HD.out.bx _ (List.mem_cons_self ..)
  have q2 := HD.out.bx _ (List.mem_cons_of_mem _ (List.mem_cons_self ..))
  have q3 := HD.out.bx _ (List.mem_cons_of_mem _ (List.mem_cons_of_mem _ (List.mem_cons_self ..)))
  have CN := Lib.hid (HD.out.names)
  rw [show Cu.exD.L.length = 1 from rfl] at CN
  generalize w5.alloc (.cells #[.int .i64 3, .int .i64 0] 71) = w6 at *
  have c0 : w6.cell? ⟨w5.heap.size, 0, none⟩ = some (.int .i64 3) := q1.cell 0
  have c1 : w6.cell? ⟨w5.heap.size, 1, none⟩ = some (.int .i64 0) := q1.cell 1
  have c2 : w6.cell? ⟨w3.heap.size, 0, none⟩ = some (.int .i64 0) := q2.cell 0
  have c3 : w6.cell? ⟨w3.heap.size, 1, none⟩ = some (.int .i64 0) := q2.cell 1
  have c4 : w6.cell? ⟨w2.heap.size, 0, none⟩ = some (.int .i64 300) := q3.cell 0
  have c5 : w6.cell? ⟨w2.heap.size, 1, none⟩ = some (.int .i64 2) := q3.cell 1
  clear q1 q2 q3 hb5
  go_wp2_with fail
  with_reducible refine CN.out.mono ?_
  rintro e w7 ⟨ao, ac, rfl, hr, hd, -⟩
  replace HD := Lib.hid (hd.box #[.string (S Cu.nC)] 9)
  have CT := Lib.hid (ex_texts13 ao ac w7 hr)
  clear hr hd CN c0 c1 c2 c3 c4 c5
  go_wp2_with fail
  with_reducible refine CT.out.mono ?_
  rintro e w8 ⟨rfl, hb⟩
  replace HD := Lib.hid (HD.out.below hb)
  clear hb CT
  have CS := Lib.hid (HD.out.save ⟨-1, 0⟩)
  rw [Cu.ex6] at CS
  go_wp2_with fail
  with_reducible refine CS.out.mono ?_
  rintro e w9 ⟨rfl, hd⟩
  go_wp2_with fail
  go_ret
  exact ⟨rfl, hd.bel⟩

end Go.Proofs.Ytekmnpmeienhhaa
