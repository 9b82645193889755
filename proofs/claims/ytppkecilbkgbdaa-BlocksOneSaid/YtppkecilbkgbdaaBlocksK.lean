/- Layer 9: the first cell of a key, by a contract. -/
import Derived.Test.YtppkecilbkgbdaaBlocksJ
namespace Go.Proofs.Ytppkecilbkgbdaa
set_option linter.unusedVariables false
open Go Go.RowKit
attribute [local go_sem ↓] run_index_S
attribute [local go_sem] S_append S_extract

theorem onlyS_set {A : Nat → Prop} (w : World) (b o : Nat) (v : Value) (h : A b) : OnlyS A w (w.setCell ⟨b, o, none⟩ v) :=
  ⟨rfl, rfl, rfl, by simp [World.setCell], fun k hk hn => Below.heap_setCell _ _ _ _ (fun e => hn (by cases e; exact h))⟩
/-- What Find's closure keeps: whether there was one, the key, the first one. -/
structure FindAt (fb kb xb : Nat) (key : List UInt8) (o : Option M.Cl) (w : World) : Prop where
  f : RowIn #[.bool o.isSome] 4 w fb
  k : RowIn #[.string (S key)] 9 w kb
  x : RowIn (clA (o.getD M.cl0)) 32 w xb
def nextF (key : List UInt8) (o : Option M.Cl) (c : M.Cl) : Option M.Cl := match o with
  | some x => some x
  | none => if c.key = key then some c else none
theorem FindAt.only {A : Nat → Prop} {fb kb xb : Nat} {key : List UInt8} {o : Option M.Cl} {w w' : World} (h : FindAt fb kb xb key o w) (hf : OnlyS A w w') (h1 : ¬ A fb) (h2 : ¬ A kb) (h3 : ¬ A xb) : FindAt fb kb xb key o w' := ⟨hf.row h.f h1, hf.row h.k h2, hf.row h.x h3⟩
def SeeFR (fb kb xb : Nat) (key : List UInt8) (o : Option M.Cl) (w : World) (e : Ending) (w' : World) : Prop := e = .returned (.tuple #[]) ∧ FindAt fb kb xb key o w' ∧ OnlyS (fun k => k = fb ∨ k = xb) w w'
set_option maxHeartbeats 2000000 in
set_option maxRecDepth 100000 in
theorem seeF_any (c : M.Cl) (fb kb xb : Nat) (key : List UInt8) (o : Option M.Cl) (w : World) (h : FindAt fb kb xb key o w) :
    Calls Try.prog 44 #[.agg (clA c), .pointer (some ⟨fb, 0, none⟩), .pointer (some ⟨kb, 0, none⟩), .pointer (some ⟨xb, 0, none⟩)] w fun e w' => SeeFR fb kb xb key (nextF key o c) w e w' := by
  have hb := (Below.refl w.heap.size w).alloc (Nat.le_refl _) (.cells (clA c) 32)
  have hfx : fb ≠ xb := rowIn_ne h.f h.x (by decide)
  have hkx : kb ≠ xb := rowIn_ne h.k h.x (by decide)
  have hkf : kb ≠ fb := rowIn_ne h.k h.f (by decide)
  have hF := h.f.below hb
  have hK := h.k.below hb
  have hX := h.x.below hb
  have f0 := hF.cell 0
  have k0 : (w.alloc (.cells (clA c) 32)).cell? ⟨kb, 0, none⟩ = some (.string (S key)) := hK.cell 0
  have HF := Lib.hid hF
  have HK := Lib.hid hK
  have HX := Lib.hid hX
  have HO := Lib.hid (onlyS_below (A := fun k => k = fb ∨ k = xb) hb)
  have HFX := Lib.hid hfx
  have HKX := Lib.hid hkx
  have HKF := Lib.hid hkf
  clear hF hK hX hb hfx hkx hkf h
  cases o with
  | some x0 =>
    have f0 : (w.alloc (.cells (clA c) 32)).cell? ⟨fb, 0, none⟩ = some (.bool true) := HF.out.cell 0
    go_enter Try.func44, Try.ntmps44
    go_wp2_with fail
    go_end0
    exact ⟨rfl, ⟨HF.out, HK.out, HX.out⟩, HO.out⟩
  | none =>
    have f0 : (w.alloc (.cells (clA c) 32)).cell? ⟨fb, 0, none⟩ = some (.bool false) := HF.out.cell 0
    by_cases he : c.key = key
    · have hq : (c.key == key) = true := by simpa using he
      have HE := Lib.hid (show nextF key none c = some c from by simp [nextF, he])
      clear he
      have x0 : (w.alloc (.cells (clA c) 32)).cell? ⟨xb, 0, none⟩ = some (.string ⟨#[]⟩) := HX.out.cell 0
      have x1 : (w.alloc (.cells (clA c) 32)).cell? ⟨xb, 1, none⟩ = some (.int .i64 0) := HX.out.cell 1
      have x2 : (w.alloc (.cells (clA c) 32)).cell? ⟨xb, 2, none⟩ = some (.string ⟨#[]⟩) := HX.out.cell 2
      have y0 := HX.out.free 0
      have y1 := HX.out.free 1
      have y2 := HX.out.free 2
      have g0 := HF.out.free 0
      have n1 : ¬ (xb = fb) := fun e => HFX.out e.symm
      have n2 : ¬ (fb = xb) := HFX.out
      go_enter Try.func44, Try.ntmps44
      go_wp2_with fail
      go_end0
      refine ⟨rfl, HE.out ▸ ⟨((((HF.out.other n2 0 _).other n2 1 _).other n2 2 _).set 0 _), ((((HK.out.other HKX.out 0 _).other HKX.out 1 _).other HKX.out 2 _).other HKF.out 0 _), ((((HX.out.set 0 _).set 1 _).set 2 _).other n1 0 _)⟩, ?_⟩
      exact (((HO.out.trans (onlyS_set _ _ _ _ (.inr rfl))).trans (onlyS_set _ _ _ _ (.inr rfl))).trans (onlyS_set _ _ _ _ (.inr rfl))).trans (onlyS_set _ _ _ _ (.inl rfl))
    · have hq : (c.key == key) = false := by simpa using he
      have HE := Lib.hid (show nextF key none c = none from by simp [nextF, he])
      clear he
      go_enter Try.func44, Try.ntmps44
      go_wp2_with fail
      go_end0
      exact ⟨rfl, by rw [HE.out]; exact ⟨HF.out, HK.out, HX.out⟩, HO.out⟩

/-- What stands between two cells. -/
structure JF (B x y d fb kb xb : Nat) (key : List UInt8) (m : Nat) (pre : List M.Cl) (W : World) : Prop where
  bx : B ≤ x ∧ x < m
  bY : B ≤ y ∧ y < m
  bd : B ≤ d ∧ d < m
  bf : B ≤ fb ∧ fb < m
  bk : kb < m
  bc : B ≤ xb ∧ xb < m
  rx : RowIn #[.func (.func 44) #[] #[.pointer (some ⟨fb, 0, none⟩), .pointer (some ⟨kb, 0, none⟩), .pointer (some ⟨xb, 0, none⟩)]] 65 W x
  rY : RowIn #[.func (.func 48) #[] #[.pointer (some ⟨d, 0, none⟩)]] 57 W y
  rd : DisM m W d (M.lastO none pre)
  rl : FindAt fb kb xb key (M.findL key pre) W
theorem JF.keep {B x y d fb kb xb m : Nat} {key : List UInt8} {pre : List M.Cl} {W W' : World} (h : JF B x y d fb kb xb key m pre W) (hb : Below m W W') : JF B x y d fb kb xb key m pre W' := by
  have hf := onlyS_from hb
  exact ⟨h.bx, h.bY, h.bd, h.bf, h.bk, h.bc, hf.row h.rx (by have := h.bx; omega), hf.row h.rY (by have := h.bY; omega), h.rd.only hf (by have := h.bd; omega) (fun g _ hg _ => by omega), h.rl.only hf (by have := h.bf; omega) (by have := h.bk; omega) (by have := h.bc; omega)⟩
theorem findL_next (key : List UInt8) (pre : List M.Cl) (c : M.Cl) : M.findL key (pre ++ [c]) = nextF key (M.findL key pre) c := by
  rw [M.findL_snoc]; rfl
set_option maxHeartbeats 2000000 in
set_option maxRecDepth 100000 in
theorem each1F_any (c : M.Cl) (hc : ClOk c) (B x y d fb kb xb m : Nat) (key : List UInt8) (pre : List M.Cl) (w : World) (hJ : JF B x y d fb kb xb key m pre w) (hB : B ≤ m) (hm : m ≤ w.heap.size) :
    Calls Try.prog 51 #[.agg (clA c), .pointer (some ⟨x, 0, none⟩), .pointer (some ⟨y, 0, none⟩)] w fun e w' => E1R (M.nextB (M.lastO none pre) c) (fun w' => JF B x y d fb kb xb key w'.heap.size (pre ++ [c]) w') B m w e w' := by
  obtain ⟨⟨bx1, bx2⟩, ⟨by1, by2⟩, ⟨bd1, bd2⟩, ⟨bf1, bf2⟩, bk2, ⟨bc1, bc2⟩, rx, rY, rd, rl⟩ := hJ
  have hb := (Below.refl w.heap.size w).alloc (Nat.le_refl _) (.cells (clA c) 32)
  have hf0 : OnlyS (fun k => B ≤ k ∧ k < m) w (w.alloc (.cells (clA c) 32)) := onlyS_below hb
  have hX := rowIn_new (clA c) 32 w
  have hg0 := onlyS_from (hb.mono hm)
  replace rx := rx.below hb
  replace rY := rY.below hb
  replace rl := rl.only hg0 (by omega) (by omega) (by omega)
  replace rd : DisM m (w.alloc (.cells (clA c) 32)) d (M.lastO none pre) := rd.only hg0 (by omega) (fun g _ hg _ => by omega)
  have CD := Lib.hid (seeF_any c fb kb xb key (M.findL key pre) (w.alloc (.cells (clA c) 32)) rl)
  have x0 : (w.alloc (.cells (clA c) 32)).cell? ⟨x, 0, none⟩ = some _ := rx.cell 0
  have HX := Lib.hid hX
  have HRX := Lib.hid rx
  have HRY := Lib.hid rY
  have HRD := Lib.hid rd
  have HRL := Lib.hid rl
  have HF := Lib.hid hf0
  clear hb hX rx rY rl rd hf0 hg0
  go_enter Try.func51, Try.ntmps51
  go_wp2_with fail
  with_reducible refine (CD.out).mono ?_
  rintro e w2 ⟨rfl, hl2, hf2⟩
  have HX2 := Lib.hid (hf2.row HX.out (fun h => h.elim (fun h => by omega) (fun h => by omega)))
  have HRX2 := Lib.hid (hf2.row HRX.out (fun h => h.elim (rowIn_ne HRX.out HRL.out.f (by decide)) (rowIn_ne HRX.out HRL.out.x (by decide))))
  have HRY2 := Lib.hid (hf2.row HRY.out (fun h => h.elim (rowIn_ne HRY.out HRL.out.f (by decide)) (rowIn_ne HRY.out HRL.out.x (by decide))))
  have hdrow : ∃ C, RowIn C 74 (w.alloc (.cells (clA c) 32)) d := by
    have := HRD.out
    cases hp : M.lastO none pre with
    | none => rw [hp] at this; exact ⟨_, this⟩
    | some q => rw [hp] at this; obtain ⟨g, _, _, h1, _⟩ := this; exact ⟨_, h1⟩
  obtain ⟨Cd, hdrow⟩ := hdrow
  have HRD2 := Lib.hid (HRD.out.only hf2 (fun h => h.elim (rowIn_ne hdrow HRL.out.f (by decide)) (rowIn_ne hdrow HRL.out.x (by decide))) (fun g C hg hr h => h.elim (rowIn_ne hr HRL.out.f (by decide)) (rowIn_ne hr HRL.out.x (by decide))))
  have HF2 := Lib.hid (HF.out.trans (hf2.mono (fun k hk => hk.elim (fun h => by omega) (fun h => by omega))))
  have HL2 := Lib.hid hl2
  have hs2 := hf2.size
  rw [szA] at hs2
  clear hl2 hf2 hdrow CD HX HRX HRY HRD HRL HF x0
  have x0 : w2.cell? ⟨y, 0, none⟩ = some _ := HRY2.out.cell 0
  have y0 : w2.cell? ⟨w.heap.size, 0, none⟩ = some (.string (S c.key)) := HX2.out.cell 0
  have y1 : w2.cell? ⟨w.heap.size, 1, none⟩ = some (.int .i64 c.seq) := HX2.out.cell 1
  have y2 : w2.cell? ⟨w.heap.size, 2, none⟩ = some (.string (S c.val)) := HX2.out.cell 2
  go_wp2_with fail
  with_reducible refine (dis1_any c hc _ d w2 HRD2.out.at_).mono ?_
  rintro e w3 ⟨rfl, h3, hg3⟩
  have hf3 : OnlyS (fun k => k = d) w2 w3 := onlyS_grown hg3 (fun q hq => by cases hq; rfl)
  have hs3 := hf3.size
  obtain ⟨Cd, hdrow⟩ : ∃ C, RowIn C 74 w2 d := by
    have := HRD2.out
    cases hp : M.lastO none pre with
    | none => rw [hp] at this; exact ⟨_, this⟩
    | some q => rw [hp] at this; obtain ⟨g, _, _, h1, _⟩ := this; exact ⟨_, h1⟩
  have HJ3 := Lib.hid (show M.nextB (M.lastO none pre) c = true → JF B x y d fb kb xb key w3.heap.size (pre ++ [c]) w3 from fun hb => by
    refine ⟨⟨bx1, by omega⟩, ⟨by1, by omega⟩, ⟨bd1, by omega⟩, ⟨bf1, by omega⟩, by omega, ⟨bc1, by omega⟩, hf3.row HRX2.out (rowIn_ne HRX2.out hdrow (by decide)), hf3.row HRY2.out (rowIn_ne HRY2.out hdrow (by decide)), ?_, ?_⟩
    · rw [M.lastO_snoc]; exact (h3 hb).toM
    · rw [findL_next]; exact HL2.out.only hf3 (rowIn_ne HL2.out.f hdrow (by decide)) (rowIn_ne HL2.out.k hdrow (by decide)) (rowIn_ne HL2.out.x hdrow (by decide)))
  have HF3 := Lib.hid (HF2.out.trans (hf3.mono (fun k hk => by subst hk; exact ⟨bd1, bd2⟩)))
  clear h3 hg3 hf3 hdrow x0 y0 y1 y2
  go_wp2_with fail
  go_ret
  exact ⟨rfl, HJ3.out, HF3.out⟩

set_option maxHeartbeats 2000000 in
set_option maxRecDepth 100000 in
theorem eachFd_any (s key : List UInt8) (hs : s.length ≤ 1000000) (B fb kb xb : Nat) (w : World) (hB : B ≤ fb ∧ B ≤ xb) (hl : FindAt fb kb xb key none w) :
    Calls Try.prog 40 #[.string (S s), .func (.func 44) #[] #[.pointer (some ⟨fb, 0, none⟩), .pointer (some ⟨kb, 0, none⟩), .pointer (some ⟨xb, 0, none⟩)]] w fun e w' => TellR (JF B w.heap.size (w.heap.size + 2) (w.heap.size + 1) fb kb xb key) B (M.decC s) w e w' := by
  have hmf : ∀ (fn : Fn) (first cap : Array Value) (w : World), (Instr.makeFunc fn first cap).run Try.prog w = .ok (.func fn first cap) w := fun _ _ _ _ => rfl
  have hlf := hl.f.lt
  have hlk := hl.k.lt
  have hlx := hl.x.lt
  obtain ⟨hB1, hB3⟩ := hB
  have hB0 : B ≤ w.heap.size := by omega
  obtain ⟨V1, hV1⟩ : ∃ v, v = Value.func (.func 44) #[] #[.pointer (some ⟨fb, 0, none⟩), .pointer (some ⟨kb, 0, none⟩), .pointer (some ⟨xb, 0, none⟩)] := ⟨_, rfl⟩
  obtain ⟨V2, hV2⟩ : ∃ v, v = Value.func (.func 48) #[] #[.pointer (some ⟨w.heap.size + 1, 0, none⟩)] := ⟨_, rfl⟩
  have hb := (((Below.refl w.heap.size w).alloc (Nat.le_refl _) (.cells #[V1] 65)).alloc (by rw [szA]; omega) (.cells #[.pointer none] 74)).alloc (by rw [szA, szA]; omega) (.cells #[V2] 57)
  have hx := ((rowIn_new #[V1] 65 w).more (.cells #[.pointer none] 74)).more (.cells #[V2] 57)
  have hd := (rowIn_at #[.pointer none] 74 (w.alloc (.cells #[V1] 65)) (w.heap.size + 1) (by rw [szA])).more (.cells #[V2] 57)
  have hy := rowIn_at #[V2] 57 ((w.alloc (.cells #[V1] 65)).alloc (.cells #[.pointer none] 74)) (w.heap.size + 2) (by rw [szA, szA])
  have hz : (((w.alloc (.cells #[V1] 65)).alloc (.cells #[.pointer none] 74)).alloc (.cells #[V2] 57)).heap.size = w.heap.size + 3 := by rw [szA, szA, szA]
  have HT := Lib.hid (tell9_any (JF B w.heap.size (w.heap.size + 2) (w.heap.size + 1) fb kb xb key) B w.heap.size (w.heap.size + 2) s hs (fun m pre W W' h k => h.keep k) (fun m pre c W h1 h2 h3 h4 h5 => each1F_any c h1 B w.heap.size (w.heap.size + 2) (w.heap.size + 1) fb kb xb m key pre W h3 h4 h5)
    (((w.alloc (.cells #[V1] 65)).alloc (.cells #[.pointer none] 74)).alloc (.cells #[V2] 57)) (by rw [hz]; omega)
    ⟨⟨by omega, by rw [hz]; omega⟩, ⟨by omega, by rw [hz]; omega⟩, ⟨by omega, by rw [hz]; omega⟩, ⟨hB1, by rw [hz]; omega⟩, by rw [hz]; omega, ⟨hB3, by rw [hz]; omega⟩, hV1 ▸ hx, hV2 ▸ hy, hd, hl.f.below hb, hl.k.below hb, hl.x.below hb⟩)
  have HB := Lib.hid (hb.mono (show B ≤ w.heap.size from by omega))
  rw [hV1, hV2] at HT HB
  clear hb hx hd hy hz hl
  subst hV1 hV2
  go_enter Try.func40, Try.ntmps40
  go_wp2_with fail
  with_reducible refine (disorder_any _).mono ?_
  rintro e w1 ⟨rfl, rfl⟩
  go_wp2_with fail
  with_reducible refine (HT.out).mono ?_
  rintro e w2 h
  have HH := Lib.hid h
  clear h HT
  unfold TellR at HH
  cases hd : M.decC s with
  | none =>
    rw [hd] at HH
    simp only at HH
    obtain ⟨rfl, hb⟩ := HH.out
    have HB2 := Lib.hid (HB.out.trans hb)
    have HD := Lib.hid hd
    clear hd hb HH
    go_wp2_with fail
    go_ret
    exact HD.out ▸ ⟨rfl, HB2.out⟩
  | some L =>
    rw [hd] at HH
    simp only at HH
    obtain ⟨⟨rfl, hj⟩, hb⟩ := HH.out
    have HB2 := Lib.hid (HB.out.trans hb)
    have HJ := Lib.hid hj
    have HD := Lib.hid hd
    clear hd hb hj HH
    go_wp2_with fail
    go_ret
    exact HD.out ▸ ⟨⟨rfl, HJ.out⟩, HB2.out⟩


def FindR9 (r : Option M.Cl) (w : World) (e : Ending) (w' : World) : Prop := e = .returned (.tuple #[.agg (clA (r.getD M.cl0)), .bool r.isSome]) ∧ Below w.heap.size w w'
set_option maxHeartbeats 4000000 in
set_option maxRecDepth 100000 in
theorem find9_any (s key : List UInt8) (hs : s.length ≤ 1000000) (w : World) :
    Calls Try.prog 23 #[.string (S s), .string (S key)] w fun e w' => FindR9 (M.findC s key) w e w' := by
  have hmf : ∀ (fn : Fn) (first cap : Array Value) (w : World), (Instr.makeFunc fn first cap).run Try.prog w = .ok (.func fn first cap) w := fun _ _ _ _ => rfl
  have hb := ((((Below.refl w.heap.size w).alloc (Nat.le_refl _) (.cells #[.string (S key)] 9)).alloc (by rw [szA]; omega) (.cells clZ9 32)).alloc (by rw [szA, szA]; omega) (.cells clZ9 32)).alloc (by rw [szA, szA, szA]; omega) (.cells #[.bool false] 4)
  have hk := (((rowIn_new #[.string (S key)] 9 w).more (.cells clZ9 32)).more (.cells clZ9 32)).more (.cells #[.bool false] 4)
  have hr := ((rowIn_at clZ9 32 (w.alloc (.cells #[.string (S key)] 9)) (w.heap.size + 1) (by rw [szA])).more (.cells clZ9 32)).more (.cells #[.bool false] 4)
  have hx := (rowIn_at clZ9 32 ((w.alloc (.cells #[.string (S key)] 9)).alloc (.cells clZ9 32)) (w.heap.size + 2) (by rw [szA, szA])).more (.cells #[.bool false] 4)
  have hf := rowIn_at #[.bool false] 4 (((w.alloc (.cells #[.string (S key)] 9)).alloc (.cells clZ9 32)).alloc (.cells clZ9 32)) (w.heap.size + 3) (by rw [szA, szA, szA])
  have HE := Lib.hid (eachFd_any s key hs (w.heap.size + 2) (w.heap.size + 3) w.heap.size (w.heap.size + 2) _ ⟨by omega, by omega⟩ ⟨hf, hk, hx⟩)
  have HB := Lib.hid hb
  have HR := Lib.hid hr
  clear hb hk hr hx hf
  go_enter Try.func23, Try.ntmps23
  go_wp2_with fail
  with_reducible refine (HE.out).mono ?_
  rintro e w2 h
  have HH := Lib.hid h
  clear h HE
  unfold TellR at HH
  cases hd : M.decC s with
  | none =>
    rw [hd] at HH
    simp only at HH
    obtain ⟨rfl, hb⟩ := HH.out
    have HRR := Lib.hid ((onlyS_from hb).row HR.out (by omega))
    have HB2 := Lib.hid (HB.out.trans (hb.mono (Nat.le_add_right _ 2)))
    have HD := Lib.hid (show M.findC s key = none from by rw [M.findC, hd])
    clear hd hb HH HR HB
    go_wp2_with ((refine wpList_store_hid rfl 32 _ _ rfl (w.heap.size + 1) _ rfl rfl 32 clZ9 HRR.out ?_ rfl (by simp [Value.oneCell']) ?_; kernel_rfl; intro w3 hrQ hbelQ hothQ hszQ; have HXE := Lib.hid hrQ; have HBE := Lib.hid (hbelQ w.heap.size w (Nat.le_add_right _ 1) HB2.out); clear hrQ hbelQ hothQ hszQ))
    try simp only [Exit.inBlock, Exit.then]
    exact bodyPost_ret (ret_rowP2 rfl _ _ (w.heap.size + 1) rfl (load_struct Try.underlying32 (by kernel_rfl) HXE.out)) rfl (show FindR9 (M.findC s key) w _ _ from by rw [HD.out]; exact ⟨rfl, HBE.out⟩)
  | some L =>
    rw [hd] at HH
    simp only at HH
    obtain ⟨⟨rfl, m, hm, hj⟩, hb⟩ := HH.out
    have HRR := Lib.hid ((onlyS_from hb).row HR.out (by omega))
    have HB2 := Lib.hid (HB.out.trans (hb.mono (Nat.le_add_right _ 2)))
    have HFA := Lib.hid hj.rl
    have HD0 : M.findC s key = M.findL key L := by rw [M.findC, hd]
    clear hd hb hj HH HR HB
    cases ho : M.findL key L with
    | none =>
      rw [ho] at HFA
      have HD := Lib.hid (HD0.trans ho)
      have f0 : w2.cell? ⟨w.heap.size + 3, 0, none⟩ = some (.bool false) := HFA.out.f.cell 0
      clear ho HD0
      go_wp2_with ((refine wpList_store_hid rfl 32 _ _ rfl (w.heap.size + 1) _ rfl rfl 32 clZ9 HRR.out ?_ rfl (by simp [Value.oneCell']) ?_; kernel_rfl; intro w3 hrQ hbelQ hothQ hszQ; have HXE := Lib.hid hrQ; have HBE := Lib.hid (hbelQ w.heap.size w (Nat.le_add_right _ 1) HB2.out); clear hrQ hbelQ hothQ hszQ))
      try simp only [Exit.inBlock, Exit.then]
      exact bodyPost_ret (ret_rowP2 rfl _ _ (w.heap.size + 1) rfl (load_struct Try.underlying32 (by kernel_rfl) HXE.out)) rfl (show FindR9 (M.findC s key) w _ _ from by rw [HD.out]; exact ⟨rfl, HBE.out⟩)
    | some c =>
      rw [ho] at HFA
      have HD := Lib.hid (HD0.trans ho)
      have f0 : w2.cell? ⟨w.heap.size + 3, 0, none⟩ = some (.bool true) := HFA.out.f.cell 0
      have HXX := Lib.hid HFA.out.x
      clear ho HD0
      go_wp2_with (first | (refine wpList_load_row rfl 32 _ rfl (w.heap.size + 2) rfl 32 _ (0, 0) _ HXX.out Try.underlying32 rfl ?_ ?_; kernel_rfl) | (refine wpList_store_hid rfl 32 _ _ rfl (w.heap.size + 1) _ rfl rfl 32 clZ9 HRR.out ?_ rfl (by simp [Value.oneCell']) ?_; kernel_rfl; intro w3 hrQ hbelQ hothQ hszQ; have HXE := Lib.hid hrQ; have HBE := Lib.hid (hbelQ w.heap.size w (Nat.le_add_right _ 1) HB2.out); clear hrQ hbelQ hothQ hszQ))
      try simp only [Exit.inBlock, Exit.then]
      exact bodyPost_ret (ret_rowP2 rfl _ _ (w.heap.size + 1) rfl (load_struct Try.underlying32 (by kernel_rfl) HXE.out)) rfl (show FindR9 (M.findC s key) w _ _ from by rw [HD.out]; exact ⟨rfl, HBE.out⟩)

end Go.Proofs.Ytppkecilbkgbdaa
